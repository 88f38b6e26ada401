import Derived.Test.YthjbfdoclifhoaaM5
import Derived.Test.YthjbfdoclifhoaaA5
import Derived.Test.YthjbfdoclifhoaaL5
import Derived.StillTailTactics
import Derived.BigQuiet
import Derived.Deep.RegionWith
namespace Go.Proofs.Ythjbfdoclifhoaa
open Go.RowKit

/-- The slice of slices reads as the table. -/
def RdT (w : World) (b : Option Addr) (T : List (List Int)) : Prop := T ≠ [] → ∃ B off, b = some ⟨B, off, none⟩ ∧ ∀ j : Nat, j < T.length → ∃ a c, w.cell? ⟨B, off + j, none⟩ = some (.slice a (rowAt T j).length c) ∧ Rd w a (rowAt T j)
theorem RdT.below {w w' : World} {b : Option Addr} {T : List (List Int)} (h : RdT w b T) (hb : Below w.heap.size w w') : RdT w' b T := fun hT => by
  obtain ⟨B, off, e, hc⟩ := h hT
  refine ⟨B, off, e, fun j hj => ?_⟩
  obtain ⟨a, c, h1, h2⟩ := hc j hj
  exact ⟨a, c, by rw [hb.cell (by exact block_lt_of_cell h1)]; exact h1, h2.below hb⟩
theorem RdT.dr {w w' : World} {b : Option Addr} {T : List (List Int)} (h : RdT w b T) (hd : Dr w w') : RdT w' b T := h.below (hd.below _)
theorem RdT.row {w : World} {B off : Nat} {T : List (List Int)} (h : ∀ j : Nat, j < T.length → ∃ a c, w.cell? ⟨B, off + j, none⟩ = some (.slice a (rowAt T j).length c) ∧ Rd w a (rowAt T j)) {k : Int} (k0 : 0 ≤ k) (k1 : k < T.length) :
    ∃ a c, w.cell? ⟨B, off + k.toNat, none⟩ = some (.slice a (rowAt T k).length c) ∧ Rd w a (rowAt T k) := by
  have := h k.toNat (by omega)
  rwa [Int.toNat_of_nonneg k0] at this
/-- A square table, its rows' places told. -/
def TabAt (w : World) (B off : Nat) (n : Int) (N : Nat) (rb ro rc : Int → Nat) (T : List (List Int)) : Prop :=
  ∀ x, 0 ≤ x → x < n → w.cell? ⟨B, off + x.toNat, none⟩ = some (.slice (some ⟨rb x, ro x, none⟩) N (rc x)) ∧ ∀ y, 0 ≤ y → y < n → w.cell? ⟨rb x, ro x + y.toNat, none⟩ = some (.int .i64 (tv T x y))
section
variable {w w' : World} {B off N : Nat} {n : Int} {rb ro rc : Int → Nat} {T : List (List Int)}
theorem TabAt.row (h : TabAt w B off n N rb ro rc T) {x : Int} (x0 : 0 ≤ x) (x1 : x < n) : w.cell? ⟨B, off + x.toNat, none⟩ = some (.slice (some ⟨rb x, ro x, none⟩) N (rc x)) := (h x x0 x1).1
theorem TabAt.cell (h : TabAt w B off n N rb ro rc T) {x y : Int} (x0 : 0 ≤ x) (x1 : x < n) (y0 : 0 ≤ y) (y1 : y < n) : w.cell? ⟨rb x, ro x + y.toNat, none⟩ = some (.int .i64 (tv T x y)) := (h x x0 x1).2 y y0 y1
theorem TabAt.below (h : TabAt w B off n N rb ro rc T) (hb : Below w.heap.size w w') : TabAt w' B off n N rb ro rc T := fun x x0 x1 => by
  obtain ⟨h1, h2⟩ := h x x0 x1
  refine ⟨by rw [hb.cell (by exact block_lt_of_cell h1)]; exact h1, fun y y0 y1 => ?_⟩
  have := h2 y y0 y1
  rw [hb.cell (by exact block_lt_of_cell this)]; exact this
theorem TabAt.dr (h : TabAt w B off n N rb ro rc T) (hd : Dr w w') : TabAt w' B off n N rb ro rc T := h.below (hd.below _)
end
theorem tab_of {w : World} {b : Option Addr} {L : List Int} {T : List (List Int)} (h : RdT w b T) (hs : shapeB L T = true) (h1 : 1 ≤ num L) : ∃ B off, b = some ⟨B, off, none⟩ ∧ ∃ rb ro rc, TabAt w B off (num L) L.length rb ro rc T := by
  have hl := shape_len hs
  obtain ⟨B, off, rfl, hc⟩ := h (by intro e; rw [e] at hl; simp at hl; omega)
  refine ⟨B, off, rfl, ?_⟩
  have each : ∀ x : Int, ∃ p : Nat × Nat × Nat, 0 ≤ x → x < num L → w.cell? ⟨B, off + x.toNat, none⟩ = some (.slice (some ⟨p.1, p.2.1, none⟩) L.length p.2.2) ∧ ∀ y, 0 ≤ y → y < num L → w.cell? ⟨p.1, p.2.1 + y.toNat, none⟩ = some (.int .i64 (tv T x y)) := fun x => by
    by_cases hx : 0 ≤ x ∧ x < num L
    · have hr := shape_row hs hx.1 hx.2
      obtain ⟨a, c, c1, c2⟩ := RdT.row hc hx.1 (by omega)
      obtain ⟨rb, ro, rfl, hcs⟩ := c2.pos (by show (1 : Int) ≤ ((rowAt T x).length : Int); omega)
      refine ⟨(rb, ro, c), fun _ _ => ⟨?_, fun y y0 y1 => ?_⟩⟩
      · have e : (rowAt T x).length = L.length := by
          have : num L = L.length := rfl
          omega
        rw [← e]; exact c1
      · exact hcs.at y y0 (by show y < ((rowAt T x).length : Int); omega)
    · exact ⟨(0, 0, 0), fun a b => absurd ⟨a, b⟩ hx⟩
  obtain ⟨f, hf⟩ := Classical.axiomOfChoice each
  exact ⟨fun x => (f x).1, fun x => (f x).2.1, fun x => (f x).2.2, fun x x0 x1 => hf x x0 x1⟩
theorem bx_cells {w : World} {g : Nat} {x y : Value} (h : w.heap[g]? = some (.cells #[x, y] 31 (0, 0))) : w.cell? ⟨g, 0, none⟩ = some x ∧ w.cell? ⟨g, 1, none⟩ = some y :=
  ⟨by rw [cell_of_row w g 0 _ _ _ h]; rfl, by rw [cell_of_row w g 1 _ _ _ h]; rfl⟩

end Go.Proofs.Ythjbfdoclifhoaa

namespace Go.Proofs.Ythjbfdoclifhoaa
open Go.RowKit

end Go.Proofs.Ythjbfdoclifhoaa

namespace Go.Proofs.Ythjbfdoclifhoaa
open Go.RowKit

theorem Dr.cell {w w' : World} (h : Dr w w') {p : Addr} {v : Value} (hc : w.cell? p = some v) : w'.cell? p = some v := by
  obtain ⟨n, rfl⟩ := h; exact hc

end Go.Proofs.Ythjbfdoclifhoaa
