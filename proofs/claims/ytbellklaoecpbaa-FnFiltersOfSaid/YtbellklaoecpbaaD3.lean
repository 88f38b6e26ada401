import Derived.Test.YtbellklaoecpbaaG3
import Derived.BigQuiet
import Derived.Deep.RegionWith
import Derived.Test.YtbellklaoecpbaaL3
import Derived.Test.YtbellklaoecpbaaH9
import Derived.Test.YtbellklaoecpbaaL5
namespace Go.Proofs.Ytbellklaoecpbaa
open Go.RowKit

end Go.Proofs.Ytbellklaoecpbaa

namespace Go.Proofs.Ytbellklaoecpbaa
open Go.RowKit

/-- The cells of a row of slices: the first k are the rows, the others nil. -/
def slTo (R : Nat → Nat) (T : List (List Int)) (k : Nat) : Array Value :=
  ((List.range T.length).map fun (i : Nat) => if i < k then Value.slice (some ⟨R i, 0, none⟩) (rowAt T i).length (rowAt T i).length else Value.slice none 0 0).toArray
def slA (R : Nat → Nat) (T : List (List Int)) : Array Value := slTo R T T.length
theorem slTo_size (R : Nat → Nat) (T : List (List Int)) (k : Nat) : (slTo R T k).size = T.length := by simp [slTo]
theorem slTo_get (R : Nat → Nat) (T : List (List Int)) (k j : Nat) (h : j < T.length) : (slTo R T k)[j]? = some (if j < k then Value.slice (some ⟨R j, 0, none⟩) (rowAt T j).length (rowAt T j).length else Value.slice none 0 0) := by
  unfold slTo
  rw [List.getElem?_toArray, List.getElem?_map, List.getElem?_range h]
  rfl
theorem slTo_zero (R : Nat → Nat) (T : List (List Int)) : slTo R T 0 = (List.replicate T.length (Value.slice none 0 0)).toArray := by
  apply Array.ext
  · simp [slTo]
  · intro i h1 h2
    simp [slTo]
theorem slTo_set (R : Nat → Nat) (T : List (List Int)) (k b : Nat) : (slTo R T k).setIfInBounds k (.slice (some ⟨b, 0, none⟩) (rowAt T k).length (rowAt T k).length) = slTo (fun i => if i = k then b else R i) T (k + 1) := by
  apply Array.ext
  · simp [slTo]
  · intro i h1 h2
    rw [slTo_size] at h2
    rw [Array.getElem_setIfInBounds (by rw [slTo_size]; exact h2)]
    have a1 : ∀ R k, (slTo R T k)[i]'(by rw [slTo_size]; exact h2) = if i < k then Value.slice (some ⟨R i, 0, none⟩) (rowAt T i).length (rowAt T i).length else Value.slice none 0 0 := fun R k => by simp [slTo]
    rw [a1, a1]
    by_cases e : k = i
    · subst e; rw [if_pos rfl, if_pos (by omega), if_pos rfl]
    · rw [if_neg e]
      by_cases h3 : i < k
      · rw [if_pos h3, if_pos (by omega), if_neg (by omega)]
      · rw [if_neg h3, if_neg (by omega)]
/-- A table of the call's own: the block of its rows' slices, and a block for each row, later ones behind earlier ones. -/
structure TabOwn (w : World) (lo B : Nat) (R : Nat → Nat) (T : List (List Int)) (k : Nat) : Prop where
  top : w.heap[B]? = some (.cells (slTo R T k) 23 (0, 0))
  lo : lo ≤ B
  row : ∀ j, j < k → Row w (R j) (rowAt T j)
  up : ∀ j, j < k → B < R j
  inc : ∀ i j, i < j → j < k → R i < R j
section
variable {w w' : World} {lo B k : Nat} {R : Nat → Nat} {T : List (List Int)}
theorem Row.rowOther {b : Nat} {L : List Int} (h : Row w b L) {G : Nat} (cs : Array Value) (hp : b ≠ G) : Row (w.setRow G cs) b L := by
  unfold Row; rw [setRow_other w G b cs hp]; exact h
theorem TabOwn.lt (h : TabOwn w lo B R T k) : B < w.heap.size := lt_of_block h.top
theorem TabOwn.below (h : TabOwn w lo B R T k) (hb : Below w.heap.size w w') : TabOwn w' lo B R T k :=
  ⟨(hb.block _ h.lt).trans h.top, h.lo, fun j hj => (h.row j hj).below hb (h.row j hj).lt, h.up, h.inc⟩
theorem TabOwn.other (h : TabOwn w lo B R T k) {p : Addr} (hp : p.block < B) (v : Value) : TabOwn (w.setCell p v) lo B R T k :=
  ⟨by rw [heap_setCell_other w p B v (by omega)]; exact h.top, h.lo, fun j hj => (h.row j hj).other v (by have := h.up j hj; omega), h.up, h.inc⟩
theorem TabOwn.rowOther (h : TabOwn w lo B R T k) {G C : Nat} (hp : G < B) (hC : C ≤ lo) (cs : Array Value) : TabOwn (w.setRow G cs) C B R T k :=
  ⟨by rw [setRow_other w G B cs (by omega)]; exact h.top, Nat.le_trans hC h.lo, fun j hj => (h.row j hj).rowOther cs (by have := h.up j hj; omega), h.up, h.inc⟩
theorem TabOwn.rd (h : TabOwn w lo B R T T.length) : RdT w (some ⟨B, 0, none⟩) T := fun _ => ⟨B, 0, rfl, fun j hj => by
  refine ⟨some ⟨R j, 0, none⟩, (rowAt T j).length, ?_, (h.row j hj).rd⟩
  rw [Nat.zero_add, cell_of_row w B j _ _ _ h.top, slTo_get _ _ _ _ hj, if_pos hj]⟩
end
theorem one_sl2 (a b : Option Addr) (n c m d : Nat) : (#[.slice a n c, .slice b m d] : Array Value).all (·.oneCell') = true := by
  refine all_oneCell_toArray (cs := [.slice a n c, .slice b m d]) fun v hv => ?_
  simp only [List.mem_cons, List.not_mem_nil, or_false] at hv
  rcases hv with rfl | rfl <;> rfl
theorem info_ints : (Try.prog.info? 23).map (fun i => (i.zero, i.size, i.bytes)) = some (some (.slice none 0 0), 1, 24) := by kernel_rfl
theorem made_ints (n : Nat) : madeCells #[.slice none 0 0] n = (List.replicate n (Value.slice none 0 0)).toArray := by
  apply Array.ext
  · simp [madeCells]
  · intro i h1 h2
    simp [madeCells, Nat.mod_one]
theorem run_make_rows (n : Nat) (hn : n ≤ 16777216) (w : World) :
    (Instr.makeSlice 24 (.int .i64 n) (.int .i64 n)).run Try.prog w = .ok (.slice (some ⟨w.heap.size, 0, none⟩) n n) (w.alloc (.cells (List.replicate n (Value.slice none 0 0)).toArray 23)) := by
  obtain ⟨i0, hi, hz0, hz1, hz2⟩ := info_parts info_ints
  have := run_make (P := Try.prog) w 24 23 i0 (.slice none 0 0) Try.underlying24 hi hz0 .i64 .i64 n n (by omega) (Int.le_refl _) (by rw [hz2]; omega) (by omega)
  rw [this, hz1]
  simp [Value.cells, made_ints]

end Go.Proofs.Ytbellklaoecpbaa

namespace Go.Proofs.Ytbellklaoecpbaa
open Go.RowKit

/-- Nothing that was there has turned but the blocks from lo up to hi. -/
structure Mid (lo hi : Nat) (w w' : World) : Prop where
  os : w'.os = w.os
  tape : w'.tape = w.tape
  output : w'.output = w.output
  size : w.heap.size ≤ w'.heap.size
  block : ∀ k, k < w.heap.size → (k < lo ∨ hi ≤ k) → w'.heap[k]? = w.heap[k]?
section
variable {lo hi : Nat} {w w' : World}
theorem Mid.refl (lo hi : Nat) (w : World) : Mid lo hi w w := ⟨rfl, rfl, rfl, Nat.le_refl _, fun _ _ _ => rfl⟩
theorem Mid.trans {a b c : World} (h : Mid lo hi a b) (k : Mid lo hi b c) : Mid lo hi a c :=
  ⟨k.os.trans h.os, k.tape.trans h.tape, k.output.trans h.output, Nat.le_trans h.size k.size, fun i hi' hne => (k.block i (Nat.lt_of_lt_of_le hi' h.size) hne).trans (h.block i hi' hne)⟩
theorem Mid.wide {lo2 hi2 : Nat} (h : Mid lo hi w w') (h1 : lo2 ≤ lo) (h2 : hi ≤ hi2) : Mid lo2 hi2 w w' :=
  ⟨h.os, h.tape, h.output, h.size, fun k hk hn => h.block k hk (by omega)⟩
theorem Mid.setCell {a : World} (h : Mid lo hi a w) {p : Addr} (h1 : lo ≤ p.block) (h2 : p.block < hi) (v : Value) : Mid lo hi a (w.setCell p v) := by
  have hb : Below p.block w (w.setCell p v) := (Below.refl _ _).setCell (Nat.le_refl _) v
  exact ⟨hb.os.trans h.os, hb.tape.trans h.tape, hb.output.trans h.output, Nat.le_trans h.size hb.size, fun k hk hn => by rw [heap_setCell_other w p k v (by omega)]; exact h.block k hk hn⟩
theorem Mid.of {C : Nat} (h : Below C w w') (hC : w.heap.size ≤ C) : Mid lo hi w w' := ⟨h.os, h.tape, h.output, h.size, fun k hk _ => h.block k (by omega)⟩
theorem Mid.below (h : Mid lo hi w w') {C : Nat} (h1 : C ≤ lo) (h2 : C ≤ w.heap.size) : Below C w w' := ⟨h.os, h.tape, h.output, h.size, fun k hk => h.block k (by omega) (.inl (by omega))⟩
theorem Row.mid {b : Nat} {L : List Int} (h : Row w b L) (hm : Mid lo hi w w') (hb : b < lo ∨ hi ≤ b) : Row w' b L := (hm.block b h.lt hb).trans h
theorem Own.mid {B : Nat} {v : Value} {L : List Int} (h : Own B w v L) (hm : Mid lo hi w w') (hq : ∀ q, v.ownBlock = some q → q < lo ∨ hi ≤ q) : Own B w' v L := by
  obtain ⟨h1, h⟩ := h
  refine ⟨h1, ?_⟩
  rcases h with h | ⟨g, cap, cur, e1, e2, hg, e3, e4, e5, e6⟩
  · exact .inl h
  · exact .inr ⟨g, cap, cur, e1, e2, (hm.block g (lt_of_block hg) (hq g (by rw [e1]; rfl))).trans hg, e3, e4, e5, e6⟩
end

end Go.Proofs.Ytbellklaoecpbaa
