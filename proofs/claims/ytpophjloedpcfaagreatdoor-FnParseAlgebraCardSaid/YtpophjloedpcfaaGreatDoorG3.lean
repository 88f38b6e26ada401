import Derived.Test.YtpophjloedpcfaaGreatDoorM5
import Derived.Test.YtpophjloedpcfaaGreatDoorA5
import Derived.Test.YtpophjloedpcfaaGreatDoorL5
import Derived.StillTailTactics
import Derived.BigQuiet
import Derived.Deep.RegionWith
namespace Go.Proofs.YtpophjloedpcfaaGreatDoor
open Go.RowKit

/-- The slice of slices reads as the table. -/
def RdT (w : World) (b : Option Addr) (T : List (List Int)) : Prop := T ≠ [] → ∃ B off, b = some ⟨B, off, none⟩ ∧ ∀ j : Nat, j < T.length → ∃ a c, w.cell? ⟨B, off + j, none⟩ = some (.slice a (rowAt T j).length c) ∧ Rd w a (rowAt T j)
theorem RdT.below {w w' : World} {b : Option Addr} {T : List (List Int)} (h : RdT w b T) (hb : Below w.heap.size w w') : RdT w' b T := fun hT => by
  obtain ⟨B, off, e, hc⟩ := h hT
  refine ⟨B, off, e, fun j hj => ?_⟩
  obtain ⟨a, c, h1, h2⟩ := hc j hj
  exact ⟨a, c, by rw [hb.cell (by exact block_lt_of_cell h1)]; exact h1, h2.below hb⟩
theorem RdT.dr {w w' : World} {b : Option Addr} {T : List (List Int)} (h : RdT w b T) (hd : Dr w w') : RdT w' b T := h.below (hd.below _)
theorem RdT.row {w : World} {B off : Nat} {T : List (List Int)} (h : ∀ j : Nat, j < T.length → ∃ a c, w.cell? ⟨B, off + j, none⟩ = some (.slice a (rowAt T j).length c) ∧ Rd w a (rowAt T j)) {k : Int} (k0 : 0 ≤ k) (k1 : k < T.length) :
    ∃ a c, w.cell? ⟨B, off + k.toNat, none⟩ = some (.slice a (rowAt T k).length c) ∧ Rd w a (rowAt T k) := by
  have := h k.toNat (by omega)
  rwa [Int.toNat_of_nonneg k0] at this
/-- A square table, its rows' places told. -/
def TabAt (w : World) (B off : Nat) (n : Int) (N : Nat) (rb ro rc : Int → Nat) (T : List (List Int)) : Prop :=
  ∀ x, 0 ≤ x → x < n → w.cell? ⟨B, off + x.toNat, none⟩ = some (.slice (some ⟨rb x, ro x, none⟩) N (rc x)) ∧ ∀ y, 0 ≤ y → y < n → w.cell? ⟨rb x, ro x + y.toNat, none⟩ = some (.int .i64 (tv T x y))
section
variable {w w' : World} {B off N : Nat} {n : Int} {rb ro rc : Int → Nat} {T : List (List Int)}
theorem TabAt.row (h : TabAt w B off n N rb ro rc T) {x : Int} (x0 : 0 ≤ x) (x1 : x < n) : w.cell? ⟨B, off + x.toNat, none⟩ = some (.slice (some ⟨rb x, ro x, none⟩) N (rc x)) := (h x x0 x1).1
theorem TabAt.cell (h : TabAt w B off n N rb ro rc T) {x y : Int} (x0 : 0 ≤ x) (x1 : x < n) (y0 : 0 ≤ y) (y1 : y < n) : w.cell? ⟨rb x, ro x + y.toNat, none⟩ = some (.int .i64 (tv T x y)) := (h x x0 x1).2 y y0 y1
theorem TabAt.below (h : TabAt w B off n N rb ro rc T) (hb : Below w.heap.size w w') : TabAt w' B off n N rb ro rc T := fun x x0 x1 => by
  obtain ⟨h1, h2⟩ := h x x0 x1
  refine ⟨by rw [hb.cell (by exact block_lt_of_cell h1)]; exact h1, fun y y0 y1 => ?_⟩
  have := h2 y y0 y1
  rw [hb.cell (by exact block_lt_of_cell this)]; exact this
theorem TabAt.dr (h : TabAt w B off n N rb ro rc T) (hd : Dr w w') : TabAt w' B off n N rb ro rc T := h.below (hd.below _)
end
theorem tab_of {w : World} {b : Option Addr} {L : List Int} {T : List (List Int)} (h : RdT w b T) (hs : shapeB L T = true) (h1 : 1 ≤ num L) : ∃ B off, b = some ⟨B, off, none⟩ ∧ ∃ rb ro rc, TabAt w B off (num L) L.length rb ro rc T := by
  have hl := shape_len hs
  obtain ⟨B, off, rfl, hc⟩ := h (by intro e; rw [e] at hl; simp at hl; omega)
  refine ⟨B, off, rfl, ?_⟩
  have each : ∀ x : Int, ∃ p : Nat × Nat × Nat, 0 ≤ x → x < num L → w.cell? ⟨B, off + x.toNat, none⟩ = some (.slice (some ⟨p.1, p.2.1, none⟩) L.length p.2.2) ∧ ∀ y, 0 ≤ y → y < num L → w.cell? ⟨p.1, p.2.1 + y.toNat, none⟩ = some (.int .i64 (tv T x y)) := fun x => by
    by_cases hx : 0 ≤ x ∧ x < num L
    · have hr := shape_row hs hx.1 hx.2
      obtain ⟨a, c, c1, c2⟩ := RdT.row hc hx.1 (by omega)
      obtain ⟨rb, ro, rfl, hcs⟩ := c2.pos (by show (1 : Int) ≤ ((rowAt T x).length : Int); omega)
      refine ⟨(rb, ro, c), fun _ _ => ⟨?_, fun y y0 y1 => ?_⟩⟩
      · have e : (rowAt T x).length = L.length := by
          have : num L = L.length := rfl
          omega
        rw [← e]; exact c1
      · exact hcs.at y y0 (by show y < ((rowAt T x).length : Int); omega)
    · exact ⟨(0, 0, 0), fun a b => absurd ⟨a, b⟩ hx⟩
  obtain ⟨f, hf⟩ := Classical.axiomOfChoice each
  exact ⟨fun x => (f x).1, fun x => (f x).2.1, fun x => (f x).2.2, fun x x0 x1 => hf x x0 x1⟩
theorem bx_cells {w : World} {g : Nat} {x y : Value} (h : w.heap[g]? = some (.cells #[x, y] 26 (0, 0))) : w.cell? ⟨g, 0, none⟩ = some x ∧ w.cell? ⟨g, 1, none⟩ = some y :=
  ⟨by rw [cell_of_row w g 0 _ _ _ h]; rfl, by rw [cell_of_row w g 1 _ _ _ h]; rfl⟩

end Go.Proofs.YtpophjloedpcfaaGreatDoor

namespace Go.Proofs.YtpophjloedpcfaaGreatDoor
open Go.RowKit

set_option maxRecDepth 100000 in
set_option maxHeartbeats 1000000 in
/-- spec.validAlgebra: no lattice, or the wrong number of rows -/
theorem validAlgebra_len (a b : Option Addr) (ca cb : Nat) (L : List Int) (T : List (List Int)) (w : World) (hr : Rd w a L) (h : latB L = false ∨ (T.length : Int) ≠ L.length) :
    Calls Tryz.prog 30 #[.agg #[.slice a L.length ca, .slice b T.length cb]] w fun e w' => e = .returned (.bool false) ∧ Below w.heap.size w w' := by
  have hB : Below w.heap.size w (w.alloc (.cells #[.slice a L.length ca, .slice b T.length cb] 26)) := (Below.refl _ _).alloc (Nat.le_refl _) _
  have hx : (w.alloc (.cells #[.slice a L.length ca, .slice b T.length cb] 26)).heap[w.heap.size]? = some (.cells #[.slice a L.length ca, .slice b T.length cb] 26 (0, 0)) := heap_alloc_new w _
  have hr1 := hr.below hB
  cases hl : latB L with
  | false =>
    have HL := Lib.hid hl; clear hl h
    go_enter Tryz.func30, Tryz.ntmps30
    go_wp2_with (first | go_skip | (go_at_call 64; refine (validLattice_any _ _ L _ hr1).mono ?_; rw [HL.out]; rintro e w1 ⟨rfl, hd⟩))
    go_ret
    exact ⟨rfl, hB.trans (hd.below _)⟩
  | true =>
    have HL := Lib.hid hl
    have hne : ((T.length : Int) != (L.length : Int)) = true := by
      rcases h with h | h
      · rw [hl] at h; cases h
      · rw [bne_iff_ne]; exact h
    clear hl h
    go_enter Tryz.func30, Tryz.ntmps30
    go_wp2_with (first | go_skip | (go_at_call 64; refine (validLattice_any _ _ L _ hr1).mono ?_; rw [HL.out]; rintro e w1 ⟨rfl, hd⟩; obtain ⟨k, rfl⟩ := hd))
    go_ret
    exact ⟨rfl, hB.trans (Dr.below ⟨k, rfl⟩ _)⟩
end Go.Proofs.YtpophjloedpcfaaGreatDoor

namespace Go.Proofs.YtpophjloedpcfaaGreatDoor
open Go.RowKit

theorem Dr.cell {w w' : World} (h : Dr w w') {p : Addr} {v : Value} (hc : w.cell? p = some v) : w'.cell? p = some v := by
  obtain ⟨n, rfl⟩ := h; exact hc

set_option maxRecDepth 100000 in
set_option maxHeartbeats 4000000 in
/-- spec.validAlgebra: a lattice, and as many rows -/
theorem validAlgebra_rows (a b : Option Addr) (ca cb : Nat) (L : List Int) (T : List (List Int)) (w : World) (hr : Rd w a L) (hT : RdT w b T) (hlat : latB L = true) (hlen : T.length = L.length) :
    Calls Tryz.prog 30 #[.agg #[.slice a L.length ca, .slice b L.length cb]] w fun e w' => e = .returned (.bool (algB L T)) ∧ Below w.heap.size w w' := by
  have hB : Below w.heap.size w (w.alloc (.cells #[.slice a L.length ca, .slice b L.length cb] 26)) := (Below.refl _ _).alloc (Nat.le_refl _) _
  have hx : (w.alloc (.cells #[.slice a L.length ca, .slice b L.length cb] 26)).heap[w.heap.size]? = some (.cells #[.slice a L.length ca, .slice b L.length cb] 26 (0, 0)) := heap_alloc_new w _
  obtain ⟨w1, hw1⟩ : ∃ w1, w1 = w.alloc (.cells #[.slice a L.length ca, .slice b L.length cb] 26) := ⟨_, rfl⟩
  rw [← hw1] at hB hx
  have hr1 := hr.below hB
  have hT1 := hT.below hB
  obtain ⟨n1, n6, hs⟩ := latB_parts hlat
  obtain ⟨ab, ao, rfl, hcl⟩ := hr1.pos n1
  obtain ⟨cx0, cx1⟩ := bx_cells hx
  have HR1 := Lib.hid hr1
  have hn : num L = L.length := rfl
  have HN := Lib.hid hn; clear hn
  have hn1 : num L ≤ L.length := by rw [HN.out]; omega
  have hn2 : (L.length : Int) ≤ num L := by rw [HN.out]; omega
  have HL := Lib.hid hlat
  have HLEN := Lib.hid (show (T.length : Int) = num L by rw [HN.out, hlen])
  obtain ⟨B, off, rfl, hcT⟩ := hT1 (by intro e; have h0 : T.length = 0 := (by rw [e]; rfl); omega)
  have HCT := Lib.hid hcT
  have HT1 := Lib.hid (show RdT w1 (some ⟨B, off, none⟩) T from fun _ => ⟨B, off, rfl, hcT⟩)
  clear hlat hr hT hcT hr1 hlen hx
  have hne : ((L.length : Int) != (L.length : Int)) = false := by simp
  have k1 : IntKind.i64.wrap ((L.length : Int) - 1) = L.length - 1 := IntWalk.i64_in _ (by omega)
  go_enter Tryz.func30, Tryz.ntmps30
  go_wp2_with (first | go_skip | (rw [← hw1]; clear hw1) | (go_at_call 64; refine (validLattice_any _ _ L _ HR1.out).mono ?_; rw [HL.out]; rintro e w2 ⟨rfl, hd⟩; have cy0 := hd.cell cx0; have cy1 := hd.cell cx1))
  obtain ⟨w0, rfl⟩ : ∃ w0 : World, w0 = w2 := ⟨_, rfl⟩
  go_loopw [4] (fun c wr => ∃ x : Int, 0 ≤ x ∧ x ≤ num L ∧ c = .int .i64 x ∧ AllTo x (rowOk L T) ∧ Dr w1 wr) (fun c _ => (6 - intOf c).toNat)
  case atStart => exact ⟨0, by omega, by omega, rfl, AllTo.zero _, hd⟩
  case round =>
    clear cy0 cy1 hd
    obtain ⟨x, x0, x1, rfl, hax, hd⟩ := hrel
    have cy0 := hd.cell cx0
    have cy1 := hd.cell cx1
    by_cases hxn : x < num L
    · have hxl : x < L.length := by omega
      obtain ⟨ra, rc, h1, h2⟩ := RdT.row HCT.out x0 (by rw [HLEN.out]; exact hxn)
      have d0 := hd.cell h1
      by_cases hrl : ((rowAt T x).length : Int) = L.length
      · have hne2 : (((rowAt T x).length : Int) != (L.length : Int)) = false := by rw [hrl]; simp
        have hlp : 1 ≤ num (rowAt T x) := by show (1 : Int) ≤ ((rowAt T x).length : Int); omega
        obtain ⟨rb, ro, rfl, hcs⟩ := h2.pos hlp
        go_wp2
        obtain ⟨w3, rfl⟩ : ∃ w3 : World, w3 = wr := ⟨_, rfl⟩
        go_loopw [5] (fun c wr => ∃ y : Int, 0 ≤ y ∧ y ≤ num L ∧ c = .int .i64 y ∧ AllTo y (cellOk L T x) ∧ Dr w1 wr) (fun c _ => (6 - intOf c).toNat)
        case atStart => exact ⟨0, by omega, by omega, rfl, AllTo.zero _, hd⟩
        case round =>
          clear cy0 cy1 hd d0
          obtain ⟨y, y0, y1, rfl, hay, hd⟩ := hrel
          have cy0 := hd.cell cx0
          have cy1 := hd.cell cx1
          have d0 := hd.cell h1
          by_cases hyn : y < num L
          · have hyl : y < L.length := by omega
            have hyr : y < (rowAt T x).length := by omega
            have d1 : wr.cell? ⟨rb, ro + y.toNat, none⟩ = some (.int .i64 (tv T x y)) := hd.cell (hcs.at y y0 (by show y < ((rowAt T x).length : Int); omega))
            have hco := Lib.hid (show cellOk L T x y = (decide (0 ≤ tv T x y) && decide (tv T x y ≤ L.length - 1)) from rfl)
            cases hq : (decide (0 ≤ tv T x y) && decide (tv T x y ≤ (L.length : Int) - 1)) with
            | false =>
              rw [hq] at hco
              have hf := Lib.hid (algB_f1 (shape_f_row (T := T) x0 hxn (rowOk_f_cell y0 hyn hco.out)))
              have HQ := Lib.hid hq; clear hq
              go_wp2_with (go_at_call 65; refine (inRange_any _ _ _ _).mono ?_; rw [HQ.out]; rintro e w' ⟨rfl, rfl⟩)
              go_ret
              exact ⟨ret_bool (by rw [hf.out]), hB.trans (hd.below _)⟩
            | true =>
              rw [hq] at hco
              have HQ := Lib.hid hq; clear hq
              go_wp2_with (go_at_call 65; refine (inRange_any _ _ _ _).mono ?_; rw [HQ.out]; rintro e w' ⟨rfl, rfl⟩)
              go_roundw
              case rel => exact ⟨y + 1, by omega, by omega, rfl, hay.succ hco.out, hd⟩
              case measure => simp [intOf]; omega
          · have ht := Lib.hid (rowOk_t (by rw [HN.out]; exact hrl) (by omega : num L ≤ y) hay)
            go_wp2
            go_roundw
            case rel => exact ⟨x + 1, by omega, by omega, rfl, hax.succ ht.out, hd⟩
            case measure => simp [intOf]; omega
      · have hne2 : (((rowAt T x).length : Int) != (L.length : Int)) = true := by rw [bne_iff_ne]; exact hrl
        have hf := Lib.hid (algB_f1 (shape_f_row (L := L) (T := T) x0 hxn (rowOk_f_len (by rw [HN.out]; exact hrl))))
        go_wp2
        go_ret
        exact ⟨ret_bool (by rw [hf.out]), hB.trans (hd.below _)⟩
    · have hsh := shape_t HLEN.out (by omega : num L ≤ x) hax
      have HS := Lib.hid hsh
      obtain ⟨B', off', hBe, rb, ro, rc, htab⟩ := tab_of HT1.out hsh n1
      obtain ⟨rfl, rfl⟩ : B = B' ∧ off = off' := by simpa using hBe
      have HCL := Lib.hid hcl
      have HTAB := Lib.hid htab
      clear hsh hBe hcl hax htab
      go_wp2
      obtain ⟨w3, rfl⟩ : ∃ w3 : World, w3 = wr := ⟨_, rfl⟩
      go_loopw [6] (fun c wr => ∃ x : Int, 0 ≤ x ∧ x ≤ num L ∧ c = .int .i64 x ∧ AllTo x (lwX L T) ∧ Dr w1 wr) (fun c _ => (6 - intOf c).toNat)
      case atStart => exact ⟨0, by omega, by omega, rfl, AllTo.zero _, hd⟩
      case round =>
        clear cy0 cy1 hd
        obtain ⟨x, x0, x1, rfl, hax, hd⟩ := hrel
        have cy0 := hd.cell cx0
        have cy1 := hd.cell cx1
        by_cases hxn : x < num L
        · have hxl : x < L.length := by omega
          have dx := hd.cell (HTAB.out.row x0 hxn)
          have e1 : wr.cell? ⟨rb x, ro x + (L.length - 1), none⟩ = some (.int .i64 (tv T x (num L - 1))) := by
            have := hd.cell (HTAB.out.cell x0 hxn (y := num L - 1) (by omega) (by omega))
            rwa [show (num L - 1).toNat = L.length - 1 by omega] at this
          have e2 : wr.cell? ⟨rb x, ro x, none⟩ = some (.int .i64 (tv T x 0)) := hd.cell (HTAB.out.cell x0 hxn (y := 0) (by omega) (by omega))
          have hv := Lib.hid (show (tv T x (num L - 1) == x && tv T x 0 == 0) = (!(tv T x (num L - 1) != x) && !(tv T x 0 != 0)) by simp [bne])
          have k2 : (0 : Int) ≤ L.length - 1 := by omega
          have k3 : (L.length : Int) - 1 < L.length := by omega
          cases hA : tv T x (num L - 1) != x <;> cases hB' : tv T x 0 != 0
          all_goals rw [hA, hB'] at hv
          case false.false =>
            have HV := Lib.hid hv.out
            clear hv
            go_wp2_with go_skip
            obtain ⟨w4, rfl⟩ : ∃ w4 : World, w4 = wr := ⟨_, rfl⟩
            go_loopw [7] (fun c wr => ∃ y : Int, 0 ≤ y ∧ y ≤ num L ∧ c = .int .i64 y ∧ AllTo y (lwXY L T x) ∧ Dr w1 wr) (fun c _ => (6 - intOf c).toNat)
            case atStart => exact ⟨0, by omega, by omega, rfl, AllTo.zero _, hd⟩
            case round =>
              clear cy0 cy1 hd dx e1 e2
              obtain ⟨y, y0, y1, rfl, hay, hd⟩ := hrel
              have cy0 := hd.cell cx0
              have cy1 := hd.cell cx1
              by_cases hyn : y < num L
              · have hyl : y < L.length := by omega
                have dx := hd.cell (HTAB.out.row x0 hxn)
                have dy := hd.cell (HTAB.out.row y0 hyn)
                have exy := hd.cell (HTAB.out.cell x0 hxn y0 hyn)
                have eyx := hd.cell (HTAB.out.cell y0 hyn x0 hxn)
                have hs2 := Lib.hid (show (tv T x y == tv T y x) = !(tv T x y != tv T y x) by simp [bne])
                cases hC : tv T x y != tv T y x
                all_goals rw [hC] at hs2
                case true =>
                  have hf := Lib.hid (algB_f2 x0 hxn (lwX_f2 y0 hyn (lwXY_f1 hs2.out)))
                  go_wp2
                  go_quiet (fail)
                  go_wp2
                  go_ret
                  exact ⟨ret_bool (by rw [hf.out]), hB.trans ((hd.more _).below _)⟩
                case false =>
                  go_wp2
                  go_quiet (fail)
                  go_wp2
                  obtain ⟨w5, hw5⟩ : ∃ w5 : World, w5 = wr.drewN 1 := ⟨_, rfl⟩
                  go_loopw [8] (fun c wr => ∃ z : Int, 0 ≤ z ∧ z ≤ num L ∧ c = .int .i64 z ∧ AllTo z (lwXYZ L T x y) ∧ Dr w1 wr) (fun c _ => (6 - intOf c).toNat)
                  case atStart => exact ⟨0, by omega, by omega, rfl, AllTo.zero _, hd.more _⟩
                  case round =>
                    clear cy0 cy1 hd dx dy exy eyx hC hw5
                    obtain ⟨z, z0, z1, rfl, haz, hd⟩ := hrel
                    have cy0 := hd.cell cx0
                    have cy1 := hd.cell cx1
                    have hcl := hd.cells HCL.out
                    by_cases hzn : z < num L
                    · have hzl : z < L.length := by omega
                      obtain ⟨p0, p1⟩ := shape_cell HS.out x0 hxn y0 hyn
                      obtain ⟨q0, q1⟩ := shape_cell HS.out y0 hyn z0 hzn
                      obtain ⟨u0, u1⟩ := shape_cell HS.out x0 hxn z0 hzn
                      obtain ⟨j0, j1⟩ := lat_jn HL.out y0 hyn z0 hzn
                      have p2 : tv T x y < L.length := by omega
                      have q2 : tv T y z < L.length := by omega
                      have u2 : tv T x z < L.length := by omega
                      have j2 : jn L y z < L.length := by omega
                      have dx := hd.cell (HTAB.out.row x0 hxn)
                      have dy := hd.cell (HTAB.out.row y0 hyn)
                      have dp := hd.cell (HTAB.out.row p0 p1)
                      have exy := hd.cell (HTAB.out.cell x0 hxn y0 hyn)
                      have eyz := hd.cell (HTAB.out.cell y0 hyn z0 hzn)
                      have exz := hd.cell (HTAB.out.cell x0 hxn z0 hzn)
                      have epz := hd.cell (HTAB.out.cell p0 p1 z0 hzn)
                      have exq := hd.cell (HTAB.out.cell x0 hxn q0 q1)
                      have exj := hd.cell (HTAB.out.cell x0 hxn j0 j1)
                      have ha2 := Lib.hid (show asQ T x y z = !(tv T (tv T x y) z != tv T x (tv T y z)) by simp [asQ, bne])
                      have hg2 := Lib.hid (show goQ L T x y z = !(tv T x (jn L y z) != jn L (tv T x y) (tv T x z)) by simp [goQ, bne])
                      cases hC : tv T (tv T x y) z != tv T x (tv T y z)
                      all_goals rw [hC] at ha2
                      case true =>
                        have hf := Lib.hid (algB_f2 x0 hxn (lwX_f2 y0 hyn (lwXY_f2 z0 hzn (lwXYZ_f1 ha2.out))))
                        go_wp2
                        go_quiet (first | (go_at_call_of 66 (Value.int .i64 y); exact q_same (join_any _ _ _ L _ _ _ (Cells.drewN hcl _) hs y0 hyn z0 hzn)) | (go_at_call 66; exact q_same (join_any _ _ _ L _ _ _ (Cells.drewN hcl _) hs p0 p1 u0 u1)))
                        go_wp2
                        go_ret
                        exact ⟨ret_bool (by rw [hf.out]), hB.trans ((hd.more _).below _)⟩
                      case false =>
                        cases hD : tv T x (jn L y z) != jn L (tv T x y) (tv T x z)
                        all_goals rw [hD] at hg2
                        case true =>
                          have hf := Lib.hid (algB_f2 x0 hxn (lwX_f2 y0 hyn (lwXY_f2 z0 hzn (lwXYZ_f2 hg2.out))))
                          go_wp2
                          go_quiet (first | (go_at_call_of 66 (Value.int .i64 y); exact q_same (join_any _ _ _ L _ _ _ (Cells.drewN hcl _) hs y0 hyn z0 hzn)) | (go_at_call 66; exact q_same (join_any _ _ _ L _ _ _ (Cells.drewN hcl _) hs p0 p1 u0 u1)))
                          go_wp2
                          go_ret
                          exact ⟨ret_bool (by rw [hf.out]), hB.trans ((hd.more _).below _)⟩
                        case false =>
                          go_wp2
                          go_quiet (first | (go_at_call_of 66 (Value.int .i64 y); exact q_same (join_any _ _ _ L _ _ _ (Cells.drewN hcl _) hs y0 hyn z0 hzn)) | (go_at_call 66; exact q_same (join_any _ _ _ L _ _ _ (Cells.drewN hcl _) hs p0 p1 u0 u1)))
                          go_wp2
                          go_roundw
                          case rel => exact ⟨z + 1, by omega, by omega, rfl, haz.succ (by unfold lwXYZ; rw [ha2.out, hg2.out]; rfl), hd.more _⟩
                          case measure => simp [intOf]; omega
                    · have ht := Lib.hid (lwXY_t hs2.out (by omega : num L ≤ z) haz)
                      go_wp2
                      go_roundw
                      case rel => exact ⟨y + 1, by omega, by omega, rfl, hay.succ ht.out, hd⟩
                      case measure => simp [intOf]; omega
              · have ht := Lib.hid (lwX_t HV.out (by omega : num L ≤ y) hay)
                go_wp2
                go_roundw
                case rel => exact ⟨x + 1, by omega, by omega, rfl, hax.succ ht.out, hd⟩
                case measure => simp [intOf]; omega
          all_goals
            have hf := Lib.hid (algB_f2 x0 hxn (lwX_f1 hv.out))
            go_wp2_with go_skip
            go_ret
            exact ⟨ret_bool (by rw [hf.out]), hB.trans (hd.below _)⟩
        · have ht := Lib.hid (algB_t HL.out HS.out (by omega : num L ≤ x) hax)
          go_wp2
          go_ret
          exact ⟨ret_bool (by rw [ht.out]), hB.trans (hd.below _)⟩
end Go.Proofs.YtpophjloedpcfaaGreatDoor
