import Derived.Test.YtpophjloedpcfaaGreatDoorG3
import Derived.Test.YtpophjloedpcfaaGreatDoorD3
import Derived.Test.YtpophjloedpcfaaGreatDoorA5
import Derived.Test.YtpophjloedpcfaaGreatDoorM5
namespace Go.Proofs.YtpophjloedpcfaaGreatDoor
open Go.RowKit

theorem validAlgebra_any (a b : Option Addr) (ca cb : Nat) (L : List Int) (T : List (List Int)) (w : World) (hr : Rd w a L) (hT : RdT w b T) :
    Calls Tryz.prog 30 #[.agg #[.slice a L.length ca, .slice b T.length cb]] w fun e w' => e = .returned (.bool (algB L T)) ∧ Below w.heap.size w w' := by
  by_cases h : latB L = true ∧ T.length = L.length
  · have := validAlgebra_rows a b ca cb L T w hr hT h.1 h.2
    rwa [h.2]
  · have hf : algB L T = false := by
      cases hl : latB L with
      | false => exact algB_f0 hl
      | true => exact algB_f1 (shape_f_len (by intro e; refine h ⟨hl, ?_⟩; have : num L = L.length := rfl; omega))
    rw [hf]
    refine validAlgebra_len a b ca cb L T w hr ?_
    cases hl : latB L with
    | false => exact .inl rfl
    | true => exact .inr (fun e => h ⟨hl, by omega⟩)
/-- x and y are elements of the algebra -/
def algIn (L : List Int) (T : List (List Int)) (x y : Int) : Bool := algB L T && (decide (0 ≤ x) && decide (x ≤ L.length - 1)) && (decide (0 ≤ y) && decide (y ≤ L.length - 1))
theorem algIn_parts {L : List Int} {T : List (List Int)} {x y : Int} (h : algIn L T x y = true) : algB L T = true ∧ 0 ≤ x ∧ x < num L ∧ 0 ≤ y ∧ y < num L := by
  unfold algIn at h
  simp only [Bool.and_eq_true, decide_eq_true_eq] at h
  have : num L = L.length := rfl
  exact ⟨h.1.1, h.1.2.1, by omega, h.2.1, by omega⟩
set_option maxRecDepth 100000 in
set_option maxHeartbeats 2000000 in
/-- spec.imply -/
theorem imply_any (a b : Option Addr) (ca cb : Nat) (L : List Int) (T : List (List Int)) (x y : Int) (w : World) (hr : Rd w a L) (hT : RdT w b T) (h : algB L T = true) (x0 : 0 ≤ x) (x1 : x < num L) (y0 : 0 ≤ y) (y1 : y < num L) :
    Calls Tryz.prog 163 #[.agg #[.slice a L.length ca, .slice b T.length cb], .int .i64 x, .int .i64 y] w fun e w' => e = .returned (.int .i64 (imp L T x y)) ∧ Below w.heap.size w w' := by
  obtain ⟨hlat, hsh, _⟩ := algB_parts h
  obtain ⟨n1, n6, hs⟩ := latB_parts hlat
  have hn : num L = L.length := rfl
  have hlt := shape_len hsh
  obtain ⟨w1, hw1⟩ : ∃ w1, w1 = w.alloc (.cells #[.slice a L.length ca, .slice b T.length cb] 26) := ⟨_, rfl⟩
  have hB : Below w.heap.size w w1 := by rw [hw1]; exact (Below.refl _ _).alloc (Nat.le_refl _) _
  have hx : w1.heap[w.heap.size]? = some (.cells #[.slice a L.length ca, .slice b T.length cb] 26 (0, 0)) := by rw [hw1]; exact heap_alloc_new w _
  obtain ⟨c0, c1⟩ := bx_cells hx
  have Kx := Lib.hid (show ∀ wz, Below w1.heap.size w1 wz → wz.heap[w.heap.size]? = some (.cells #[.slice a L.length ca, .slice b T.length cb] 26 (0, 0)) from fun wz h => (h.block _ (lt_of_block hx)).trans hx)
  have KR := Lib.hid (show ∀ wz, Below w1.heap.size w1 wz → Rd wz a L from fun wz h => (hr.below hB).below h)
  have KT := Lib.hid (show ∀ wz, Below w1.heap.size w1 wz → RdT wz b T from fun wz h => (hT.below hB).below h)
  have z1 : Below w1.heap.size w1 w1 := Below.refl _ _
  clear hr hT hx
  obtain ⟨ab, ao, rfl, hcl⟩ := (KR.out _ z1).pos n1
  obtain ⟨B, off, rfl, rb, ro, rc, htab⟩ := tab_of (KT.out _ z1) hsh n1
  have HCL := Lib.hid hcl
  have HTAB := Lib.hid htab
  have HS := Lib.hid hsh
  have HL := Lib.hid hlat
  have HN := Lib.hid hn
  have hxt : x < T.length := by omega
  have hn1 : num L ≤ L.length := by omega
  have hn2 : (L.length : Int) ≤ num L := by omega
  have y30 : y ≤ 30 := by omega
  clear hcl htab hsh hlat hn KR KT Kx hlt h
  go_enter Tryz.func163, Tryz.ntmps163
  go_wp2_with (rw [← hw1]; clear hw1)
  go_loopw [7, 8] (fun o c wr => ∃ z : Int, 0 ≤ z ∧ z ≤ num L ∧ c = .int .i64 z ∧ o = .int .i64 (impTo L T x y z) ∧ Dr w1 wr) (fun _ c _ => (6 - intOf c).toNat)
  case atStart => exact ⟨0, by omega, by omega, rfl, rfl, Dr.refl _⟩
  case round =>
    obtain ⟨z, z0, zn, rfl, rfl, hd⟩ := hrel
    have e0 := hd.cell c0
    have e1 := hd.cell c1
    have hcl := hd.cells HCL.out
    by_cases hz : z < num L
    · have hzl : z < L.length := by omega
      obtain ⟨t0, t1⟩ := shape_cell HS.out x0 x1 z0 hz
      obtain ⟨i0, i1⟩ := impTo_lt T x y HL.out z0 (by omega : z ≤ num L)
      have dx := hd.cell (HTAB.out.row x0 x1)
      have exz := hd.cell (HTAB.out.cell x0 x1 z0 hz)
      cases hb : bl L (tv T x z) y with
      | false =>
        have hsk := Lib.hid (impTo_f (L := L) (T := T) (x := x) (y := y) z0 hb)
        have HB := Lib.hid hb; clear hb
        go_wp2
        go_quiet (first | (go_at_call 98; exact q_same (below_is _ _ _ L _ _ _ (Cells.drewN hcl _) hs t0 t1 y0 y30 HB.out)))
        go_wp2
        go_roundw
        case rel => exact ⟨z + 1, by omega, by omega, rfl, by rw [hsk.out], hd.more _⟩
        case measure => simp [intOf]; omega
      | true =>
        have hsu := Lib.hid (impTo_t (L := L) (T := T) (x := x) (y := y) z0 hb)
        have HB := Lib.hid hb; clear hb
        go_wp2
        go_quiet (first | (go_at_call 98; exact q_same (below_is _ _ _ L _ _ _ (Cells.drewN hcl _) hs t0 t1 y0 y30 HB.out)))
        go_wp2_with (go_at_call 66; refine (join_any _ _ _ L _ _ _ (Cells.drewN hcl _) hs i0 i1 z0 hz).mono ?_; rintro e w' ⟨rfl, rfl⟩)
        go_roundw
        case rel => exact ⟨z + 1, by omega, by omega, rfl, by rw [hsu.out], hd.more _⟩
        case measure => simp [intOf]; omega
    · have ht := Lib.hid (show imp L T x y = impTo L T x y z by unfold imp; rw [show num L = z by omega])
      go_wp2
      go_ret
      exact ⟨ret_int (by rw [ht.out]), hB.trans (hd.below _)⟩

end Go.Proofs.YtpophjloedpcfaaGreatDoor

namespace Go.Proofs.YtpophjloedpcfaaGreatDoor
open Go.RowKit

def implyI (L : List Int) (T : List (List Int)) (x y : Int) : Int := if algIn L T x y then imp L T x y else -1
def notI (L : List Int) (T : List (List Int)) (x : Int) : Int := if algIn L T x x then imp L T x 0 else -1
def nearO (L : List Int) (T : List (List Int)) (x y : Int) : Int := if algIn L T x y then nearI L T x y else -1
end Go.Proofs.YtpophjloedpcfaaGreatDoor

namespace Go.Proofs.YtpophjloedpcfaaGreatDoor
open Go.RowKit

theorem withB_twoI {L : List Int} {x y : Int} : withB L [x, y] = ((decide (0 ≤ x) && decide (x ≤ (L.length : Int) - 1)) && (decide (0 ≤ y) && decide (y ≤ (L.length : Int) - 1))) := by
  unfold withB
  rw [show ((List.length [x, y] : Nat) : Int) = (0 + 1) + 1 from rfl, allI_succ _ (by omega), allI_succ _ (by omega), allI_zero, Bool.true_and]
  unfold inE
  rw [show nth [x, y] 0 = x from rfl, show nth [x, y] (0 + 1) = y from rfl, decide_eq_decide.2 (show x < (L.length : Int) ↔ x ≤ (L.length : Int) - 1 by omega), decide_eq_decide.2 (show y < (L.length : Int) ↔ y ≤ (L.length : Int) - 1 by omega)]
theorem withB_one {L : List Int} {x : Int} : withB L [x] = (decide (0 ≤ x) && decide (x ≤ (L.length : Int) - 1)) := by
  unfold withB
  rw [show ((List.length [x] : Nat) : Int) = 0 + 1 from rfl, allI_succ _ (by omega), allI_zero, Bool.true_and]
  unfold inE
  rw [show nth [x] 0 = x from rfl, decide_eq_decide.2 (show x < (L.length : Int) ↔ x ≤ (L.length : Int) - 1 by omega)]
theorem aw_two {L : List Int} {T : List (List Int)} {x y : Int} : awB L T [x, y] = algIn L T x y := by
  unfold awB algIn; rw [withB_twoI]; exact (Bool.and_assoc _ _ _).symm
theorem aw_one {L : List Int} {T : List (List Int)} {x : Int} : awB L T [x] = algIn L T x x := by
  unfold awB algIn; rw [withB_one]
  cases algB L T <;> cases (decide (0 ≤ x) && decide (x ≤ (L.length : Int) - 1)) <;> rfl
theorem AlgAt.alloc {w : World} {b : Nat} {L : List Int} {T : List (List Int)} (h : AlgAt w b L T) (o : Obj) : AlgAt (w.alloc o) b L T := h.below ((Below.refl w.heap.size w).alloc (Nat.le_refl _) o) h.lt
set_option maxRecDepth 100000 in
set_option maxHeartbeats 1000000 in
theorem implValidAlgebra_no (a b : Option Addr) (ca cb : Nat) (L : List Int) (T : List (List Int)) (w : World) (hr : Rd w a L) (hT : RdT w b T) (h : algB L T = false) :
    Calls Tryz.prog 11 #[.agg #[.slice a L.length ca, .slice b T.length cb]] w fun e w' => e = .returned (.bool false) ∧ Below w.heap.size w w' := by
  obtain ⟨w1, hw1⟩ : ∃ w1, w1 = w.alloc (.cells #[.slice a L.length ca, .slice b T.length cb] 26) := ⟨_, rfl⟩
  have hB : Below w.heap.size w w1 := by rw [hw1]; exact (Below.refl _ _).alloc (Nat.le_refl _) _
  have hx : w1.heap[w.heap.size]? = some (.cells #[.slice a L.length ca, .slice b T.length cb] 26 (0, 0)) := by rw [hw1]; exact heap_alloc_new w _
  obtain ⟨c0, c1⟩ := bx_cells hx
  have Kx := Lib.hid (show ∀ wz, Below w1.heap.size w1 wz → wz.heap[w.heap.size]? = some (.cells #[.slice a L.length ca, .slice b T.length cb] 26 (0, 0)) from fun wz h => (h.block _ (lt_of_block hx)).trans hx)
  have KR := Lib.hid (show ∀ wz, Below w1.heap.size w1 wz → Rd wz a L from fun wz h => (hr.below hB).below h)
  have KT := Lib.hid (show ∀ wz, Below w1.heap.size w1 wz → RdT wz b T from fun wz h => (hT.below hB).below h)
  have z1 : Below w1.heap.size w1 w1 := Below.refl _ _
  clear hr hT hx
  go_enter Tryz.func11, Tryz.ntmps11
  go_wp2_with (first
    | (rw [← hw1]; clear hw1)
    | (refine wpList_load_row_w rfl 26 _ rfl w.heap.size rfl _ _ _ _ (Kx.out _ (by assumption)) Tryz.underlying26 rfl (size_Alg _ _) ?_)
    | (go_at_call 33; refine (readAlgebra_no _ _ _ _ L T _ (KR.out _ z1) (KT.out _ z1) h).mono ?_; rintro e w2 ⟨rfl, h2⟩; have z2 : Below w1.heap.size w1 w2 := h2)
    | (refine wpList_store_row rfl 61 _ _ rfl w2.heap.size zeroAlg rfl rfl _ _ (heap_alloc_new w2 (.cells zeroAlg 61)) size_zeroAlg rfl one_zeroAlg ?_; rw [World.setRow_alloc_new]; obtain ⟨bl, hbl⟩ : ∃ bl, bl = w2.heap.size := ⟨_, rfl⟩; obtain ⟨w9, hw9⟩ : ∃ w9, w9 = w2.alloc (.cells zeroAlg 61) := ⟨_, rfl⟩; rw [← hw9, ← hbl]; have B9 : Below w1.heap.size w1 w9 := (by rw [hw9]; exact z2.alloc z2.size _); clear hw9 hbl))
  go_ret
  exact ⟨rfl, hB.trans (B9.mono hB.size)⟩

set_option maxRecDepth 100000 in
set_option maxHeartbeats 1000000 in
theorem implValidAlgebra_yes (a b : Option Addr) (ca cb : Nat) (L : List Int) (T : List (List Int)) (w : World) (hr : Rd w a L) (hT : RdT w b T) (h : algB L T = true) :
    Calls Tryz.prog 11 #[.agg #[.slice a L.length ca, .slice b T.length cb]] w fun e w' => e = .returned (.bool true) ∧ Below w.heap.size w w' := by
  obtain ⟨w1, hw1⟩ : ∃ w1, w1 = w.alloc (.cells #[.slice a L.length ca, .slice b T.length cb] 26) := ⟨_, rfl⟩
  have hB : Below w.heap.size w w1 := by rw [hw1]; exact (Below.refl _ _).alloc (Nat.le_refl _) _
  have hx : w1.heap[w.heap.size]? = some (.cells #[.slice a L.length ca, .slice b T.length cb] 26 (0, 0)) := by rw [hw1]; exact heap_alloc_new w _
  obtain ⟨c0, c1⟩ := bx_cells hx
  have Kx := Lib.hid (show ∀ wz, Below w1.heap.size w1 wz → wz.heap[w.heap.size]? = some (.cells #[.slice a L.length ca, .slice b T.length cb] 26 (0, 0)) from fun wz h => (h.block _ (lt_of_block hx)).trans hx)
  have KR := Lib.hid (show ∀ wz, Below w1.heap.size w1 wz → Rd wz a L from fun wz h => (hr.below hB).below h)
  have KT := Lib.hid (show ∀ wz, Below w1.heap.size w1 wz → RdT wz b T from fun wz h => (hT.below hB).below h)
  have z1 : Below w1.heap.size w1 w1 := Below.refl _ _
  clear hr hT hx
  go_enter Tryz.func11, Tryz.ntmps11
  go_wp2_with (first
    | (rw [← hw1]; clear hw1)
    | (refine wpList_load_row_w rfl 26 _ rfl w.heap.size rfl _ _ _ _ (Kx.out _ (by assumption)) Tryz.underlying26 rfl (size_Alg _ _) ?_)
    | (go_at_call 33; refine (readAlgebra_yes _ _ _ _ L T _ (KR.out _ z1) (KT.out _ z1) h).mono ?_; rintro e w2 ⟨rfl, h2⟩; have z2 : Below w1.heap.size w1 w2 := h2)
    | (refine wpList_store_row rfl 61 _ _ rfl w2.heap.size (algOf L T) rfl rfl _ _ (heap_alloc_new w2 (.cells zeroAlg 61)) (size_alg _ _ _ _ _ _) rfl (one_alg _ _ _ _ _ _) ?_; rw [World.setRow_alloc_new]; obtain ⟨bl, hbl⟩ : ∃ bl, bl = w2.heap.size := ⟨_, rfl⟩; obtain ⟨w9, hw9⟩ : ∃ w9, w9 = w2.alloc (.cells (algOf L T) 61) := ⟨_, rfl⟩; rw [← hw9, ← hbl]; have hA : AlgAt w9 bl L T := (by rw [hw9, hbl]; exact AlgAt.new w2 L T); have B9 : Below w1.heap.size w1 w9 := (by rw [hw9]; exact z2.alloc z2.size _); clear hw9 hbl))
  go_ret
  exact ⟨rfl, hB.trans (B9.mono hB.size)⟩

theorem implValidAlgebra_any (a b : Option Addr) (ca cb : Nat) (L : List Int) (T : List (List Int)) (w : World) (hr : Rd w a L) (hT : RdT w b T) :
    Calls Tryz.prog 11 #[.agg #[.slice a L.length ca, .slice b T.length cb]] w fun e w' => e = .returned (.bool (algB L T)) ∧ Below w.heap.size w w' := by
  cases h : algB L T with
  | false => exact implValidAlgebra_no a b ca cb L T w hr hT h
  | true => exact implValidAlgebra_yes a b ca cb L T w hr hT h
set_option maxRecDepth 100000 in
set_option maxHeartbeats 1000000 in
/-- impl.algebra.not -/
theorem not_any (L : List Int) (T : List (List Int)) (x : Int) (w : World) (h : algB L T = true) (x0 : 0 ≤ x) (x1 : x < num L) :
    Calls Tryz.prog 211 #[.agg (algOf L T), .int .i64 x] w fun e w' => e = .returned (.int .i64 (imp L T x 0)) ∧ Below w.heap.size w w' := by
  obtain ⟨n1, n6⟩ := lat_len (algB_parts h).1
  have x6 : x < 6 := by omega
  have d : (w.alloc (.cells (algOf L T) 61)).cell? ⟨w.heap.size, 145 + x.toNat * 6, none⟩ = some (.int .i64 (imp L T x 0)) := by
    have := (AlgAt.new w L T).i x0 x6 (y := 0) (by omega) (by omega)
    rwa [impG_in x1 (by omega)] at this
  obtain ⟨w1, hw1⟩ : ∃ w1, w1 = w.alloc (.cells (algOf L T) 61) := ⟨_, rfl⟩
  rw [← hw1] at d
  have hB : Below w.heap.size w w1 := by rw [hw1]; exact (Below.refl _ _).alloc (Nat.le_refl _) _
  go_enter Tryz.func211, Tryz.ntmps211
  go_wp2_with (rw [← hw1]; clear hw1)
  go_ret
  exact ⟨rfl, hB⟩

end Go.Proofs.YtpophjloedpcfaaGreatDoor
