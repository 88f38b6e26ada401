import Derived.Test.YtmapofenghjinaaB12
import Derived.Test.YtmapofenghjinaaB11
import Derived.Test.YtmapofenghjinaaD2
import Derived.Test.YtmapofenghjinaaD3
import Derived.Test.YtmapofenghjinaaL6
namespace Go.Proofs.Ytmapofenghjinaa
open Go.RowKit

def isMapB (L : List Int) (T : List (List Int)) (M : List Int) (U : List (List Int)) (F : List Int) : Bool := algB L T && (algB M U && mpB L T M U F)
set_option maxRecDepth 100000 in
set_option maxHeartbeats 2000000 in
/-- spec.IsMap -/
theorem specIsMap_any (a b : Option Addr) (ca cb : Nat) (L : List Int) (T : List (List Int)) (a2 b2 : Option Addr) (ca2 cb2 : Nat) (M : List Int) (U : List (List Int)) (af : Option Addr) (cf : Nat) (F : List Int) (w : World) (hr : Rd w a L) (hT : RdT w b T) (hr2 : Rd w a2 M) (hT2 : RdT w b2 U) (hf : Rd w af F) (_ : F.length ≤ 1048576) :
    Calls Try.prog 34 #[.agg #[.slice a L.length ca, .slice b T.length cb], .agg #[.slice a2 M.length ca2, .slice b2 U.length cb2], .slice af F.length cf] w fun e w' => e = .returned (.bool (isMapB L T M U F)) ∧ Below w.heap.size w w' := by
  obtain ⟨w1, hw1⟩ : ∃ w1, w1 = (w.alloc (.cells #[.slice a L.length ca, .slice b T.length cb] 28)).alloc (.cells #[.slice a2 M.length ca2, .slice b2 U.length cb2] 28) := ⟨_, rfl⟩
  have hB : Below w.heap.size w w1 := by rw [hw1]; exact ((Below.refl _ _).alloc (Nat.le_refl _) _).alloc (by simp) _
  have hx : w1.heap[w.heap.size]? = some (.cells #[.slice a L.length ca, .slice b T.length cb] 28 (0, 0)) := by rw [hw1, Below.heap_alloc _ _ _ (by simp)]; exact heap_alloc_new w _
  have hx2 : w1.heap[w.heap.size + 1]? = some (.cells #[.slice a2 M.length ca2, .slice b2 U.length cb2] 28 (0, 0)) := by rw [hw1]; exact heap_alloc2_new _ _ _
  have Kx := Lib.hid (show ∀ wz, Below w1.heap.size w1 wz → wz.heap[w.heap.size]? = some (.cells #[.slice a L.length ca, .slice b T.length cb] 28 (0, 0)) from fun wz h => (h.block _ (lt_of_block hx)).trans hx)
  have Kx2 := Lib.hid (show ∀ wz, Below w1.heap.size w1 wz → wz.heap[w.heap.size + 1]? = some (.cells #[.slice a2 M.length ca2, .slice b2 U.length cb2] 28 (0, 0)) from fun wz h => (h.block _ (lt_of_block hx2)).trans hx2)
  have KR := Lib.hid (show ∀ wz, Below w1.heap.size w1 wz → Rd wz a L from fun wz h => (hr.below hB).below h)
  have KT := Lib.hid (show ∀ wz, Below w1.heap.size w1 wz → RdT wz b T from fun wz h => (hT.below hB).below h)
  have KR2 := Lib.hid (show ∀ wz, Below w1.heap.size w1 wz → Rd wz a2 M from fun wz h => (hr2.below hB).below h)
  have KT2 := Lib.hid (show ∀ wz, Below w1.heap.size w1 wz → RdT wz b2 U from fun wz h => (hT2.below hB).below h)
  have KF := Lib.hid (show ∀ wz, Below w1.heap.size w1 wz → Rd wz af F from fun wz h => (hf.below hB).below h)
  have z1 : Below w1.heap.size w1 w1 := Below.refl _ _
  have hzc : Try.zeroCells70 = zeroAlg := by kernel_rfl
  clear hr hT hr2 hT2 hf hx hx2
  have hv := Lib.hid (show isMapB L T M U F = (algB L T && (algB M U && mpB L T M U F)) from rfl)
  cases hA : algB L T <;> cases hA2 : algB M U
  all_goals
    rw [hA, hA2] at hv
    have HA := Lib.hid hA
    have HA2 := Lib.hid hA2
    clear hA hA2
    go_enter Try.func34, Try.ntmps34
    go_wp2_with (first
      | go_skip
      | (rw [← hw1]; clear hw1)
      | (refine wpList_load_row_w rfl 28 _ rfl w.heap.size rfl _ _ _ _ (Kx.out _ (by assumption)) Try.underlying28 rfl (size_Alg _ _) ?_)
      | (refine wpList_load_row_w rfl 28 _ rfl (w.heap.size + 1) rfl _ _ _ _ (Kx2.out _ (by assumption)) Try.underlying28 rfl (size_Alg _ _) ?_)
      | (go_at_call_of 50 (Value.agg #[.slice a L.length ca, .slice b T.length cb]); refine (ret_below (validAlgebra_any _ _ _ _ L T _ (KR.out _ z1) (KT.out _ z1)) HA.out).mono ?_; rintro e w2 ⟨rfl, h2⟩; have z2 : Below w1.heap.size w1 w2 := h2; clear h2)
      | (go_at_call 50; refine (ret_below (validAlgebra_any _ _ _ _ M U _ (KR2.out _ z2) (KT2.out _ z2)) HA2.out).mono ?_; rintro e w3 ⟨rfl, h3⟩; have z3 : Below w1.heap.size w1 w3 := z2.trans (h3.mono z2.size); clear h3)
      | (go_at_call 86; refine (specIsMapM_any _ _ _ _ L T _ _ _ _ M U af cf F _ (KR.out _ z3) (KT.out _ z3) (KR2.out _ z3) (KT2.out _ z3) (KF.out _ z3) HA.out HA2.out).mono ?_; rintro e w4 ⟨rfl, h4⟩; have z4 : Below w1.heap.size w1 w4 := z3.trans (h4.mono z3.size)))
    go_ret
    exact ⟨ret_bool (by rw [hv.out]; rfl), hB.trans (Below.mono (by assumption) hB.size)⟩
theorem mp_read {L : List Int} {T : List (List Int)} {M : List Int} {U : List (List Int)} {F : List Int} (h : algB L T = true) (h2 : algB M U = true) : isMapB L T M U F = (decide (num F = num L) && (withB M F && msB L T M U F)) := by
  unfold isMapB; rw [h, h2, Bool.true_and, Bool.true_and, mp_eq h]
set_option maxRecDepth 100000 in
set_option maxHeartbeats 2000000 in
theorem implIsMap_n1 (a b : Option Addr) (ca cb : Nat) (L : List Int) (T : List (List Int)) (a2 b2 : Option Addr) (ca2 cb2 : Nat) (M : List Int) (U : List (List Int)) (af : Option Addr) (cf : Nat) (F : List Int) (w : World) (hr : Rd w a L) (hT : RdT w b T) (hr2 : Rd w a2 M) (hT2 : RdT w b2 U) (hf : Rd w af F) (h : algB L T = false) (h2 : algB M U = false) :
    Calls Try.prog 35 #[.agg #[.slice a L.length ca, .slice b T.length cb], .agg #[.slice a2 M.length ca2, .slice b2 U.length cb2], .slice af F.length cf] w fun e w' => e = .returned (.bool (isMapB L T M U F)) ∧ Below w.heap.size w w' := by
  obtain ⟨w1, hw1⟩ : ∃ w1, w1 = (w.alloc (.cells #[.slice a L.length ca, .slice b T.length cb] 28)).alloc (.cells #[.slice a2 M.length ca2, .slice b2 U.length cb2] 28) := ⟨_, rfl⟩
  have hB : Below w.heap.size w w1 := by rw [hw1]; exact ((Below.refl _ _).alloc (Nat.le_refl _) _).alloc (by simp) _
  have hx : w1.heap[w.heap.size]? = some (.cells #[.slice a L.length ca, .slice b T.length cb] 28 (0, 0)) := by rw [hw1, Below.heap_alloc _ _ _ (by simp)]; exact heap_alloc_new w _
  have hx2 : w1.heap[w.heap.size + 1]? = some (.cells #[.slice a2 M.length ca2, .slice b2 U.length cb2] 28 (0, 0)) := by rw [hw1]; exact heap_alloc2_new _ _ _
  have Kx := Lib.hid (show ∀ wz, Below w1.heap.size w1 wz → wz.heap[w.heap.size]? = some (.cells #[.slice a L.length ca, .slice b T.length cb] 28 (0, 0)) from fun wz h => (h.block _ (lt_of_block hx)).trans hx)
  have Kx2 := Lib.hid (show ∀ wz, Below w1.heap.size w1 wz → wz.heap[w.heap.size + 1]? = some (.cells #[.slice a2 M.length ca2, .slice b2 U.length cb2] 28 (0, 0)) from fun wz h => (h.block _ (lt_of_block hx2)).trans hx2)
  have KR := Lib.hid (show ∀ wz, Below w1.heap.size w1 wz → Rd wz a L from fun wz h => (hr.below hB).below h)
  have KT := Lib.hid (show ∀ wz, Below w1.heap.size w1 wz → RdT wz b T from fun wz h => (hT.below hB).below h)
  have KR2 := Lib.hid (show ∀ wz, Below w1.heap.size w1 wz → Rd wz a2 M from fun wz h => (hr2.below hB).below h)
  have KT2 := Lib.hid (show ∀ wz, Below w1.heap.size w1 wz → RdT wz b2 U from fun wz h => (hT2.below hB).below h)
  have KF := Lib.hid (show ∀ wz, Below w1.heap.size w1 wz → Rd wz af F from fun wz h => (hf.below hB).below h)
  have z1 : Below w1.heap.size w1 w1 := Below.refl _ _
  have hzc : Try.zeroCells70 = zeroAlg := by kernel_rfl
  clear hr hT hr2 hT2 hf hx hx2
  have hv := Lib.hid (show isMapB L T M U F = false by unfold isMapB; rw [h, h2]; rfl)
  have HA := Lib.hid h
  have HA2 := Lib.hid h2
  clear h h2
  go_enter Try.func35, Try.ntmps35
  go_wp2_with (first
    | go_skip
    | (rw [← hw1]; clear hw1)
    | (refine wpList_load_row_w rfl 28 _ rfl w.heap.size rfl _ _ _ _ (Kx.out _ (by assumption)) Try.underlying28 rfl (size_Alg _ _) ?_)
    | (refine wpList_load_row_w rfl 28 _ rfl (w.heap.size + 1) rfl _ _ _ _ (Kx2.out _ (by assumption)) Try.underlying28 rfl (size_Alg _ _) ?_)
    | (go_at_call 87; refine (readBoth_no1 _ _ _ _ L T _ _ _ _ M U _ (KR.out _ z1) (KT.out _ z1) (KR2.out _ z1) (KT2.out _ z1) HA.out HA2.out).mono ?_; rintro e w2 ⟨rfl, h2⟩; have z2 : Below w1.heap.size w1 w2 := h2; have s2 := z2.size; obtain ⟨wp, hwp⟩ : ∃ x, x = w2.alloc (.cells zeroAlg 70) := ⟨_, rfl⟩; have sp : wp.heap.size = w2.heap.size + 1 := (by rw [hwp]; simp); obtain ⟨wq, hwq⟩ : ∃ x, x = wp.alloc (.cells zeroAlg 70) := ⟨_, rfl⟩; have zq : Below w1.heap.size w1 wq := (by rw [hwq]; exact Below.alloc (by rw [hwp]; exact z2.alloc z2.size _) (by omega) _); have h4 : wq.heap[w2.heap.size]? = some (.cells zeroAlg 70 (0, 0)) := (by rw [hwq, Below.heap_alloc _ _ _ (by omega), hwp]; exact heap_alloc_new w2 _); have h5 : wq.heap[w2.heap.size + 1]? = some (.cells zeroAlg 70 (0, 0)) := (by rw [hwq, ← sp]; exact heap_alloc_new wp _); have hwe : wq = (w2.alloc (.cells zeroAlg 70)).alloc (.cells zeroAlg 70) := (by rw [hwq, hwp]); clear hwp hwq sp)
    | (rw [← hwe]; clear hwe)
    | (refine wpList_store_row rfl 70 _ _ rfl w2.heap.size zeroAlg rfl rfl _ _ h4 size_zeroAlg rfl one_zeroAlg ?_; obtain ⟨w8, hw8⟩ : ∃ x, x = wq.setRow w2.heap.size zeroAlg := ⟨_, rfl⟩; rw [← hw8]; have z8 : Below w1.heap.size w1 w8 := (by rw [hw8]; exact below_setRow' zq (by omega) _); have n8 : w8.heap[w2.heap.size + 1]? = some (.cells zeroAlg 70 (0, 0)) := (by rw [hw8, setRow_other _ _ _ _ (by omega)]; exact h5); clear hw8)
    | (refine wpList_store_row rfl 70 _ _ rfl (w2.heap.size + 1) zeroAlg rfl rfl _ _ n8 size_zeroAlg rfl one_zeroAlg ?_; obtain ⟨w9, hw9⟩ : ∃ x, x = w8.setRow (w2.heap.size + 1) zeroAlg := ⟨_, rfl⟩; rw [← hw9]; have z9 : Below w1.heap.size w1 w9 := (by rw [hw9]; exact below_setRow' z8 (by omega) _); clear hw9))
  go_ret
  exact ⟨ret_bool (by rw [hv.out]), hB.trans (z9.mono hB.size)⟩
set_option maxRecDepth 100000 in
set_option maxHeartbeats 2000000 in
theorem implIsMap_n2 (a b : Option Addr) (ca cb : Nat) (L : List Int) (T : List (List Int)) (a2 b2 : Option Addr) (ca2 cb2 : Nat) (M : List Int) (U : List (List Int)) (af : Option Addr) (cf : Nat) (F : List Int) (w : World) (hr : Rd w a L) (hT : RdT w b T) (hr2 : Rd w a2 M) (hT2 : RdT w b2 U) (hf : Rd w af F) (h : algB L T = false) (h2 : algB M U = true) :
    Calls Try.prog 35 #[.agg #[.slice a L.length ca, .slice b T.length cb], .agg #[.slice a2 M.length ca2, .slice b2 U.length cb2], .slice af F.length cf] w fun e w' => e = .returned (.bool (isMapB L T M U F)) ∧ Below w.heap.size w w' := by
  obtain ⟨w1, hw1⟩ : ∃ w1, w1 = (w.alloc (.cells #[.slice a L.length ca, .slice b T.length cb] 28)).alloc (.cells #[.slice a2 M.length ca2, .slice b2 U.length cb2] 28) := ⟨_, rfl⟩
  have hB : Below w.heap.size w w1 := by rw [hw1]; exact ((Below.refl _ _).alloc (Nat.le_refl _) _).alloc (by simp) _
  have hx : w1.heap[w.heap.size]? = some (.cells #[.slice a L.length ca, .slice b T.length cb] 28 (0, 0)) := by rw [hw1, Below.heap_alloc _ _ _ (by simp)]; exact heap_alloc_new w _
  have hx2 : w1.heap[w.heap.size + 1]? = some (.cells #[.slice a2 M.length ca2, .slice b2 U.length cb2] 28 (0, 0)) := by rw [hw1]; exact heap_alloc2_new _ _ _
  have Kx := Lib.hid (show ∀ wz, Below w1.heap.size w1 wz → wz.heap[w.heap.size]? = some (.cells #[.slice a L.length ca, .slice b T.length cb] 28 (0, 0)) from fun wz h => (h.block _ (lt_of_block hx)).trans hx)
  have Kx2 := Lib.hid (show ∀ wz, Below w1.heap.size w1 wz → wz.heap[w.heap.size + 1]? = some (.cells #[.slice a2 M.length ca2, .slice b2 U.length cb2] 28 (0, 0)) from fun wz h => (h.block _ (lt_of_block hx2)).trans hx2)
  have KR := Lib.hid (show ∀ wz, Below w1.heap.size w1 wz → Rd wz a L from fun wz h => (hr.below hB).below h)
  have KT := Lib.hid (show ∀ wz, Below w1.heap.size w1 wz → RdT wz b T from fun wz h => (hT.below hB).below h)
  have KR2 := Lib.hid (show ∀ wz, Below w1.heap.size w1 wz → Rd wz a2 M from fun wz h => (hr2.below hB).below h)
  have KT2 := Lib.hid (show ∀ wz, Below w1.heap.size w1 wz → RdT wz b2 U from fun wz h => (hT2.below hB).below h)
  have KF := Lib.hid (show ∀ wz, Below w1.heap.size w1 wz → Rd wz af F from fun wz h => (hf.below hB).below h)
  have z1 : Below w1.heap.size w1 w1 := Below.refl _ _
  have hzc : Try.zeroCells70 = zeroAlg := by kernel_rfl
  clear hr hT hr2 hT2 hf hx hx2
  have hv := Lib.hid (show isMapB L T M U F = false by unfold isMapB; rw [h, h2]; rfl)
  have HA := Lib.hid h
  have HA2 := Lib.hid h2
  clear h h2
  go_enter Try.func35, Try.ntmps35
  go_wp2_with (first
    | go_skip
    | (rw [← hw1]; clear hw1)
    | (refine wpList_load_row_w rfl 28 _ rfl w.heap.size rfl _ _ _ _ (Kx.out _ (by assumption)) Try.underlying28 rfl (size_Alg _ _) ?_)
    | (refine wpList_load_row_w rfl 28 _ rfl (w.heap.size + 1) rfl _ _ _ _ (Kx2.out _ (by assumption)) Try.underlying28 rfl (size_Alg _ _) ?_)
    | (go_at_call 87; refine (readBoth_no2 _ _ _ _ L T _ _ _ _ M U _ (KR.out _ z1) (KT.out _ z1) (KR2.out _ z1) (KT2.out _ z1) HA.out HA2.out).mono ?_; rintro e w2 ⟨rfl, h2⟩; have z2 : Below w1.heap.size w1 w2 := h2; have s2 := z2.size; obtain ⟨wp, hwp⟩ : ∃ x, x = w2.alloc (.cells zeroAlg 70) := ⟨_, rfl⟩; have sp : wp.heap.size = w2.heap.size + 1 := (by rw [hwp]; simp); obtain ⟨wq, hwq⟩ : ∃ x, x = wp.alloc (.cells zeroAlg 70) := ⟨_, rfl⟩; have zq : Below w1.heap.size w1 wq := (by rw [hwq]; exact Below.alloc (by rw [hwp]; exact z2.alloc z2.size _) (by omega) _); have h4 : wq.heap[w2.heap.size]? = some (.cells zeroAlg 70 (0, 0)) := (by rw [hwq, Below.heap_alloc _ _ _ (by omega), hwp]; exact heap_alloc_new w2 _); have h5 : wq.heap[w2.heap.size + 1]? = some (.cells zeroAlg 70 (0, 0)) := (by rw [hwq, ← sp]; exact heap_alloc_new wp _); have hwe : wq = (w2.alloc (.cells zeroAlg 70)).alloc (.cells zeroAlg 70) := (by rw [hwq, hwp]); clear hwp hwq sp)
    | (rw [← hwe]; clear hwe)
    | (refine wpList_store_row rfl 70 _ _ rfl w2.heap.size zeroAlg rfl rfl _ _ h4 size_zeroAlg rfl one_zeroAlg ?_; obtain ⟨w8, hw8⟩ : ∃ x, x = wq.setRow w2.heap.size zeroAlg := ⟨_, rfl⟩; rw [← hw8]; have z8 : Below w1.heap.size w1 w8 := (by rw [hw8]; exact below_setRow' zq (by omega) _); have n8 : w8.heap[w2.heap.size + 1]? = some (.cells zeroAlg 70 (0, 0)) := (by rw [hw8, setRow_other _ _ _ _ (by omega)]; exact h5); clear hw8)
    | (refine wpList_store_row rfl 70 _ _ rfl (w2.heap.size + 1) zeroAlg rfl rfl _ _ n8 size_zeroAlg rfl one_zeroAlg ?_; obtain ⟨w9, hw9⟩ : ∃ x, x = w8.setRow (w2.heap.size + 1) zeroAlg := ⟨_, rfl⟩; rw [← hw9]; have z9 : Below w1.heap.size w1 w9 := (by rw [hw9]; exact below_setRow' z8 (by omega) _); clear hw9))
  go_ret
  exact ⟨ret_bool (by rw [hv.out]), hB.trans (z9.mono hB.size)⟩
set_option maxRecDepth 100000 in
set_option maxHeartbeats 2000000 in
theorem implIsMap_n3 (a b : Option Addr) (ca cb : Nat) (L : List Int) (T : List (List Int)) (a2 b2 : Option Addr) (ca2 cb2 : Nat) (M : List Int) (U : List (List Int)) (af : Option Addr) (cf : Nat) (F : List Int) (w : World) (hr : Rd w a L) (hT : RdT w b T) (hr2 : Rd w a2 M) (hT2 : RdT w b2 U) (hf : Rd w af F) (h : algB L T = true) (h2 : algB M U = false) :
    Calls Try.prog 35 #[.agg #[.slice a L.length ca, .slice b T.length cb], .agg #[.slice a2 M.length ca2, .slice b2 U.length cb2], .slice af F.length cf] w fun e w' => e = .returned (.bool (isMapB L T M U F)) ∧ Below w.heap.size w w' := by
  obtain ⟨w1, hw1⟩ : ∃ w1, w1 = (w.alloc (.cells #[.slice a L.length ca, .slice b T.length cb] 28)).alloc (.cells #[.slice a2 M.length ca2, .slice b2 U.length cb2] 28) := ⟨_, rfl⟩
  have hB : Below w.heap.size w w1 := by rw [hw1]; exact ((Below.refl _ _).alloc (Nat.le_refl _) _).alloc (by simp) _
  have hx : w1.heap[w.heap.size]? = some (.cells #[.slice a L.length ca, .slice b T.length cb] 28 (0, 0)) := by rw [hw1, Below.heap_alloc _ _ _ (by simp)]; exact heap_alloc_new w _
  have hx2 : w1.heap[w.heap.size + 1]? = some (.cells #[.slice a2 M.length ca2, .slice b2 U.length cb2] 28 (0, 0)) := by rw [hw1]; exact heap_alloc2_new _ _ _
  have Kx := Lib.hid (show ∀ wz, Below w1.heap.size w1 wz → wz.heap[w.heap.size]? = some (.cells #[.slice a L.length ca, .slice b T.length cb] 28 (0, 0)) from fun wz h => (h.block _ (lt_of_block hx)).trans hx)
  have Kx2 := Lib.hid (show ∀ wz, Below w1.heap.size w1 wz → wz.heap[w.heap.size + 1]? = some (.cells #[.slice a2 M.length ca2, .slice b2 U.length cb2] 28 (0, 0)) from fun wz h => (h.block _ (lt_of_block hx2)).trans hx2)
  have KR := Lib.hid (show ∀ wz, Below w1.heap.size w1 wz → Rd wz a L from fun wz h => (hr.below hB).below h)
  have KT := Lib.hid (show ∀ wz, Below w1.heap.size w1 wz → RdT wz b T from fun wz h => (hT.below hB).below h)
  have KR2 := Lib.hid (show ∀ wz, Below w1.heap.size w1 wz → Rd wz a2 M from fun wz h => (hr2.below hB).below h)
  have KT2 := Lib.hid (show ∀ wz, Below w1.heap.size w1 wz → RdT wz b2 U from fun wz h => (hT2.below hB).below h)
  have KF := Lib.hid (show ∀ wz, Below w1.heap.size w1 wz → Rd wz af F from fun wz h => (hf.below hB).below h)
  have z1 : Below w1.heap.size w1 w1 := Below.refl _ _
  have hzc : Try.zeroCells70 = zeroAlg := by kernel_rfl
  clear hr hT hr2 hT2 hf hx hx2
  have hv := Lib.hid (show isMapB L T M U F = false by unfold isMapB; rw [h, h2]; rfl)
  have HA := Lib.hid h
  have HA2 := Lib.hid h2
  clear h h2
  go_enter Try.func35, Try.ntmps35
  go_wp2_with (first
    | go_skip
    | (rw [← hw1]; clear hw1)
    | (refine wpList_load_row_w rfl 28 _ rfl w.heap.size rfl _ _ _ _ (Kx.out _ (by assumption)) Try.underlying28 rfl (size_Alg _ _) ?_)
    | (refine wpList_load_row_w rfl 28 _ rfl (w.heap.size + 1) rfl _ _ _ _ (Kx2.out _ (by assumption)) Try.underlying28 rfl (size_Alg _ _) ?_)
    | (go_at_call 87; refine (readBoth_no3 _ _ _ _ L T _ _ _ _ M U _ (KR.out _ z1) (KT.out _ z1) (KR2.out _ z1) (KT2.out _ z1) HA.out HA2.out).mono ?_; rintro e w2 ⟨rfl, h2⟩; have z2 : Below w1.heap.size w1 w2 := h2; have s2 := z2.size; obtain ⟨wp, hwp⟩ : ∃ x, x = w2.alloc (.cells zeroAlg 70) := ⟨_, rfl⟩; have sp : wp.heap.size = w2.heap.size + 1 := (by rw [hwp]; simp); obtain ⟨wq, hwq⟩ : ∃ x, x = wp.alloc (.cells zeroAlg 70) := ⟨_, rfl⟩; have zq : Below w1.heap.size w1 wq := (by rw [hwq]; exact Below.alloc (by rw [hwp]; exact z2.alloc z2.size _) (by omega) _); have h4 : wq.heap[w2.heap.size]? = some (.cells zeroAlg 70 (0, 0)) := (by rw [hwq, Below.heap_alloc _ _ _ (by omega), hwp]; exact heap_alloc_new w2 _); have h5 : wq.heap[w2.heap.size + 1]? = some (.cells zeroAlg 70 (0, 0)) := (by rw [hwq, ← sp]; exact heap_alloc_new wp _); have hwe : wq = (w2.alloc (.cells zeroAlg 70)).alloc (.cells zeroAlg 70) := (by rw [hwq, hwp]); clear hwp hwq sp)
    | (rw [← hwe]; clear hwe)
    | (refine wpList_store_row rfl 70 _ _ rfl w2.heap.size zeroAlg rfl rfl _ _ h4 size_zeroAlg rfl one_zeroAlg ?_; obtain ⟨w8, hw8⟩ : ∃ x, x = wq.setRow w2.heap.size zeroAlg := ⟨_, rfl⟩; rw [← hw8]; have z8 : Below w1.heap.size w1 w8 := (by rw [hw8]; exact below_setRow' zq (by omega) _); have n8 : w8.heap[w2.heap.size + 1]? = some (.cells zeroAlg 70 (0, 0)) := (by rw [hw8, setRow_other _ _ _ _ (by omega)]; exact h5); clear hw8)
    | (refine wpList_store_row rfl 70 _ _ rfl (w2.heap.size + 1) zeroAlg rfl rfl _ _ n8 size_zeroAlg rfl one_zeroAlg ?_; obtain ⟨w9, hw9⟩ : ∃ x, x = w8.setRow (w2.heap.size + 1) zeroAlg := ⟨_, rfl⟩; rw [← hw9]; have z9 : Below w1.heap.size w1 w9 := (by rw [hw9]; exact below_setRow' z8 (by omega) _); clear hw9))
  go_ret
  exact ⟨ret_bool (by rw [hv.out]), hB.trans (z9.mono hB.size)⟩
set_option maxRecDepth 100000 in
set_option maxHeartbeats 4000000 in
theorem implIsMap_yes (a b : Option Addr) (ca cb : Nat) (L : List Int) (T : List (List Int)) (a2 b2 : Option Addr) (ca2 cb2 : Nat) (M : List Int) (U : List (List Int)) (af : Option Addr) (cf : Nat) (F : List Int) (w : World) (hr : Rd w a L) (hT : RdT w b T) (hr2 : Rd w a2 M) (hT2 : RdT w b2 U) (hf : Rd w af F) (hF : F.length ≤ 1048576) (h : algB L T = true) (h2 : algB M U = true) :
    Calls Try.prog 35 #[.agg #[.slice a L.length ca, .slice b T.length cb], .agg #[.slice a2 M.length ca2, .slice b2 U.length cb2], .slice af F.length cf] w fun e w' => e = .returned (.bool (isMapB L T M U F)) ∧ Below w.heap.size w w' := by
  obtain ⟨n1, n6⟩ := lat_len (alg_lat h)
  have hnl : num L = L.length := rfl
  have hnf : num F = F.length := rfl
  obtain ⟨w1, hw1⟩ : ∃ w1, w1 = (w.alloc (.cells #[.slice a L.length ca, .slice b T.length cb] 28)).alloc (.cells #[.slice a2 M.length ca2, .slice b2 U.length cb2] 28) := ⟨_, rfl⟩
  have hB : Below w.heap.size w w1 := by rw [hw1]; exact ((Below.refl _ _).alloc (Nat.le_refl _) _).alloc (by simp) _
  have hx : w1.heap[w.heap.size]? = some (.cells #[.slice a L.length ca, .slice b T.length cb] 28 (0, 0)) := by rw [hw1, Below.heap_alloc _ _ _ (by simp)]; exact heap_alloc_new w _
  have hx2 : w1.heap[w.heap.size + 1]? = some (.cells #[.slice a2 M.length ca2, .slice b2 U.length cb2] 28 (0, 0)) := by rw [hw1]; exact heap_alloc2_new _ _ _
  have Kx := Lib.hid (show ∀ wz, Below w1.heap.size w1 wz → wz.heap[w.heap.size]? = some (.cells #[.slice a L.length ca, .slice b T.length cb] 28 (0, 0)) from fun wz h => (h.block _ (lt_of_block hx)).trans hx)
  have Kx2 := Lib.hid (show ∀ wz, Below w1.heap.size w1 wz → wz.heap[w.heap.size + 1]? = some (.cells #[.slice a2 M.length ca2, .slice b2 U.length cb2] 28 (0, 0)) from fun wz h => (h.block _ (lt_of_block hx2)).trans hx2)
  have KR := Lib.hid (show ∀ wz, Below w1.heap.size w1 wz → Rd wz a L from fun wz h => (hr.below hB).below h)
  have KT := Lib.hid (show ∀ wz, Below w1.heap.size w1 wz → RdT wz b T from fun wz h => (hT.below hB).below h)
  have KR2 := Lib.hid (show ∀ wz, Below w1.heap.size w1 wz → Rd wz a2 M from fun wz h => (hr2.below hB).below h)
  have KT2 := Lib.hid (show ∀ wz, Below w1.heap.size w1 wz → RdT wz b2 U from fun wz h => (hT2.below hB).below h)
  have KF := Lib.hid (show ∀ wz, Below w1.heap.size w1 wz → Rd wz af F from fun wz h => (hf.below hB).below h)
  have z1 : Below w1.heap.size w1 w1 := Below.refl _ _
  have hzc : Try.zeroCells70 = zeroAlg := by kernel_rfl
  clear hr hT hr2 hT2 hf hx hx2
  have hv := Lib.hid (mp_read (F := F) h h2)
  have HA := Lib.hid h
  have HA2 := Lib.hid h2
  clear h h2
  have hlen : ((F.length : Int) == (L.length : Int)) = decide (num F = num L) := by
    by_cases e : (F.length : Int) = L.length
    · rw [decide_eq_true (show num F = num L by omega), e]; simp
    · rw [decide_eq_false (show ¬ num F = num L by omega)]; simpa using e
  cases hD : decide (num F = num L) <;> cases hW : withB M F <;> cases hM : msB L T M U F
  all_goals
    rw [hD, hW, hM] at hv
    rw [hD] at hlen
    have HW := Lib.hid hW
    have HM := Lib.hid hM
    have HD := Lib.hid hD
    clear hD hW hM
    go_enter Try.func35, Try.ntmps35
    go_wp2_with (first
      | go_skip
      | (rw [← hw1]; clear hw1)
      | (refine wpList_load_row_w rfl 28 _ rfl w.heap.size rfl _ _ _ _ (Kx.out _ (by assumption)) Try.underlying28 rfl (size_Alg _ _) ?_)
      | (refine wpList_load_row_w rfl 28 _ rfl (w.heap.size + 1) rfl _ _ _ _ (Kx2.out _ (by assumption)) Try.underlying28 rfl (size_Alg _ _) ?_)
      | (go_at_call 87; refine (readBoth_yes _ _ _ _ L T _ _ _ _ M U _ (KR.out _ z1) (KT.out _ z1) (KR2.out _ z1) (KT2.out _ z1) HA.out HA2.out).mono ?_; rintro e w2 ⟨rfl, h2⟩; have z2 : Below w1.heap.size w1 w2 := h2; have s2 := z2.size; obtain ⟨wp, hwp⟩ : ∃ x, x = w2.alloc (.cells zeroAlg 70) := ⟨_, rfl⟩; have sp : wp.heap.size = w2.heap.size + 1 := (by rw [hwp]; simp); obtain ⟨wq, hwq⟩ : ∃ x, x = wp.alloc (.cells zeroAlg 70) := ⟨_, rfl⟩; have zq : Below w1.heap.size w1 wq := (by rw [hwq]; exact Below.alloc (by rw [hwp]; exact z2.alloc z2.size _) (by omega) _); have h4 : wq.heap[w2.heap.size]? = some (.cells zeroAlg 70 (0, 0)) := (by rw [hwq, Below.heap_alloc _ _ _ (by omega), hwp]; exact heap_alloc_new w2 _); have h5 : wq.heap[w2.heap.size + 1]? = some (.cells zeroAlg 70 (0, 0)) := (by rw [hwq, ← sp]; exact heap_alloc_new wp _); have hwe : wq = (w2.alloc (.cells zeroAlg 70)).alloc (.cells zeroAlg 70) := (by rw [hwq, hwp]); clear hwp hwq sp)
      | (rw [← hwe]; clear hwe)
      | (refine wpList_store_row rfl 70 _ _ rfl w2.heap.size (algOf L T) rfl rfl _ _ h4 (size_alg _ _ _ _ _ _) rfl (one_alg _ _ _ _ _ _) ?_; obtain ⟨w8, hw8⟩ : ∃ x, x = wq.setRow w2.heap.size (algOf L T) := ⟨_, rfl⟩; rw [← hw8]; have z8 : Below w1.heap.size w1 w8 := (by rw [hw8]; exact below_setRow' zq (by omega) _); have m8 : w8.heap[w2.heap.size]? = some (.cells (algOf L T) 70 (0, 0)) := (by rw [hw8]; exact setRow_heap _ _ _ _ _ _ h4); have n8 : w8.heap[w2.heap.size + 1]? = some (.cells zeroAlg 70 (0, 0)) := (by rw [hw8, setRow_other _ _ _ _ (by omega)]; exact h5); clear hw8)
      | (refine wpList_store_row rfl 70 _ _ rfl (w2.heap.size + 1) (algOf M U) rfl rfl _ _ n8 (size_alg _ _ _ _ _ _) rfl (one_alg _ _ _ _ _ _) ?_; obtain ⟨w9, hw9⟩ : ∃ x, x = w8.setRow (w2.heap.size + 1) (algOf M U) := ⟨_, rfl⟩; rw [← hw9]; have z9 : Below w1.heap.size w1 w9 := (by rw [hw9]; exact below_setRow' z8 (by omega) _); have q1 : AlgAt w9 w2.heap.size L T := (by rw [hw9]; exact (setRow_other _ _ _ _ (by omega)).trans m8); have q2 : AlgAt w9 (w2.heap.size + 1) M U := (by rw [hw9]; exact setRow_heap _ _ _ _ _ _ n8); have c9 := q1.size; clear hw9)
      | (refine wpList_load_mid_w rfl 68 _ rfl (w2.heap.size + 1) 0 rfl (latOf M) _ q2.lat Try.underlying68 rfl (size_latOf M) ?_)
      | (go_at_call 88; refine (ret_below (has_any af cf M F _ (KF.out _ z9) hF) HW.out).mono ?_; rintro e w10 ⟨rfl, h10⟩; have z10 := z9.trans (h10.mono z9.size); have p1 := q1.below h10 q1.lt; have p2 := q2.below h10 q2.lt)
      | (refine wpList_load_row_w rfl 70 _ rfl (w2.heap.size + 1) rfl _ _ _ _ p2 Try.underlying70 rfl (size_alg _ _ _ _ _ _) ?_)
      | (refine wpList_load_row_w rfl 70 _ rfl w2.heap.size rfl _ _ _ _ p1 Try.underlying70 rfl (size_alg _ _ _ _ _ _) ?_)
      | (go_at_call 89; refine (ret_below (isMapStart_any L T M U F af cf _ (KF.out _ z10) HA.out HA2.out (by have := of_decide_eq_true HD.out; omega) (withB_all.1 HW.out)) HM.out).mono ?_; rintro e w11 ⟨rfl, h11⟩; have z11 := z10.trans (h11.mono z10.size)))
    go_ret
    exact ⟨ret_bool (by rw [hv.out]; rfl), hB.trans (Below.mono (by assumption) hB.size)⟩
theorem implIsMap_any (a b : Option Addr) (ca cb : Nat) (L : List Int) (T : List (List Int)) (a2 b2 : Option Addr) (ca2 cb2 : Nat) (M : List Int) (U : List (List Int)) (af : Option Addr) (cf : Nat) (F : List Int) (w : World) (hr : Rd w a L) (hT : RdT w b T) (hr2 : Rd w a2 M) (hT2 : RdT w b2 U) (hf : Rd w af F) (hF : F.length ≤ 1048576) :
    Calls Try.prog 35 #[.agg #[.slice a L.length ca, .slice b T.length cb], .agg #[.slice a2 M.length ca2, .slice b2 U.length cb2], .slice af F.length cf] w fun e w' => e = .returned (.bool (isMapB L T M U F)) ∧ Below w.heap.size w w' := by
  cases h : algB L T <;> cases h2 : algB M U
  · exact implIsMap_n1 a b ca cb L T a2 b2 ca2 cb2 M U af cf F w hr hT hr2 hT2 hf h h2
  · exact implIsMap_n2 a b ca cb L T a2 b2 ca2 cb2 M U af cf F w hr hT hr2 hT2 hf h h2
  · exact implIsMap_n3 a b ca cb L T a2 b2 ca2 cb2 M U af cf F w hr hT hr2 hT2 hf h h2
  · exact implIsMap_yes a b ca cb L T a2 b2 ca2 cb2 M U af cf F w hr hT hr2 hT2 hf hF h h2
end Go.Proofs.Ytmapofenghjinaa

namespace Go.Proofs.Ytmapofenghjinaa
open Go.RowKit
theorem enters_toA_IsMap : Enters 17 := enters_of Try.func17 (by kernel_rfl) rfl
theorem enters_toI_IsMap : Enters 21 := enters_of Try.func21 (by kernel_rfl) rfl
theorem enters_sp_IsMap : Enters 34 := enters_of Try.func34 (by kernel_rfl) rfl

set_option maxRecDepth 100000 in
set_option maxHeartbeats 4000000 in
/-- the law -/
theorem lawIsMap (a0 b0 : Option Addr) (ca0 cb0 : Nat) (L0 : List Int) (T0 : List (List Int)) (a1 b1 : Option Addr) (ca1 cb1 : Nat) (L1 : List Int) (T1 : List (List Int)) (a2 : Option Addr) (ca2 : Nat) (L2 : List Int) (w : World) (hr0 : Rd w a0 L0) (ht0 : RdT w b0 T0) (hL0 : L0.length ≤ maxLen) (hn0 : T0.length ≤ maxLen) (hm0 : ∀ j : Nat, j < T0.length → (rowAt T0 j).length ≤ maxLen) (hr1 : Rd w a1 L1) (ht1 : RdT w b1 T1) (hL1 : L1.length ≤ maxLen) (hn1 : T1.length ≤ maxLen) (hm1 : ∀ j : Nat, j < T1.length → (rowAt T1 j).length ≤ maxLen) (hr2 : Rd w a2 L2) (hL2 : L2.length ≤ maxLen) :
    Calls Try.prog 8 #[.agg #[.slice a0 L0.length ca0, .slice b0 T0.length cb0], .agg #[.slice a1 L1.length ca1, .slice b1 T1.length cb1], .slice a2 L2.length ca2] w fun e w' => e = .returned (.bool true) ∧ Below w.heap.size w w' := by
  unfold maxLen at *
  have HM0 := Lib.hid (show ∀ j : Nat, j < T0.length → ((rowAt T0 j).length : Int) ≤ 9223372036854775807 from fun j hj => by have := hm0 j hj; omega)
  have hLL0 : (L0.length : Int) ≤ 9223372036854775807 := by omega
  have hnn0 : (T0.length : Int) ≤ 9223372036854775807 := by omega
  have HM1 := Lib.hid (show ∀ j : Nat, j < T1.length → ((rowAt T1 j).length : Int) ≤ 9223372036854775807 from fun j hj => by have := hm1 j hj; omega)
  have hLL1 : (L1.length : Int) ≤ 9223372036854775807 := by omega
  have hnn1 : (T1.length : Int) ≤ 9223372036854775807 := by omega
  obtain ⟨w1, hw1⟩ : ∃ w1, w1 = ((w.alloc (.cells #[.slice a0 L0.length ca0, .slice b0 T0.length cb0] 25)).alloc (.cells #[.slice a1 L1.length ca1, .slice b1 T1.length cb1] 25)) := ⟨_, rfl⟩
  have hB : Below w.heap.size w w1 := by rw [hw1]; exact (((Below.refl _ _).alloc (Nat.le_refl _) _).alloc (by simp; try omega) _)
  have hx0 : w1.heap[w.heap.size]? = some (.cells #[.slice a0 L0.length ca0, .slice b0 T0.length cb0] 25 (0, 0)) := by rw [hw1, Below.heap_alloc _ _ _ (by simp)]; exact heap_alloc_new w _
  have Kx0 := Lib.hid (show ∀ wz, Below w1.heap.size w1 wz → wz.heap[w.heap.size]? = some (.cells #[.slice a0 L0.length ca0, .slice b0 T0.length cb0] 25 (0, 0)) from fun wz h => (h.block _ (lt_of_block hx0)).trans hx0)
  have HR0 := Lib.hid (hr0.below hB)
  have HT0 := Lib.hid (ht0.below hB)
  have hx1 : w1.heap[(w.heap.size + 1)]? = some (.cells #[.slice a1 L1.length ca1, .slice b1 T1.length cb1] 25 (0, 0)) := by rw [hw1]; exact heap_alloc2_new _ _ _
  have Kx1 := Lib.hid (show ∀ wz, Below w1.heap.size w1 wz → wz.heap[(w.heap.size + 1)]? = some (.cells #[.slice a1 L1.length ca1, .slice b1 T1.length cb1] 25 (0, 0)) from fun wz h => (h.block _ (lt_of_block hx1)).trans hx1)
  have HR1 := Lib.hid (hr1.below hB)
  have HT1 := Lib.hid (ht1.below hB)
  have HR2 := Lib.hid (hr2.below hB)
  have z0 : Below w1.heap.size w1 w1 := Below.refl _ _
  by_cases hb2 : 1048576 < L2.length
  · have hc2 : (1048576 : Int) < (L2.length : Int) := by omega
    go_enter Try.func8, Try.ntmps8
    go_wp2_with (rw [← hw1]; clear hw1)
    go_ret
    exact ⟨rfl, hB⟩
  have hs2 : L2.length ≤ 1048576 := by omega
  have hss2 : (L2.length : Int) ≤ 1048576 := by omega
  clear hb2
  obtain ⟨V, hV⟩ : ∃ V, V = isMapB L0 T0 L1 T1 L2 := ⟨_, rfl⟩
  have HS := Lib.hid (show ∀ (a0 b0 a1 b1 a2 : Option Addr) (ca0 cb0 ca1 cb1 ca2 : Nat) (w : World), Rd w a0 L0 → RdT w b0 T0 → Rd w a1 L1 → RdT w b1 T1 → Rd w a2 L2 → Calls Try.prog 34 #[.agg #[.slice a0 L0.length ca0, .slice b0 T0.length cb0], .agg #[.slice a1 L1.length ca1, .slice b1 T1.length cb1], .slice a2 L2.length ca2] w fun e w' => e = .returned (.bool V) ∧ Below w.heap.size w w' from fun a0 b0 a1 b1 a2 ca0 cb0 ca1 cb1 ca2 w h0 h1 h2 h3 h4 => by rw [hV]; exact specIsMap_any a0 b0 ca0 cb0 L0 T0 a1 b1 ca1 cb1 L1 T1 a2 ca2 L2 w h0 h1 h2 h3 h4 hs2)
  have HI := Lib.hid (show ∀ (a0 b0 a1 b1 a2 : Option Addr) (ca0 cb0 ca1 cb1 ca2 : Nat) (w : World), Rd w a0 L0 → RdT w b0 T0 → Rd w a1 L1 → RdT w b1 T1 → Rd w a2 L2 → Calls Try.prog 35 #[.agg #[.slice a0 L0.length ca0, .slice b0 T0.length cb0], .agg #[.slice a1 L1.length ca1, .slice b1 T1.length cb1], .slice a2 L2.length ca2] w fun e w' => e = .returned (.bool V) ∧ Below w.heap.size w w' from fun a0 b0 a1 b1 a2 ca0 cb0 ca1 cb1 ca2 w h0 h1 h2 h3 h4 => by rw [hV]; exact implIsMap_any a0 b0 ca0 cb0 L0 T0 a1 b1 ca1 cb1 L1 T1 a2 ca2 L2 w h0 h1 h2 h3 h4 hs2)
  clear hV hm0 ht0 hx0 hm1 ht1 hx1 hr0 hr1 hr2
  go_enter Try.func8, Try.ntmps8
  go_wp2_with (first | (rw [← hw1]; clear hw1) | (refine wpList_load_row_w rfl 25 _ rfl w.heap.size rfl _ _ _ _ (Kx0.out _ (by first | assumption | exact (by assumption : Below _ w1 _).alloc (Below.size (by assumption)) _)) Try.underlying25 rfl (size_LAlg _ _) ?_) | (refine wpList_load_row_w rfl 25 _ rfl (w.heap.size + 1) rfl _ _ _ _ (Kx1.out _ (by first | assumption | exact (by assumption : Below _ w1 _).alloc (Below.size (by assumption)) _)) Try.underlying25 rfl (size_LAlg _ _) ?_))
  refine (szAlgebra_any _ _ _ _ L0 T0 1048576 _ (HT0.out.below z0) (by omega) (by omega) hLL0 HM0.out hnn0).mono ?_
  rintro e s0w ⟨⟨v0, rfl, p0, q0, r0⟩, hbs0⟩
  have z21 := z0.trans (hbs0.mono z0.size)
  clear z0 hbs0
  by_cases hv0 : v0 < 0
  · go_wp2
    go_ret
    exact ⟨rfl, hB.trans (z21.mono hB.size)⟩
  obtain ⟨s1, s2, s3⟩ := r0 (by omega)
  have S10 : L0.length ≤ 1048576 := by omega
  have S20 : T0.length ≤ 1048576 := by omega
  have S30 := Lib.hid (show ∀ j : Nat, j < T0.length → (rowAt T0 j).length ≤ 1048576 from fun j hj => by have := s3 j hj; omega)
  clear s1 s2 s3 r0
  go_wp2_with (first | (refine wpList_load_row_w rfl 25 _ rfl w.heap.size rfl _ _ _ _ (Kx0.out _ (by first | assumption | exact (by assumption : Below _ w1 _).alloc (Below.size (by assumption)) _)) Try.underlying25 rfl (size_LAlg _ _) ?_) | (refine wpList_load_row_w rfl 25 _ rfl (w.heap.size + 1) rfl _ _ _ _ (Kx1.out _ (by first | assumption | exact (by assumption : Below _ w1 _).alloc (Below.size (by assumption)) _)) Try.underlying25 rfl (size_LAlg _ _) ?_))
  refine (szAlgebra_any _ _ _ _ L1 T1 v0 _ (HT1.out.below z21) (by omega) (by omega) hLL1 HM1.out hnn1).mono ?_
  rintro e s1w ⟨⟨v1, rfl, p1, q1, r1⟩, hbs1⟩
  have z22 := z21.trans (hbs1.mono z21.size)
  clear z21 hbs1
  by_cases hv1 : v1 < 0
  · go_wp2
    go_ret
    exact ⟨rfl, hB.trans (z22.mono hB.size)⟩
  obtain ⟨s1, s2, s3⟩ := r1 (by omega)
  have S11 : L1.length ≤ 1048576 := by omega
  have S21 : T1.length ≤ 1048576 := by omega
  have S31 := Lib.hid (show ∀ j : Nat, j < T1.length → (rowAt T1 j).length ≤ 1048576 from fun j hj => by have := s3 j hj; omega)
  clear s1 s2 s3 r1
  go_wp2_with (first | (refine wpList_load_row_w rfl 25 _ rfl w.heap.size rfl _ _ _ _ (Kx0.out _ (by first | assumption | exact (by assumption : Below _ w1 _).alloc (Below.size (by assumption)) _)) Try.underlying25 rfl (size_LAlg _ _) ?_) | (refine wpList_load_row_w rfl 25 _ rfl (w.heap.size + 1) rfl _ _ _ _ (Kx1.out _ (by first | assumption | exact (by assumption : Below _ w1 _).alloc (Below.size (by assumption)) _)) Try.underlying25 rfl (size_LAlg _ _) ?_))
  refine wp_region_any (by kernel_rfl) ?_
  refine any_of_C (C := fun wz => Below w1.heap.size w1 wz) _ _ _ _ ?_
  refine anyC_take (i := 0) (v := .agg #[.slice a0 L0.length ca0, .slice b0 T0.length cb0]) rfl (by kernel_rfl) (by kernel_rfl) (by kernel_rfl) (fun _ _ _ h => h) (.inl ⟨rfl, fun wz hz => runs_load (C := fun wz => Below w1.heap.size w1 wz) 25 _ rfl w.heap.size rfl _ _ _ _ (fun w hw => Kx0.out _ hw) Try.underlying25 rfl (size_LAlg _ _) wz hz⟩) ?_
  refine anyC_take (i := 2) (v := .agg #[.slice a1 L1.length ca1, .slice b1 T1.length cb1]) rfl (by kernel_rfl) (by kernel_rfl) (by kernel_rfl) (fun _ _ _ h => h) (.inl ⟨rfl, fun wz hz => runs_load (C := fun wz => Below w1.heap.size w1 wz) 25 _ rfl (w.heap.size + 1) rfl _ _ _ _ (fun w hw => Kx1.out _ hw) Try.underlying25 rfl (size_LAlg _ _) wz hz⟩) ?_
  refine anyC_take (i := 4) (v := .slice a2 L2.length ca2) rfl (by kernel_rfl) (by kernel_rfl) (by kernel_rfl) (fun _ _ _ h => h) (.inl ⟨rfl, fun wz hz => by apply runs_move <;> rfl⟩) ?_
  have zd : Below w1.heap.size w1 (s1w.drewN 1) := z22.trans (Dr.below ⟨1, rfl⟩ _)
  clear z22
  refine anyC_call (i := 1) (o := _) (f := 17) (args := #[.agg #[.slice a0 L0.length ca0, .slice b0 T0.length cb0]]) rfl (by kernel_rfl) rfl (by apply runs_call1 (he := enters_toA_IsMap) <;> rfl) zd ?_
  refine (toAlgebra_any _ _ _ _ L0 T0 _ (HR0.out.below zd) (HT0.out.below zd) S10 S20 S30.out).mono ?_
  rintro e m0w ⟨bum0, Bm0, Rm0, rfl, lom0, hbBm0, rowm0, ownm0, hbm0⟩
  have z23 := zd.trans (hbm0.mono zd.size)
  clear hbm0
  refine ⟨_, rfl, ?_⟩
  refine anyC_call (i := 3) (o := _) (f := 17) (args := #[.agg #[.slice a1 L1.length ca1, .slice b1 T1.length cb1]]) rfl (by kernel_rfl) rfl (by apply runs_call1 (he := enters_toA_IsMap) <;> rfl) z23 ?_
  refine (toAlgebra_any _ _ _ _ L1 T1 _ (HR1.out.below z23) (HT1.out.below z23) S11 S21 S31.out).mono ?_
  rintro e m1w ⟨bum1, Bm1, Rm1, rfl, lom1, hbBm1, rowm1, ownm1, hbm1⟩
  have z24 := z23.trans (hbm1.mono z23.size)
  replace rowm0 := rowm0.below hbm1 rowm0.lt
  replace ownm0 := ownm0.below hbm1
  clear hbm1
  refine ⟨_, rfl, ?_⟩
  refine anyC_call (i := 5) (o := _) (f := 21) (args := #[.slice a2 L2.length ca2]) rfl (by kernel_rfl) rfl (by apply runs_call1 (he := enters_toI_IsMap) <;> rfl) z24 ?_
  refine (toIntS_any _ _ L2 _ (HR2.out.below z24) hs2).mono ?_
  rintro e m2w ⟨rfl, rowm2, hbm2⟩
  have z25 := z24.trans (hbm2.mono z24.size)
  replace rowm0 := rowm0.below hbm2 rowm0.lt
  replace ownm0 := ownm0.below hbm2
  replace rowm1 := rowm1.below hbm2 rowm1.lt
  replace ownm1 := ownm1.below hbm2
  clear hbm2
  refine ⟨_, rfl, ?_⟩
  refine anyC_call (i := 6) (o := _) (f := 34) (args := #[.agg #[.slice (some ⟨bum0, 0, none⟩) L0.length L0.length, .slice (some ⟨Bm0, 0, none⟩) T0.length T0.length], .agg #[.slice (some ⟨bum1, 0, none⟩) L1.length L1.length, .slice (some ⟨Bm1, 0, none⟩) T1.length T1.length], .slice (some ⟨m1w.heap.size, 0, none⟩) L2.length L2.length]) rfl (by kernel_rfl) rfl (by apply runs_call3 (he := enters_sp_IsMap) <;> rfl) z25 ?_
  refine (HS.out _ _ _ _ _ _ _ _ _ _ _ rowm0.rd ownm0.rd rowm1.rd ownm1.rd rowm2.rd).mono ?_
  rintro e wS ⟨rfl, hbS⟩
  have z26 := z25.trans (hbS.mono z25.size)
  clear z25 hbS
  clear rowm0 ownm0 rowm1 ownm1 rowm2
  refine ⟨_, rfl, ?_⟩
  refine anyC_take (i := 7) (v := .bool V) rfl (by kernel_rfl) (by kernel_rfl) (by kernel_rfl) (fun _ _ _ h => h) (.inl ⟨rfl, fun wz hz => by apply runs_assign <;> rfl⟩) ?_
  refine anyC_done (by kernel_rfl) z26 ?_ _
  simp only [List.getElem_toArray, List.getElem_cons_zero, List.getElem_cons_succ, Act.put, List.setIfInBounds_toArray, List.set_cons_succ, List.set_cons_zero]
  go_wp2_with (first | (refine wpList_load_row_w rfl 25 _ rfl w.heap.size rfl _ _ _ _ (Kx0.out _ (by first | assumption | exact (by assumption : Below _ w1 _).alloc (Below.size (by assumption)) _)) Try.underlying25 rfl (size_LAlg _ _) ?_) | (refine wpList_load_row_w rfl 25 _ rfl (w.heap.size + 1) rfl _ _ _ _ (Kx1.out _ (by first | assumption | exact (by assumption : Below _ w1 _).alloc (Below.size (by assumption)) _)) Try.underlying25 rfl (size_LAlg _ _) ?_))
  refine (toAlgebra_any _ _ _ _ L0 T0 _ (HR0.out.below z26) (HT0.out.below z26) S10 S20 S30.out).mono ?_
  rintro e x0w ⟨bux0, Bx0, Rx0, rfl, lox0, hbBx0, rowx0, ownx0, hbx0⟩
  have z27 := z26.trans (hbx0.mono z26.size)
  clear z26 hbx0
  go_wp2_with (first | (refine wpList_load_row_w rfl 25 _ rfl w.heap.size rfl _ _ _ _ (Kx0.out _ (by first | assumption | exact (by assumption : Below _ w1 _).alloc (Below.size (by assumption)) _)) Try.underlying25 rfl (size_LAlg _ _) ?_) | (refine wpList_load_row_w rfl 25 _ rfl (w.heap.size + 1) rfl _ _ _ _ (Kx1.out _ (by first | assumption | exact (by assumption : Below _ w1 _).alloc (Below.size (by assumption)) _)) Try.underlying25 rfl (size_LAlg _ _) ?_))
  obtain ⟨g0, hg0⟩ : ∃ g, g = x0w.heap.size := ⟨_, rfl⟩
  obtain ⟨X0w, hX0⟩ : ∃ x, x = x0w.alloc (.cells #[.slice (some ⟨bux0, 0, none⟩) L0.length L0.length, .slice (some ⟨Bx0, 0, none⟩) T0.length T0.length] 28) := ⟨_, rfl⟩
  rw [← hX0, ← hg0]
  have hbX0 : Below x0w.heap.size x0w X0w := by rw [hX0]; exact (Below.refl _ _).alloc (Nat.le_refl _) _
  have hxx0 : X0w.heap[g0]? = some (.cells #[.slice (some ⟨bux0, 0, none⟩) L0.length L0.length, .slice (some ⟨Bx0, 0, none⟩) T0.length T0.length] 28 (0, 0)) := by rw [hX0, hg0]; exact heap_alloc_new x0w _
  have KX0 := Lib.hid (show ∀ wz, Below X0w.heap.size X0w wz → wz.heap[g0]? = some (.cells #[.slice (some ⟨bux0, 0, none⟩) L0.length L0.length, .slice (some ⟨Bx0, 0, none⟩) T0.length T0.length] 28 (0, 0)) from fun wz h => (h.block _ (lt_of_block hxx0)).trans hxx0)
  have row0 := Lib.hid (rowx0.below hbX0 rowx0.lt)
  have own0 := Lib.hid (ownx0.below hbX0)
  clear rowx0 ownx0 hX0 hg0 hxx0
  have z28 := z27.trans (hbX0.mono z27.size)
  clear z27 hbX0
  have y0z0 : Below X0w.heap.size X0w X0w := Below.refl _ _
  go_wp2_with (first | (refine wpList_load_row_w rfl 25 _ rfl w.heap.size rfl _ _ _ _ (Kx0.out _ (by first | assumption | exact (by assumption : Below _ w1 _).alloc (Below.size (by assumption)) _)) Try.underlying25 rfl (size_LAlg _ _) ?_) | (refine wpList_load_row_w rfl 25 _ rfl (w.heap.size + 1) rfl _ _ _ _ (Kx1.out _ (by first | assumption | exact (by assumption : Below _ w1 _).alloc (Below.size (by assumption)) _)) Try.underlying25 rfl (size_LAlg _ _) ?_) | (refine wpList_load_row_w rfl 28 _ rfl g0 rfl _ _ _ _ (KX0.out _ (by assumption)) Try.underlying28 rfl (size_Alg _ _) ?_))
  refine (toAlgebra_any _ _ _ _ L1 T1 _ (HR1.out.below z28) (HT1.out.below z28) S11 S21 S31.out).mono ?_
  rintro e x1w ⟨bux1, Bx1, Rx1, rfl, lox1, hbBx1, rowx1, ownx1, hbx1⟩
  have z29 := z28.trans (hbx1.mono z28.size)
  have y0z29 := y0z0.trans (hbx1.mono y0z0.size)
  clear z28 y0z0 hbx1
  go_wp2_with (first | (refine wpList_load_row_w rfl 25 _ rfl w.heap.size rfl _ _ _ _ (Kx0.out _ (by first | assumption | exact (by assumption : Below _ w1 _).alloc (Below.size (by assumption)) _)) Try.underlying25 rfl (size_LAlg _ _) ?_) | (refine wpList_load_row_w rfl 25 _ rfl (w.heap.size + 1) rfl _ _ _ _ (Kx1.out _ (by first | assumption | exact (by assumption : Below _ w1 _).alloc (Below.size (by assumption)) _)) Try.underlying25 rfl (size_LAlg _ _) ?_) | (refine wpList_load_row_w rfl 28 _ rfl g0 rfl _ _ _ _ (KX0.out _ (by assumption)) Try.underlying28 rfl (size_Alg _ _) ?_))
  obtain ⟨g1, hg1⟩ : ∃ g, g = x1w.heap.size := ⟨_, rfl⟩
  obtain ⟨X1w, hX1⟩ : ∃ x, x = x1w.alloc (.cells #[.slice (some ⟨bux1, 0, none⟩) L1.length L1.length, .slice (some ⟨Bx1, 0, none⟩) T1.length T1.length] 28) := ⟨_, rfl⟩
  rw [← hX1, ← hg1]
  have hbX1 : Below x1w.heap.size x1w X1w := by rw [hX1]; exact (Below.refl _ _).alloc (Nat.le_refl _) _
  have hxx1 : X1w.heap[g1]? = some (.cells #[.slice (some ⟨bux1, 0, none⟩) L1.length L1.length, .slice (some ⟨Bx1, 0, none⟩) T1.length T1.length] 28 (0, 0)) := by rw [hX1, hg1]; exact heap_alloc_new x1w _
  have KX1 := Lib.hid (show ∀ wz, Below X1w.heap.size X1w wz → wz.heap[g1]? = some (.cells #[.slice (some ⟨bux1, 0, none⟩) L1.length L1.length, .slice (some ⟨Bx1, 0, none⟩) T1.length T1.length] 28 (0, 0)) from fun wz h => (h.block _ (lt_of_block hxx1)).trans hxx1)
  have row1 := Lib.hid (rowx1.below hbX1 rowx1.lt)
  have own1 := Lib.hid (ownx1.below hbX1)
  clear rowx1 ownx1 hX1 hg1 hxx1
  have z30 := z29.trans (hbX1.mono z29.size)
  have y0z30 := y0z29.trans (hbX1.mono y0z29.size)
  clear z29 y0z29 hbX1
  have y1z0 : Below X1w.heap.size X1w X1w := Below.refl _ _
  go_wp2_with (first | (refine wpList_load_row_w rfl 25 _ rfl w.heap.size rfl _ _ _ _ (Kx0.out _ (by first | assumption | exact (by assumption : Below _ w1 _).alloc (Below.size (by assumption)) _)) Try.underlying25 rfl (size_LAlg _ _) ?_) | (refine wpList_load_row_w rfl 25 _ rfl (w.heap.size + 1) rfl _ _ _ _ (Kx1.out _ (by first | assumption | exact (by assumption : Below _ w1 _).alloc (Below.size (by assumption)) _)) Try.underlying25 rfl (size_LAlg _ _) ?_) | (refine wpList_load_row_w rfl 28 _ rfl g0 rfl _ _ _ _ (KX0.out _ (by assumption)) Try.underlying28 rfl (size_Alg _ _) ?_) | (refine wpList_load_row_w rfl 28 _ rfl g1 rfl _ _ _ _ (KX1.out _ (by assumption)) Try.underlying28 rfl (size_Alg _ _) ?_))
  refine (toIntS_any _ _ L2 _ (HR2.out.below z30) hs2).mono ?_
  rintro e x2w ⟨rfl, rowx2, hbx2⟩
  have z31 := z30.trans (hbx2.mono z30.size)
  have y0z31 := y0z30.trans (hbx2.mono y0z30.size)
  have y1z31 := y1z0.trans (hbx2.mono y1z0.size)
  clear z30 y0z30 y1z0 hbx2
  have row2 := Lib.hid rowx2
  clear rowx2
  have y2z0 : Below x2w.heap.size x2w x2w := Below.refl _ _
  go_wp2_with (first | (refine wpList_load_row_w rfl 25 _ rfl w.heap.size rfl _ _ _ _ (Kx0.out _ (by first | assumption | exact (by assumption : Below _ w1 _).alloc (Below.size (by assumption)) _)) Try.underlying25 rfl (size_LAlg _ _) ?_) | (refine wpList_load_row_w rfl 25 _ rfl (w.heap.size + 1) rfl _ _ _ _ (Kx1.out _ (by first | assumption | exact (by assumption : Below _ w1 _).alloc (Below.size (by assumption)) _)) Try.underlying25 rfl (size_LAlg _ _) ?_) | (refine wpList_load_row_w rfl 28 _ rfl g0 rfl _ _ _ _ (KX0.out _ (by assumption)) Try.underlying28 rfl (size_Alg _ _) ?_) | (refine wpList_load_row_w rfl 28 _ rfl g1 rfl _ _ _ _ (KX1.out _ (by assumption)) Try.underlying28 rfl (size_Alg _ _) ?_))
  refine (HI.out _ _ _ _ _ _ _ _ _ _ _ (row0.out.below y0z31 row0.out.lt).rd (own0.out.below y0z31).rd (row1.out.below y1z31 row1.out.lt).rd (own1.out.below y1z31).rd (row2.out.below y2z0 row2.out.lt).rd).mono ?_
  rintro e wI ⟨rfl, hbI⟩
  have z32 := z31.trans (hbI.mono z31.size)
  have y0z32 := y0z31.trans (hbI.mono y0z31.size)
  have y1z32 := y1z31.trans (hbI.mono y1z31.size)
  have y2z32 := y2z0.trans (hbI.mono y2z0.size)
  clear z31 y0z31 y1z31 y2z0 hbI
  have hne : (V != V) = false := by simp
  obtain ⟨c0, c1⟩ := bxL_cells (Kx0.out _ z32)
  obtain ⟨d0, d1⟩ := bx_cells (KX0.out _ y0z32)
  go_wp2
  go_region_with (first
    | (go_at_call 17; refine (toAlgebra_any _ _ _ _ L0 T0 _ (HR0.out.below z32.drew) (HT0.out.below z32.drew) S10 S20 S30.out).mono ?_; rintro e e0w ⟨bue, Be, Re, rfl, _, _, rowe, owne, hbe0⟩; have z33 := z32.drew.trans (hbe0.mono z32.drew.size); have y0z33 := y0z32.drew.trans (hbe0.mono y0z32.drew.size); have y1z33 := y1z32.drew.trans (hbe0.mono y1z32.drew.size); have y2z33 := y2z32.drew.trans (hbe0.mono y2z32.drew.size); obtain ⟨e0, e1⟩ := bx_cells (KX0.out _ y0z33))
    | (go_at_call 19; refine (eqAlgebra_same _ _ _ _ _ _ _ _ L0 T0 _ (row0.out.below y0z33 row0.out.lt).rd rowe.rd (own0.out.below y0z33).rd owne.rd (by omega) (fun j hj => Nat.le_trans (S30.out j hj) (by decide)) (by omega)).mono ?_; rintro e f0w ⟨rfl, hbf0⟩; have z34 := z33.trans (hbf0.mono z33.size); have y0z34 := y0z33.trans (hbf0.mono y0z33.size); have y1z34 := y1z33.trans (hbf0.mono y1z33.size); have y2z34 := y2z33.trans (hbf0.mono y2z33.size)))
  all_goals
    clear c0 c1 d0 d1 e0 e1 rowe owne hbe0 hbf0 z32 y0z32 y1z32 y2z32 z33 y0z33 y1z33 y2z33
    obtain ⟨c0, c1⟩ := bxL_cells (Kx1.out _ z34)
    obtain ⟨d0, d1⟩ := bx_cells (KX1.out _ y1z34)
    go_wp2
    go_region_with (first
      | (go_at_call 17; refine (toAlgebra_any _ _ _ _ L1 T1 _ (HR1.out.below z34.drew) (HT1.out.below z34.drew) S11 S21 S31.out).mono ?_; rintro e e1w ⟨bue, Be, Re, rfl, _, _, rowe, owne, hbe1⟩; have z35 := z34.drew.trans (hbe1.mono z34.drew.size); have y0z35 := y0z34.drew.trans (hbe1.mono y0z34.drew.size); have y1z35 := y1z34.drew.trans (hbe1.mono y1z34.drew.size); have y2z35 := y2z34.drew.trans (hbe1.mono y2z34.drew.size); obtain ⟨e0, e1⟩ := bx_cells (KX1.out _ y1z35))
      | (go_at_call 19; refine (eqAlgebra_same _ _ _ _ _ _ _ _ L1 T1 _ (row1.out.below y1z35 row1.out.lt).rd rowe.rd (own1.out.below y1z35).rd owne.rd (by omega) (fun j hj => Nat.le_trans (S31.out j hj) (by decide)) (by omega)).mono ?_; rintro e f1w ⟨rfl, hbf1⟩; have z36 := z35.trans (hbf1.mono z35.size); have y0z36 := y0z35.trans (hbf1.mono y0z35.size); have y1z36 := y1z35.trans (hbf1.mono y1z35.size); have y2z36 := y2z35.trans (hbf1.mono y2z35.size)))
    all_goals
      clear c0 c1 d0 d1 e0 e1 rowe owne hbe1 hbf1 z34 y0z34 y1z34 y2z34 z35 y0z35 y1z35 y2z35
      go_wp2_with (first | (refine wpList_load_row_w rfl 25 _ rfl w.heap.size rfl _ _ _ _ (Kx0.out _ (by first | assumption | exact (by assumption : Below _ w1 _).alloc (Below.size (by assumption)) _)) Try.underlying25 rfl (size_LAlg _ _) ?_) | (refine wpList_load_row_w rfl 25 _ rfl (w.heap.size + 1) rfl _ _ _ _ (Kx1.out _ (by first | assumption | exact (by assumption : Below _ w1 _).alloc (Below.size (by assumption)) _)) Try.underlying25 rfl (size_LAlg _ _) ?_) | (refine wpList_load_row_w rfl 28 _ rfl g0 rfl _ _ _ _ (KX0.out _ (by assumption)) Try.underlying28 rfl (size_Alg _ _) ?_) | (refine wpList_load_row_w rfl 28 _ rfl g1 rfl _ _ _ _ (KX1.out _ (by assumption)) Try.underlying28 rfl (size_Alg _ _) ?_))
      refine (toIntS_any _ _ L2 _ (HR2.out.below z36) hs2).mono ?_
      rintro e t2w ⟨rfl, rowt, hbt2⟩
      have z37 := z36.trans (hbt2.mono z36.size)
      have y0z37 := y0z36.trans (hbt2.mono y0z36.size)
      have y1z37 := y1z36.trans (hbt2.mono y1z36.size)
      have y2z37 := y2z36.trans (hbt2.mono y2z36.size)
      clear z36 y0z36 y1z36 y2z36 hbt2
      go_wp2_with fail
      refine (eqIntS_same _ _ _ _ L2 _ (row2.out.below y2z37 row2.out.lt).rd rowt.rd (by omega)).mono ?_
      rintro e u2w ⟨rfl, hdu2⟩
      have hbu2 := hdu2.below t2w.heap.size
      have z38 := z37.trans (hbu2.mono z37.size)
      have y0z38 := y0z37.trans (hbu2.mono y0z37.size)
      have y1z38 := y1z37.trans (hbu2.mono y1z37.size)
      have y2z38 := y2z37.trans (hbu2.mono y2z37.size)
      clear z37 y0z37 y1z37 y2z37 hbu2
      clear rowt hdu2
      go_wp2
      go_ret
      exact ⟨rfl, hB.trans (z38.mono hB.size)⟩
end Go.Proofs.Ytmapofenghjinaa
