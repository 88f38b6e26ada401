import Derived.Test.YtljnbhnnjfnjeaaB12
import Derived.Test.YtljnbhnnjfnjeaaB11
import Derived.Test.YtljnbhnnjfnjeaaD3
import Derived.Test.YtljnbhnnjfnjeaaL6
namespace Go.Proofs.Ytljnbhnnjfnjeaa
open Go.RowKit

def isMapB (L : List Int) (T : List (List Int)) (M : List Int) (U : List (List Int)) (F : List Int) : Bool := algB L T && (algB M U && mpB L T M U F)
set_option maxRecDepth 100000 in
set_option maxHeartbeats 2000000 in
/-- spec.IsMap -/
theorem specIsMap_any (a b : Option Addr) (ca cb : Nat) (L : List Int) (T : List (List Int)) (a2 b2 : Option Addr) (ca2 cb2 : Nat) (M : List Int) (U : List (List Int)) (af : Option Addr) (cf : Nat) (F : List Int) (w : World) (hr : Rd w a L) (hT : RdT w b T) (hr2 : Rd w a2 M) (hT2 : RdT w b2 U) (hf : Rd w af F) (_ : F.length ≤ 1048576) :
    Calls Try.prog 8 #[.agg #[.slice a L.length ca, .slice b T.length cb], .agg #[.slice a2 M.length ca2, .slice b2 U.length cb2], .slice af F.length cf] w fun e w' => e = .returned (.bool (isMapB L T M U F)) ∧ Below w.heap.size w w' := by
  obtain ⟨w1, hw1⟩ : ∃ w1, w1 = (w.alloc (.cells #[.slice a L.length ca, .slice b T.length cb] 26)).alloc (.cells #[.slice a2 M.length ca2, .slice b2 U.length cb2] 26) := ⟨_, rfl⟩
  have hB : Below w.heap.size w w1 := by rw [hw1]; exact ((Below.refl _ _).alloc (Nat.le_refl _) _).alloc (by simp) _
  have hx : w1.heap[w.heap.size]? = some (.cells #[.slice a L.length ca, .slice b T.length cb] 26 (0, 0)) := by rw [hw1, Below.heap_alloc _ _ _ (by simp)]; exact heap_alloc_new w _
  have hx2 : w1.heap[w.heap.size + 1]? = some (.cells #[.slice a2 M.length ca2, .slice b2 U.length cb2] 26 (0, 0)) := by rw [hw1]; exact heap_alloc2_new _ _ _
  have Kx := Lib.hid (show ∀ wz, Below w1.heap.size w1 wz → wz.heap[w.heap.size]? = some (.cells #[.slice a L.length ca, .slice b T.length cb] 26 (0, 0)) from fun wz h => (h.block _ (lt_of_block hx)).trans hx)
  have Kx2 := Lib.hid (show ∀ wz, Below w1.heap.size w1 wz → wz.heap[w.heap.size + 1]? = some (.cells #[.slice a2 M.length ca2, .slice b2 U.length cb2] 26 (0, 0)) from fun wz h => (h.block _ (lt_of_block hx2)).trans hx2)
  have KR := Lib.hid (show ∀ wz, Below w1.heap.size w1 wz → Rd wz a L from fun wz h => (hr.below hB).below h)
  have KT := Lib.hid (show ∀ wz, Below w1.heap.size w1 wz → RdT wz b T from fun wz h => (hT.below hB).below h)
  have KR2 := Lib.hid (show ∀ wz, Below w1.heap.size w1 wz → Rd wz a2 M from fun wz h => (hr2.below hB).below h)
  have KT2 := Lib.hid (show ∀ wz, Below w1.heap.size w1 wz → RdT wz b2 U from fun wz h => (hT2.below hB).below h)
  have KF := Lib.hid (show ∀ wz, Below w1.heap.size w1 wz → Rd wz af F from fun wz h => (hf.below hB).below h)
  have z1 : Below w1.heap.size w1 w1 := Below.refl _ _
  have hzc : Try.zeroCells52 = zeroAlg := by kernel_rfl
  clear hr hT hr2 hT2 hf hx hx2
  have hv := Lib.hid (show isMapB L T M U F = (algB L T && (algB M U && mpB L T M U F)) from rfl)
  cases hA : algB L T <;> cases hA2 : algB M U
  all_goals
    rw [hA, hA2] at hv
    have HA := Lib.hid hA
    have HA2 := Lib.hid hA2
    clear hA hA2
    go_enter Try.func8, Try.ntmps8
    go_wp2_with (first
      | go_skip
      | (rw [← hw1]; clear hw1)
      | (refine wpList_load_row_w rfl 26 _ rfl w.heap.size rfl _ _ _ _ (Kx.out _ (by assumption)) Try.underlying26 rfl (size_Alg _ _) ?_)
      | (refine wpList_load_row_w rfl 26 _ rfl (w.heap.size + 1) rfl _ _ _ _ (Kx2.out _ (by assumption)) Try.underlying26 rfl (size_Alg _ _) ?_)
      | (go_at_call_of 27 (Value.agg #[.slice a L.length ca, .slice b T.length cb]); refine (ret_below (validAlgebra_any _ _ _ _ L T _ (KR.out _ z1) (KT.out _ z1)) HA.out).mono ?_; rintro e w2 ⟨rfl, h2⟩; have z2 : Below w1.heap.size w1 w2 := h2; clear h2)
      | (go_at_call 27; refine (ret_below (validAlgebra_any _ _ _ _ M U _ (KR2.out _ z2) (KT2.out _ z2)) HA2.out).mono ?_; rintro e w3 ⟨rfl, h3⟩; have z3 : Below w1.heap.size w1 w3 := z2.trans (h3.mono z2.size); clear h3)
      | (go_at_call 28; refine (specIsMapM_any _ _ _ _ L T _ _ _ _ M U af cf F _ (KR.out _ z3) (KT.out _ z3) (KR2.out _ z3) (KT2.out _ z3) (KF.out _ z3) HA.out HA2.out).mono ?_; rintro e w4 ⟨rfl, h4⟩; have z4 : Below w1.heap.size w1 w4 := z3.trans (h4.mono z3.size)))
    go_ret
    exact ⟨ret_bool (by rw [hv.out]; rfl), hB.trans (Below.mono (by assumption) hB.size)⟩
theorem mp_read {L : List Int} {T : List (List Int)} {M : List Int} {U : List (List Int)} {F : List Int} (h : algB L T = true) (h2 : algB M U = true) : isMapB L T M U F = (decide (num F = num L) && (withB M F && msB L T M U F)) := by
  unfold isMapB; rw [h, h2, Bool.true_and, Bool.true_and, mp_eq h]
set_option maxRecDepth 100000 in
set_option maxHeartbeats 2000000 in
theorem implIsMap_n1 (a b : Option Addr) (ca cb : Nat) (L : List Int) (T : List (List Int)) (a2 b2 : Option Addr) (ca2 cb2 : Nat) (M : List Int) (U : List (List Int)) (af : Option Addr) (cf : Nat) (F : List Int) (w : World) (hr : Rd w a L) (hT : RdT w b T) (hr2 : Rd w a2 M) (hT2 : RdT w b2 U) (hf : Rd w af F) (h : algB L T = false) (h2 : algB M U = false) :
    Calls Try.prog 7 #[.agg #[.slice a L.length ca, .slice b T.length cb], .agg #[.slice a2 M.length ca2, .slice b2 U.length cb2], .slice af F.length cf] w fun e w' => e = .returned (.bool (isMapB L T M U F)) ∧ Below w.heap.size w w' := by
  obtain ⟨w1, hw1⟩ : ∃ w1, w1 = (w.alloc (.cells #[.slice a L.length ca, .slice b T.length cb] 26)).alloc (.cells #[.slice a2 M.length ca2, .slice b2 U.length cb2] 26) := ⟨_, rfl⟩
  have hB : Below w.heap.size w w1 := by rw [hw1]; exact ((Below.refl _ _).alloc (Nat.le_refl _) _).alloc (by simp) _
  have hx : w1.heap[w.heap.size]? = some (.cells #[.slice a L.length ca, .slice b T.length cb] 26 (0, 0)) := by rw [hw1, Below.heap_alloc _ _ _ (by simp)]; exact heap_alloc_new w _
  have hx2 : w1.heap[w.heap.size + 1]? = some (.cells #[.slice a2 M.length ca2, .slice b2 U.length cb2] 26 (0, 0)) := by rw [hw1]; exact heap_alloc2_new _ _ _
  have Kx := Lib.hid (show ∀ wz, Below w1.heap.size w1 wz → wz.heap[w.heap.size]? = some (.cells #[.slice a L.length ca, .slice b T.length cb] 26 (0, 0)) from fun wz h => (h.block _ (lt_of_block hx)).trans hx)
  have Kx2 := Lib.hid (show ∀ wz, Below w1.heap.size w1 wz → wz.heap[w.heap.size + 1]? = some (.cells #[.slice a2 M.length ca2, .slice b2 U.length cb2] 26 (0, 0)) from fun wz h => (h.block _ (lt_of_block hx2)).trans hx2)
  have KR := Lib.hid (show ∀ wz, Below w1.heap.size w1 wz → Rd wz a L from fun wz h => (hr.below hB).below h)
  have KT := Lib.hid (show ∀ wz, Below w1.heap.size w1 wz → RdT wz b T from fun wz h => (hT.below hB).below h)
  have KR2 := Lib.hid (show ∀ wz, Below w1.heap.size w1 wz → Rd wz a2 M from fun wz h => (hr2.below hB).below h)
  have KT2 := Lib.hid (show ∀ wz, Below w1.heap.size w1 wz → RdT wz b2 U from fun wz h => (hT2.below hB).below h)
  have KF := Lib.hid (show ∀ wz, Below w1.heap.size w1 wz → Rd wz af F from fun wz h => (hf.below hB).below h)
  have z1 : Below w1.heap.size w1 w1 := Below.refl _ _
  have hzc : Try.zeroCells52 = zeroAlg := by kernel_rfl
  clear hr hT hr2 hT2 hf hx hx2
  have hv := Lib.hid (show isMapB L T M U F = false by unfold isMapB; rw [h, h2]; rfl)
  have HA := Lib.hid h
  have HA2 := Lib.hid h2
  clear h h2
  go_enter Try.func7, Try.ntmps7
  go_wp2_with (first
    | go_skip
    | (rw [← hw1]; clear hw1)
    | (refine wpList_load_row_w rfl 26 _ rfl w.heap.size rfl _ _ _ _ (Kx.out _ (by assumption)) Try.underlying26 rfl (size_Alg _ _) ?_)
    | (refine wpList_load_row_w rfl 26 _ rfl (w.heap.size + 1) rfl _ _ _ _ (Kx2.out _ (by assumption)) Try.underlying26 rfl (size_Alg _ _) ?_)
    | (go_at_call 24; refine (readBoth_no1 _ _ _ _ L T _ _ _ _ M U _ (KR.out _ z1) (KT.out _ z1) (KR2.out _ z1) (KT2.out _ z1) HA.out HA2.out).mono ?_; rintro e w2 ⟨rfl, h2⟩; have z2 : Below w1.heap.size w1 w2 := h2; have s2 := z2.size; obtain ⟨wp, hwp⟩ : ∃ x, x = w2.alloc (.cells zeroAlg 52) := ⟨_, rfl⟩; have sp : wp.heap.size = w2.heap.size + 1 := (by rw [hwp]; simp); obtain ⟨wq, hwq⟩ : ∃ x, x = wp.alloc (.cells zeroAlg 52) := ⟨_, rfl⟩; have zq : Below w1.heap.size w1 wq := (by rw [hwq]; exact Below.alloc (by rw [hwp]; exact z2.alloc z2.size _) (by omega) _); have h4 : wq.heap[w2.heap.size]? = some (.cells zeroAlg 52 (0, 0)) := (by rw [hwq, Below.heap_alloc _ _ _ (by omega), hwp]; exact heap_alloc_new w2 _); have h5 : wq.heap[w2.heap.size + 1]? = some (.cells zeroAlg 52 (0, 0)) := (by rw [hwq, ← sp]; exact heap_alloc_new wp _); have hwe : wq = (w2.alloc (.cells zeroAlg 52)).alloc (.cells zeroAlg 52) := (by rw [hwq, hwp]); clear hwp hwq sp)
    | (rw [← hwe]; clear hwe)
    | (refine wpList_store_row rfl 52 _ _ rfl w2.heap.size zeroAlg rfl rfl _ _ h4 size_zeroAlg rfl one_zeroAlg ?_; obtain ⟨w8, hw8⟩ : ∃ x, x = wq.setRow w2.heap.size zeroAlg := ⟨_, rfl⟩; rw [← hw8]; have z8 : Below w1.heap.size w1 w8 := (by rw [hw8]; exact below_setRow' zq (by omega) _); have n8 : w8.heap[w2.heap.size + 1]? = some (.cells zeroAlg 52 (0, 0)) := (by rw [hw8, setRow_other _ _ _ _ (by omega)]; exact h5); clear hw8)
    | (refine wpList_store_row rfl 52 _ _ rfl (w2.heap.size + 1) zeroAlg rfl rfl _ _ n8 size_zeroAlg rfl one_zeroAlg ?_; obtain ⟨w9, hw9⟩ : ∃ x, x = w8.setRow (w2.heap.size + 1) zeroAlg := ⟨_, rfl⟩; rw [← hw9]; have z9 : Below w1.heap.size w1 w9 := (by rw [hw9]; exact below_setRow' z8 (by omega) _); clear hw9))
  go_ret
  exact ⟨ret_bool (by rw [hv.out]), hB.trans (z9.mono hB.size)⟩
set_option maxRecDepth 100000 in
set_option maxHeartbeats 2000000 in
theorem implIsMap_n2 (a b : Option Addr) (ca cb : Nat) (L : List Int) (T : List (List Int)) (a2 b2 : Option Addr) (ca2 cb2 : Nat) (M : List Int) (U : List (List Int)) (af : Option Addr) (cf : Nat) (F : List Int) (w : World) (hr : Rd w a L) (hT : RdT w b T) (hr2 : Rd w a2 M) (hT2 : RdT w b2 U) (hf : Rd w af F) (h : algB L T = false) (h2 : algB M U = true) :
    Calls Try.prog 7 #[.agg #[.slice a L.length ca, .slice b T.length cb], .agg #[.slice a2 M.length ca2, .slice b2 U.length cb2], .slice af F.length cf] w fun e w' => e = .returned (.bool (isMapB L T M U F)) ∧ Below w.heap.size w w' := by
  obtain ⟨w1, hw1⟩ : ∃ w1, w1 = (w.alloc (.cells #[.slice a L.length ca, .slice b T.length cb] 26)).alloc (.cells #[.slice a2 M.length ca2, .slice b2 U.length cb2] 26) := ⟨_, rfl⟩
  have hB : Below w.heap.size w w1 := by rw [hw1]; exact ((Below.refl _ _).alloc (Nat.le_refl _) _).alloc (by simp) _
  have hx : w1.heap[w.heap.size]? = some (.cells #[.slice a L.length ca, .slice b T.length cb] 26 (0, 0)) := by rw [hw1, Below.heap_alloc _ _ _ (by simp)]; exact heap_alloc_new w _
  have hx2 : w1.heap[w.heap.size + 1]? = some (.cells #[.slice a2 M.length ca2, .slice b2 U.length cb2] 26 (0, 0)) := by rw [hw1]; exact heap_alloc2_new _ _ _
  have Kx := Lib.hid (show ∀ wz, Below w1.heap.size w1 wz → wz.heap[w.heap.size]? = some (.cells #[.slice a L.length ca, .slice b T.length cb] 26 (0, 0)) from fun wz h => (h.block _ (lt_of_block hx)).trans hx)
  have Kx2 := Lib.hid (show ∀ wz, Below w1.heap.size w1 wz → wz.heap[w.heap.size + 1]? = some (.cells #[.slice a2 M.length ca2, .slice b2 U.length cb2] 26 (0, 0)) from fun wz h => (h.block _ (lt_of_block hx2)).trans hx2)
  have KR := Lib.hid (show ∀ wz, Below w1.heap.size w1 wz → Rd wz a L from fun wz h => (hr.below hB).below h)
  have KT := Lib.hid (show ∀ wz, Below w1.heap.size w1 wz → RdT wz b T from fun wz h => (hT.below hB).below h)
  have KR2 := Lib.hid (show ∀ wz, Below w1.heap.size w1 wz → Rd wz a2 M from fun wz h => (hr2.below hB).below h)
  have KT2 := Lib.hid (show ∀ wz, Below w1.heap.size w1 wz → RdT wz b2 U from fun wz h => (hT2.below hB).below h)
  have KF := Lib.hid (show ∀ wz, Below w1.heap.size w1 wz → Rd wz af F from fun wz h => (hf.below hB).below h)
  have z1 : Below w1.heap.size w1 w1 := Below.refl _ _
  have hzc : Try.zeroCells52 = zeroAlg := by kernel_rfl
  clear hr hT hr2 hT2 hf hx hx2
  have hv := Lib.hid (show isMapB L T M U F = false by unfold isMapB; rw [h, h2]; rfl)
  have HA := Lib.hid h
  have HA2 := Lib.hid h2
  clear h h2
  go_enter Try.func7, Try.ntmps7
  go_wp2_with (first
    | go_skip
    | (rw [← hw1]; clear hw1)
    | (refine wpList_load_row_w rfl 26 _ rfl w.heap.size rfl _ _ _ _ (Kx.out _ (by assumption)) Try.underlying26 rfl (size_Alg _ _) ?_)
    | (refine wpList_load_row_w rfl 26 _ rfl (w.heap.size + 1) rfl _ _ _ _ (Kx2.out _ (by assumption)) Try.underlying26 rfl (size_Alg _ _) ?_)
    | (go_at_call 24; refine (readBoth_no2 _ _ _ _ L T _ _ _ _ M U _ (KR.out _ z1) (KT.out _ z1) (KR2.out _ z1) (KT2.out _ z1) HA.out HA2.out).mono ?_; rintro e w2 ⟨rfl, h2⟩; have z2 : Below w1.heap.size w1 w2 := h2; have s2 := z2.size; obtain ⟨wp, hwp⟩ : ∃ x, x = w2.alloc (.cells zeroAlg 52) := ⟨_, rfl⟩; have sp : wp.heap.size = w2.heap.size + 1 := (by rw [hwp]; simp); obtain ⟨wq, hwq⟩ : ∃ x, x = wp.alloc (.cells zeroAlg 52) := ⟨_, rfl⟩; have zq : Below w1.heap.size w1 wq := (by rw [hwq]; exact Below.alloc (by rw [hwp]; exact z2.alloc z2.size _) (by omega) _); have h4 : wq.heap[w2.heap.size]? = some (.cells zeroAlg 52 (0, 0)) := (by rw [hwq, Below.heap_alloc _ _ _ (by omega), hwp]; exact heap_alloc_new w2 _); have h5 : wq.heap[w2.heap.size + 1]? = some (.cells zeroAlg 52 (0, 0)) := (by rw [hwq, ← sp]; exact heap_alloc_new wp _); have hwe : wq = (w2.alloc (.cells zeroAlg 52)).alloc (.cells zeroAlg 52) := (by rw [hwq, hwp]); clear hwp hwq sp)
    | (rw [← hwe]; clear hwe)
    | (refine wpList_store_row rfl 52 _ _ rfl w2.heap.size zeroAlg rfl rfl _ _ h4 size_zeroAlg rfl one_zeroAlg ?_; obtain ⟨w8, hw8⟩ : ∃ x, x = wq.setRow w2.heap.size zeroAlg := ⟨_, rfl⟩; rw [← hw8]; have z8 : Below w1.heap.size w1 w8 := (by rw [hw8]; exact below_setRow' zq (by omega) _); have n8 : w8.heap[w2.heap.size + 1]? = some (.cells zeroAlg 52 (0, 0)) := (by rw [hw8, setRow_other _ _ _ _ (by omega)]; exact h5); clear hw8)
    | (refine wpList_store_row rfl 52 _ _ rfl (w2.heap.size + 1) zeroAlg rfl rfl _ _ n8 size_zeroAlg rfl one_zeroAlg ?_; obtain ⟨w9, hw9⟩ : ∃ x, x = w8.setRow (w2.heap.size + 1) zeroAlg := ⟨_, rfl⟩; rw [← hw9]; have z9 : Below w1.heap.size w1 w9 := (by rw [hw9]; exact below_setRow' z8 (by omega) _); clear hw9))
  go_ret
  exact ⟨ret_bool (by rw [hv.out]), hB.trans (z9.mono hB.size)⟩
set_option maxRecDepth 100000 in
set_option maxHeartbeats 2000000 in
theorem implIsMap_n3 (a b : Option Addr) (ca cb : Nat) (L : List Int) (T : List (List Int)) (a2 b2 : Option Addr) (ca2 cb2 : Nat) (M : List Int) (U : List (List Int)) (af : Option Addr) (cf : Nat) (F : List Int) (w : World) (hr : Rd w a L) (hT : RdT w b T) (hr2 : Rd w a2 M) (hT2 : RdT w b2 U) (hf : Rd w af F) (h : algB L T = true) (h2 : algB M U = false) :
    Calls Try.prog 7 #[.agg #[.slice a L.length ca, .slice b T.length cb], .agg #[.slice a2 M.length ca2, .slice b2 U.length cb2], .slice af F.length cf] w fun e w' => e = .returned (.bool (isMapB L T M U F)) ∧ Below w.heap.size w w' := by
  obtain ⟨w1, hw1⟩ : ∃ w1, w1 = (w.alloc (.cells #[.slice a L.length ca, .slice b T.length cb] 26)).alloc (.cells #[.slice a2 M.length ca2, .slice b2 U.length cb2] 26) := ⟨_, rfl⟩
  have hB : Below w.heap.size w w1 := by rw [hw1]; exact ((Below.refl _ _).alloc (Nat.le_refl _) _).alloc (by simp) _
  have hx : w1.heap[w.heap.size]? = some (.cells #[.slice a L.length ca, .slice b T.length cb] 26 (0, 0)) := by rw [hw1, Below.heap_alloc _ _ _ (by simp)]; exact heap_alloc_new w _
  have hx2 : w1.heap[w.heap.size + 1]? = some (.cells #[.slice a2 M.length ca2, .slice b2 U.length cb2] 26 (0, 0)) := by rw [hw1]; exact heap_alloc2_new _ _ _
  have Kx := Lib.hid (show ∀ wz, Below w1.heap.size w1 wz → wz.heap[w.heap.size]? = some (.cells #[.slice a L.length ca, .slice b T.length cb] 26 (0, 0)) from fun wz h => (h.block _ (lt_of_block hx)).trans hx)
  have Kx2 := Lib.hid (show ∀ wz, Below w1.heap.size w1 wz → wz.heap[w.heap.size + 1]? = some (.cells #[.slice a2 M.length ca2, .slice b2 U.length cb2] 26 (0, 0)) from fun wz h => (h.block _ (lt_of_block hx2)).trans hx2)
  have KR := Lib.hid (show ∀ wz, Below w1.heap.size w1 wz → Rd wz a L from fun wz h => (hr.below hB).below h)
  have KT := Lib.hid (show ∀ wz, Below w1.heap.size w1 wz → RdT wz b T from fun wz h => (hT.below hB).below h)
  have KR2 := Lib.hid (show ∀ wz, Below w1.heap.size w1 wz → Rd wz a2 M from fun wz h => (hr2.below hB).below h)
  have KT2 := Lib.hid (show ∀ wz, Below w1.heap.size w1 wz → RdT wz b2 U from fun wz h => (hT2.below hB).below h)
  have KF := Lib.hid (show ∀ wz, Below w1.heap.size w1 wz → Rd wz af F from fun wz h => (hf.below hB).below h)
  have z1 : Below w1.heap.size w1 w1 := Below.refl _ _
  have hzc : Try.zeroCells52 = zeroAlg := by kernel_rfl
  clear hr hT hr2 hT2 hf hx hx2
  have hv := Lib.hid (show isMapB L T M U F = false by unfold isMapB; rw [h, h2]; rfl)
  have HA := Lib.hid h
  have HA2 := Lib.hid h2
  clear h h2
  go_enter Try.func7, Try.ntmps7
  go_wp2_with (first
    | go_skip
    | (rw [← hw1]; clear hw1)
    | (refine wpList_load_row_w rfl 26 _ rfl w.heap.size rfl _ _ _ _ (Kx.out _ (by assumption)) Try.underlying26 rfl (size_Alg _ _) ?_)
    | (refine wpList_load_row_w rfl 26 _ rfl (w.heap.size + 1) rfl _ _ _ _ (Kx2.out _ (by assumption)) Try.underlying26 rfl (size_Alg _ _) ?_)
    | (go_at_call 24; refine (readBoth_no3 _ _ _ _ L T _ _ _ _ M U _ (KR.out _ z1) (KT.out _ z1) (KR2.out _ z1) (KT2.out _ z1) HA.out HA2.out).mono ?_; rintro e w2 ⟨rfl, h2⟩; have z2 : Below w1.heap.size w1 w2 := h2; have s2 := z2.size; obtain ⟨wp, hwp⟩ : ∃ x, x = w2.alloc (.cells zeroAlg 52) := ⟨_, rfl⟩; have sp : wp.heap.size = w2.heap.size + 1 := (by rw [hwp]; simp); obtain ⟨wq, hwq⟩ : ∃ x, x = wp.alloc (.cells zeroAlg 52) := ⟨_, rfl⟩; have zq : Below w1.heap.size w1 wq := (by rw [hwq]; exact Below.alloc (by rw [hwp]; exact z2.alloc z2.size _) (by omega) _); have h4 : wq.heap[w2.heap.size]? = some (.cells zeroAlg 52 (0, 0)) := (by rw [hwq, Below.heap_alloc _ _ _ (by omega), hwp]; exact heap_alloc_new w2 _); have h5 : wq.heap[w2.heap.size + 1]? = some (.cells zeroAlg 52 (0, 0)) := (by rw [hwq, ← sp]; exact heap_alloc_new wp _); have hwe : wq = (w2.alloc (.cells zeroAlg 52)).alloc (.cells zeroAlg 52) := (by rw [hwq, hwp]); clear hwp hwq sp)
    | (rw [← hwe]; clear hwe)
    | (refine wpList_store_row rfl 52 _ _ rfl w2.heap.size zeroAlg rfl rfl _ _ h4 size_zeroAlg rfl one_zeroAlg ?_; obtain ⟨w8, hw8⟩ : ∃ x, x = wq.setRow w2.heap.size zeroAlg := ⟨_, rfl⟩; rw [← hw8]; have z8 : Below w1.heap.size w1 w8 := (by rw [hw8]; exact below_setRow' zq (by omega) _); have n8 : w8.heap[w2.heap.size + 1]? = some (.cells zeroAlg 52 (0, 0)) := (by rw [hw8, setRow_other _ _ _ _ (by omega)]; exact h5); clear hw8)
    | (refine wpList_store_row rfl 52 _ _ rfl (w2.heap.size + 1) zeroAlg rfl rfl _ _ n8 size_zeroAlg rfl one_zeroAlg ?_; obtain ⟨w9, hw9⟩ : ∃ x, x = w8.setRow (w2.heap.size + 1) zeroAlg := ⟨_, rfl⟩; rw [← hw9]; have z9 : Below w1.heap.size w1 w9 := (by rw [hw9]; exact below_setRow' z8 (by omega) _); clear hw9))
  go_ret
  exact ⟨ret_bool (by rw [hv.out]), hB.trans (z9.mono hB.size)⟩
set_option maxRecDepth 100000 in
set_option maxHeartbeats 4000000 in
theorem implIsMap_yes (a b : Option Addr) (ca cb : Nat) (L : List Int) (T : List (List Int)) (a2 b2 : Option Addr) (ca2 cb2 : Nat) (M : List Int) (U : List (List Int)) (af : Option Addr) (cf : Nat) (F : List Int) (w : World) (hr : Rd w a L) (hT : RdT w b T) (hr2 : Rd w a2 M) (hT2 : RdT w b2 U) (hf : Rd w af F) (hF : F.length ≤ 1048576) (h : algB L T = true) (h2 : algB M U = true) :
    Calls Try.prog 7 #[.agg #[.slice a L.length ca, .slice b T.length cb], .agg #[.slice a2 M.length ca2, .slice b2 U.length cb2], .slice af F.length cf] w fun e w' => e = .returned (.bool (isMapB L T M U F)) ∧ Below w.heap.size w w' := by
  obtain ⟨n1, n6⟩ := lat_len (alg_lat h)
  have hnl : num L = L.length := rfl
  have hnf : num F = F.length := rfl
  obtain ⟨w1, hw1⟩ : ∃ w1, w1 = (w.alloc (.cells #[.slice a L.length ca, .slice b T.length cb] 26)).alloc (.cells #[.slice a2 M.length ca2, .slice b2 U.length cb2] 26) := ⟨_, rfl⟩
  have hB : Below w.heap.size w w1 := by rw [hw1]; exact ((Below.refl _ _).alloc (Nat.le_refl _) _).alloc (by simp) _
  have hx : w1.heap[w.heap.size]? = some (.cells #[.slice a L.length ca, .slice b T.length cb] 26 (0, 0)) := by rw [hw1, Below.heap_alloc _ _ _ (by simp)]; exact heap_alloc_new w _
  have hx2 : w1.heap[w.heap.size + 1]? = some (.cells #[.slice a2 M.length ca2, .slice b2 U.length cb2] 26 (0, 0)) := by rw [hw1]; exact heap_alloc2_new _ _ _
  have Kx := Lib.hid (show ∀ wz, Below w1.heap.size w1 wz → wz.heap[w.heap.size]? = some (.cells #[.slice a L.length ca, .slice b T.length cb] 26 (0, 0)) from fun wz h => (h.block _ (lt_of_block hx)).trans hx)
  have Kx2 := Lib.hid (show ∀ wz, Below w1.heap.size w1 wz → wz.heap[w.heap.size + 1]? = some (.cells #[.slice a2 M.length ca2, .slice b2 U.length cb2] 26 (0, 0)) from fun wz h => (h.block _ (lt_of_block hx2)).trans hx2)
  have KR := Lib.hid (show ∀ wz, Below w1.heap.size w1 wz → Rd wz a L from fun wz h => (hr.below hB).below h)
  have KT := Lib.hid (show ∀ wz, Below w1.heap.size w1 wz → RdT wz b T from fun wz h => (hT.below hB).below h)
  have KR2 := Lib.hid (show ∀ wz, Below w1.heap.size w1 wz → Rd wz a2 M from fun wz h => (hr2.below hB).below h)
  have KT2 := Lib.hid (show ∀ wz, Below w1.heap.size w1 wz → RdT wz b2 U from fun wz h => (hT2.below hB).below h)
  have KF := Lib.hid (show ∀ wz, Below w1.heap.size w1 wz → Rd wz af F from fun wz h => (hf.below hB).below h)
  have z1 : Below w1.heap.size w1 w1 := Below.refl _ _
  have hzc : Try.zeroCells52 = zeroAlg := by kernel_rfl
  clear hr hT hr2 hT2 hf hx hx2
  have hv := Lib.hid (mp_read (F := F) h h2)
  have HA := Lib.hid h
  have HA2 := Lib.hid h2
  clear h h2
  have hlen : ((F.length : Int) == (L.length : Int)) = decide (num F = num L) := by
    by_cases e : (F.length : Int) = L.length
    · rw [decide_eq_true (show num F = num L by omega), e]; simp
    · rw [decide_eq_false (show ¬ num F = num L by omega)]; simpa using e
  cases hD : decide (num F = num L) <;> cases hW : withB M F <;> cases hM : msB L T M U F
  all_goals
    rw [hD, hW, hM] at hv
    rw [hD] at hlen
    have HW := Lib.hid hW
    have HM := Lib.hid hM
    have HD := Lib.hid hD
    clear hD hW hM
    go_enter Try.func7, Try.ntmps7
    go_wp2_with (first
      | go_skip
      | (rw [← hw1]; clear hw1)
      | (refine wpList_load_row_w rfl 26 _ rfl w.heap.size rfl _ _ _ _ (Kx.out _ (by assumption)) Try.underlying26 rfl (size_Alg _ _) ?_)
      | (refine wpList_load_row_w rfl 26 _ rfl (w.heap.size + 1) rfl _ _ _ _ (Kx2.out _ (by assumption)) Try.underlying26 rfl (size_Alg _ _) ?_)
      | (go_at_call 24; refine (readBoth_yes _ _ _ _ L T _ _ _ _ M U _ (KR.out _ z1) (KT.out _ z1) (KR2.out _ z1) (KT2.out _ z1) HA.out HA2.out).mono ?_; rintro e w2 ⟨rfl, h2⟩; have z2 : Below w1.heap.size w1 w2 := h2; have s2 := z2.size; obtain ⟨wp, hwp⟩ : ∃ x, x = w2.alloc (.cells zeroAlg 52) := ⟨_, rfl⟩; have sp : wp.heap.size = w2.heap.size + 1 := (by rw [hwp]; simp); obtain ⟨wq, hwq⟩ : ∃ x, x = wp.alloc (.cells zeroAlg 52) := ⟨_, rfl⟩; have zq : Below w1.heap.size w1 wq := (by rw [hwq]; exact Below.alloc (by rw [hwp]; exact z2.alloc z2.size _) (by omega) _); have h4 : wq.heap[w2.heap.size]? = some (.cells zeroAlg 52 (0, 0)) := (by rw [hwq, Below.heap_alloc _ _ _ (by omega), hwp]; exact heap_alloc_new w2 _); have h5 : wq.heap[w2.heap.size + 1]? = some (.cells zeroAlg 52 (0, 0)) := (by rw [hwq, ← sp]; exact heap_alloc_new wp _); have hwe : wq = (w2.alloc (.cells zeroAlg 52)).alloc (.cells zeroAlg 52) := (by rw [hwq, hwp]); clear hwp hwq sp)
      | (rw [← hwe]; clear hwe)
      | (refine wpList_store_row rfl 52 _ _ rfl w2.heap.size (algOf L T) rfl rfl _ _ h4 (size_alg _ _ _ _ _ _) rfl (one_alg _ _ _ _ _ _) ?_; obtain ⟨w8, hw8⟩ : ∃ x, x = wq.setRow w2.heap.size (algOf L T) := ⟨_, rfl⟩; rw [← hw8]; have z8 : Below w1.heap.size w1 w8 := (by rw [hw8]; exact below_setRow' zq (by omega) _); have m8 : w8.heap[w2.heap.size]? = some (.cells (algOf L T) 52 (0, 0)) := (by rw [hw8]; exact setRow_heap _ _ _ _ _ _ h4); have n8 : w8.heap[w2.heap.size + 1]? = some (.cells zeroAlg 52 (0, 0)) := (by rw [hw8, setRow_other _ _ _ _ (by omega)]; exact h5); clear hw8)
      | (refine wpList_store_row rfl 52 _ _ rfl (w2.heap.size + 1) (algOf M U) rfl rfl _ _ n8 (size_alg _ _ _ _ _ _) rfl (one_alg _ _ _ _ _ _) ?_; obtain ⟨w9, hw9⟩ : ∃ x, x = w8.setRow (w2.heap.size + 1) (algOf M U) := ⟨_, rfl⟩; rw [← hw9]; have z9 : Below w1.heap.size w1 w9 := (by rw [hw9]; exact below_setRow' z8 (by omega) _); have q1 : AlgAt w9 w2.heap.size L T := (by rw [hw9]; exact (setRow_other _ _ _ _ (by omega)).trans m8); have q2 : AlgAt w9 (w2.heap.size + 1) M U := (by rw [hw9]; exact setRow_heap _ _ _ _ _ _ n8); have c9 := q1.size; clear hw9)
      | (refine wpList_load_mid_w rfl 50 _ rfl (w2.heap.size + 1) 0 rfl (latOf M) _ q2.lat Try.underlying50 rfl (size_latOf M) ?_)
      | (go_at_call 25; refine (ret_below (has_any af cf M F _ (KF.out _ z9) hF) HW.out).mono ?_; rintro e w10 ⟨rfl, h10⟩; have z10 := z9.trans (h10.mono z9.size); have p1 := q1.below h10 q1.lt; have p2 := q2.below h10 q2.lt)
      | (refine wpList_load_row_w rfl 52 _ rfl (w2.heap.size + 1) rfl _ _ _ _ p2 Try.underlying52 rfl (size_alg _ _ _ _ _ _) ?_)
      | (refine wpList_load_row_w rfl 52 _ rfl w2.heap.size rfl _ _ _ _ p1 Try.underlying52 rfl (size_alg _ _ _ _ _ _) ?_)
      | (go_at_call 26; refine (ret_below (isMapStart_any L T M U F af cf _ (KF.out _ z10) HA.out HA2.out (by have := of_decide_eq_true HD.out; omega) (withB_all.1 HW.out)) HM.out).mono ?_; rintro e w11 ⟨rfl, h11⟩; have z11 := z10.trans (h11.mono z10.size)))
    go_ret
    exact ⟨ret_bool (by rw [hv.out]; rfl), hB.trans (Below.mono (by assumption) hB.size)⟩
theorem implIsMap_any (a b : Option Addr) (ca cb : Nat) (L : List Int) (T : List (List Int)) (a2 b2 : Option Addr) (ca2 cb2 : Nat) (M : List Int) (U : List (List Int)) (af : Option Addr) (cf : Nat) (F : List Int) (w : World) (hr : Rd w a L) (hT : RdT w b T) (hr2 : Rd w a2 M) (hT2 : RdT w b2 U) (hf : Rd w af F) (hF : F.length ≤ 1048576) :
    Calls Try.prog 7 #[.agg #[.slice a L.length ca, .slice b T.length cb], .agg #[.slice a2 M.length ca2, .slice b2 U.length cb2], .slice af F.length cf] w fun e w' => e = .returned (.bool (isMapB L T M U F)) ∧ Below w.heap.size w w' := by
  cases h : algB L T <;> cases h2 : algB M U
  · exact implIsMap_n1 a b ca cb L T a2 b2 ca2 cb2 M U af cf F w hr hT hr2 hT2 hf h h2
  · exact implIsMap_n2 a b ca cb L T a2 b2 ca2 cb2 M U af cf F w hr hT hr2 hT2 hf h h2
  · exact implIsMap_n3 a b ca cb L T a2 b2 ca2 cb2 M U af cf F w hr hT hr2 hT2 hf h h2
  · exact implIsMap_yes a b ca cb L T a2 b2 ca2 cb2 M U af cf F w hr hT hr2 hT2 hf hF h h2
end Go.Proofs.Ytljnbhnnjfnjeaa

namespace Go.Proofs.Ytljnbhnnjfnjeaa
open Go.RowKit
theorem enters_sp_IsMap : Enters 8 := enters_of Try.func8 (by kernel_rfl) rfl

end Go.Proofs.Ytljnbhnnjfnjeaa
