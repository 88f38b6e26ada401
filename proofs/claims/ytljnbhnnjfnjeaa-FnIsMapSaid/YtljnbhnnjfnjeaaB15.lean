import Derived.Test.YtljnbhnnjfnjeaaB26
import Derived.Test.YtljnbhnnjfnjeaaB14
import Derived.Test.YtljnbhnnjfnjeaaN7
namespace Go.Proofs.Ytljnbhnnjfnjeaa
open Go.RowKit

def kerQ (M F : List Int) (x : Int) : Bool := nth F x == num M - 1
def kerI (L : List Int) (T : List (List Int)) (M : List Int) (U : List (List Int)) (F : List Int) : Int := if isMapB L T M U F then rowTo (kerQ M F) (num F) else -1
def imgI (L : List Int) (T : List (List Int)) (M : List Int) (U : List (List Int)) (F : List Int) : Int := if isMapB L T M U F then setL F else -1
theorem isMap_parts {L : List Int} {T : List (List Int)} {M : List Int} {U : List (List Int)} {F : List Int} (h : isMapB L T M U F = true) : algB L T = true ∧ algB M U = true ∧ mpB L T M U F = true ∧ num F = num L ∧ ∀ x, 0 ≤ x → x < num F → 0 ≤ nth F x ∧ nth F x < num M := by
  unfold isMapB at h
  rw [Bool.and_eq_true, Bool.and_eq_true] at h
  have h3 := h.2.2
  unfold mpB at h3
  rw [Bool.and_eq_true, Bool.and_eq_true, decide_eq_true_eq, mpR_all] at h3
  exact ⟨h.1, h.2.1, h.2.2, h3.1, fun x x0 x1 => h3.2.1 x x0 (by rw [← h3.1]; exact x1)⟩
set_option maxRecDepth 100000 in
set_option maxHeartbeats 4000000 in
theorem specKernelOf_no (a b : Option Addr) (ca cb : Nat) (L : List Int) (T : List (List Int)) (a2 b2 : Option Addr) (ca2 cb2 : Nat) (M : List Int) (U : List (List Int)) (af : Option Addr) (cf : Nat) (F : List Int) (w : World) (hr : Rd w a L) (hT : RdT w b T) (hr2 : Rd w a2 M) (hT2 : RdT w b2 U) (hf : Rd w af F) (h : isMapB L T M U F = false) :
    Calls Try.prog 14 #[.agg #[.slice a L.length ca, .slice b T.length cb], .agg #[.slice a2 M.length ca2, .slice b2 U.length cb2], .slice af F.length cf] w fun e w' => e = .returned (.int .i64 (kerI L T M U F)) ∧ Below w.heap.size w w' := by
  obtain ⟨w1, hw1⟩ : ∃ w1, w1 = (w.alloc (.cells #[.slice a L.length ca, .slice b T.length cb] 26)).alloc (.cells #[.slice a2 M.length ca2, .slice b2 U.length cb2] 26) := ⟨_, rfl⟩
  have hB : Below w.heap.size w w1 := by rw [hw1]; exact ((Below.refl _ _).alloc (Nat.le_refl _) _).alloc (by simp) _
  have hx : w1.heap[w.heap.size]? = some (.cells #[.slice a L.length ca, .slice b T.length cb] 26 (0, 0)) := by rw [hw1, Below.heap_alloc _ _ _ (by simp)]; exact heap_alloc_new w _
  have hx2 : w1.heap[w.heap.size + 1]? = some (.cells #[.slice a2 M.length ca2, .slice b2 U.length cb2] 26 (0, 0)) := by rw [hw1]; exact heap_alloc2_new _ _ _
  have Kx := Lib.hid (show ∀ wz, Below w1.heap.size w1 wz → wz.heap[w.heap.size]? = some (.cells #[.slice a L.length ca, .slice b T.length cb] 26 (0, 0)) from fun wz h => (h.block _ (lt_of_block hx)).trans hx)
  have Kx2 := Lib.hid (show ∀ wz, Below w1.heap.size w1 wz → wz.heap[w.heap.size + 1]? = some (.cells #[.slice a2 M.length ca2, .slice b2 U.length cb2] 26 (0, 0)) from fun wz h => (h.block _ (lt_of_block hx2)).trans hx2)
  have KR := Lib.hid (show ∀ wz, Below w1.heap.size w1 wz → Rd wz a L from fun wz h => (hr.below hB).below h)
  have KT := Lib.hid (show ∀ wz, Below w1.heap.size w1 wz → RdT wz b T from fun wz h => (hT.below hB).below h)
  have KR2 := Lib.hid (show ∀ wz, Below w1.heap.size w1 wz → Rd wz a2 M from fun wz h => (hr2.below hB).below h)
  have KT2 := Lib.hid (show ∀ wz, Below w1.heap.size w1 wz → RdT wz b2 U from fun wz h => (hT2.below hB).below h)
  have KF := Lib.hid (show ∀ wz, Below w1.heap.size w1 wz → Rd wz af F from fun wz h => (hf.below hB).below h)
  have z1 : Below w1.heap.size w1 w1 := Below.refl _ _
  clear hr hT hr2 hT2 hf hx hx2
  have hv := Lib.hid (show kerI L T M U F = -1 by unfold kerI; rw [h]; rfl)
  unfold isMapB at h
  cases hA : algB L T <;> cases hA2 : algB M U <;> cases hM : mpB L T M U F
  all_goals first
    | (exfalso; rw [hA, hA2, hM] at h; cases h; done)
    | (have HA := Lib.hid hA
       have HA2 := Lib.hid hA2
       have HM := Lib.hid hM
       clear hA hA2 hM h
       go_enter Try.func14, Try.ntmps14
       go_wp2_with (first
         | go_skip
         | (rw [← hw1]; clear hw1)
         | (refine wpList_load_row_w rfl 26 _ rfl w.heap.size rfl _ _ _ _ (Kx.out _ (by assumption)) Try.underlying26 rfl (size_Alg _ _) ?_)
         | (refine wpList_load_row_w rfl 26 _ rfl (w.heap.size + 1) rfl _ _ _ _ (Kx2.out _ (by assumption)) Try.underlying26 rfl (size_Alg _ _) ?_)
         | (go_at_call_of 27 (Value.agg #[.slice a L.length ca, .slice b T.length cb]); refine (ret_below (validAlgebra_any _ _ _ _ L T _ (KR.out _ z1) (KT.out _ z1)) HA.out).mono ?_; rintro e w2 ⟨rfl, h2⟩; have z2 : Below w1.heap.size w1 w2 := h2; clear h2)
         | (go_at_call 27; refine (ret_below (validAlgebra_any _ _ _ _ M U _ (KR2.out _ z2) (KT2.out _ z2)) HA2.out).mono ?_; rintro e w3 ⟨rfl, h3⟩; have z3 : Below w1.heap.size w1 w3 := z2.trans (h3.mono z2.size); clear h3)
         | (go_at_call 28; refine (ret_below (specIsMapM_any _ _ _ _ L T _ _ _ _ M U af cf F _ (KR.out _ z3) (KT.out _ z3) (KR2.out _ z3) (KT2.out _ z3) (KF.out _ z3) HA.out HA2.out) HM.out).mono ?_; rintro e w4 ⟨rfl, h4⟩; have z4 : Below w1.heap.size w1 w4 := z3.trans (h4.mono z3.size)))
       go_ret
       exact ⟨ret_int (by rw [hv.out]), hB.trans (Below.mono (by assumption) hB.size)⟩)
set_option maxRecDepth 100000 in
set_option maxHeartbeats 4000000 in
theorem specImageOf_no (a b : Option Addr) (ca cb : Nat) (L : List Int) (T : List (List Int)) (a2 b2 : Option Addr) (ca2 cb2 : Nat) (M : List Int) (U : List (List Int)) (af : Option Addr) (cf : Nat) (F : List Int) (w : World) (hr : Rd w a L) (hT : RdT w b T) (hr2 : Rd w a2 M) (hT2 : RdT w b2 U) (hf : Rd w af F) (h : isMapB L T M U F = false) :
    Calls Try.prog 19 #[.agg #[.slice a L.length ca, .slice b T.length cb], .agg #[.slice a2 M.length ca2, .slice b2 U.length cb2], .slice af F.length cf] w fun e w' => e = .returned (.int .i64 (imgI L T M U F)) ∧ Below w.heap.size w w' := by
  obtain ⟨w1, hw1⟩ : ∃ w1, w1 = (w.alloc (.cells #[.slice a L.length ca, .slice b T.length cb] 26)).alloc (.cells #[.slice a2 M.length ca2, .slice b2 U.length cb2] 26) := ⟨_, rfl⟩
  have hB : Below w.heap.size w w1 := by rw [hw1]; exact ((Below.refl _ _).alloc (Nat.le_refl _) _).alloc (by simp) _
  have hx : w1.heap[w.heap.size]? = some (.cells #[.slice a L.length ca, .slice b T.length cb] 26 (0, 0)) := by rw [hw1, Below.heap_alloc _ _ _ (by simp)]; exact heap_alloc_new w _
  have hx2 : w1.heap[w.heap.size + 1]? = some (.cells #[.slice a2 M.length ca2, .slice b2 U.length cb2] 26 (0, 0)) := by rw [hw1]; exact heap_alloc2_new _ _ _
  have Kx := Lib.hid (show ∀ wz, Below w1.heap.size w1 wz → wz.heap[w.heap.size]? = some (.cells #[.slice a L.length ca, .slice b T.length cb] 26 (0, 0)) from fun wz h => (h.block _ (lt_of_block hx)).trans hx)
  have Kx2 := Lib.hid (show ∀ wz, Below w1.heap.size w1 wz → wz.heap[w.heap.size + 1]? = some (.cells #[.slice a2 M.length ca2, .slice b2 U.length cb2] 26 (0, 0)) from fun wz h => (h.block _ (lt_of_block hx2)).trans hx2)
  have KR := Lib.hid (show ∀ wz, Below w1.heap.size w1 wz → Rd wz a L from fun wz h => (hr.below hB).below h)
  have KT := Lib.hid (show ∀ wz, Below w1.heap.size w1 wz → RdT wz b T from fun wz h => (hT.below hB).below h)
  have KR2 := Lib.hid (show ∀ wz, Below w1.heap.size w1 wz → Rd wz a2 M from fun wz h => (hr2.below hB).below h)
  have KT2 := Lib.hid (show ∀ wz, Below w1.heap.size w1 wz → RdT wz b2 U from fun wz h => (hT2.below hB).below h)
  have KF := Lib.hid (show ∀ wz, Below w1.heap.size w1 wz → Rd wz af F from fun wz h => (hf.below hB).below h)
  have z1 : Below w1.heap.size w1 w1 := Below.refl _ _
  clear hr hT hr2 hT2 hf hx hx2
  have hv := Lib.hid (show imgI L T M U F = -1 by unfold imgI; rw [h]; rfl)
  unfold isMapB at h
  cases hA : algB L T <;> cases hA2 : algB M U <;> cases hM : mpB L T M U F
  all_goals first
    | (exfalso; rw [hA, hA2, hM] at h; cases h; done)
    | (have HA := Lib.hid hA
       have HA2 := Lib.hid hA2
       have HM := Lib.hid hM
       clear hA hA2 hM h
       go_enter Try.func19, Try.ntmps19
       go_wp2_with (first
         | go_skip
         | (rw [← hw1]; clear hw1)
         | (refine wpList_load_row_w rfl 26 _ rfl w.heap.size rfl _ _ _ _ (Kx.out _ (by assumption)) Try.underlying26 rfl (size_Alg _ _) ?_)
         | (refine wpList_load_row_w rfl 26 _ rfl (w.heap.size + 1) rfl _ _ _ _ (Kx2.out _ (by assumption)) Try.underlying26 rfl (size_Alg _ _) ?_)
         | (go_at_call_of 27 (Value.agg #[.slice a L.length ca, .slice b T.length cb]); refine (ret_below (validAlgebra_any _ _ _ _ L T _ (KR.out _ z1) (KT.out _ z1)) HA.out).mono ?_; rintro e w2 ⟨rfl, h2⟩; have z2 : Below w1.heap.size w1 w2 := h2; clear h2)
         | (go_at_call 27; refine (ret_below (validAlgebra_any _ _ _ _ M U _ (KR2.out _ z2) (KT2.out _ z2)) HA2.out).mono ?_; rintro e w3 ⟨rfl, h3⟩; have z3 : Below w1.heap.size w1 w3 := z2.trans (h3.mono z2.size); clear h3)
         | (go_at_call 28; refine (ret_below (specIsMapM_any _ _ _ _ L T _ _ _ _ M U af cf F _ (KR.out _ z3) (KT.out _ z3) (KR2.out _ z3) (KT2.out _ z3) (KF.out _ z3) HA.out HA2.out) HM.out).mono ?_; rintro e w4 ⟨rfl, h4⟩; have z4 : Below w1.heap.size w1 w4 := z3.trans (h4.mono z3.size)))
       go_ret
       exact ⟨ret_int (by rw [hv.out]), hB.trans (Below.mono (by assumption) hB.size)⟩)
set_option maxRecDepth 100000 in
set_option maxHeartbeats 4000000 in
theorem specImageOf_yes (a b : Option Addr) (ca cb : Nat) (L : List Int) (T : List (List Int)) (a2 b2 : Option Addr) (ca2 cb2 : Nat) (M : List Int) (U : List (List Int)) (af : Option Addr) (cf : Nat) (F : List Int) (w : World) (hr : Rd w a L) (hT : RdT w b T) (hr2 : Rd w a2 M) (hT2 : RdT w b2 U) (hf : Rd w af F) (h : isMapB L T M U F = true) (hl : F.length ≤ 1048576) :
    Calls Try.prog 19 #[.agg #[.slice a L.length ca, .slice b T.length cb], .agg #[.slice a2 M.length ca2, .slice b2 U.length cb2], .slice af F.length cf] w fun e w' => e = .returned (.int .i64 (imgI L T M U F)) ∧ Below w.heap.size w w' := by
  obtain ⟨w1, hw1⟩ : ∃ w1, w1 = (w.alloc (.cells #[.slice a L.length ca, .slice b T.length cb] 26)).alloc (.cells #[.slice a2 M.length ca2, .slice b2 U.length cb2] 26) := ⟨_, rfl⟩
  have hB : Below w.heap.size w w1 := by rw [hw1]; exact ((Below.refl _ _).alloc (Nat.le_refl _) _).alloc (by simp) _
  have hx : w1.heap[w.heap.size]? = some (.cells #[.slice a L.length ca, .slice b T.length cb] 26 (0, 0)) := by rw [hw1, Below.heap_alloc _ _ _ (by simp)]; exact heap_alloc_new w _
  have hx2 : w1.heap[w.heap.size + 1]? = some (.cells #[.slice a2 M.length ca2, .slice b2 U.length cb2] 26 (0, 0)) := by rw [hw1]; exact heap_alloc2_new _ _ _
  have Kx := Lib.hid (show ∀ wz, Below w1.heap.size w1 wz → wz.heap[w.heap.size]? = some (.cells #[.slice a L.length ca, .slice b T.length cb] 26 (0, 0)) from fun wz h => (h.block _ (lt_of_block hx)).trans hx)
  have Kx2 := Lib.hid (show ∀ wz, Below w1.heap.size w1 wz → wz.heap[w.heap.size + 1]? = some (.cells #[.slice a2 M.length ca2, .slice b2 U.length cb2] 26 (0, 0)) from fun wz h => (h.block _ (lt_of_block hx2)).trans hx2)
  have KR := Lib.hid (show ∀ wz, Below w1.heap.size w1 wz → Rd wz a L from fun wz h => (hr.below hB).below h)
  have KT := Lib.hid (show ∀ wz, Below w1.heap.size w1 wz → RdT wz b T from fun wz h => (hT.below hB).below h)
  have KR2 := Lib.hid (show ∀ wz, Below w1.heap.size w1 wz → Rd wz a2 M from fun wz h => (hr2.below hB).below h)
  have KT2 := Lib.hid (show ∀ wz, Below w1.heap.size w1 wz → RdT wz b2 U from fun wz h => (hT2.below hB).below h)
  have KF := Lib.hid (show ∀ wz, Below w1.heap.size w1 wz → Rd wz af F from fun wz h => (hf.below hB).below h)
  have z1 : Below w1.heap.size w1 w1 := Below.refl _ _
  clear hr hT hr2 hT2 hf hx hx2
  have hv := Lib.hid (show imgI L T M U F = setL F by unfold imgI; rw [h]; rfl)
  obtain ⟨hA, hA2, hM, hlen, hR⟩ := isMap_parts h
  have m6 := (lat_len (alg_lat hA2)).2
  have HA := Lib.hid hA
  have HA2 := Lib.hid hA2
  have HM := Lib.hid hM
  have HR := Lib.hid (show ∀ k, 0 ≤ k → k < num F → 0 ≤ nth F k ∧ nth F k < 6 from fun k k0 k1 => by have := hR k k0 k1; omega)
  clear hA hA2 hM h hR
  go_enter Try.func19, Try.ntmps19
  go_wp2_with (first
    | go_skip
    | (rw [← hw1]; clear hw1)
    | (refine wpList_load_row_w rfl 26 _ rfl w.heap.size rfl _ _ _ _ (Kx.out _ (by assumption)) Try.underlying26 rfl (size_Alg _ _) ?_)
    | (refine wpList_load_row_w rfl 26 _ rfl (w.heap.size + 1) rfl _ _ _ _ (Kx2.out _ (by assumption)) Try.underlying26 rfl (size_Alg _ _) ?_)
    | (go_at_call_of 27 (Value.agg #[.slice a L.length ca, .slice b T.length cb]); refine (ret_below (validAlgebra_any _ _ _ _ L T _ (KR.out _ z1) (KT.out _ z1)) HA.out).mono ?_; rintro e w2 ⟨rfl, h2⟩; have z2 : Below w1.heap.size w1 w2 := h2; clear h2)
    | (go_at_call 27; refine (ret_below (validAlgebra_any _ _ _ _ M U _ (KR2.out _ z2) (KT2.out _ z2)) HA2.out).mono ?_; rintro e w3 ⟨rfl, h3⟩; have z3 : Below w1.heap.size w1 w3 := z2.trans (h3.mono z2.size); clear h3)
    | (go_at_call 28; refine (ret_below (specIsMapM_any _ _ _ _ L T _ _ _ _ M U af cf F _ (KR.out _ z3) (KT.out _ z3) (KR2.out _ z3) (KT2.out _ z3) (KF.out _ z3) HA.out HA2.out) HM.out).mono ?_; rintro e w4 ⟨rfl, h4⟩; have z4 : Below w1.heap.size w1 w4 := z3.trans (h4.mono z3.size))
    | (go_at_call 45; refine (specImageOfL_any _ _ F _ (KF.out _ z4) HR.out hl).mono ?_; rintro e w5 ⟨rfl, rfl⟩))
  go_ret
  exact ⟨ret_int (by rw [hv.out]), hB.trans (z4.mono hB.size)⟩
theorem specImageOf_any (a b : Option Addr) (ca cb : Nat) (L : List Int) (T : List (List Int)) (a2 b2 : Option Addr) (ca2 cb2 : Nat) (M : List Int) (U : List (List Int)) (af : Option Addr) (cf : Nat) (F : List Int) (w : World) (hr : Rd w a L) (hT : RdT w b T) (hr2 : Rd w a2 M) (hT2 : RdT w b2 U) (hf : Rd w af F) (hl : F.length ≤ 1048576) :
    Calls Try.prog 19 #[.agg #[.slice a L.length ca, .slice b T.length cb], .agg #[.slice a2 M.length ca2, .slice b2 U.length cb2], .slice af F.length cf] w fun e w' => e = .returned (.int .i64 (imgI L T M U F)) ∧ Below w.heap.size w w' := by
  by_cases h : isMapB L T M U F = true
  · exact specImageOf_yes a b ca cb L T a2 b2 ca2 cb2 M U af cf F w hr hT hr2 hT2 hf h hl
  · exact specImageOf_no a b ca cb L T a2 b2 ca2 cb2 M U af cf F w hr hT hr2 hT2 hf (by simpa using h)
set_option maxRecDepth 100000 in
set_option maxHeartbeats 4000000 in
theorem specKernelOf_yes (a b : Option Addr) (ca cb : Nat) (L : List Int) (T : List (List Int)) (a2 b2 : Option Addr) (ca2 cb2 : Nat) (M : List Int) (U : List (List Int)) (af : Option Addr) (cf : Nat) (F : List Int) (w : World) (hr : Rd w a L) (hT : RdT w b T) (hr2 : Rd w a2 M) (hT2 : RdT w b2 U) (hf : Rd w af F) (h : isMapB L T M U F = true) :
    Calls Try.prog 14 #[.agg #[.slice a L.length ca, .slice b T.length cb], .agg #[.slice a2 M.length ca2, .slice b2 U.length cb2], .slice af F.length cf] w fun e w' => e = .returned (.int .i64 (kerI L T M U F)) ∧ Below w.heap.size w w' := by
  obtain ⟨w1, hw1⟩ : ∃ w1, w1 = (w.alloc (.cells #[.slice a L.length ca, .slice b T.length cb] 26)).alloc (.cells #[.slice a2 M.length ca2, .slice b2 U.length cb2] 26) := ⟨_, rfl⟩
  have hB : Below w.heap.size w w1 := by rw [hw1]; exact ((Below.refl _ _).alloc (Nat.le_refl _) _).alloc (by simp) _
  have hx : w1.heap[w.heap.size]? = some (.cells #[.slice a L.length ca, .slice b T.length cb] 26 (0, 0)) := by rw [hw1, Below.heap_alloc _ _ _ (by simp)]; exact heap_alloc_new w _
  have hx2 : w1.heap[w.heap.size + 1]? = some (.cells #[.slice a2 M.length ca2, .slice b2 U.length cb2] 26 (0, 0)) := by rw [hw1]; exact heap_alloc2_new _ _ _
  have Kx := Lib.hid (show ∀ wz, Below w1.heap.size w1 wz → wz.heap[w.heap.size]? = some (.cells #[.slice a L.length ca, .slice b T.length cb] 26 (0, 0)) from fun wz h => (h.block _ (lt_of_block hx)).trans hx)
  have Kx2 := Lib.hid (show ∀ wz, Below w1.heap.size w1 wz → wz.heap[w.heap.size + 1]? = some (.cells #[.slice a2 M.length ca2, .slice b2 U.length cb2] 26 (0, 0)) from fun wz h => (h.block _ (lt_of_block hx2)).trans hx2)
  have KR := Lib.hid (show ∀ wz, Below w1.heap.size w1 wz → Rd wz a L from fun wz h => (hr.below hB).below h)
  have KT := Lib.hid (show ∀ wz, Below w1.heap.size w1 wz → RdT wz b T from fun wz h => (hT.below hB).below h)
  have KR2 := Lib.hid (show ∀ wz, Below w1.heap.size w1 wz → Rd wz a2 M from fun wz h => (hr2.below hB).below h)
  have KT2 := Lib.hid (show ∀ wz, Below w1.heap.size w1 wz → RdT wz b2 U from fun wz h => (hT2.below hB).below h)
  have KF := Lib.hid (show ∀ wz, Below w1.heap.size w1 wz → Rd wz af F from fun wz h => (hf.below hB).below h)
  have z1 : Below w1.heap.size w1 w1 := Below.refl _ _
  clear hr hT hr2 hT2 hf hx hx2
  have hv := Lib.hid (show kerI L T M U F = rowTo (kerQ M F) (num F) by unfold kerI; rw [h]; rfl)
  obtain ⟨hA, hA2, hM, hlen, hR⟩ := isMap_parts h
  have n1 := (lat_len (alg_lat hA)).1
  have n6 := (lat_len (alg_lat hA)).2
  have m1 := (lat_len (alg_lat hA2)).1
  have m6 := (lat_len (alg_lat hA2)).2
  have hnf : num F = F.length := rfl
  have hnm : num M = M.length := rfl
  have k1 : IntKind.i64.wrap ((M.length : Int) - 1) = (M.length : Int) - 1 := IntWalk.i64_in _ (by omega)
  obtain ⟨fb, fo, rfl, hcf⟩ := (KF.out _ z1).pos (show 1 ≤ num F by omega)
  have HCF := Lib.hid (show ∀ wz, Below w1.heap.size w1 wz → Cells wz fb fo F from fun wz h => hcf.below h (hcf.lt (show 1 ≤ num F by omega)))
  have HA := Lib.hid hA
  have HA2 := Lib.hid hA2
  have HM := Lib.hid hM
  clear hA hA2 hM h hR hcf
  go_enter Try.func14, Try.ntmps14
  go_wp2_with (first
    | go_skip
    | (rw [← hw1]; clear hw1)
    | (refine wpList_load_row_w rfl 26 _ rfl w.heap.size rfl _ _ _ _ (Kx.out _ (by assumption)) Try.underlying26 rfl (size_Alg _ _) ?_)
    | (refine wpList_load_row_w rfl 26 _ rfl (w.heap.size + 1) rfl _ _ _ _ (Kx2.out _ (by assumption)) Try.underlying26 rfl (size_Alg _ _) ?_)
    | (go_at_call_of 27 (Value.agg #[.slice a L.length ca, .slice b T.length cb]); refine (ret_below (validAlgebra_any _ _ _ _ L T _ (KR.out _ z1) (KT.out _ z1)) HA.out).mono ?_; rintro e w2 ⟨rfl, h2⟩; have z2 : Below w1.heap.size w1 w2 := h2; clear h2)
    | (go_at_call 27; refine (ret_below (validAlgebra_any _ _ _ _ M U _ (KR2.out _ z2) (KT2.out _ z2)) HA2.out).mono ?_; rintro e w3 ⟨rfl, h3⟩; have z3 : Below w1.heap.size w1 w3 := z2.trans (h3.mono z2.size); clear h3)
    | (go_at_call 28; refine (ret_below (specIsMapM_any _ _ _ _ L T _ _ _ _ M U _ cf F _ (KR.out _ z3) (KT.out _ z3) (KR2.out _ z3) (KT2.out _ z3) (KF.out _ z3) HA.out HA2.out) HM.out).mono ?_; rintro e w4 ⟨rfl, h4⟩; have z4 : Below w1.heap.size w1 w4 := z3.trans (h4.mono z3.size)))
  go_loopw [7, 8] (fun s c wr => ∃ x v : Int, 0 ≤ x ∧ x ≤ num F ∧ c = .int .i64 x ∧ s = .int .i64 v ∧ v = rowTo (kerQ M F) x ∧ Below w1.heap.size w1 wr) (fun _ c _ => (6 - intOf c).toNat)
  case atStart => exact ⟨0, 0, by omega, by omega, rfl, rfl, rfl, z4⟩
  case round =>
    clear z4 z3 z2 z1
    obtain ⟨x, v, x0, x1, rfl, rfl, hvv, z3⟩ := hrel
    obtain ⟨e0, e1⟩ := bx_cells (Kx2.out _ z3)
    by_cases hx : x < num F
    · have hxf : x < F.length := by omega
      have df := (HCF.out _ z3).at x x0 hx
      have rb := rowTo_bound (kerQ M F) x0
      have p1 := pw_30 x (by omega)
      have p0 := pw_pos x
      have hsu := Lib.hid (rowTo_succ (kerQ M F) x x0)
      have hq := Lib.hid (show kerQ M F x = (nth F x == (M.length : Int) - 1) from rfl)
      have kv : IntKind.i64.wrap (v + pw x) = v + pw x := IntWalk.i64_in _ (by rw [hvv]; omega)
      have HV := Lib.hid hvv
      clear hvv
      cases hC : nth F x == (M.length : Int) - 1 with
      | true =>
        rw [hC] at hq
        go_wp2
        go_quiet (fail)
        go_wp2_with (go_at_call 36; refine (power_any _ _ (by omega) (by omega)).mono ?_; rintro e w9 ⟨rfl, rfl⟩)
        go_roundw
        case rel => exact ⟨x + 1, _, by omega, by omega, rfl, rfl, by rw [hsu.out, hq.out, HV.out]; rfl, z3.trans (Dr.below ⟨_, rfl⟩ _)⟩
        case measure => simp [intOf]; omega
      | false =>
        rw [hC] at hq
        go_wp2
        go_quiet (fail)
        go_wp2
        go_roundw
        case rel => exact ⟨x + 1, _, by omega, by omega, rfl, rfl, by rw [hsu.out, hq.out, HV.out]; rfl, z3.trans (Dr.below ⟨_, rfl⟩ _)⟩
        case measure => simp [intOf]; omega
    · have e : x = num F := by omega
      have HV := Lib.hid (e ▸ hvv : v = rowTo (kerQ M F) (num F))
      clear hvv
      go_wp2
      go_ret
      exact ⟨ret_int (by rw [hv.out, HV.out]), hB.trans (z3.mono hB.size)⟩
theorem specKernelOf_any (a b : Option Addr) (ca cb : Nat) (L : List Int) (T : List (List Int)) (a2 b2 : Option Addr) (ca2 cb2 : Nat) (M : List Int) (U : List (List Int)) (af : Option Addr) (cf : Nat) (F : List Int) (w : World) (hr : Rd w a L) (hT : RdT w b T) (hr2 : Rd w a2 M) (hT2 : RdT w b2 U) (hf : Rd w af F) (_ : F.length ≤ 1048576) :
    Calls Try.prog 14 #[.agg #[.slice a L.length ca, .slice b T.length cb], .agg #[.slice a2 M.length ca2, .slice b2 U.length cb2], .slice af F.length cf] w fun e w' => e = .returned (.int .i64 (kerI L T M U F)) ∧ Below w.heap.size w w' := by
  by_cases h : isMapB L T M U F = true
  · exact specKernelOf_yes a b ca cb L T a2 b2 ca2 cb2 M U af cf F w hr hT hr2 hT2 hf h
  · exact specKernelOf_no a b ca cb L T a2 b2 ca2 cb2 M U af cf F w hr hT hr2 hT2 hf (by simpa using h)
set_option maxRecDepth 100000 in
set_option maxHeartbeats 4000000 in
theorem implImageOf_any (a b : Option Addr) (ca cb : Nat) (L : List Int) (T : List (List Int)) (a2 b2 : Option Addr) (ca2 cb2 : Nat) (M : List Int) (U : List (List Int)) (af : Option Addr) (cf : Nat) (F : List Int) (w : World) (hr : Rd w a L) (hT : RdT w b T) (hr2 : Rd w a2 M) (hT2 : RdT w b2 U) (hf : Rd w af F) (hl : F.length ≤ 1048576) :
    Calls Try.prog 17 #[.agg #[.slice a L.length ca, .slice b T.length cb], .agg #[.slice a2 M.length ca2, .slice b2 U.length cb2], .slice af F.length cf] w fun e w' => e = .returned (.int .i64 (imgI L T M U F)) ∧ Below w.heap.size w w' := by
  obtain ⟨w1, hw1⟩ : ∃ w1, w1 = (w.alloc (.cells #[.slice a L.length ca, .slice b T.length cb] 26)).alloc (.cells #[.slice a2 M.length ca2, .slice b2 U.length cb2] 26) := ⟨_, rfl⟩
  have hB : Below w.heap.size w w1 := by rw [hw1]; exact ((Below.refl _ _).alloc (Nat.le_refl _) _).alloc (by simp) _
  have hx : w1.heap[w.heap.size]? = some (.cells #[.slice a L.length ca, .slice b T.length cb] 26 (0, 0)) := by rw [hw1, Below.heap_alloc _ _ _ (by simp)]; exact heap_alloc_new w _
  have hx2 : w1.heap[w.heap.size + 1]? = some (.cells #[.slice a2 M.length ca2, .slice b2 U.length cb2] 26 (0, 0)) := by rw [hw1]; exact heap_alloc2_new _ _ _
  have Kx := Lib.hid (show ∀ wz, Below w1.heap.size w1 wz → wz.heap[w.heap.size]? = some (.cells #[.slice a L.length ca, .slice b T.length cb] 26 (0, 0)) from fun wz h => (h.block _ (lt_of_block hx)).trans hx)
  have Kx2 := Lib.hid (show ∀ wz, Below w1.heap.size w1 wz → wz.heap[w.heap.size + 1]? = some (.cells #[.slice a2 M.length ca2, .slice b2 U.length cb2] 26 (0, 0)) from fun wz h => (h.block _ (lt_of_block hx2)).trans hx2)
  have KR := Lib.hid (show ∀ wz, Below w1.heap.size w1 wz → Rd wz a L from fun wz h => (hr.below hB).below h)
  have KT := Lib.hid (show ∀ wz, Below w1.heap.size w1 wz → RdT wz b T from fun wz h => (hT.below hB).below h)
  have KR2 := Lib.hid (show ∀ wz, Below w1.heap.size w1 wz → Rd wz a2 M from fun wz h => (hr2.below hB).below h)
  have KT2 := Lib.hid (show ∀ wz, Below w1.heap.size w1 wz → RdT wz b2 U from fun wz h => (hT2.below hB).below h)
  have KF := Lib.hid (show ∀ wz, Below w1.heap.size w1 wz → Rd wz af F from fun wz h => (hf.below hB).below h)
  have z1 : Below w1.heap.size w1 w1 := Below.refl _ _
  clear hr hT hr2 hT2 hf hx hx2
  cases hI : isMapB L T M U F with
  | false =>
    have hv := Lib.hid (show imgI L T M U F = -1 by unfold imgI; rw [hI]; rfl)
    have HI := Lib.hid hI
    clear hI
    go_enter Try.func17, Try.ntmps17
    go_wp2_with (first
      | go_skip
      | (rw [← hw1]; clear hw1)
      | (refine wpList_load_row_w rfl 26 _ rfl w.heap.size rfl _ _ _ _ (Kx.out _ (by assumption)) Try.underlying26 rfl (size_Alg _ _) ?_)
      | (refine wpList_load_row_w rfl 26 _ rfl (w.heap.size + 1) rfl _ _ _ _ (Kx2.out _ (by assumption)) Try.underlying26 rfl (size_Alg _ _) ?_)
      | (go_at_call 7; refine (ret_below (implIsMap_any _ _ _ _ L T _ _ _ _ M U _ cf F _ (KR.out _ z1) (KT.out _ z1) (KR2.out _ z1) (KT2.out _ z1) (KF.out _ z1) hl) HI.out).mono ?_; rintro e w2 ⟨rfl, h2⟩; have z2 : Below w1.heap.size w1 w2 := h2))
    go_ret
    exact ⟨ret_int (by rw [hv.out]), hB.trans (z2.mono hB.size)⟩
  | true =>
    have hv := Lib.hid (show imgI L T M U F = setL F by unfold imgI; rw [hI]; rfl)
    obtain ⟨_, hA2, _, hlen, hR⟩ := isMap_parts hI
    have m6 := (lat_len (alg_lat hA2)).2
    have HR := Lib.hid (show ∀ k, 0 ≤ k → k < num F → 0 ≤ nth F k ∧ nth F k < 6 from fun k k0 k1 => by have := hR k k0 k1; omega)
    have HI := Lib.hid hI
    clear hI hR hA2
    go_enter Try.func17, Try.ntmps17
    go_wp2_with (first
      | go_skip
      | (rw [← hw1]; clear hw1)
      | (refine wpList_load_row_w rfl 26 _ rfl w.heap.size rfl _ _ _ _ (Kx.out _ (by assumption)) Try.underlying26 rfl (size_Alg _ _) ?_)
      | (refine wpList_load_row_w rfl 26 _ rfl (w.heap.size + 1) rfl _ _ _ _ (Kx2.out _ (by assumption)) Try.underlying26 rfl (size_Alg _ _) ?_)
      | (go_at_call 7; refine (ret_below (implIsMap_any _ _ _ _ L T _ _ _ _ M U _ cf F _ (KR.out _ z1) (KT.out _ z1) (KR2.out _ z1) (KT2.out _ z1) (KF.out _ z1) hl) HI.out).mono ?_; rintro e w2 ⟨rfl, h2⟩; have z2 : Below w1.heap.size w1 w2 := h2)
      | (go_at_call 33; refine (setOf_any _ _ F _ (KF.out _ z2) HR.out hl).mono ?_; rintro e w5 ⟨rfl, rfl⟩))
    go_ret
    exact ⟨ret_int (by rw [hv.out]), hB.trans (z2.mono hB.size)⟩
theorem enters_ker : Enters 35 := enters_of Try.func35 (by kernel_rfl) rfl
theorem append1p (a b c : Value) : (#[a] ++ #[b, c] : Array Value) = #[a, b, c] := rfl
set_option maxRecDepth 100000 in
set_option maxHeartbeats 2000000 in
theorem kerClo_any (M F : List Int) (bf bg : Nat) (af : Option Addr) (cf : Nat) (x : Int) (w : World) (hs : w.heap[bf]? = some (.cells #[.slice af F.length cf] 23 (0, 0))) (hg : w.heap[bg]? = some (.cells #[.int .i64 ((M.length : Int) - 1)] 3 (0, 0))) (hf : Rd w af F) (x0 : 0 ≤ x) (x1 : x < num F) :
    Calls Try.prog 35 #[.int .i64 x, .pointer (some ⟨bf, 0, none⟩), .pointer (some ⟨bg, 0, none⟩)] w fun e w' => e = .returned (.bool (kerQ M F x)) ∧ Dr w w' := by
  have cs := cell_of_one hs
  have cg := cell_of_one hg
  have hnf : num F = F.length := rfl
  have hxf : x < F.length := by omega
  obtain ⟨fb, fo, rfl, hc⟩ := hf.pos (show 1 ≤ num F by omega)
  have d0 := hc.at x x0 x1
  have hq := Lib.hid (show kerQ M F x = (nth F x == (M.length : Int) - 1) from rfl)
  clear hc
  go_enter Try.func35, Try.ntmps35
  go_wp2
  go_quiet (fail)
  go_wp2
  go_ret
  exact ⟨ret_bool (by rw [hq.out]), ⟨_, rfl⟩⟩
set_option maxRecDepth 100000 in
set_option maxHeartbeats 4000000 in
theorem implKernelOf_any (a b : Option Addr) (ca cb : Nat) (L : List Int) (T : List (List Int)) (a2 b2 : Option Addr) (ca2 cb2 : Nat) (M : List Int) (U : List (List Int)) (af : Option Addr) (cf : Nat) (F : List Int) (w : World) (hr : Rd w a L) (hT : RdT w b T) (hr2 : Rd w a2 M) (hT2 : RdT w b2 U) (hf : Rd w af F) (hl : F.length ≤ 1048576) :
    Calls Try.prog 12 #[.agg #[.slice a L.length ca, .slice b T.length cb], .agg #[.slice a2 M.length ca2, .slice b2 U.length cb2], .slice af F.length cf] w fun e w' => e = .returned (.int .i64 (kerI L T M U F)) ∧ Below w.heap.size w w' := by
  obtain ⟨w1, hw1⟩ : ∃ w1, w1 = ((w.alloc (.cells #[.slice a L.length ca, .slice b T.length cb] 26)).alloc (.cells #[.slice a2 M.length ca2, .slice b2 U.length cb2] 26)).alloc (.cells #[.slice af F.length cf] 23) := ⟨_, rfl⟩
  have hB : Below w.heap.size w w1 := by rw [hw1]; exact (((Below.refl _ _).alloc (Nat.le_refl _) _).alloc (by simp) _).alloc (by simp; omega) _
  have hx : w1.heap[w.heap.size]? = some (.cells #[.slice a L.length ca, .slice b T.length cb] 26 (0, 0)) := by rw [hw1, Below.heap_alloc _ _ _ (by simp; omega), Below.heap_alloc _ _ _ (by simp)]; exact heap_alloc_new w _
  have hx2 : w1.heap[w.heap.size + 1]? = some (.cells #[.slice a2 M.length ca2, .slice b2 U.length cb2] 26 (0, 0)) := by rw [hw1, Below.heap_alloc _ _ _ (by simp)]; exact heap_alloc2_new _ _ _
  have hx3 : w1.heap[w.heap.size + 1 + 1]? = some (.cells #[.slice af F.length cf] 23 (0, 0)) := by
    have := heap_alloc_new ((w.alloc (.cells #[.slice a L.length ca, .slice b T.length cb] 26)).alloc (.cells #[.slice a2 M.length ca2, .slice b2 U.length cb2] 26)) (.cells #[.slice af F.length cf] 23)
    rw [hw1]; simpa using this
  have Kx3 := Lib.hid (show ∀ wz, Below w1.heap.size w1 wz → wz.heap[w.heap.size + 1 + 1]? = some (.cells #[.slice af F.length cf] 23 (0, 0)) from fun wz h => (h.block _ (lt_of_block hx3)).trans hx3)
  have Kx := Lib.hid (show ∀ wz, Below w1.heap.size w1 wz → wz.heap[w.heap.size]? = some (.cells #[.slice a L.length ca, .slice b T.length cb] 26 (0, 0)) from fun wz h => (h.block _ (lt_of_block hx)).trans hx)
  have Kx2 := Lib.hid (show ∀ wz, Below w1.heap.size w1 wz → wz.heap[w.heap.size + 1]? = some (.cells #[.slice a2 M.length ca2, .slice b2 U.length cb2] 26 (0, 0)) from fun wz h => (h.block _ (lt_of_block hx2)).trans hx2)
  have KR := Lib.hid (show ∀ wz, Below w1.heap.size w1 wz → Rd wz a L from fun wz h => (hr.below hB).below h)
  have KT := Lib.hid (show ∀ wz, Below w1.heap.size w1 wz → RdT wz b T from fun wz h => (hT.below hB).below h)
  have KR2 := Lib.hid (show ∀ wz, Below w1.heap.size w1 wz → Rd wz a2 M from fun wz h => (hr2.below hB).below h)
  have KT2 := Lib.hid (show ∀ wz, Below w1.heap.size w1 wz → RdT wz b2 U from fun wz h => (hT2.below hB).below h)
  have KF := Lib.hid (show ∀ wz, Below w1.heap.size w1 wz → Rd wz af F from fun wz h => (hf.below hB).below h)
  have z1 : Below w1.heap.size w1 w1 := Below.refl _ _
  clear hr hT hr2 hT2 hf hx hx2
  have c3 := cell_of_one (Kx3.out _ z1)
  cases hI : isMapB L T M U F with
  | false =>
    have hv := Lib.hid (show kerI L T M U F = -1 by unfold kerI; rw [hI]; rfl)
    have HI := Lib.hid hI
    clear hI
    go_enter Try.func12, Try.ntmps12
    go_wp2_with (first
      | go_skip
      | (rw [← hw1]; clear hw1)
      | (refine wpList_load_row_w rfl 26 _ rfl w.heap.size rfl _ _ _ _ (Kx.out _ (by assumption)) Try.underlying26 rfl (size_Alg _ _) ?_)
      | (refine wpList_load_row_w rfl 26 _ rfl (w.heap.size + 1) rfl _ _ _ _ (Kx2.out _ (by assumption)) Try.underlying26 rfl (size_Alg _ _) ?_)
      | (go_at_call 7; refine (ret_below (implIsMap_any _ _ _ _ L T _ _ _ _ M U _ cf F _ (KR.out _ z1) (KT.out _ z1) (KR2.out _ z1) (KT2.out _ z1) (KF.out _ z1) hl) HI.out).mono ?_; rintro e w2 ⟨rfl, h2⟩; have z2 : Below w1.heap.size w1 w2 := h2))
    go_ret
    exact ⟨ret_int (by rw [hv.out]), hB.trans (z2.mono hB.size)⟩
  | true =>
    have hv := Lib.hid (show kerI L T M U F = rowTo (kerQ M F) (num F) by unfold kerI; rw [hI]; rfl)
    obtain ⟨hA, hA2, _, hlen, hR⟩ := isMap_parts hI
    have n1 := (lat_len (alg_lat hA)).1
    have n6 := (lat_len (alg_lat hA)).2
    have m1 := (lat_len (alg_lat hA2)).1
    have m6 := (lat_len (alg_lat hA2)).2
    have hnf : num F = F.length := rfl
    have hnm : num M = M.length := rfl
    have k1 : IntKind.i64.wrap ((M.length : Int) - 1) = (M.length : Int) - 1 := IntWalk.i64_in _ (by omega)
    have HSF := Lib.hid (show setL (filtTo (kerQ M F) (F.length : Int)) = rowTo (kerQ M F) (num F) from setL_filt (kerQ M F) F.length (by omega))
    have HEL := Lib.hid (show ∀ k, 0 ≤ k → k < num (filtTo (kerQ M F) (F.length : Int)) → 0 ≤ nth (filtTo (kerQ M F) (F.length : Int)) k ∧ nth (filtTo (kerQ M F) (F.length : Int)) k < 6 from fun k k0 k1 => by
      have hm := (filtTo_mem (kerQ M F) (F.length : Int) _).1 (nth_mem (filtTo (kerQ M F) (F.length : Int)) k0 k1)
      exact ⟨hm.1, by omega⟩)
    have HLN := Lib.hid (show (filtTo (kerQ M F) (F.length : Int)).length ≤ 1048576 from by have := filtTo_len (kerQ M F) (F.length : Int); omega)
    have HI := Lib.hid hI
    clear hI hR hA hA2
    go_enter Try.func12, Try.ntmps12
    go_wp2_with (first
      | go_skip
      | (rw [← hw1]; clear hw1)
      | (refine wpList_load_row_w rfl 26 _ rfl w.heap.size rfl _ _ _ _ (Kx.out _ (by assumption)) Try.underlying26 rfl (size_Alg _ _) ?_)
      | (refine wpList_load_row_w rfl 26 _ rfl (w.heap.size + 1) rfl _ _ _ _ (Kx2.out _ (by assumption)) Try.underlying26 rfl (size_Alg _ _) ?_)
      | (go_at_call 7; refine (ret_below (implIsMap_any _ _ _ _ L T _ _ _ _ M U _ cf F _ (KR.out _ z1) (KT.out _ z1) (KR2.out _ z1) (KT2.out _ z1) (KF.out _ z1) hl) HI.out).mono ?_; rintro e w2 ⟨rfl, h2⟩; have z2 : Below w1.heap.size w1 w2 := h2; obtain ⟨e0, e1⟩ := bx_cells (Kx2.out _ z2); have c4 := cell_of_one (Kx3.out _ z2); obtain ⟨w3, hw3⟩ : ∃ x, x = w2.alloc (.cells #[.int .i64 ((M.length : Int) - 1)] 3) := ⟨_, rfl⟩; have z3 : Below w1.heap.size w1 w3 := (by rw [hw3]; exact z2.alloc z2.size _); have hg3 : w3.heap[w2.heap.size]? = some (.cells #[.int .i64 ((M.length : Int) - 1)] 3 (0, 0)) := (by rw [hw3]; exact heap_alloc_new w2 _); have c5 := cell_of_one (Kx3.out _ z3))
      | (rw [← hw3]; clear hw3)
      | (go_at_call 34; refine (elementsThat_any 35 #[.pointer (some ⟨w.heap.size + 1 + 1, 0, none⟩), .pointer (some ⟨w2.heap.size, 0, none⟩)] (F.length : Int) (kerQ M F) _ (by omega) (by omega) enters_ker fun x wr x0 x1 hb => (by rw [append1p]; exact (kerClo_any M F _ _ _ cf x wr (Kx3.out _ (z3.trans (hb.mono z3.size))) ((hb.block _ (lt_of_block hg3)).trans hg3) (KF.out _ (z3.trans (hb.mono z3.size))) x0 x1).mono fun _ _ h => ⟨h.1, h.2.below _⟩)).mono ?_; rintro e w6 hret; obtain ⟨a6, c6, rfl, o6, h6⟩ := hret.sl; have z6 := z3.trans (h6.mono z3.size))
      | (go_at_call 33; refine (setOf_any _ _ _ _ o6.rd HEL.out HLN.out).mono ?_; rintro e w7 ⟨rfl, rfl⟩))
    go_ret
    exact ⟨ret_int (by rw [hv.out, HSF.out]), hB.trans (z6.mono hB.size)⟩
end Go.Proofs.Ytljnbhnnjfnjeaa
