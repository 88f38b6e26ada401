import Derived.Test.YtjcambkjcagcoaaGreatKM5
import Derived.Test.YtjcambkjcagcoaaGreatN12
namespace Go.Proofs.YtjcambkjcagcoaaGreat
open Go.RowKit

theorem grs_64 {L : List Int} {T : List (List Int)} (h : latB L = true) : (grs L T).length ≤ 64 := filt_64 h _
theorem grs_63 {L : List Int} {T : List (List Int)} (h : latB L = true) : ∀ s ∈ grs L T, 0 ≤ s ∧ s ≤ 63 := filt_63 h _
theorem enters_grf : Enters 75 := enters_of Tryz.func75 (by kernel_rfl) rfl
set_option maxRecDepth 100000 in
set_option maxHeartbeats 2000000 in
theorem implGreatestFilters_no (a b : Option Addr) (ca cb : Nat) (L : List Int) (T : List (List Int))  (w : World) (hr : Rd w a L) (hT : RdT w b T) (h : algB L T = false) :
    Calls Tryz.prog 26 #[.agg #[.slice a L.length ca, .slice b T.length cb]] w (RetSl w.heap.size (algV L T (grs L T)) w) := by
  obtain ⟨w1, hw1⟩ : ∃ w1, w1 = w.alloc (.cells #[.slice a L.length ca, .slice b T.length cb] 26) := ⟨_, rfl⟩
  have hB : Below w.heap.size w w1 := by rw [hw1]; exact (Below.refl _ _).alloc (Nat.le_refl _) _
  have hx : w1.heap[w.heap.size]? = some (.cells #[.slice a L.length ca, .slice b T.length cb] 26 (0, 0)) := by rw [hw1]; exact heap_alloc_new w _
  have Kx := Lib.hid (show ∀ wz, Below w1.heap.size w1 wz → wz.heap[w.heap.size]? = some (.cells #[.slice a L.length ca, .slice b T.length cb] 26 (0, 0)) from fun wz h => (h.block _ (lt_of_block hx)).trans hx)
  have KR := Lib.hid (show ∀ wz, Below w1.heap.size w1 wz → Rd wz a L from fun wz h => (hr.below hB).below h)
  have KT := Lib.hid (show ∀ wz, Below w1.heap.size w1 wz → RdT wz b T from fun wz h => (hT.below hB).below h)
  have z1 : Below w1.heap.size w1 w1 := Below.refl _ _
  clear hr hT hx
  have hv := Lib.hid (show algV L T (grs L T) = [] by exact algV_f h)
  have HA := Lib.hid h
  clear h
  go_enter Tryz.func26, Tryz.ntmps26
  go_wp2_with (first
    | go_skip
    | (rw [← hw1]; clear hw1)
    | (refine wpList_load_row_w rfl 26 _ rfl w.heap.size rfl _ _ _ _ (Kx.out _ (by assumption)) Tryz.underlying26 rfl (size_Alg _ _) ?_)
    | (go_at_call 43; refine (readAlgebra_no _ _ _ _ L T _ (KR.out _ z1) (KT.out _ z1) HA.out).mono ?_; rintro e w2 ⟨rfl, h2⟩; have z2 : Below w1.heap.size w1 w2 := h2)
    | (refine wpList_store_row rfl 63 _ _ rfl w2.heap.size zeroAlg rfl rfl _ _ (heap_alloc_new w2 (.cells zeroAlg 63)) size_zeroAlg rfl one_zeroAlg ?_; rw [World.setRow_alloc_new]; obtain ⟨bl, hbl⟩ : ∃ bl, bl = w2.heap.size := ⟨_, rfl⟩; obtain ⟨w9, hw9⟩ : ∃ w9, w9 = w2.alloc (.cells zeroAlg 63) := ⟨_, rfl⟩; rw [← hw9, ← hbl]; have B9 : Below w1.heap.size w1 w9 := (by rw [hw9]; exact z2.alloc z2.size _); clear hw9 hbl))
  go_ret
  rw [hv.out]
  exact ⟨none, 0, rfl, Own.nothing _ _, hB.trans (B9.mono hB.size)⟩
set_option maxRecDepth 100000 in
set_option maxHeartbeats 2000000 in
theorem implGreatestFilters_yes (a b : Option Addr) (ca cb : Nat) (L : List Int) (T : List (List Int))  (w : World) (hr : Rd w a L) (hT : RdT w b T) (h : algB L T = true) :
    Calls Tryz.prog 26 #[.agg #[.slice a L.length ca, .slice b T.length cb]] w (RetSl w.heap.size (algV L T (grs L T)) w) := by
  obtain ⟨w1, hw1⟩ : ∃ w1, w1 = w.alloc (.cells #[.slice a L.length ca, .slice b T.length cb] 26) := ⟨_, rfl⟩
  have hB : Below w.heap.size w w1 := by rw [hw1]; exact (Below.refl _ _).alloc (Nat.le_refl _) _
  have hx : w1.heap[w.heap.size]? = some (.cells #[.slice a L.length ca, .slice b T.length cb] 26 (0, 0)) := by rw [hw1]; exact heap_alloc_new w _
  have Kx := Lib.hid (show ∀ wz, Below w1.heap.size w1 wz → wz.heap[w.heap.size]? = some (.cells #[.slice a L.length ca, .slice b T.length cb] 26 (0, 0)) from fun wz h => (h.block _ (lt_of_block hx)).trans hx)
  have KR := Lib.hid (show ∀ wz, Below w1.heap.size w1 wz → Rd wz a L from fun wz h => (hr.below hB).below h)
  have KT := Lib.hid (show ∀ wz, Below w1.heap.size w1 wz → RdT wz b T from fun wz h => (hT.below hB).below h)
  have z1 : Below w1.heap.size w1 w1 := Below.refl _ _
  clear hr hT hx
  have hv := Lib.hid (algV_t (V := grs L T) h)
  have HALG := Lib.hid h
  have HA := Lib.hid h
  clear h
  go_enter Tryz.func26, Tryz.ntmps26
  go_wp2_with (first
    | go_skip
    | (rw [← hw1]; clear hw1)
    | (refine wpList_load_row_w rfl 26 _ rfl w.heap.size rfl _ _ _ _ (Kx.out _ (by assumption)) Tryz.underlying26 rfl (size_Alg _ _) ?_)
    | (go_at_call 43; refine (readAlgebra_yes _ _ _ _ L T _ (KR.out _ z1) (KT.out _ z1) HA.out).mono ?_; rintro e w2 ⟨rfl, h2⟩; have z2 : Below w1.heap.size w1 w2 := h2)
    | (refine wpList_store_row rfl 63 _ _ rfl w2.heap.size (algOf L T) rfl rfl _ _ (heap_alloc_new w2 (.cells zeroAlg 63)) (size_alg _ _ _ _ _ _) rfl (one_alg _ _ _ _ _ _) ?_; rw [World.setRow_alloc_new]; obtain ⟨bl, hbl⟩ : ∃ bl, bl = w2.heap.size := ⟨_, rfl⟩; obtain ⟨w9, hw9⟩ : ∃ w9, w9 = w2.alloc (.cells (algOf L T) 63) := ⟨_, rfl⟩; rw [← hw9, ← hbl]; have hA : AlgAt w9 bl L T := (by rw [hw9, hbl]; exact AlgAt.new w2 L T); have B9 : Below w1.heap.size w1 w9 := (by rw [hw9]; exact z2.alloc z2.size _); clear hw9 hbl)
    | (refine wpList_load_row_w rfl 63 _ rfl bl rfl _ _ _ _ hA Tryz.underlying63 rfl (size_alg _ _ _ _ _ _) ?_)
    | (go_at_call 75; refine (greatestFilters_any L T _ HALG.out).mono ?_; rintro e w11 ⟨a3, c3, rfl, o3, h3⟩; have B11 : Below w1.heap.size w1 w11 := B9.trans (h3.mono B9.size)))
  go_ret
  rw [hv.out]
  exact ⟨a3, c3, rfl, o3.from (by have := hB.size; have := B9.size; omega), hB.trans (B11.mono hB.size)⟩
theorem implGreatestFilters_any (a b : Option Addr) (ca cb : Nat) (L : List Int) (T : List (List Int))  (w : World) (hr : Rd w a L) (hT : RdT w b T) :
    Calls Tryz.prog 26 #[.agg #[.slice a L.length ca, .slice b T.length cb]] w (RetSl w.heap.size (algV L T (grs L T)) w) := by
  by_cases h : algB L T = true
  · exact implGreatestFilters_yes a b ca cb L T  w hr hT h
  · exact implGreatestFilters_no a b ca cb L T  w hr hT (by simpa using h)
set_option maxRecDepth 100000 in
set_option maxHeartbeats 2000000 in
theorem implRadicalOf_no (a b : Option Addr) (ca cb : Nat) (L : List Int) (T : List (List Int))  (w : World) (hr : Rd w a L) (hT : RdT w b T) (h : algB L T = false) :
    Calls Tryz.prog 31 #[.agg #[.slice a L.length ca, .slice b T.length cb]] w fun e w' => e = .returned (.int .i64 (radI L T)) ∧ Below w.heap.size w w' := by
  obtain ⟨w1, hw1⟩ : ∃ w1, w1 = w.alloc (.cells #[.slice a L.length ca, .slice b T.length cb] 26) := ⟨_, rfl⟩
  have hB : Below w.heap.size w w1 := by rw [hw1]; exact (Below.refl _ _).alloc (Nat.le_refl _) _
  have hx : w1.heap[w.heap.size]? = some (.cells #[.slice a L.length ca, .slice b T.length cb] 26 (0, 0)) := by rw [hw1]; exact heap_alloc_new w _
  have Kx := Lib.hid (show ∀ wz, Below w1.heap.size w1 wz → wz.heap[w.heap.size]? = some (.cells #[.slice a L.length ca, .slice b T.length cb] 26 (0, 0)) from fun wz h => (h.block _ (lt_of_block hx)).trans hx)
  have KR := Lib.hid (show ∀ wz, Below w1.heap.size w1 wz → Rd wz a L from fun wz h => (hr.below hB).below h)
  have KT := Lib.hid (show ∀ wz, Below w1.heap.size w1 wz → RdT wz b T from fun wz h => (hT.below hB).below h)
  have z1 : Below w1.heap.size w1 w1 := Below.refl _ _
  clear hr hT hx
  have hv := Lib.hid (show radI L T = -1 by unfold radI; rw [h]; rfl)
  have HA := Lib.hid h
  clear h
  go_enter Tryz.func31, Tryz.ntmps31
  go_wp2_with (first
    | go_skip
    | (rw [← hw1]; clear hw1)
    | (refine wpList_load_row_w rfl 26 _ rfl w.heap.size rfl _ _ _ _ (Kx.out _ (by assumption)) Tryz.underlying26 rfl (size_Alg _ _) ?_)
    | (go_at_call 43; refine (readAlgebra_no _ _ _ _ L T _ (KR.out _ z1) (KT.out _ z1) HA.out).mono ?_; rintro e w2 ⟨rfl, h2⟩; have z2 : Below w1.heap.size w1 w2 := h2)
    | (refine wpList_store_row rfl 63 _ _ rfl w2.heap.size zeroAlg rfl rfl _ _ (heap_alloc_new w2 (.cells zeroAlg 63)) size_zeroAlg rfl one_zeroAlg ?_; rw [World.setRow_alloc_new]; obtain ⟨bl, hbl⟩ : ∃ bl, bl = w2.heap.size := ⟨_, rfl⟩; obtain ⟨w9, hw9⟩ : ∃ w9, w9 = w2.alloc (.cells zeroAlg 63) := ⟨_, rfl⟩; rw [← hw9, ← hbl]; have B9 : Below w1.heap.size w1 w9 := (by rw [hw9]; exact z2.alloc z2.size _); clear hw9 hbl))
  go_ret
  exact ⟨ret_int (by rw [hv.out]), hB.trans (B9.mono hB.size)⟩
set_option maxRecDepth 100000 in
set_option maxHeartbeats 2000000 in
theorem implRadicalOf_yes (a b : Option Addr) (ca cb : Nat) (L : List Int) (T : List (List Int))  (w : World) (hr : Rd w a L) (hT : RdT w b T) (h : algB L T = true) :
    Calls Tryz.prog 31 #[.agg #[.slice a L.length ca, .slice b T.length cb]] w fun e w' => e = .returned (.int .i64 (radI L T)) ∧ Below w.heap.size w w' := by
  obtain ⟨w1, hw1⟩ : ∃ w1, w1 = w.alloc (.cells #[.slice a L.length ca, .slice b T.length cb] 26) := ⟨_, rfl⟩
  have hB : Below w.heap.size w w1 := by rw [hw1]; exact (Below.refl _ _).alloc (Nat.le_refl _) _
  have hx : w1.heap[w.heap.size]? = some (.cells #[.slice a L.length ca, .slice b T.length cb] 26 (0, 0)) := by rw [hw1]; exact heap_alloc_new w _
  have Kx := Lib.hid (show ∀ wz, Below w1.heap.size w1 wz → wz.heap[w.heap.size]? = some (.cells #[.slice a L.length ca, .slice b T.length cb] 26 (0, 0)) from fun wz h => (h.block _ (lt_of_block hx)).trans hx)
  have KR := Lib.hid (show ∀ wz, Below w1.heap.size w1 wz → Rd wz a L from fun wz h => (hr.below hB).below h)
  have KT := Lib.hid (show ∀ wz, Below w1.heap.size w1 wz → RdT wz b T from fun wz h => (hT.below hB).below h)
  have z1 : Below w1.heap.size w1 w1 := Below.refl _ _
  clear hr hT hx
  have hv := Lib.hid (show radI L T = com (num L) (grs L T) by unfold radI; rw [h]; rfl)
  have HALG := Lib.hid h
  have HA := Lib.hid h
  clear h
  go_enter Tryz.func31, Tryz.ntmps31
  go_wp2_with (first
    | go_skip
    | (rw [← hw1]; clear hw1)
    | (refine wpList_load_row_w rfl 26 _ rfl w.heap.size rfl _ _ _ _ (Kx.out _ (by assumption)) Tryz.underlying26 rfl (size_Alg _ _) ?_)
    | (go_at_call 43; refine (readAlgebra_yes _ _ _ _ L T _ (KR.out _ z1) (KT.out _ z1) HA.out).mono ?_; rintro e w2 ⟨rfl, h2⟩; have z2 : Below w1.heap.size w1 w2 := h2)
    | (refine wpList_store_row rfl 63 _ _ rfl w2.heap.size (algOf L T) rfl rfl _ _ (heap_alloc_new w2 (.cells zeroAlg 63)) (size_alg _ _ _ _ _ _) rfl (one_alg _ _ _ _ _ _) ?_; rw [World.setRow_alloc_new]; obtain ⟨bl, hbl⟩ : ∃ bl, bl = w2.heap.size := ⟨_, rfl⟩; obtain ⟨w9, hw9⟩ : ∃ w9, w9 = w2.alloc (.cells (algOf L T) 63) := ⟨_, rfl⟩; rw [← hw9, ← hbl]; have hA : AlgAt w9 bl L T := (by rw [hw9, hbl]; exact AlgAt.new w2 L T); have B9 : Below w1.heap.size w1 w9 := (by rw [hw9]; exact z2.alloc z2.size _); clear hw9 hbl))
  have Q9 := Lib.hid (show ∀ wz, Below w9.heap.size w9 wz → AlgAt wz bl L T from fun wz hz => hA.below hz hA.lt)
  refine wp_region_any (by kernel_rfl) ?_
  refine any_of_C (C := fun wz => Below w9.heap.size w9 wz) _ _ _ _ ?_
  refine anyC_take (i := 0) (v := .agg (algOf L T)) rfl (by kernel_rfl) (by kernel_rfl) (by kernel_rfl) (fun _ _ _ h => h) (.inl ⟨rfl, fun wz hz => runs_load (C := fun wz => Below w9.heap.size w9 wz) 63 _ rfl bl rfl _ _ _ _ (fun w hw => Q9.out w hw) Tryz.underlying63 rfl (size_alg _ _ _ _ _ _) wz hz⟩) ?_
  refine anyC_take (i := 1) (v := .agg (algOf L T)) rfl (by kernel_rfl) (by kernel_rfl) (by kernel_rfl) (fun _ _ _ h => h) (.inl ⟨rfl, fun wz hz => runs_load (C := fun wz => Below w9.heap.size w9 wz) 63 _ rfl bl rfl _ _ _ _ (fun w hw => Q9.out w hw) Tryz.underlying63 rfl (size_alg _ _ _ _ _ _) wz hz⟩) ?_
  have zd : Below w9.heap.size w9 (w9.drewN 1) := Dr.below ⟨1, rfl⟩ _
  refine anyC_call (i := 2) (o := _) (f := 75) (args := #[.agg (algOf L T)]) rfl (by kernel_rfl) rfl (by apply runs_call1 (he := enters_grf) <;> rfl) zd ?_
  refine (greatestFilters_any L T (w9.drewN 1) HALG.out).mono ?_
  rintro e w11 ⟨a3, c3, rfl, o3, h3⟩
  have y11 : Below w9.heap.size w9 w11 := zd.trans (h3.mono zd.size)
  refine ⟨_, rfl, ?_⟩
  refine anyC_call (i := 3) (o := _) (f := 77) (args := #[.agg (algOf L T), .slice a3 (grs L T).length c3]) rfl (by kernel_rfl) rfl (by apply runs_call2 (he := enters_com) <;> rfl) y11 ?_
  refine (common_any a3 c3 L T (grs L T) w11 o3.rd HALG.out (grs_64 (alg_lat HALG.out)) (grs_63 (alg_lat HALG.out))).mono ?_
  rintro e w12 ⟨rfl, h4⟩
  have y12 : Below w9.heap.size w9 w12 := y11.trans (h4.mono y11.size)
  have B12 : Below w1.heap.size w1 w12 := B9.trans (y12.mono B9.size)
  refine ⟨_, rfl, ?_⟩
  refine anyC_take (i := 4) (v := .int .i64 (com (num L) (grs L T))) rfl (by kernel_rfl) (by kernel_rfl) (by kernel_rfl) (fun _ _ _ h => h) (.inl ⟨rfl, fun wz hz => by apply runs_assign <;> rfl⟩) ?_
  refine anyC_done (by kernel_rfl) y12 ?_ _
  simp only [List.getElem_toArray, List.getElem_cons_zero, List.getElem_cons_succ, Act.put, List.setIfInBounds_toArray, List.set_cons_succ, List.set_cons_zero]
  go_wp2
  go_ret
  exact ⟨ret_int (by rw [hv.out]), hB.trans (B12.mono hB.size)⟩
theorem implRadicalOf_any (a b : Option Addr) (ca cb : Nat) (L : List Int) (T : List (List Int))  (w : World) (hr : Rd w a L) (hT : RdT w b T) :
    Calls Tryz.prog 31 #[.agg #[.slice a L.length ca, .slice b T.length cb]] w fun e w' => e = .returned (.int .i64 (radI L T)) ∧ Below w.heap.size w w' := by
  by_cases h : algB L T = true
  · exact implRadicalOf_yes a b ca cb L T  w hr hT h
  · exact implRadicalOf_no a b ca cb L T  w hr hT (by simpa using h)
set_option maxRecDepth 100000 in
set_option maxHeartbeats 2000000 in
/-- impl.IsLocal -/
theorem implIsLocal_any (a b : Option Addr) (ca cb : Nat) (L : List Int) (T : List (List Int)) (w : World) (hr : Rd w a L) (hT : RdT w b T) :
    Calls Tryz.prog 39 #[.agg #[.slice a L.length ca, .slice b T.length cb]] w fun e w' => e = .returned (.bool (algB L T && (((grs L T).length : Int) == 1))) ∧ Below w.heap.size w w' := by
  obtain ⟨w1, hw1⟩ : ∃ w1, w1 = w.alloc (.cells #[.slice a L.length ca, .slice b T.length cb] 26) := ⟨_, rfl⟩
  have hB : Below w.heap.size w w1 := by rw [hw1]; exact (Below.refl _ _).alloc (Nat.le_refl _) _
  have hx : w1.heap[w.heap.size]? = some (.cells #[.slice a L.length ca, .slice b T.length cb] 26 (0, 0)) := by rw [hw1]; exact heap_alloc_new w _
  have Kx := Lib.hid (show ∀ wz, Below w1.heap.size w1 wz → wz.heap[w.heap.size]? = some (.cells #[.slice a L.length ca, .slice b T.length cb] 26 (0, 0)) from fun wz h => (h.block _ (lt_of_block hx)).trans hx)
  have KR := Lib.hid (show ∀ wz, Below w1.heap.size w1 wz → Rd wz a L from fun wz h => (hr.below hB).below h)
  have KT := Lib.hid (show ∀ wz, Below w1.heap.size w1 wz → RdT wz b T from fun wz h => (hT.below hB).below h)
  have z1 : Below w1.heap.size w1 w1 := Below.refl _ _
  clear hr hT hx
  have hv := Lib.hid (show (((algV L T (grs L T)).length : Int) == 1) = (algB L T && (((grs L T).length : Int) == 1)) by
    cases hA : algB L T with
    | false => rw [algV_f hA]; rfl
    | true => rw [algV_t hA]; rfl)
  go_enter Tryz.func39, Tryz.ntmps39
  go_wp2_with (first
    | go_skip
    | (rw [← hw1]; clear hw1)
    | (refine wpList_load_row_w rfl 26 _ rfl w.heap.size rfl _ _ _ _ (Kx.out _ (by assumption)) Tryz.underlying26 rfl (size_Alg _ _) ?_)
    | (go_at_call 26; refine (implGreatestFilters_any _ _ _ _ L T _ (KR.out _ z1) (KT.out _ z1)).mono ?_; rintro e w3 ⟨a3, c3, rfl, o3, h3⟩))
  go_ret
  exact ⟨ret_bool (by rw [← hv.out]), hB.trans (h3.mono hB.size)⟩
end Go.Proofs.YtjcambkjcagcoaaGreat
