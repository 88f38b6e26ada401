import Derived.Test.YtpfnfglaokiipacN6
namespace Go.Proofs.Ytpfnfglaokiipac
open Go.RowKit

theorem AlgAt.run {w : World} {b : Nat} {L : List Int} {T : List (List Int)} (h : AlgAt w b L T) : (loadVar 60 ⟨b, 0, none⟩).run Try.prog w = .ok (.agg (algOf L T)) w :=
  run_loadVar_row w b _ _ _ _ _ h Try.underlying60 rfl (size_alg _ _ _ _ _ _)
set_option maxRecDepth 100000 in
set_option maxHeartbeats 2000000 in
theorem implIsFilter_no (a b : Option Addr) (ca cb : Nat) (L : List Int) (T : List (List Int)) (f : Int) (w : World) (hr : Rd w a L) (hT : RdT w b T) (h : afB L T f = false) :
    Calls Try.prog 23 #[.agg #[.slice a L.length ca, .slice b T.length cb], .int .i64 f] w fun e w' => e = .returned (.bool (afB L T f)) ∧ Below w.heap.size w w' := by
  obtain ⟨w1, hw1⟩ : ∃ w1, w1 = w.alloc (.cells #[.slice a L.length ca, .slice b T.length cb] 27) := ⟨_, rfl⟩
  have hB : Below w.heap.size w w1 := by rw [hw1]; exact (Below.refl _ _).alloc (Nat.le_refl _) _
  have hx : w1.heap[w.heap.size]? = some (.cells #[.slice a L.length ca, .slice b T.length cb] 27 (0, 0)) := by rw [hw1]; exact heap_alloc_new w _
  have Kx := Lib.hid (show ∀ wz, Below w1.heap.size w1 wz → wz.heap[w.heap.size]? = some (.cells #[.slice a L.length ca, .slice b T.length cb] 27 (0, 0)) from fun wz h => (h.block _ (lt_of_block hx)).trans hx)
  have KR := Lib.hid (show ∀ wz, Below w1.heap.size w1 wz → Rd wz a L from fun wz h => (hr.below hB).below h)
  have KT := Lib.hid (show ∀ wz, Below w1.heap.size w1 wz → RdT wz b T from fun wz h => (hT.below hB).below h)
  have z1 : Below w1.heap.size w1 w1 := Below.refl _ _
  clear hr hT hx
  have hv := Lib.hid (show afB L T f = false by exact h)
  have HA := Lib.hid h
  clear h
  go_enter Try.func23, Try.ntmps23
  go_wp2_with (first
    | go_skip
    | (rw [← hw1]; clear hw1)
    | (refine wpList_load_row_w rfl 27 _ rfl w.heap.size rfl _ _ _ _ (Kx.out _ (by assumption)) Try.underlying27 rfl (size_Alg _ _) ?_)
    | (go_at_call 63; refine (readFil_no _ _ _ _ L T f _ (KR.out _ z1) (KT.out _ z1) HA.out).mono ?_; rintro e w2 ⟨rfl, h2⟩; have z2 : Below w1.heap.size w1 w2 := h2)
    | (refine wpList_store_row rfl 60 _ _ rfl w2.heap.size zeroAlg rfl rfl _ _ (heap_alloc_new w2 (.cells zeroAlg 60)) size_zeroAlg rfl one_zeroAlg ?_; rw [World.setRow_alloc_new]; obtain ⟨bl, hbl⟩ : ∃ bl, bl = w2.heap.size := ⟨_, rfl⟩; obtain ⟨w9, hw9⟩ : ∃ w9, w9 = w2.alloc (.cells zeroAlg 60) := ⟨_, rfl⟩; rw [← hw9, ← hbl]; have B9 : Below w1.heap.size w1 w9 := (by rw [hw9]; exact z2.alloc z2.size _); clear hw9 hbl))
  go_ret
  exact ⟨ret_bool (by rw [hv.out]), hB.trans (B9.mono hB.size)⟩
set_option maxRecDepth 100000 in
set_option maxHeartbeats 2000000 in
theorem implIsFilter_yes (a b : Option Addr) (ca cb : Nat) (L : List Int) (T : List (List Int)) (f : Int) (w : World) (hr : Rd w a L) (hT : RdT w b T) (h : afB L T f = true) :
    Calls Try.prog 23 #[.agg #[.slice a L.length ca, .slice b T.length cb], .int .i64 f] w fun e w' => e = .returned (.bool (afB L T f)) ∧ Below w.heap.size w w' := by
  obtain ⟨w1, hw1⟩ : ∃ w1, w1 = w.alloc (.cells #[.slice a L.length ca, .slice b T.length cb] 27) := ⟨_, rfl⟩
  have hB : Below w.heap.size w w1 := by rw [hw1]; exact (Below.refl _ _).alloc (Nat.le_refl _) _
  have hx : w1.heap[w.heap.size]? = some (.cells #[.slice a L.length ca, .slice b T.length cb] 27 (0, 0)) := by rw [hw1]; exact heap_alloc_new w _
  have Kx := Lib.hid (show ∀ wz, Below w1.heap.size w1 wz → wz.heap[w.heap.size]? = some (.cells #[.slice a L.length ca, .slice b T.length cb] 27 (0, 0)) from fun wz h => (h.block _ (lt_of_block hx)).trans hx)
  have KR := Lib.hid (show ∀ wz, Below w1.heap.size w1 wz → Rd wz a L from fun wz h => (hr.below hB).below h)
  have KT := Lib.hid (show ∀ wz, Below w1.heap.size w1 wz → RdT wz b T from fun wz h => (hT.below hB).below h)
  have z1 : Below w1.heap.size w1 w1 := Below.refl _ _
  clear hr hT hx
  have hv := Lib.hid h
  have HA := Lib.hid h
  clear h
  go_enter Try.func23, Try.ntmps23
  go_wp2_with (first
    | go_skip
    | (rw [← hw1]; clear hw1)
    | (refine wpList_load_row_w rfl 27 _ rfl w.heap.size rfl _ _ _ _ (Kx.out _ (by assumption)) Try.underlying27 rfl (size_Alg _ _) ?_)
    | (go_at_call 63; refine (readFil_good _ _ _ _ L T f _ (KR.out _ z1) (KT.out _ z1) HA.out).mono ?_; rintro e w2 ⟨rfl, h2⟩; have z2 : Below w1.heap.size w1 w2 := h2)
    | (refine wpList_store_row rfl 60 _ _ rfl w2.heap.size (algOf L T) rfl rfl _ _ (heap_alloc_new w2 (.cells zeroAlg 60)) (size_alg _ _ _ _ _ _) rfl (one_alg _ _ _ _ _ _) ?_; rw [World.setRow_alloc_new]; obtain ⟨bl, hbl⟩ : ∃ bl, bl = w2.heap.size := ⟨_, rfl⟩; obtain ⟨w9, hw9⟩ : ∃ w9, w9 = w2.alloc (.cells (algOf L T) 60) := ⟨_, rfl⟩; rw [← hw9, ← hbl]; have hA : AlgAt w9 bl L T := (by rw [hw9, hbl]; exact AlgAt.new w2 L T); have B9 : Below w1.heap.size w1 w9 := (by rw [hw9]; exact z2.alloc z2.size _); clear hw9 hbl))
  go_ret
  exact ⟨ret_bool (by rw [hv.out]), hB.trans (B9.mono hB.size)⟩
theorem implIsFilter_any (a b : Option Addr) (ca cb : Nat) (L : List Int) (T : List (List Int)) (f : Int) (w : World) (hr : Rd w a L) (hT : RdT w b T) :
    Calls Try.prog 23 #[.agg #[.slice a L.length ca, .slice b T.length cb], .int .i64 f] w fun e w' => e = .returned (.bool (afB L T f)) ∧ Below w.heap.size w w' := by
  by_cases h : afB L T f = true
  · exact implIsFilter_yes a b ca cb L T f w hr hT h
  · exact implIsFilter_no a b ca cb L T f w hr hT (by simpa using h)
set_option maxRecDepth 100000 in
set_option maxHeartbeats 2000000 in
theorem implFiltersOf_no (a b : Option Addr) (ca cb : Nat) (L : List Int) (T : List (List Int))  (w : World) (hr : Rd w a L) (hT : RdT w b T) (h : algB L T = false) :
    Calls Try.prog 25 #[.agg #[.slice a L.length ca, .slice b T.length cb]] w (RetSl w.heap.size (algV L T (fls L T)) w) := by
  obtain ⟨w1, hw1⟩ : ∃ w1, w1 = w.alloc (.cells #[.slice a L.length ca, .slice b T.length cb] 27) := ⟨_, rfl⟩
  have hB : Below w.heap.size w w1 := by rw [hw1]; exact (Below.refl _ _).alloc (Nat.le_refl _) _
  have hx : w1.heap[w.heap.size]? = some (.cells #[.slice a L.length ca, .slice b T.length cb] 27 (0, 0)) := by rw [hw1]; exact heap_alloc_new w _
  have Kx := Lib.hid (show ∀ wz, Below w1.heap.size w1 wz → wz.heap[w.heap.size]? = some (.cells #[.slice a L.length ca, .slice b T.length cb] 27 (0, 0)) from fun wz h => (h.block _ (lt_of_block hx)).trans hx)
  have KR := Lib.hid (show ∀ wz, Below w1.heap.size w1 wz → Rd wz a L from fun wz h => (hr.below hB).below h)
  have KT := Lib.hid (show ∀ wz, Below w1.heap.size w1 wz → RdT wz b T from fun wz h => (hT.below hB).below h)
  have z1 : Below w1.heap.size w1 w1 := Below.refl _ _
  clear hr hT hx
  have hv := Lib.hid (show algV L T (fls L T) = [] by exact algV_f h)
  have HA := Lib.hid h
  clear h
  go_enter Try.func25, Try.ntmps25
  go_wp2_with (first
    | go_skip
    | (rw [← hw1]; clear hw1)
    | (refine wpList_load_row_w rfl 27 _ rfl w.heap.size rfl _ _ _ _ (Kx.out _ (by assumption)) Try.underlying27 rfl (size_Alg _ _) ?_)
    | (go_at_call 53; refine (readAlgebra_no _ _ _ _ L T _ (KR.out _ z1) (KT.out _ z1) HA.out).mono ?_; rintro e w2 ⟨rfl, h2⟩; have z2 : Below w1.heap.size w1 w2 := h2)
    | (refine wpList_store_row rfl 60 _ _ rfl w2.heap.size zeroAlg rfl rfl _ _ (heap_alloc_new w2 (.cells zeroAlg 60)) size_zeroAlg rfl one_zeroAlg ?_; rw [World.setRow_alloc_new]; obtain ⟨bl, hbl⟩ : ∃ bl, bl = w2.heap.size := ⟨_, rfl⟩; obtain ⟨w9, hw9⟩ : ∃ w9, w9 = w2.alloc (.cells zeroAlg 60) := ⟨_, rfl⟩; rw [← hw9, ← hbl]; have B9 : Below w1.heap.size w1 w9 := (by rw [hw9]; exact z2.alloc z2.size _); clear hw9 hbl))
  go_ret
  rw [hv.out]
  exact ⟨none, 0, rfl, Own.nothing _ _, hB.trans (B9.mono hB.size)⟩
set_option maxRecDepth 100000 in
set_option maxHeartbeats 2000000 in
theorem implFiltersOf_yes (a b : Option Addr) (ca cb : Nat) (L : List Int) (T : List (List Int))  (w : World) (hr : Rd w a L) (hT : RdT w b T) (h : algB L T = true) :
    Calls Try.prog 25 #[.agg #[.slice a L.length ca, .slice b T.length cb]] w (RetSl w.heap.size (algV L T (fls L T)) w) := by
  obtain ⟨w1, hw1⟩ : ∃ w1, w1 = w.alloc (.cells #[.slice a L.length ca, .slice b T.length cb] 27) := ⟨_, rfl⟩
  have hB : Below w.heap.size w w1 := by rw [hw1]; exact (Below.refl _ _).alloc (Nat.le_refl _) _
  have hx : w1.heap[w.heap.size]? = some (.cells #[.slice a L.length ca, .slice b T.length cb] 27 (0, 0)) := by rw [hw1]; exact heap_alloc_new w _
  have Kx := Lib.hid (show ∀ wz, Below w1.heap.size w1 wz → wz.heap[w.heap.size]? = some (.cells #[.slice a L.length ca, .slice b T.length cb] 27 (0, 0)) from fun wz h => (h.block _ (lt_of_block hx)).trans hx)
  have KR := Lib.hid (show ∀ wz, Below w1.heap.size w1 wz → Rd wz a L from fun wz h => (hr.below hB).below h)
  have KT := Lib.hid (show ∀ wz, Below w1.heap.size w1 wz → RdT wz b T from fun wz h => (hT.below hB).below h)
  have z1 : Below w1.heap.size w1 w1 := Below.refl _ _
  clear hr hT hx
  have hv := Lib.hid (algV_t (V := fls L T) h)
  have HALG := Lib.hid h
  have HA := Lib.hid h
  clear h
  go_enter Try.func25, Try.ntmps25
  go_wp2_with (first
    | go_skip
    | (rw [← hw1]; clear hw1)
    | (refine wpList_load_row_w rfl 27 _ rfl w.heap.size rfl _ _ _ _ (Kx.out _ (by assumption)) Try.underlying27 rfl (size_Alg _ _) ?_)
    | (go_at_call 53; refine (readAlgebra_yes _ _ _ _ L T _ (KR.out _ z1) (KT.out _ z1) HA.out).mono ?_; rintro e w2 ⟨rfl, h2⟩; have z2 : Below w1.heap.size w1 w2 := h2)
    | (refine wpList_store_row rfl 60 _ _ rfl w2.heap.size (algOf L T) rfl rfl _ _ (heap_alloc_new w2 (.cells zeroAlg 60)) (size_alg _ _ _ _ _ _) rfl (one_alg _ _ _ _ _ _) ?_; rw [World.setRow_alloc_new]; obtain ⟨bl, hbl⟩ : ∃ bl, bl = w2.heap.size := ⟨_, rfl⟩; obtain ⟨w9, hw9⟩ : ∃ w9, w9 = w2.alloc (.cells (algOf L T) 60) := ⟨_, rfl⟩; rw [← hw9, ← hbl]; have hA : AlgAt w9 bl L T := (by rw [hw9, hbl]; exact AlgAt.new w2 L T); have B9 : Below w1.heap.size w1 w9 := (by rw [hw9]; exact z2.alloc z2.size _); clear hw9 hbl)
    | (refine wpList_load_row_w rfl 60 _ rfl bl rfl _ _ _ _ hA Try.underlying60 rfl (size_alg _ _ _ _ _ _) ?_)
    | (go_at_call 66; refine (filtersM_any L T _).mono ?_; rintro e w10 ⟨rfl, hw10⟩; have hA10 : AlgAt w10 w9.heap.size L T := (by rw [hw10]; exact AlgAt.new _ _ _); have B10 : Below w1.heap.size w1 w10 := (by rw [hw10]; exact B9.alloc B9.size _); clear hw10)
    | (go_at_call 65; refine (collect_any _ L T _ HALG.out hA10).mono ?_; rintro e w11 ⟨a3, c3, rfl, o3, h3⟩; have B11 : Below w1.heap.size w1 w11 := B10.trans (h3.mono B10.size)))
  go_ret
  rw [hv.out]
  exact ⟨a3, c3, rfl, o3.from (by have := hB.size; have := B10.size; omega), hB.trans (B11.mono hB.size)⟩
theorem implFiltersOf_any (a b : Option Addr) (ca cb : Nat) (L : List Int) (T : List (List Int))  (w : World) (hr : Rd w a L) (hT : RdT w b T) :
    Calls Try.prog 25 #[.agg #[.slice a L.length ca, .slice b T.length cb]] w (RetSl w.heap.size (algV L T (fls L T)) w) := by
  by_cases h : algB L T = true
  · exact implFiltersOf_yes a b ca cb L T  w hr hT h
  · exact implFiltersOf_no a b ca cb L T  w hr hT (by simpa using h)
set_option maxRecDepth 100000 in
set_option maxHeartbeats 2000000 in
/-- impl.IsSimple -/
theorem implIsSimple_any (a b : Option Addr) (ca cb : Nat) (L : List Int) (T : List (List Int)) (w : World) (hr : Rd w a L) (hT : RdT w b T) :
    Calls Try.prog 42 #[.agg #[.slice a L.length ca, .slice b T.length cb]] w fun e w' => e = .returned (.bool (algB L T && (((fls L T).length : Int) == 2))) ∧ Below w.heap.size w w' := by
  obtain ⟨w1, hw1⟩ : ∃ w1, w1 = w.alloc (.cells #[.slice a L.length ca, .slice b T.length cb] 27) := ⟨_, rfl⟩
  have hB : Below w.heap.size w w1 := by rw [hw1]; exact (Below.refl _ _).alloc (Nat.le_refl _) _
  have hx : w1.heap[w.heap.size]? = some (.cells #[.slice a L.length ca, .slice b T.length cb] 27 (0, 0)) := by rw [hw1]; exact heap_alloc_new w _
  have Kx := Lib.hid (show ∀ wz, Below w1.heap.size w1 wz → wz.heap[w.heap.size]? = some (.cells #[.slice a L.length ca, .slice b T.length cb] 27 (0, 0)) from fun wz h => (h.block _ (lt_of_block hx)).trans hx)
  have KR := Lib.hid (show ∀ wz, Below w1.heap.size w1 wz → Rd wz a L from fun wz h => (hr.below hB).below h)
  have KT := Lib.hid (show ∀ wz, Below w1.heap.size w1 wz → RdT wz b T from fun wz h => (hT.below hB).below h)
  have z1 : Below w1.heap.size w1 w1 := Below.refl _ _
  clear hr hT hx
  have hv := Lib.hid (show (((algV L T (fls L T)).length : Int) == 2) = (algB L T && (((fls L T).length : Int) == 2)) by
    cases hA : algB L T with
    | false => rw [algV_f hA]; rfl
    | true => rw [algV_t hA]; rfl)
  go_enter Try.func42, Try.ntmps42
  go_wp2_with (first
    | go_skip
    | (rw [← hw1]; clear hw1)
    | (refine wpList_load_row_w rfl 27 _ rfl w.heap.size rfl _ _ _ _ (Kx.out _ (by assumption)) Try.underlying27 rfl (size_Alg _ _) ?_)
    | (go_at_call 25; refine (implFiltersOf_any _ _ _ _ L T _ (KR.out _ z1) (KT.out _ z1)).mono ?_; rintro e w3 ⟨a3, c3, rfl, o3, h3⟩))
  go_ret
  exact ⟨ret_bool (by rw [← hv.out]), hB.trans (h3.mono hB.size)⟩
end Go.Proofs.Ytpfnfglaokiipac
