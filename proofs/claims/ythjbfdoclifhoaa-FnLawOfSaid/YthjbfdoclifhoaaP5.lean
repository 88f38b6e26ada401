import Derived.Test.YthjbfdoclifhoaaP7
import Derived.Test.YthjbfdoclifhoaaG9
namespace Go.Proofs.Ythjbfdoclifhoaa
open Go.RowKit
set_option linter.unusedVariables false

theorem upOf_st (L : List Int) (T : List (List Int)) (M : List Int) (U : List (List Int)) (m N : Int) (bf ba bb : Nat) (w : World) (hf : w.heap[bf]? = some (.cells #[.int .i64 m] 3 (0, 0))) (hA : AlgAt w ba L T) (hB : AlgAt w bb M U) (h : algB L T = true) (h2 : algB M U = true) (hm : m = (L.length : Int) - 1) (hN : N = m + M.length) (N0 : 0 ≤ N) (N6 : N ≤ 6) :
    Calls Try.prog 32 #[.int .i64 N, .func (.func 30) #[] #[.pointer (some ⟨bf, 0, none⟩), .pointer (some ⟨ba, 0, none⟩), .pointer (some ⟨bb, 0, none⟩)]] w fun e w' => e = .returned (.slice (some ⟨w.heap.size, 0, none⟩) (upL (stG L M m) N).length (upL (stG L M m) N).length) ∧ GS w.heap.size w'.heap.size w' (.slice (some ⟨w.heap.size, 0, none⟩) (upL (stG L M m) N).length (upL (stG L M m) N).length) (upL (stG L M m) N) ∧ Below w.heap.size w w' :=
  upOf_T 30 #[.pointer (some ⟨bf, 0, none⟩), .pointer (some ⟨ba, 0, none⟩), .pointer (some ⟨bb, 0, none⟩)] N (stG L M m) w N0 N6 enters_st1 fun x y wr x0 x1 y0 y1 hb => st1_any L T M U m bf ba bb x y wr ((hb.block _ (lt_of_block hf)).trans hf) (hA.below hb hA.lt) (hB.below hb hB.lt) h h2 hm x0 (by omega) y0 (by omega)
theorem rowsOf_st (L : List Int) (T : List (List Int)) (M : List Int) (U : List (List Int)) (m N : Int) (bf ba bb : Nat) (w : World) (hf : w.heap[bf]? = some (.cells #[.int .i64 m] 3 (0, 0))) (hA : AlgAt w ba L T) (hB : AlgAt w bb M U) (h : algB L T = true) (h2 : algB M U = true) (hm : m = (L.length : Int) - 1) (hN : N = m + M.length) (N0 : 0 ≤ N) (N6 : N ≤ 6) :
    Calls Try.prog 20 #[.int .i64 N, .func (.func 31) #[] #[.pointer (some ⟨bf, 0, none⟩), .pointer (some ⟨ba, 0, none⟩), .pointer (some ⟨bb, 0, none⟩)]] w fun e w' => e = .returned (.slice (some ⟨w.heap.size, 0, none⟩) (tabL (stP T U m) N).length (tabL (stP T U m) N).length) ∧ GT w.heap.size w'.heap.size w' (.slice (some ⟨w.heap.size, 0, none⟩) (tabL (stP T U m) N).length (tabL (stP T U m) N).length) (tabL (stP T U m) N) ∧ Below w.heap.size w w' :=
  rowsOf_T 31 #[.pointer (some ⟨bf, 0, none⟩), .pointer (some ⟨ba, 0, none⟩), .pointer (some ⟨bb, 0, none⟩)] N (stP T U m) w N0 N6 enters_st2 fun x y wr x0 x1 y0 y1 hb => st2_any L T M U m bf ba bb x y wr ((hb.block _ (lt_of_block hf)).trans hf) (hA.below hb hA.lt) (hB.below hb hB.lt) h h2 hm x0 (by omega) y0 (by omega)
set_option maxRecDepth 100000 in
set_option maxHeartbeats 4000000 in
theorem implStack_ff (a b : Option Addr) (ca cb : Nat) (L : List Int) (T : List (List Int)) (a2 b2 : Option Addr) (ca2 cb2 : Nat) (M : List Int) (U : List (List Int)) (w : World) (hr : Rd w a L) (hT : RdT w b T) (hr2 : Rd w a2 M) (hT2 : RdT w b2 U) (h : algB L T = false) (h2 : algB M U = false) : Calls Try.prog 11 #[.agg #[.slice a L.length ca, .slice b T.length cb], .agg #[.slice a2 M.length ca2, .slice b2 U.length cb2]] w (RetGAb (stL L T M U) (stT L T M U) (stOk L T M U) w) := by
  obtain ⟨w1, hw1⟩ : ∃ w1, w1 = ((w.alloc (.cells #[.slice a L.length ca, .slice b T.length cb] 31)).alloc (.cells #[.slice a2 M.length ca2, .slice b2 U.length cb2] 31)).alloc (.cells #[.slice none 0 0, .slice none 0 0] 31) := ⟨_, rfl⟩
  have hB : Below w.heap.size w w1 := by rw [hw1]; exact (((Below.refl _ _).alloc (Nat.le_refl _) _).alloc (by simp) _).alloc (by simp; omega) _
  have hx : w1.heap[w.heap.size]? = some (.cells #[.slice a L.length ca, .slice b T.length cb] 31 (0, 0)) := by
    rw [hw1, Below.heap_alloc _ _ _ (by simp; omega), Below.heap_alloc _ _ _ (by simp)]; exact heap_alloc_new w _
  have hx2 : w1.heap[w.heap.size + 1]? = some (.cells #[.slice a2 M.length ca2, .slice b2 U.length cb2] 31 (0, 0)) := by
    rw [hw1, Below.heap_alloc _ _ _ (by simp)]; exact heap_alloc2_new _ _ _
  have hz : w1.heap[w.heap.size + 1 + 1]? = some (.cells #[.slice none 0 0, .slice none 0 0] 31 (0, 0)) := by
    have := heap_alloc_new ((w.alloc (.cells #[.slice a L.length ca, .slice b T.length cb] 31)).alloc (.cells #[.slice a2 M.length ca2, .slice b2 U.length cb2] 31)) (.cells #[.slice none 0 0, .slice none 0 0] 31)
    rw [hw1]; simpa using this
  have Kx := Lib.hid (show ∀ wz, Below w1.heap.size w1 wz → wz.heap[w.heap.size]? = some (.cells #[.slice a L.length ca, .slice b T.length cb] 31 (0, 0)) from fun wz h => (h.block _ (lt_of_block hx)).trans hx)
  have Kx2 := Lib.hid (show ∀ wz, Below w1.heap.size w1 wz → wz.heap[w.heap.size + 1]? = some (.cells #[.slice a2 M.length ca2, .slice b2 U.length cb2] 31 (0, 0)) from fun wz h => (h.block _ (lt_of_block hx2)).trans hx2)
  have Kz := Lib.hid (show ∀ wz, Below w1.heap.size w1 wz → wz.heap[w.heap.size + 1 + 1]? = some (.cells #[.slice none 0 0, .slice none 0 0] 31 (0, 0)) from fun wz h => (h.block _ (lt_of_block hz)).trans hz)
  have KR := Lib.hid (show ∀ wz, Below w1.heap.size w1 wz → Rd wz a L from fun wz h => (hr.below hB).below h)
  have KT := Lib.hid (show ∀ wz, Below w1.heap.size w1 wz → RdT wz b T from fun wz h => (hT.below hB).below h)
  have KR2 := Lib.hid (show ∀ wz, Below w1.heap.size w1 wz → Rd wz a2 M from fun wz h => (hr2.below hB).below h)
  have KT2 := Lib.hid (show ∀ wz, Below w1.heap.size w1 wz → RdT wz b2 U from fun wz h => (hT2.below hB).below h)
  have hsz : w.heap.size + 1 + 1 < w1.heap.size := lt_of_block hz
  have z1 : Below w1.heap.size w1 w1 := Below.refl _ _
  clear hx hx2 hz hr hT hr2 hT2
  have HA := Lib.hid h
  have HA2 := Lib.hid h2
  have HV := Lib.hid (show stOk L T M U = false by unfold stOk; rw [h, h2]; rfl)
  clear h h2
  go_enter Try.func11, Try.ntmps11
  go_wp2_with (first
    | go_skip
    | (rw [← hw1]; clear hw1)
    | (refine wpList_load_row_w rfl 31 _ rfl w.heap.size rfl _ _ _ _ (Kx.out _ (by assumption)) Try.underlying31 rfl (size_Alg _ _) ?_)
    | (refine wpList_load_row_w rfl 31 _ rfl (w.heap.size + 1) rfl _ _ _ _ (Kx2.out _ (by assumption)) Try.underlying31 rfl (size_Alg _ _) ?_)
    | (go_at_call 24; refine (readAlgebra_no a2 b2 ca2 cb2 M U _ (KR2.out _ z3) (KT2.out _ z3) HA2.out).mono ?_; rintro e w4 ⟨rfl, h4⟩; have z4 : Below w1.heap.size w1 w4 := z3.trans (h4.mono z3.size); have s34 := h4.size; clear h4)
    | (go_at_call 24; refine (readAlgebra_no a b ca cb L T _ (KR.out _ z1) (KT.out _ z1) HA.out).mono ?_; rintro e w2 ⟨rfl, h2⟩; have z2 : Below w1.heap.size w1 w2 := h2; clear h2)
    | (refine wpList_store_row rfl 58 _ _ rfl w2.heap.size (zeroAlg) rfl rfl _ _ (heap_alloc_new w2 (.cells zeroAlg 58)) size_zeroAlg rfl one_zeroAlg ?_; rw [World.setRow_alloc_new]; obtain ⟨g1, hg1⟩ : ∃ bl, bl = w2.heap.size := ⟨_, rfl⟩; obtain ⟨w3, hw3⟩ : ∃ x, x = w2.alloc (.cells (zeroAlg) 58) := ⟨_, rfl⟩; rw [← hw3, ← hg1]; have qw3 : Below w2.heap.size w2 w3 := (by rw [hw3]; exact (Below.refl _ _).alloc (Nat.le_refl _) _); have lg1 : w2.heap.size ≤ g1 := Nat.le_of_eq hg1.symm; have z3 : Below w1.heap.size w1 w3 := z2.trans (qw3.mono z2.size); clear hw3 hg1 z2)
    | (refine wpList_store_row rfl 58 _ _ rfl w4.heap.size (zeroAlg) rfl rfl _ _ (heap_alloc_new w4 (.cells zeroAlg 58)) size_zeroAlg rfl one_zeroAlg ?_; rw [World.setRow_alloc_new]; obtain ⟨g2, hg2⟩ : ∃ bl, bl = w4.heap.size := ⟨_, rfl⟩; obtain ⟨w5, hw5⟩ : ∃ x, x = w4.alloc (.cells (zeroAlg) 58) := ⟨_, rfl⟩; rw [← hw5, ← hg2]; have qw5 : Below w4.heap.size w4 w5 := (by rw [hw5]; exact (Below.refl _ _).alloc (Nat.le_refl _) _); have lg2 : w4.heap.size ≤ g2 := Nat.le_of_eq hg2.symm; have z5 : Below w1.heap.size w1 w5 := z4.trans (qw5.mono z4.size); clear hw5 hg2 z4))
  refine region_in (Below w5.heap.size w5) (by kernel_rfl) (by kernel_rfl) (Dr.below ⟨1, rfl⟩ _) fun hne => ?_
  repeat go_big_quiet_step (fail)
  refine wpQuiet_nil ?_
  intro s
  have hws := s.h
  obtain ⟨w6, hw6⟩ : ∃ x, x = s.w := ⟨_, rfl⟩
  rw [← hw6] at hws ⊢
  have z6 : Below w1.heap.size w1 w6 := z5.trans (hws.mono z5.size)
  clear hw6
  go_wp2_with (first
    | (refine wpList_store_row rfl 31 _ _ rfl (w.heap.size + 1 + 1) #[.slice none 0 0, .slice none 0 0] rfl rfl _ _ (Kz.out _ z6) (size_Alg _ _) rfl (one_sl2 _ _ _ _ _ _) ?_))
  refine bodyPost_ret (v := .tuple #[.agg #[.slice none 0 0, .slice none 0 0], .bool false]) (results_Alg_tmp rfl _ _ (w.heap.size + 1 + 1) rfl _ _ (setRow_heap _ _ _ _ _ _ (Kz.out _ z6)) rfl) rfl ?_
  rw [HV.out, (st_no HV.out).1, (st_no HV.out).2]
  have hbz := below_setRow' (hB.trans (z6.mono hB.size)) (by omega : w.heap.size ≤ w.heap.size + 1 + 1) #[.slice none 0 0, .slice none 0 0]
  exact ⟨_, _, _, _, _, _, rfl, GA.zero _ _ hbz.size _, hbz⟩
set_option maxRecDepth 100000 in
set_option maxHeartbeats 4000000 in
theorem implStack_ft (a b : Option Addr) (ca cb : Nat) (L : List Int) (T : List (List Int)) (a2 b2 : Option Addr) (ca2 cb2 : Nat) (M : List Int) (U : List (List Int)) (w : World) (hr : Rd w a L) (hT : RdT w b T) (hr2 : Rd w a2 M) (hT2 : RdT w b2 U) (h : algB L T = false) (h2 : algB M U = true) : Calls Try.prog 11 #[.agg #[.slice a L.length ca, .slice b T.length cb], .agg #[.slice a2 M.length ca2, .slice b2 U.length cb2]] w (RetGAb (stL L T M U) (stT L T M U) (stOk L T M U) w) := by
  obtain ⟨w1, hw1⟩ : ∃ w1, w1 = ((w.alloc (.cells #[.slice a L.length ca, .slice b T.length cb] 31)).alloc (.cells #[.slice a2 M.length ca2, .slice b2 U.length cb2] 31)).alloc (.cells #[.slice none 0 0, .slice none 0 0] 31) := ⟨_, rfl⟩
  have hB : Below w.heap.size w w1 := by rw [hw1]; exact (((Below.refl _ _).alloc (Nat.le_refl _) _).alloc (by simp) _).alloc (by simp; omega) _
  have hx : w1.heap[w.heap.size]? = some (.cells #[.slice a L.length ca, .slice b T.length cb] 31 (0, 0)) := by
    rw [hw1, Below.heap_alloc _ _ _ (by simp; omega), Below.heap_alloc _ _ _ (by simp)]; exact heap_alloc_new w _
  have hx2 : w1.heap[w.heap.size + 1]? = some (.cells #[.slice a2 M.length ca2, .slice b2 U.length cb2] 31 (0, 0)) := by
    rw [hw1, Below.heap_alloc _ _ _ (by simp)]; exact heap_alloc2_new _ _ _
  have hz : w1.heap[w.heap.size + 1 + 1]? = some (.cells #[.slice none 0 0, .slice none 0 0] 31 (0, 0)) := by
    have := heap_alloc_new ((w.alloc (.cells #[.slice a L.length ca, .slice b T.length cb] 31)).alloc (.cells #[.slice a2 M.length ca2, .slice b2 U.length cb2] 31)) (.cells #[.slice none 0 0, .slice none 0 0] 31)
    rw [hw1]; simpa using this
  have Kx := Lib.hid (show ∀ wz, Below w1.heap.size w1 wz → wz.heap[w.heap.size]? = some (.cells #[.slice a L.length ca, .slice b T.length cb] 31 (0, 0)) from fun wz h => (h.block _ (lt_of_block hx)).trans hx)
  have Kx2 := Lib.hid (show ∀ wz, Below w1.heap.size w1 wz → wz.heap[w.heap.size + 1]? = some (.cells #[.slice a2 M.length ca2, .slice b2 U.length cb2] 31 (0, 0)) from fun wz h => (h.block _ (lt_of_block hx2)).trans hx2)
  have Kz := Lib.hid (show ∀ wz, Below w1.heap.size w1 wz → wz.heap[w.heap.size + 1 + 1]? = some (.cells #[.slice none 0 0, .slice none 0 0] 31 (0, 0)) from fun wz h => (h.block _ (lt_of_block hz)).trans hz)
  have KR := Lib.hid (show ∀ wz, Below w1.heap.size w1 wz → Rd wz a L from fun wz h => (hr.below hB).below h)
  have KT := Lib.hid (show ∀ wz, Below w1.heap.size w1 wz → RdT wz b T from fun wz h => (hT.below hB).below h)
  have KR2 := Lib.hid (show ∀ wz, Below w1.heap.size w1 wz → Rd wz a2 M from fun wz h => (hr2.below hB).below h)
  have KT2 := Lib.hid (show ∀ wz, Below w1.heap.size w1 wz → RdT wz b2 U from fun wz h => (hT2.below hB).below h)
  have hsz : w.heap.size + 1 + 1 < w1.heap.size := lt_of_block hz
  have z1 : Below w1.heap.size w1 w1 := Below.refl _ _
  clear hx hx2 hz hr hT hr2 hT2
  have HA := Lib.hid h
  have HA2 := Lib.hid h2
  have HV := Lib.hid (show stOk L T M U = false by unfold stOk; rw [h, h2]; rfl)
  clear h h2
  go_enter Try.func11, Try.ntmps11
  go_wp2_with (first
    | go_skip
    | (rw [← hw1]; clear hw1)
    | (refine wpList_load_row_w rfl 31 _ rfl w.heap.size rfl _ _ _ _ (Kx.out _ (by assumption)) Try.underlying31 rfl (size_Alg _ _) ?_)
    | (refine wpList_load_row_w rfl 31 _ rfl (w.heap.size + 1) rfl _ _ _ _ (Kx2.out _ (by assumption)) Try.underlying31 rfl (size_Alg _ _) ?_)
    | (go_at_call 24; refine (readAlgebra_yes a2 b2 ca2 cb2 M U _ (KR2.out _ z3) (KT2.out _ z3) HA2.out).mono ?_; rintro e w4 ⟨rfl, h4⟩; have z4 : Below w1.heap.size w1 w4 := z3.trans (h4.mono z3.size); have s34 := h4.size; clear h4)
    | (go_at_call 24; refine (readAlgebra_no a b ca cb L T _ (KR.out _ z1) (KT.out _ z1) HA.out).mono ?_; rintro e w2 ⟨rfl, h2⟩; have z2 : Below w1.heap.size w1 w2 := h2; clear h2)
    | (refine wpList_store_row rfl 58 _ _ rfl w2.heap.size (zeroAlg) rfl rfl _ _ (heap_alloc_new w2 (.cells zeroAlg 58)) size_zeroAlg rfl one_zeroAlg ?_; rw [World.setRow_alloc_new]; obtain ⟨g1, hg1⟩ : ∃ bl, bl = w2.heap.size := ⟨_, rfl⟩; obtain ⟨w3, hw3⟩ : ∃ x, x = w2.alloc (.cells (zeroAlg) 58) := ⟨_, rfl⟩; rw [← hw3, ← hg1]; have qw3 : Below w2.heap.size w2 w3 := (by rw [hw3]; exact (Below.refl _ _).alloc (Nat.le_refl _) _); have lg1 : w2.heap.size ≤ g1 := Nat.le_of_eq hg1.symm; have z3 : Below w1.heap.size w1 w3 := z2.trans (qw3.mono z2.size); clear hw3 hg1 z2)
    | (refine wpList_store_row rfl 58 _ _ rfl w4.heap.size (algOf M U) rfl rfl _ _ (heap_alloc_new w4 (.cells zeroAlg 58)) (size_alg _ _ _ _ _ _) rfl (one_alg _ _ _ _ _ _) ?_; rw [World.setRow_alloc_new]; obtain ⟨g2, hg2⟩ : ∃ bl, bl = w4.heap.size := ⟨_, rfl⟩; obtain ⟨w5, hw5⟩ : ∃ x, x = w4.alloc (.cells (algOf M U) 58) := ⟨_, rfl⟩; rw [← hw5, ← hg2]; have hAg2 : AlgAt w5 g2 M U := (by rw [hw5, hg2]; exact AlgAt.new w4 M U); have ltg2 := hAg2.lt; have qw5 : Below w4.heap.size w4 w5 := (by rw [hw5]; exact (Below.refl _ _).alloc (Nat.le_refl _) _); have lg2 : w4.heap.size ≤ g2 := Nat.le_of_eq hg2.symm; have z5 : Below w1.heap.size w1 w5 := z4.trans (qw5.mono z4.size); clear hw5 hg2 z4))
  refine region_in (Below w5.heap.size w5) (by kernel_rfl) (by kernel_rfl) (Dr.below ⟨1, rfl⟩ _) fun hne => ?_
  repeat go_big_quiet_step (fail)
  refine wpQuiet_nil ?_
  intro s
  have hws := s.h
  obtain ⟨w6, hw6⟩ : ∃ x, x = s.w := ⟨_, rfl⟩
  rw [← hw6] at hws ⊢
  have z6 : Below w1.heap.size w1 w6 := z5.trans (hws.mono z5.size)
  clear hw6
  go_wp2_with (first
    | (refine wpList_store_row rfl 31 _ _ rfl (w.heap.size + 1 + 1) #[.slice none 0 0, .slice none 0 0] rfl rfl _ _ (Kz.out _ z6) (size_Alg _ _) rfl (one_sl2 _ _ _ _ _ _) ?_))
  refine bodyPost_ret (v := .tuple #[.agg #[.slice none 0 0, .slice none 0 0], .bool false]) (results_Alg_tmp rfl _ _ (w.heap.size + 1 + 1) rfl _ _ (setRow_heap _ _ _ _ _ _ (Kz.out _ z6)) rfl) rfl ?_
  rw [HV.out, (st_no HV.out).1, (st_no HV.out).2]
  have hbz := below_setRow' (hB.trans (z6.mono hB.size)) (by omega : w.heap.size ≤ w.heap.size + 1 + 1) #[.slice none 0 0, .slice none 0 0]
  exact ⟨_, _, _, _, _, _, rfl, GA.zero _ _ hbz.size _, hbz⟩
set_option maxRecDepth 100000 in
set_option maxHeartbeats 4000000 in
theorem implStack_tf (a b : Option Addr) (ca cb : Nat) (L : List Int) (T : List (List Int)) (a2 b2 : Option Addr) (ca2 cb2 : Nat) (M : List Int) (U : List (List Int)) (w : World) (hr : Rd w a L) (hT : RdT w b T) (hr2 : Rd w a2 M) (hT2 : RdT w b2 U) (h : algB L T = true) (h2 : algB M U = false) : Calls Try.prog 11 #[.agg #[.slice a L.length ca, .slice b T.length cb], .agg #[.slice a2 M.length ca2, .slice b2 U.length cb2]] w (RetGAb (stL L T M U) (stT L T M U) (stOk L T M U) w) := by
  obtain ⟨w1, hw1⟩ : ∃ w1, w1 = ((w.alloc (.cells #[.slice a L.length ca, .slice b T.length cb] 31)).alloc (.cells #[.slice a2 M.length ca2, .slice b2 U.length cb2] 31)).alloc (.cells #[.slice none 0 0, .slice none 0 0] 31) := ⟨_, rfl⟩
  have hB : Below w.heap.size w w1 := by rw [hw1]; exact (((Below.refl _ _).alloc (Nat.le_refl _) _).alloc (by simp) _).alloc (by simp; omega) _
  have hx : w1.heap[w.heap.size]? = some (.cells #[.slice a L.length ca, .slice b T.length cb] 31 (0, 0)) := by
    rw [hw1, Below.heap_alloc _ _ _ (by simp; omega), Below.heap_alloc _ _ _ (by simp)]; exact heap_alloc_new w _
  have hx2 : w1.heap[w.heap.size + 1]? = some (.cells #[.slice a2 M.length ca2, .slice b2 U.length cb2] 31 (0, 0)) := by
    rw [hw1, Below.heap_alloc _ _ _ (by simp)]; exact heap_alloc2_new _ _ _
  have hz : w1.heap[w.heap.size + 1 + 1]? = some (.cells #[.slice none 0 0, .slice none 0 0] 31 (0, 0)) := by
    have := heap_alloc_new ((w.alloc (.cells #[.slice a L.length ca, .slice b T.length cb] 31)).alloc (.cells #[.slice a2 M.length ca2, .slice b2 U.length cb2] 31)) (.cells #[.slice none 0 0, .slice none 0 0] 31)
    rw [hw1]; simpa using this
  have Kx := Lib.hid (show ∀ wz, Below w1.heap.size w1 wz → wz.heap[w.heap.size]? = some (.cells #[.slice a L.length ca, .slice b T.length cb] 31 (0, 0)) from fun wz h => (h.block _ (lt_of_block hx)).trans hx)
  have Kx2 := Lib.hid (show ∀ wz, Below w1.heap.size w1 wz → wz.heap[w.heap.size + 1]? = some (.cells #[.slice a2 M.length ca2, .slice b2 U.length cb2] 31 (0, 0)) from fun wz h => (h.block _ (lt_of_block hx2)).trans hx2)
  have Kz := Lib.hid (show ∀ wz, Below w1.heap.size w1 wz → wz.heap[w.heap.size + 1 + 1]? = some (.cells #[.slice none 0 0, .slice none 0 0] 31 (0, 0)) from fun wz h => (h.block _ (lt_of_block hz)).trans hz)
  have KR := Lib.hid (show ∀ wz, Below w1.heap.size w1 wz → Rd wz a L from fun wz h => (hr.below hB).below h)
  have KT := Lib.hid (show ∀ wz, Below w1.heap.size w1 wz → RdT wz b T from fun wz h => (hT.below hB).below h)
  have KR2 := Lib.hid (show ∀ wz, Below w1.heap.size w1 wz → Rd wz a2 M from fun wz h => (hr2.below hB).below h)
  have KT2 := Lib.hid (show ∀ wz, Below w1.heap.size w1 wz → RdT wz b2 U from fun wz h => (hT2.below hB).below h)
  have hsz : w.heap.size + 1 + 1 < w1.heap.size := lt_of_block hz
  have z1 : Below w1.heap.size w1 w1 := Below.refl _ _
  clear hx hx2 hz hr hT hr2 hT2
  have HA := Lib.hid h
  have HA2 := Lib.hid h2
  have HV := Lib.hid (show stOk L T M U = false by unfold stOk; rw [h, h2]; rfl)
  clear h h2
  go_enter Try.func11, Try.ntmps11
  go_wp2_with (first
    | go_skip
    | (rw [← hw1]; clear hw1)
    | (refine wpList_load_row_w rfl 31 _ rfl w.heap.size rfl _ _ _ _ (Kx.out _ (by assumption)) Try.underlying31 rfl (size_Alg _ _) ?_)
    | (refine wpList_load_row_w rfl 31 _ rfl (w.heap.size + 1) rfl _ _ _ _ (Kx2.out _ (by assumption)) Try.underlying31 rfl (size_Alg _ _) ?_)
    | (go_at_call 24; refine (readAlgebra_no a2 b2 ca2 cb2 M U _ (KR2.out _ z3) (KT2.out _ z3) HA2.out).mono ?_; rintro e w4 ⟨rfl, h4⟩; have z4 : Below w1.heap.size w1 w4 := z3.trans (h4.mono z3.size); have s34 := h4.size; clear h4)
    | (go_at_call 24; refine (readAlgebra_yes a b ca cb L T _ (KR.out _ z1) (KT.out _ z1) HA.out).mono ?_; rintro e w2 ⟨rfl, h2⟩; have z2 : Below w1.heap.size w1 w2 := h2; clear h2)
    | (refine wpList_store_row rfl 58 _ _ rfl w2.heap.size (algOf L T) rfl rfl _ _ (heap_alloc_new w2 (.cells zeroAlg 58)) (size_alg _ _ _ _ _ _) rfl (one_alg _ _ _ _ _ _) ?_; rw [World.setRow_alloc_new]; obtain ⟨g1, hg1⟩ : ∃ bl, bl = w2.heap.size := ⟨_, rfl⟩; obtain ⟨w3, hw3⟩ : ∃ x, x = w2.alloc (.cells (algOf L T) 58) := ⟨_, rfl⟩; rw [← hw3, ← hg1]; have hAg1 : AlgAt w3 g1 L T := (by rw [hw3, hg1]; exact AlgAt.new w2 L T); have ltg1 := hAg1.lt; have qw3 : Below w2.heap.size w2 w3 := (by rw [hw3]; exact (Below.refl _ _).alloc (Nat.le_refl _) _); have lg1 : w2.heap.size ≤ g1 := Nat.le_of_eq hg1.symm; have z3 : Below w1.heap.size w1 w3 := z2.trans (qw3.mono z2.size); clear hw3 hg1 z2)
    | (refine wpList_store_row rfl 58 _ _ rfl w4.heap.size (zeroAlg) rfl rfl _ _ (heap_alloc_new w4 (.cells zeroAlg 58)) size_zeroAlg rfl one_zeroAlg ?_; rw [World.setRow_alloc_new]; obtain ⟨g2, hg2⟩ : ∃ bl, bl = w4.heap.size := ⟨_, rfl⟩; obtain ⟨w5, hw5⟩ : ∃ x, x = w4.alloc (.cells (zeroAlg) 58) := ⟨_, rfl⟩; rw [← hw5, ← hg2]; have qw5 : Below w4.heap.size w4 w5 := (by rw [hw5]; exact (Below.refl _ _).alloc (Nat.le_refl _) _); have lg2 : w4.heap.size ≤ g2 := Nat.le_of_eq hg2.symm; have z5 : Below w1.heap.size w1 w5 := z4.trans (qw5.mono z4.size); clear hw5 hg2 z4))
  refine region_in (Below w5.heap.size w5) (by kernel_rfl) (by kernel_rfl) (Dr.below ⟨1, rfl⟩ _) fun hne => ?_
  repeat go_big_quiet_step (fail)
  refine wpQuiet_nil ?_
  intro s
  have hws := s.h
  obtain ⟨w6, hw6⟩ : ∃ x, x = s.w := ⟨_, rfl⟩
  rw [← hw6] at hws ⊢
  have z6 : Below w1.heap.size w1 w6 := z5.trans (hws.mono z5.size)
  clear hw6
  go_wp2_with (first
    | (refine wpList_store_row rfl 31 _ _ rfl (w.heap.size + 1 + 1) #[.slice none 0 0, .slice none 0 0] rfl rfl _ _ (Kz.out _ z6) (size_Alg _ _) rfl (one_sl2 _ _ _ _ _ _) ?_))
  refine bodyPost_ret (v := .tuple #[.agg #[.slice none 0 0, .slice none 0 0], .bool false]) (results_Alg_tmp rfl _ _ (w.heap.size + 1 + 1) rfl _ _ (setRow_heap _ _ _ _ _ _ (Kz.out _ z6)) rfl) rfl ?_
  rw [HV.out, (st_no HV.out).1, (st_no HV.out).2]
  have hbz := below_setRow' (hB.trans (z6.mono hB.size)) (by omega : w.heap.size ≤ w.heap.size + 1 + 1) #[.slice none 0 0, .slice none 0 0]
  exact ⟨_, _, _, _, _, _, rfl, GA.zero _ _ hbz.size _, hbz⟩
set_option maxRecDepth 100000 in
set_option maxHeartbeats 4000000 in
theorem implStack_big (a b : Option Addr) (ca cb : Nat) (L : List Int) (T : List (List Int)) (a2 b2 : Option Addr) (ca2 cb2 : Nat) (M : List Int) (U : List (List Int)) (w : World) (hr : Rd w a L) (hT : RdT w b T) (hr2 : Rd w a2 M) (hT2 : RdT w b2 U) (h : algB L T = true) (h2 : algB M U = true) (h3 : ¬ (L.length : Int) - 1 + M.length ≤ 6) : Calls Try.prog 11 #[.agg #[.slice a L.length ca, .slice b T.length cb], .agg #[.slice a2 M.length ca2, .slice b2 U.length cb2]] w (RetGAb (stL L T M U) (stT L T M U) (stOk L T M U) w) := by
  obtain ⟨w1, hw1⟩ : ∃ w1, w1 = ((w.alloc (.cells #[.slice a L.length ca, .slice b T.length cb] 31)).alloc (.cells #[.slice a2 M.length ca2, .slice b2 U.length cb2] 31)).alloc (.cells #[.slice none 0 0, .slice none 0 0] 31) := ⟨_, rfl⟩
  have hB : Below w.heap.size w w1 := by rw [hw1]; exact (((Below.refl _ _).alloc (Nat.le_refl _) _).alloc (by simp) _).alloc (by simp; omega) _
  have hx : w1.heap[w.heap.size]? = some (.cells #[.slice a L.length ca, .slice b T.length cb] 31 (0, 0)) := by
    rw [hw1, Below.heap_alloc _ _ _ (by simp; omega), Below.heap_alloc _ _ _ (by simp)]; exact heap_alloc_new w _
  have hx2 : w1.heap[w.heap.size + 1]? = some (.cells #[.slice a2 M.length ca2, .slice b2 U.length cb2] 31 (0, 0)) := by
    rw [hw1, Below.heap_alloc _ _ _ (by simp)]; exact heap_alloc2_new _ _ _
  have hz : w1.heap[w.heap.size + 1 + 1]? = some (.cells #[.slice none 0 0, .slice none 0 0] 31 (0, 0)) := by
    have := heap_alloc_new ((w.alloc (.cells #[.slice a L.length ca, .slice b T.length cb] 31)).alloc (.cells #[.slice a2 M.length ca2, .slice b2 U.length cb2] 31)) (.cells #[.slice none 0 0, .slice none 0 0] 31)
    rw [hw1]; simpa using this
  have Kx := Lib.hid (show ∀ wz, Below w1.heap.size w1 wz → wz.heap[w.heap.size]? = some (.cells #[.slice a L.length ca, .slice b T.length cb] 31 (0, 0)) from fun wz h => (h.block _ (lt_of_block hx)).trans hx)
  have Kx2 := Lib.hid (show ∀ wz, Below w1.heap.size w1 wz → wz.heap[w.heap.size + 1]? = some (.cells #[.slice a2 M.length ca2, .slice b2 U.length cb2] 31 (0, 0)) from fun wz h => (h.block _ (lt_of_block hx2)).trans hx2)
  have Kz := Lib.hid (show ∀ wz, Below w1.heap.size w1 wz → wz.heap[w.heap.size + 1 + 1]? = some (.cells #[.slice none 0 0, .slice none 0 0] 31 (0, 0)) from fun wz h => (h.block _ (lt_of_block hz)).trans hz)
  have KR := Lib.hid (show ∀ wz, Below w1.heap.size w1 wz → Rd wz a L from fun wz h => (hr.below hB).below h)
  have KT := Lib.hid (show ∀ wz, Below w1.heap.size w1 wz → RdT wz b T from fun wz h => (hT.below hB).below h)
  have KR2 := Lib.hid (show ∀ wz, Below w1.heap.size w1 wz → Rd wz a2 M from fun wz h => (hr2.below hB).below h)
  have KT2 := Lib.hid (show ∀ wz, Below w1.heap.size w1 wz → RdT wz b2 U from fun wz h => (hT2.below hB).below h)
  have hsz : w.heap.size + 1 + 1 < w1.heap.size := lt_of_block hz
  have z1 : Below w1.heap.size w1 w1 := Below.refl _ _
  clear hx hx2 hz hr hT hr2 hT2
  have HA := Lib.hid h
  have HA2 := Lib.hid h2
  obtain ⟨l1, l6⟩ := lat_len (alg_lat h)
  obtain ⟨k1, k6⟩ := lat_len (alg_lat h2)
  have n6 : (L.length : Int) ≤ 6 := l6
  have n1 : 1 ≤ (L.length : Int) := l1
  have m6 : (M.length : Int) ≤ 6 := k6
  have m1 : 1 ≤ (M.length : Int) := k1
  have kw : IntKind.i64.wrap ((L.length : Int) - 1 + M.length) = (L.length : Int) - 1 + M.length := IntWalk.i64_in _ (by omega)
  have kd : decide ((6 : Int) < (L.length : Int) - 1 + M.length) = true := decide_eq_true (by omega)
  have HV := Lib.hid (show stOk L T M U = false by unfold stOk; rw [h, h2, decide_eq_false h3]; rfl)
  clear h h2 l1 l6 k1 k6
  go_enter Try.func11, Try.ntmps11
  go_wp2_with (first
    | go_skip
    | (rw [← hw1]; clear hw1)
    | (refine wpList_load_row_w rfl 31 _ rfl w.heap.size rfl _ _ _ _ (Kx.out _ (by assumption)) Try.underlying31 rfl (size_Alg _ _) ?_)
    | (refine wpList_load_row_w rfl 31 _ rfl (w.heap.size + 1) rfl _ _ _ _ (Kx2.out _ (by assumption)) Try.underlying31 rfl (size_Alg _ _) ?_)
    | (go_at_call 24; refine (readAlgebra_yes a2 b2 ca2 cb2 M U _ (KR2.out _ z3) (KT2.out _ z3) HA2.out).mono ?_; rintro e w4 ⟨rfl, h4⟩; have z4 : Below w1.heap.size w1 w4 := z3.trans (h4.mono z3.size); have hA4 := hAg1.below h4 hAg1.lt; have s34 := h4.size; clear h4)
    | (go_at_call 24; refine (readAlgebra_yes a b ca cb L T _ (KR.out _ z1) (KT.out _ z1) HA.out).mono ?_; rintro e w2 ⟨rfl, h2⟩; have z2 : Below w1.heap.size w1 w2 := h2; clear h2)
    | (refine wpList_store_row rfl 58 _ _ rfl w2.heap.size (algOf L T) rfl rfl _ _ (heap_alloc_new w2 (.cells zeroAlg 58)) (size_alg _ _ _ _ _ _) rfl (one_alg _ _ _ _ _ _) ?_; rw [World.setRow_alloc_new]; obtain ⟨g1, hg1⟩ : ∃ bl, bl = w2.heap.size := ⟨_, rfl⟩; obtain ⟨w3, hw3⟩ : ∃ x, x = w2.alloc (.cells (algOf L T) 58) := ⟨_, rfl⟩; rw [← hw3, ← hg1]; have hAg1 : AlgAt w3 g1 L T := (by rw [hw3, hg1]; exact AlgAt.new w2 L T); have ltg1 := hAg1.lt; have qw3 : Below w2.heap.size w2 w3 := (by rw [hw3]; exact (Below.refl _ _).alloc (Nat.le_refl _) _); have lg1 : w2.heap.size ≤ g1 := Nat.le_of_eq hg1.symm; have z3 : Below w1.heap.size w1 w3 := z2.trans (qw3.mono z2.size); clear hw3 hg1 z2)
    | (refine wpList_store_row rfl 58 _ _ rfl w4.heap.size (algOf M U) rfl rfl _ _ (heap_alloc_new w4 (.cells zeroAlg 58)) (size_alg _ _ _ _ _ _) rfl (one_alg _ _ _ _ _ _) ?_; rw [World.setRow_alloc_new]; obtain ⟨g2, hg2⟩ : ∃ bl, bl = w4.heap.size := ⟨_, rfl⟩; obtain ⟨w5, hw5⟩ : ∃ x, x = w4.alloc (.cells (algOf M U) 58) := ⟨_, rfl⟩; rw [← hw5, ← hg2]; have hAg2 : AlgAt w5 g2 M U := (by rw [hw5, hg2]; exact AlgAt.new w4 M U); have ltg2 := hAg2.lt; have qw5 : Below w4.heap.size w4 w5 := (by rw [hw5]; exact (Below.refl _ _).alloc (Nat.le_refl _) _); have lg2 : w4.heap.size ≤ g2 := Nat.le_of_eq hg2.symm; have z5 : Below w1.heap.size w1 w5 := z4.trans (qw5.mono z4.size); clear hw5 hg2 z4))
  have s45 := qw5.size
  have KA := Lib.hid (show ∀ wz, Below w5.heap.size w5 wz → AlgAt wz g1 L T from fun wz hz => (hA4.below qw5 hA4.lt).below hz (by omega))
  have KB := Lib.hid (show ∀ wz, Below w5.heap.size w5 wz → AlgAt wz g2 M U from fun wz hz => hAg2.below hz hAg2.lt)
  clear hA4 hAg1 hAg2 qw3 qw5
  have r1 : ∀ s : In (Below w5.heap.size w5), s.w.cell? ⟨g2, 0, none⟩ = some (.int .i64 M.length) := fun s => (KB.out _ s.h).size
  refine region_in (Below w5.heap.size w5) (by kernel_rfl) (by kernel_rfl) (Dr.below ⟨1, rfl⟩ _) fun hne => ?_
  repeat (first
    | (go_big_quiet_want; refine quiet_load_mid 56 _ rfl g1 0 rfl (latOf L) _ (fun w' ⟨s, hs⟩ => by rw [hs]; exact (KA.out _ s.h).lat) Try.underlying56 rfl (size_latOf L) ?_; simp only [Act.put, List.setIfInBounds_toArray, List.set_cons_succ, List.set_cons_zero]; go_big_quiet_on)
    | go_big_quiet_step ((first | (go_at_call 29; exact in_below _ (Nat.le_refl _) (greatest_any L _ n6)))))
  refine wpQuiet_nil ?_
  intro s
  have hws := s.h
  obtain ⟨w6, hw6⟩ : ∃ x, x = s.w := ⟨_, rfl⟩
  rw [← hw6] at hws ⊢
  have z6 : Below w1.heap.size w1 w6 := z5.trans (hws.mono z5.size)
  clear hw6
  go_wp2_with (first
    | (refine wpList_store_row rfl 31 _ _ rfl (w.heap.size + 1 + 1) #[.slice none 0 0, .slice none 0 0] rfl rfl _ _ (Kz.out _ z6) (size_Alg _ _) rfl (one_sl2 _ _ _ _ _ _) ?_))
  refine bodyPost_ret (v := .tuple #[.agg #[.slice none 0 0, .slice none 0 0], .bool false]) (results_Alg_tmp rfl _ _ (w.heap.size + 1 + 1) rfl _ _ (setRow_heap _ _ _ _ _ _ (Kz.out _ z6)) rfl) rfl ?_
  rw [HV.out, (st_no HV.out).1, (st_no HV.out).2]
  have hbz := below_setRow' (hB.trans (z6.mono hB.size)) (by omega : w.heap.size ≤ w.heap.size + 1 + 1) #[.slice none 0 0, .slice none 0 0]
  exact ⟨_, _, _, _, _, _, rfl, GA.zero _ _ hbz.size _, hbz⟩
set_option maxRecDepth 100000 in
set_option maxHeartbeats 4000000 in
theorem implStack_yes (a b : Option Addr) (ca cb : Nat) (L : List Int) (T : List (List Int)) (a2 b2 : Option Addr) (ca2 cb2 : Nat) (M : List Int) (U : List (List Int)) (w : World) (hr : Rd w a L) (hT : RdT w b T) (hr2 : Rd w a2 M) (hT2 : RdT w b2 U) (h : algB L T = true) (h2 : algB M U = true) (h3 : (L.length : Int) - 1 + M.length ≤ 6) : Calls Try.prog 11 #[.agg #[.slice a L.length ca, .slice b T.length cb], .agg #[.slice a2 M.length ca2, .slice b2 U.length cb2]] w (RetGAb (stL L T M U) (stT L T M U) (stOk L T M U) w) := by
  obtain ⟨w1, hw1⟩ : ∃ w1, w1 = ((w.alloc (.cells #[.slice a L.length ca, .slice b T.length cb] 31)).alloc (.cells #[.slice a2 M.length ca2, .slice b2 U.length cb2] 31)).alloc (.cells #[.slice none 0 0, .slice none 0 0] 31) := ⟨_, rfl⟩
  have hB : Below w.heap.size w w1 := by rw [hw1]; exact (((Below.refl _ _).alloc (Nat.le_refl _) _).alloc (by simp) _).alloc (by simp; omega) _
  have hx : w1.heap[w.heap.size]? = some (.cells #[.slice a L.length ca, .slice b T.length cb] 31 (0, 0)) := by
    rw [hw1, Below.heap_alloc _ _ _ (by simp; omega), Below.heap_alloc _ _ _ (by simp)]; exact heap_alloc_new w _
  have hx2 : w1.heap[w.heap.size + 1]? = some (.cells #[.slice a2 M.length ca2, .slice b2 U.length cb2] 31 (0, 0)) := by
    rw [hw1, Below.heap_alloc _ _ _ (by simp)]; exact heap_alloc2_new _ _ _
  have hz : w1.heap[w.heap.size + 1 + 1]? = some (.cells #[.slice none 0 0, .slice none 0 0] 31 (0, 0)) := by
    have := heap_alloc_new ((w.alloc (.cells #[.slice a L.length ca, .slice b T.length cb] 31)).alloc (.cells #[.slice a2 M.length ca2, .slice b2 U.length cb2] 31)) (.cells #[.slice none 0 0, .slice none 0 0] 31)
    rw [hw1]; simpa using this
  have Kx := Lib.hid (show ∀ wz, Below w1.heap.size w1 wz → wz.heap[w.heap.size]? = some (.cells #[.slice a L.length ca, .slice b T.length cb] 31 (0, 0)) from fun wz h => (h.block _ (lt_of_block hx)).trans hx)
  have Kx2 := Lib.hid (show ∀ wz, Below w1.heap.size w1 wz → wz.heap[w.heap.size + 1]? = some (.cells #[.slice a2 M.length ca2, .slice b2 U.length cb2] 31 (0, 0)) from fun wz h => (h.block _ (lt_of_block hx2)).trans hx2)
  have Kz := Lib.hid (show ∀ wz, Below w1.heap.size w1 wz → wz.heap[w.heap.size + 1 + 1]? = some (.cells #[.slice none 0 0, .slice none 0 0] 31 (0, 0)) from fun wz h => (h.block _ (lt_of_block hz)).trans hz)
  have KR := Lib.hid (show ∀ wz, Below w1.heap.size w1 wz → Rd wz a L from fun wz h => (hr.below hB).below h)
  have KT := Lib.hid (show ∀ wz, Below w1.heap.size w1 wz → RdT wz b T from fun wz h => (hT.below hB).below h)
  have KR2 := Lib.hid (show ∀ wz, Below w1.heap.size w1 wz → Rd wz a2 M from fun wz h => (hr2.below hB).below h)
  have KT2 := Lib.hid (show ∀ wz, Below w1.heap.size w1 wz → RdT wz b2 U from fun wz h => (hT2.below hB).below h)
  have hsz : w.heap.size + 1 + 1 < w1.heap.size := lt_of_block hz
  have z1 : Below w1.heap.size w1 w1 := Below.refl _ _
  clear hx hx2 hz hr hT hr2 hT2
  have HA := Lib.hid h
  have HA2 := Lib.hid h2
  obtain ⟨l1, l6⟩ := lat_len (alg_lat h)
  obtain ⟨k1, k6⟩ := lat_len (alg_lat h2)
  have n6 : (L.length : Int) ≤ 6 := l6
  have n1 : 1 ≤ (L.length : Int) := l1
  have m6 : (M.length : Int) ≤ 6 := k6
  have m1 : 1 ≤ (M.length : Int) := k1
  have kw : IntKind.i64.wrap ((L.length : Int) - 1 + M.length) = (L.length : Int) - 1 + M.length := IntWalk.i64_in _ (by omega)
  have kd : decide ((6 : Int) < (L.length : Int) - 1 + M.length) = false := decide_eq_false (by omega)
  have HV := Lib.hid (st_yes h h2 h3)
  clear h h2 l1 l6 k1 k6
  go_enter Try.func11, Try.ntmps11
  go_wp2_with (first
    | go_skip
    | (rw [← hw1]; clear hw1)
    | (refine wpList_load_row_w rfl 31 _ rfl w.heap.size rfl _ _ _ _ (Kx.out _ (by assumption)) Try.underlying31 rfl (size_Alg _ _) ?_)
    | (refine wpList_load_row_w rfl 31 _ rfl (w.heap.size + 1) rfl _ _ _ _ (Kx2.out _ (by assumption)) Try.underlying31 rfl (size_Alg _ _) ?_)
    | (go_at_call 24; refine (readAlgebra_yes a2 b2 ca2 cb2 M U _ (KR2.out _ z3) (KT2.out _ z3) HA2.out).mono ?_; rintro e w4 ⟨rfl, h4⟩; have z4 : Below w1.heap.size w1 w4 := z3.trans (h4.mono z3.size); have hA4 := hAg1.below h4 hAg1.lt; have s34 := h4.size; clear h4)
    | (go_at_call 24; refine (readAlgebra_yes a b ca cb L T _ (KR.out _ z1) (KT.out _ z1) HA.out).mono ?_; rintro e w2 ⟨rfl, h2⟩; have z2 : Below w1.heap.size w1 w2 := h2; clear h2)
    | (refine wpList_store_row rfl 58 _ _ rfl w2.heap.size (algOf L T) rfl rfl _ _ (heap_alloc_new w2 (.cells zeroAlg 58)) (size_alg _ _ _ _ _ _) rfl (one_alg _ _ _ _ _ _) ?_; rw [World.setRow_alloc_new]; obtain ⟨g1, hg1⟩ : ∃ bl, bl = w2.heap.size := ⟨_, rfl⟩; obtain ⟨w3, hw3⟩ : ∃ x, x = w2.alloc (.cells (algOf L T) 58) := ⟨_, rfl⟩; rw [← hw3, ← hg1]; have hAg1 : AlgAt w3 g1 L T := (by rw [hw3, hg1]; exact AlgAt.new w2 L T); have ltg1 := hAg1.lt; have qw3 : Below w2.heap.size w2 w3 := (by rw [hw3]; exact (Below.refl _ _).alloc (Nat.le_refl _) _); have lg1 : w2.heap.size ≤ g1 := Nat.le_of_eq hg1.symm; have z3 : Below w1.heap.size w1 w3 := z2.trans (qw3.mono z2.size); clear hw3 hg1 z2)
    | (refine wpList_store_row rfl 58 _ _ rfl w4.heap.size (algOf M U) rfl rfl _ _ (heap_alloc_new w4 (.cells zeroAlg 58)) (size_alg _ _ _ _ _ _) rfl (one_alg _ _ _ _ _ _) ?_; rw [World.setRow_alloc_new]; obtain ⟨g2, hg2⟩ : ∃ bl, bl = w4.heap.size := ⟨_, rfl⟩; obtain ⟨w5, hw5⟩ : ∃ x, x = w4.alloc (.cells (algOf M U) 58) := ⟨_, rfl⟩; rw [← hw5, ← hg2]; have hAg2 : AlgAt w5 g2 M U := (by rw [hw5, hg2]; exact AlgAt.new w4 M U); have ltg2 := hAg2.lt; have qw5 : Below w4.heap.size w4 w5 := (by rw [hw5]; exact (Below.refl _ _).alloc (Nat.le_refl _) _); have lg2 : w4.heap.size ≤ g2 := Nat.le_of_eq hg2.symm; have z5 : Below w1.heap.size w1 w5 := z4.trans (qw5.mono z4.size); clear hw5 hg2 z4))
  have s45 := qw5.size
  have KA := Lib.hid (show ∀ wz, Below w5.heap.size w5 wz → AlgAt wz g1 L T from fun wz hz => (hA4.below qw5 hA4.lt).below hz (by omega))
  have KB := Lib.hid (show ∀ wz, Below w5.heap.size w5 wz → AlgAt wz g2 M U from fun wz hz => hAg2.below hz hAg2.lt)
  clear hA4 hAg1 hAg2 qw3 qw5
  have r1 : ∀ s : In (Below w5.heap.size w5), s.w.cell? ⟨g2, 0, none⟩ = some (.int .i64 M.length) := fun s => (KB.out _ s.h).size
  refine region_in (Below w5.heap.size w5) (by kernel_rfl) (by kernel_rfl) (Dr.below ⟨1, rfl⟩ _) fun hne => ?_
  repeat (first
    | (go_big_quiet_want; refine quiet_load_mid 56 _ rfl g1 0 rfl (latOf L) _ (fun w' ⟨s, hs⟩ => by rw [hs]; exact (KA.out _ s.h).lat) Try.underlying56 rfl (size_latOf L) ?_; simp only [Act.put, List.setIfInBounds_toArray, List.set_cons_succ, List.set_cons_zero]; go_big_quiet_on)
    | go_big_quiet_step ((first | (go_at_call 29; exact in_below _ (Nat.le_refl _) (greatest_any L _ n6)))))
  refine wpQuiet_nil ?_
  intro s
  have hws := s.h
  obtain ⟨w6, hw6⟩ : ∃ x, x = s.w := ⟨_, rfl⟩
  rw [← hw6] at hws ⊢
  have z6 : Below w1.heap.size w1 w6 := z5.trans (hws.mono z5.size)
  clear hw6
  have s56 := hws.size
  have N0 : 0 ≤ ((L.length : Int) - 1 + M.length) := by omega
  have N6 : ((L.length : Int) - 1 + M.length) ≤ 6 := by omega
  clear r1 kd h3
  have y6 : Below w5.heap.size w5 w6 := hws
  go_wp2_with (first
    | go_skip
    | (refine wpList_load_mid_w rfl 56 _ rfl g1 0 rfl (latOf L) _ (KA.out _ (by assumption)).lat Try.underlying56 rfl (size_latOf L) ?_)
    | (go_at_call 29; refine (greatest_any L _ n6).mono ?_; rintro e w7 ⟨rfl, h7⟩; have y7 : Below w5.heap.size w5 w7 := y6.trans (h7.mono y6.size); have z7 : Below w1.heap.size w1 w7 := z6.trans (h7.mono z6.size); have s7 := h7.size; clear h7 y6 z6)
    | (obtain ⟨bf, hbf⟩ : ∃ x, x = w7.heap.size := ⟨_, rfl⟩; obtain ⟨w8, hw8⟩ : ∃ x, x = w7.alloc (.cells #[.int .i64 ((L.length : Int) - 1)] 3) := ⟨_, rfl⟩; rw [← hw8, ← hbf]; have q8 : Below w7.heap.size w7 w8 := (by rw [hw8]; exact (Below.refl _ _).alloc (Nat.le_refl _) _); have hf8 : w8.heap[bf]? = some (.cells #[.int .i64 ((L.length : Int) - 1)] 3 (0, 0)) := (by rw [hw8, hbf]; exact heap_alloc_new w7 _); have KF := Lib.hid (show ∀ wz, Below w8.heap.size w8 wz → wz.heap[bf]? = some (.cells #[.int .i64 ((L.length : Int) - 1)] 3 (0, 0)) from fun wz h => (h.block _ (lt_of_block hf8)).trans hf8); have cf := cell_of_one hf8; have y8 : Below w5.heap.size w5 w8 := y7.trans (q8.mono y7.size); have z8 : Below w1.heap.size w1 w8 := z7.trans (q8.mono z7.size); have cg := (KB.out _ y8).size; have s8 := q8.size; clear hw8 hbf q8 hf8 y7 z7)
    | (go_at_call 32; refine (upOf_st L T M U ((L.length : Int) - 1) ((L.length : Int) - 1 + M.length) bf g1 g2 w8 (KF.out _ (Below.refl _ _)) (KA.out _ y8) (KB.out _ y8) HA.out HA2.out rfl rfl N0 N6).mono ?_; rintro e w9 ⟨rfl, gs9, hb9⟩; obtain ⟨bu, hbu⟩ : ∃ x, x = w8.heap.size := ⟨_, rfl⟩; rw [← hbu] at gs9 ⊢; have lbu : w8.heap.size ≤ bu := Nat.le_of_eq hbu.symm; have x9 : Below w8.heap.size w8 w9 := hb9; have z9 : Below w1.heap.size w1 w9 := z8.trans (hb9.mono z8.size); have s9 := hb9.size; clear hbu hb9)
    | (go_at_call 20; refine (rowsOf_st L T M U ((L.length : Int) - 1) ((L.length : Int) - 1 + M.length) bf g1 g2 w9 (KF.out _ x9) (KA.out _ (y8.trans (x9.mono y8.size))) (KB.out _ (y8.trans (x9.mono y8.size))) HA.out HA2.out rfl rfl N0 N6).mono ?_; rintro e w10 ⟨rfl, gt10, hb10⟩; obtain ⟨B, hBB⟩ : ∃ x, x = w9.heap.size := ⟨_, rfl⟩; rw [← hBB] at gt10 ⊢; have lB : w9.heap.size ≤ B := Nat.le_of_eq hBB.symm; have gs10 := gs9.below hb10; have z10 : Below w1.heap.size w1 w10 := z9.trans (hb10.mono z9.size); have s10 := hb10.size; clear hBB hb10 gs9)
    | (refine wpList_store_row rfl 31 _ _ rfl (w.heap.size + 1 + 1) #[.slice (some ⟨bu, 0, none⟩) (upL (stG L M ((L.length : Int) - 1)) ((L.length : Int) - 1 + M.length)).length (upL (stG L M ((L.length : Int) - 1)) ((L.length : Int) - 1 + M.length)).length, .slice (some ⟨B, 0, none⟩) (tabL (stP T U ((L.length : Int) - 1)) ((L.length : Int) - 1 + M.length)).length (tabL (stP T U ((L.length : Int) - 1)) ((L.length : Int) - 1 + M.length)).length] rfl rfl _ _ (Kz.out _ z10) (size_Alg _ _) rfl (one_sl2 _ _ _ _ _ _) ?_))
  refine bodyPost_ret (v := .tuple #[.agg #[.slice (some ⟨bu, 0, none⟩) (upL (stG L M ((L.length : Int) - 1)) ((L.length : Int) - 1 + M.length)).length (upL (stG L M ((L.length : Int) - 1)) ((L.length : Int) - 1 + M.length)).length, .slice (some ⟨B, 0, none⟩) (tabL (stP T U ((L.length : Int) - 1)) ((L.length : Int) - 1 + M.length)).length (tabL (stP T U ((L.length : Int) - 1)) ((L.length : Int) - 1 + M.length)).length], .bool true]) (results_Alg_tmp rfl _ _ (w.heap.size + 1 + 1) rfl _ _ (setRow_heap _ _ _ _ _ _ (Kz.out _ z10)) rfl) rfl ?_
  rw [HV.out.1, HV.out.2.1, HV.out.2.2]
  have hbz := below_setRow' (hB.trans (z10.mono hB.size)) (by omega : w.heap.size ≤ w.heap.size + 1 + 1) #[.slice (some ⟨bu, 0, none⟩) (upL (stG L M ((L.length : Int) - 1)) ((L.length : Int) - 1 + M.length)).length (upL (stG L M ((L.length : Int) - 1)) ((L.length : Int) - 1 + M.length)).length, .slice (some ⟨B, 0, none⟩) (tabL (stP T U ((L.length : Int) - 1)) ((L.length : Int) - 1 + M.length)).length (tabL (stP T U ((L.length : Int) - 1)) ((L.length : Int) - 1 + M.length)).length]
  have hb11 := below_setRow' (Below.refl (w.heap.size + 1 + 1) w10) (Nat.le_refl _) #[.slice (some ⟨bu, 0, none⟩) (upL (stG L M ((L.length : Int) - 1)) ((L.length : Int) - 1 + M.length)).length (upL (stG L M ((L.length : Int) - 1)) ((L.length : Int) - 1 + M.length)).length, .slice (some ⟨B, 0, none⟩) (tabL (stP T U ((L.length : Int) - 1)) ((L.length : Int) - 1 + M.length)).length (tabL (stP T U ((L.length : Int) - 1)) ((L.length : Int) - 1 + M.length)).length]
  have s11 := hb11.size
  have s1 := hB.size
  have hk : ∀ lo hi, w.heap.size + 1 + 1 < lo → Keep lo hi w10 (w10.setRow (w.heap.size + 1 + 1) #[.slice (some ⟨bu, 0, none⟩) (upL (stG L M ((L.length : Int) - 1)) ((L.length : Int) - 1 + M.length)).length (upL (stG L M ((L.length : Int) - 1)) ((L.length : Int) - 1 + M.length)).length, .slice (some ⟨B, 0, none⟩) (tabL (stP T U ((L.length : Int) - 1)) ((L.length : Int) - 1 + M.length)).length (tabL (stP T U ((L.length : Int) - 1)) ((L.length : Int) - 1 + M.length)).length]) := fun lo hi hlo k k1 _ _ => setRow_other w10 _ k _ (by omega)
  have s5 := z5.size
  exact ⟨_, _, _, _, _, _, rfl, ⟨bu, w9.heap.size, B, w10.heap.size, by omega, by omega, by omega, by omega, .inl lB, gs10.keep (hk _ _ (by omega)), gt10.keep (hk _ _ (by omega))⟩, hbz⟩
/-- impl.StackAlgebras -/
theorem implStackAlgebras_any (a b : Option Addr) (ca cb : Nat) (L : List Int) (T : List (List Int)) (a2 b2 : Option Addr) (ca2 cb2 : Nat) (M : List Int) (U : List (List Int)) (w : World) (hr : Rd w a L) (hT : RdT w b T) (hr2 : Rd w a2 M) (hT2 : RdT w b2 U) : Calls Try.prog 11 #[.agg #[.slice a L.length ca, .slice b T.length cb], .agg #[.slice a2 M.length ca2, .slice b2 U.length cb2]] w (RetGAb (stL L T M U) (stT L T M U) (stOk L T M U) w) := by
  cases h : algB L T <;> cases h2 : algB M U
  · exact implStack_ff a b ca cb L T a2 b2 ca2 cb2 M U w hr hT hr2 hT2 h h2
  · exact implStack_ft a b ca cb L T a2 b2 ca2 cb2 M U w hr hT hr2 hT2 h h2
  · exact implStack_tf a b ca cb L T a2 b2 ca2 cb2 M U w hr hT hr2 hT2 h h2
  · by_cases h3 : (L.length : Int) - 1 + M.length ≤ 6
    · exact implStack_yes a b ca cb L T a2 b2 ca2 cb2 M U w hr hT hr2 hT2 h h2 h3
    · exact implStack_big a b ca cb L T a2 b2 ca2 cb2 M U w hr hT hr2 hT2 h h2 h3
end Go.Proofs.Ythjbfdoclifhoaa
