import Derived.Test.YtmapofenghjinaaPR2
namespace Go.Proofs.Ytmapofenghjinaa
open Go.RowKit
set_option linter.unusedVariables false

theorem enters_hasClo : Enters 119 := enters_of Try.func119 (by kernel_rfl) rfl
set_option maxRecDepth 100000 in
set_option maxHeartbeats 1000000 in
theorem hasClo_any (f : Nat) (p : Int → Int → Bool) (L : List Int) (T : List (List Int)) (bf ba : Nat) (x y : Int) (w : World) (hf : w.heap[bf]? = some (.cells #[.func (.func f) #[] #[]] 58 (0, 0))) (hA : AlgAt w ba L T) (he : Enters f)
    (H : ∀ wr, Calls Try.prog f #[.agg (algOf L T), .int .i64 x, .int .i64 y] wr fun e w' => e = .returned (.bool (p x y)) ∧ Below wr.heap.size wr w') :
    Calls Try.prog 119 #[.int .i64 x, .int .i64 y, .pointer (some ⟨bf, 0, none⟩), .pointer (some ⟨ba, 0, none⟩)] w fun e w' => e = .returned (.bool (p x y)) ∧ Below w.heap.size w w' := by
  have cf := cell_of_one hf
  have HH := Lib.hid H
  have HA := Lib.hid hA
  have HE := Lib.hid (show ∀ (args : Array Value) (w : World), (callFunc f args).run Try.prog w = .ok (.enter f args) w from he)
  clear H he hf hA
  go_enter Try.func119, Try.ntmps119
  go_wp2_with (first
    | (refine wpList_load_row_w rfl 70 _ rfl ba rfl _ _ _ _ HA.out Try.underlying70 rfl (size_alg _ _ _ _ _ _) ?_)
    | (rw [HE.out]; refine (HH.out _).mono ?_; rintro e w2 ⟨rfl, h2⟩))
  go_ret
  exact ⟨rfl, h2⟩
set_option maxRecDepth 100000 in
set_option maxHeartbeats 1000000 in
/-- impl.algebra.hasProperty, of whatever property -/
theorem hasProp_any (f : Nat) (p : Int → Int → Bool) (L : List Int) (T : List (List Int)) (w : World) (h : algB L T = true) (he : Enters f)
    (H : ∀ x y, 0 ≤ x → x < num L → 0 ≤ y → y < num L → ∀ wr, Calls Try.prog f #[.agg (algOf L T), .int .i64 x, .int .i64 y] wr fun e w' => e = .returned (.bool (p x y)) ∧ Below wr.heap.size wr w') :
    Calls Try.prog 55 #[.agg (algOf L T), .func (.func f) #[] #[]] w fun e w' => e = .returned (.bool (all2 (L.length : Int) p)) ∧ Below w.heap.size w w' := by
  obtain ⟨l1, l6⟩ := lat_len (alg_lat h)
  obtain ⟨w1, hw1⟩ : ∃ w1, w1 = (w.alloc (.cells (algOf L T) 70)).alloc (.cells #[.func (.func f) #[] #[]] 58) := ⟨_, rfl⟩
  have hB : Below w.heap.size w w1 := by rw [hw1]; exact ((Below.refl _ _).alloc (Nat.le_refl _) _).alloc (by simp) _
  have hA : AlgAt w1 w.heap.size L T := by
    have := (AlgAt.new w L T).below ((Below.refl (w.heap.size + 1) (w.alloc (.cells (algOf L T) 70))).alloc (by simp) (.cells #[.func (.func f) #[] #[]] 58)) (by omega)
    rw [hw1]; exact this
  have hf : w1.heap[w.heap.size + 1]? = some (.cells #[.func (.func f) #[] #[]] 58 (0, 0)) := by rw [hw1]; exact heap_alloc2_new _ _ _
  have c0 := hA.size
  have KA := Lib.hid (show ∀ wz, Below w1.heap.size w1 wz → AlgAt wz w.heap.size L T from fun wz hz => hA.below hz hA.lt)
  have KF := Lib.hid (show ∀ wz, Below w1.heap.size w1 wz → wz.heap[w.heap.size + 1]? = some (.cells #[.func (.func f) #[] #[]] 58 (0, 0)) from fun wz h => (h.block _ (lt_of_block hf)).trans hf)
  have HH := Lib.hid H
  have HE := Lib.hid he
  have n6 : (L.length : Int) ≤ 6 := l6
  have n1 : 1 ≤ (L.length : Int) := l1
  clear hA hf h H he l1 l6
  go_enter Try.func55, Try.ntmps55
  go_wp2_with (first
    | (rw [← hw1]; clear hw1)
    | (go_at_call 118; refine (allTwo_any 119 #[.pointer (some ⟨w.heap.size + 1, 0, none⟩), .pointer (some ⟨w.heap.size, 0, none⟩)] L.length p w1 (by omega) n6 enters_hasClo (fun x y wr x0 x1 y0 y1 hb => hasClo_any f p L T (w.heap.size + 1) w.heap.size x y wr (KF.out _ hb) (KA.out _ hb) HE.out (HH.out x y x0 x1 y0 y1))).mono ?_; rintro e w2 ⟨rfl, h2⟩))
  go_ret
  exact ⟨rfl, hB.trans (h2.mono hB.size)⟩
set_option maxRecDepth 100000 in
set_option maxHeartbeats 1000000 in
theorem implHas_0n (s : ByteArray) (q0 : (s.toList == [112, 114, 101, 108, 105, 110, 101, 97, 114]) = true) (a b : Option Addr) (ca cb : Nat) (L : List Int) (T : List (List Int)) (w : World) (hr : Rd w a L) (hT : RdT w b T) (h : algB L T = false) :
    Calls Try.prog 18 #[.string s, .agg #[.slice a L.length ca, .slice b T.length cb]] w fun e w' => e = .returned (.bool false) ∧ Below w.heap.size w w' := by
  obtain ⟨w1, hw1⟩ : ∃ w1, w1 = w.alloc (.cells #[.slice a L.length ca, .slice b T.length cb] 28) := ⟨_, rfl⟩
  have hB : Below w.heap.size w w1 := by rw [hw1]; exact (Below.refl _ _).alloc (Nat.le_refl _) _
  have hx1 : w1.heap[w.heap.size]? = some (.cells #[.slice a L.length ca, .slice b T.length cb] 28 (0, 0)) := by rw [hw1]; exact heap_alloc_new w _
  have Kx := Lib.hid (show ∀ wz, Below w1.heap.size w1 wz → wz.heap[w.heap.size]? = some (.cells #[.slice a L.length ca, .slice b T.length cb] 28 (0, 0)) from fun wz h => (h.block _ (lt_of_block hx1)).trans hx1)
  have KR := Lib.hid (show ∀ wz, Below w1.heap.size w1 wz → Rd wz a L from fun wz h => (hr.below hB).below h)
  have KT := Lib.hid (show ∀ wz, Below w1.heap.size w1 wz → RdT wz b T from fun wz h => (hT.below hB).below h)
  have HA := Lib.hid h
  have z1 : Below w1.heap.size w1 w1 := Below.refl _ _
  have Q0 := Lib.hid q0
  clear q0
  clear h hr hT hx1
  go_enter Try.func18, Try.ntmps18
  go_wp2_with (first
    | go_skip
    | (rw [← hw1]; clear hw1)
    | (go_at_call 53; refine (propertyOf_0 s Q0.out _).mono ?_; rintro e w9 ⟨rfl, rfl⟩)
    | (refine wpList_load_row_w rfl 28 _ rfl w.heap.size rfl _ _ _ _ (Kx.out _ z1) Try.underlying28 rfl (size_Alg _ _) ?_)
    | (go_at_call 54; refine (readAlgebra_no a b ca cb L T _ (KR.out _ z1) (KT.out _ z1) HA.out).mono ?_; rintro e w2 ⟨rfl, h2⟩; have z2 : Below w1.heap.size w1 w2 := h2; clear h2)
    | (refine wpList_store_row rfl 70 _ _ rfl w2.heap.size (zeroAlg) rfl rfl _ _ (heap_alloc_new w2 (.cells zeroAlg 70)) size_zeroAlg rfl one_zeroAlg ?_; rw [World.setRow_alloc_new]; obtain ⟨bl, hbl⟩ : ∃ bl, bl = w2.heap.size := ⟨_, rfl⟩; obtain ⟨w3, hw3⟩ : ∃ x, x = w2.alloc (.cells (zeroAlg) 70) := ⟨_, rfl⟩; rw [← hw3, ← hbl]; have q3 : Below w2.heap.size w2 w3 := (by rw [hw3]; exact (Below.refl _ _).alloc (Nat.le_refl _) _); have z3 : Below w1.heap.size w1 w3 := z2.trans (q3.mono z2.size); clear hw3 hbl q3 z2))
  go_ret
  exact ⟨rfl, hB.trans (Below.mono (by first | exact z4 | exact z3) hB.size)⟩
set_option maxRecDepth 100000 in
set_option maxHeartbeats 1000000 in
theorem implHas_0y (s : ByteArray) (q0 : (s.toList == [112, 114, 101, 108, 105, 110, 101, 97, 114]) = true) (a b : Option Addr) (ca cb : Nat) (L : List Int) (T : List (List Int)) (w : World) (hr : Rd w a L) (hT : RdT w b T) (h : algB L T = true) :
    Calls Try.prog 18 #[.string s, .agg #[.slice a L.length ca, .slice b T.length cb]] w fun e w' => e = .returned (.bool (hasB 0 L T)) ∧ Below w.heap.size w w' := by
  obtain ⟨w1, hw1⟩ : ∃ w1, w1 = w.alloc (.cells #[.slice a L.length ca, .slice b T.length cb] 28) := ⟨_, rfl⟩
  have hB : Below w.heap.size w w1 := by rw [hw1]; exact (Below.refl _ _).alloc (Nat.le_refl _) _
  have hx1 : w1.heap[w.heap.size]? = some (.cells #[.slice a L.length ca, .slice b T.length cb] 28 (0, 0)) := by rw [hw1]; exact heap_alloc_new w _
  have Kx := Lib.hid (show ∀ wz, Below w1.heap.size w1 wz → wz.heap[w.heap.size]? = some (.cells #[.slice a L.length ca, .slice b T.length cb] 28 (0, 0)) from fun wz h => (h.block _ (lt_of_block hx1)).trans hx1)
  have KR := Lib.hid (show ∀ wz, Below w1.heap.size w1 wz → Rd wz a L from fun wz h => (hr.below hB).below h)
  have KT := Lib.hid (show ∀ wz, Below w1.heap.size w1 wz → RdT wz b T from fun wz h => (hT.below hB).below h)
  have HA := Lib.hid h
  have z1 : Below w1.heap.size w1 w1 := Below.refl _ _
  have Q0 := Lib.hid q0
  clear q0
  clear h hr hT hx1
  go_enter Try.func18, Try.ntmps18
  go_wp2_with (first
    | go_skip
    | (rw [← hw1]; clear hw1)
    | (go_at_call 53; refine (propertyOf_0 s Q0.out _).mono ?_; rintro e w9 ⟨rfl, rfl⟩)
    | (refine wpList_load_row_w rfl 28 _ rfl w.heap.size rfl _ _ _ _ (Kx.out _ z1) Try.underlying28 rfl (size_Alg _ _) ?_)
    | (go_at_call 54; refine (readAlgebra_yes a b ca cb L T _ (KR.out _ z1) (KT.out _ z1) HA.out).mono ?_; rintro e w2 ⟨rfl, h2⟩; have z2 : Below w1.heap.size w1 w2 := h2; clear h2)
    | (refine wpList_store_row rfl 70 _ _ rfl w2.heap.size (algOf L T) rfl rfl _ _ (heap_alloc_new w2 (.cells zeroAlg 70)) (size_alg _ _ _ _ _ _) rfl (one_alg _ _ _ _ _ _) ?_; rw [World.setRow_alloc_new]; obtain ⟨bl, hbl⟩ : ∃ bl, bl = w2.heap.size := ⟨_, rfl⟩; obtain ⟨w3, hw3⟩ : ∃ x, x = w2.alloc (.cells (algOf L T) 70) := ⟨_, rfl⟩; rw [← hw3, ← hbl]; have q3 : Below w2.heap.size w2 w3 := (by rw [hw3]; exact (Below.refl _ _).alloc (Nat.le_refl _) _); have hA : AlgAt w3 bl L T := (by rw [hw3, hbl]; exact AlgAt.new w2 L T); have z3 : Below w1.heap.size w1 w3 := z2.trans (q3.mono z2.size); clear hw3 hbl q3 z2)
    | (refine wpList_load_row_w rfl 70 _ rfl bl rfl _ _ _ _ hA Try.underlying70 rfl (size_alg _ _ _ _ _ _) ?_)
    | (go_at_call 55; refine (hasProp_any 109 (prQ0 L T) L T w3 HA.out enters_pr0 (fun x y x0 x1 y0 y1 wr => prClo_0 L T x y wr HA.out x0 x1 y0 y1)).mono ?_; rintro e w4 ⟨rfl, h4⟩; have z4 : Below w1.heap.size w1 w4 := z3.trans (h4.mono z3.size); clear z3 h4))
  go_ret
  exact ⟨rfl, hB.trans (Below.mono (by first | exact z4 | exact z3) hB.size)⟩
set_option maxRecDepth 100000 in
set_option maxHeartbeats 1000000 in
theorem implHas_1n (s : ByteArray) (q0 : (s.toList == [112, 114, 101, 108, 105, 110, 101, 97, 114]) = false) (q1 : (s.toList == [100, 105, 118, 105, 115, 105, 98, 108, 101]) = true) (a b : Option Addr) (ca cb : Nat) (L : List Int) (T : List (List Int)) (w : World) (hr : Rd w a L) (hT : RdT w b T) (h : algB L T = false) :
    Calls Try.prog 18 #[.string s, .agg #[.slice a L.length ca, .slice b T.length cb]] w fun e w' => e = .returned (.bool false) ∧ Below w.heap.size w w' := by
  obtain ⟨w1, hw1⟩ : ∃ w1, w1 = w.alloc (.cells #[.slice a L.length ca, .slice b T.length cb] 28) := ⟨_, rfl⟩
  have hB : Below w.heap.size w w1 := by rw [hw1]; exact (Below.refl _ _).alloc (Nat.le_refl _) _
  have hx1 : w1.heap[w.heap.size]? = some (.cells #[.slice a L.length ca, .slice b T.length cb] 28 (0, 0)) := by rw [hw1]; exact heap_alloc_new w _
  have Kx := Lib.hid (show ∀ wz, Below w1.heap.size w1 wz → wz.heap[w.heap.size]? = some (.cells #[.slice a L.length ca, .slice b T.length cb] 28 (0, 0)) from fun wz h => (h.block _ (lt_of_block hx1)).trans hx1)
  have KR := Lib.hid (show ∀ wz, Below w1.heap.size w1 wz → Rd wz a L from fun wz h => (hr.below hB).below h)
  have KT := Lib.hid (show ∀ wz, Below w1.heap.size w1 wz → RdT wz b T from fun wz h => (hT.below hB).below h)
  have HA := Lib.hid h
  have z1 : Below w1.heap.size w1 w1 := Below.refl _ _
  have Q0 := Lib.hid q0
  have Q1 := Lib.hid q1
  clear q0 q1
  clear h hr hT hx1
  go_enter Try.func18, Try.ntmps18
  go_wp2_with (first
    | go_skip
    | (rw [← hw1]; clear hw1)
    | (go_at_call 53; refine (propertyOf_1 s Q0.out Q1.out _).mono ?_; rintro e w9 ⟨rfl, rfl⟩)
    | (refine wpList_load_row_w rfl 28 _ rfl w.heap.size rfl _ _ _ _ (Kx.out _ z1) Try.underlying28 rfl (size_Alg _ _) ?_)
    | (go_at_call 54; refine (readAlgebra_no a b ca cb L T _ (KR.out _ z1) (KT.out _ z1) HA.out).mono ?_; rintro e w2 ⟨rfl, h2⟩; have z2 : Below w1.heap.size w1 w2 := h2; clear h2)
    | (refine wpList_store_row rfl 70 _ _ rfl w2.heap.size (zeroAlg) rfl rfl _ _ (heap_alloc_new w2 (.cells zeroAlg 70)) size_zeroAlg rfl one_zeroAlg ?_; rw [World.setRow_alloc_new]; obtain ⟨bl, hbl⟩ : ∃ bl, bl = w2.heap.size := ⟨_, rfl⟩; obtain ⟨w3, hw3⟩ : ∃ x, x = w2.alloc (.cells (zeroAlg) 70) := ⟨_, rfl⟩; rw [← hw3, ← hbl]; have q3 : Below w2.heap.size w2 w3 := (by rw [hw3]; exact (Below.refl _ _).alloc (Nat.le_refl _) _); have z3 : Below w1.heap.size w1 w3 := z2.trans (q3.mono z2.size); clear hw3 hbl q3 z2))
  go_ret
  exact ⟨rfl, hB.trans (Below.mono (by first | exact z4 | exact z3) hB.size)⟩
set_option maxRecDepth 100000 in
set_option maxHeartbeats 1000000 in
theorem implHas_1y (s : ByteArray) (q0 : (s.toList == [112, 114, 101, 108, 105, 110, 101, 97, 114]) = false) (q1 : (s.toList == [100, 105, 118, 105, 115, 105, 98, 108, 101]) = true) (a b : Option Addr) (ca cb : Nat) (L : List Int) (T : List (List Int)) (w : World) (hr : Rd w a L) (hT : RdT w b T) (h : algB L T = true) :
    Calls Try.prog 18 #[.string s, .agg #[.slice a L.length ca, .slice b T.length cb]] w fun e w' => e = .returned (.bool (hasB 1 L T)) ∧ Below w.heap.size w w' := by
  obtain ⟨w1, hw1⟩ : ∃ w1, w1 = w.alloc (.cells #[.slice a L.length ca, .slice b T.length cb] 28) := ⟨_, rfl⟩
  have hB : Below w.heap.size w w1 := by rw [hw1]; exact (Below.refl _ _).alloc (Nat.le_refl _) _
  have hx1 : w1.heap[w.heap.size]? = some (.cells #[.slice a L.length ca, .slice b T.length cb] 28 (0, 0)) := by rw [hw1]; exact heap_alloc_new w _
  have Kx := Lib.hid (show ∀ wz, Below w1.heap.size w1 wz → wz.heap[w.heap.size]? = some (.cells #[.slice a L.length ca, .slice b T.length cb] 28 (0, 0)) from fun wz h => (h.block _ (lt_of_block hx1)).trans hx1)
  have KR := Lib.hid (show ∀ wz, Below w1.heap.size w1 wz → Rd wz a L from fun wz h => (hr.below hB).below h)
  have KT := Lib.hid (show ∀ wz, Below w1.heap.size w1 wz → RdT wz b T from fun wz h => (hT.below hB).below h)
  have HA := Lib.hid h
  have z1 : Below w1.heap.size w1 w1 := Below.refl _ _
  have Q0 := Lib.hid q0
  have Q1 := Lib.hid q1
  clear q0 q1
  clear h hr hT hx1
  go_enter Try.func18, Try.ntmps18
  go_wp2_with (first
    | go_skip
    | (rw [← hw1]; clear hw1)
    | (go_at_call 53; refine (propertyOf_1 s Q0.out Q1.out _).mono ?_; rintro e w9 ⟨rfl, rfl⟩)
    | (refine wpList_load_row_w rfl 28 _ rfl w.heap.size rfl _ _ _ _ (Kx.out _ z1) Try.underlying28 rfl (size_Alg _ _) ?_)
    | (go_at_call 54; refine (readAlgebra_yes a b ca cb L T _ (KR.out _ z1) (KT.out _ z1) HA.out).mono ?_; rintro e w2 ⟨rfl, h2⟩; have z2 : Below w1.heap.size w1 w2 := h2; clear h2)
    | (refine wpList_store_row rfl 70 _ _ rfl w2.heap.size (algOf L T) rfl rfl _ _ (heap_alloc_new w2 (.cells zeroAlg 70)) (size_alg _ _ _ _ _ _) rfl (one_alg _ _ _ _ _ _) ?_; rw [World.setRow_alloc_new]; obtain ⟨bl, hbl⟩ : ∃ bl, bl = w2.heap.size := ⟨_, rfl⟩; obtain ⟨w3, hw3⟩ : ∃ x, x = w2.alloc (.cells (algOf L T) 70) := ⟨_, rfl⟩; rw [← hw3, ← hbl]; have q3 : Below w2.heap.size w2 w3 := (by rw [hw3]; exact (Below.refl _ _).alloc (Nat.le_refl _) _); have hA : AlgAt w3 bl L T := (by rw [hw3, hbl]; exact AlgAt.new w2 L T); have z3 : Below w1.heap.size w1 w3 := z2.trans (q3.mono z2.size); clear hw3 hbl q3 z2)
    | (refine wpList_load_row_w rfl 70 _ rfl bl rfl _ _ _ _ hA Try.underlying70 rfl (size_alg _ _ _ _ _ _) ?_)
    | (go_at_call 55; refine (hasProp_any 110 (prQ1 L T) L T w3 HA.out enters_pr1 (fun x y x0 x1 y0 y1 wr => prClo_1 L T x y wr HA.out x0 x1 y0 y1)).mono ?_; rintro e w4 ⟨rfl, h4⟩; have z4 : Below w1.heap.size w1 w4 := z3.trans (h4.mono z3.size); clear z3 h4))
  go_ret
  exact ⟨rfl, hB.trans (Below.mono (by first | exact z4 | exact z3) hB.size)⟩
set_option maxRecDepth 100000 in
set_option maxHeartbeats 1000000 in
theorem implHas_2n (s : ByteArray) (q0 : (s.toList == [112, 114, 101, 108, 105, 110, 101, 97, 114]) = false) (q1 : (s.toList == [100, 105, 118, 105, 115, 105, 98, 108, 101]) = false) (q2 : (s.toList == [105, 110, 118, 111, 108, 117, 116, 105, 118, 101]) = true) (a b : Option Addr) (ca cb : Nat) (L : List Int) (T : List (List Int)) (w : World) (hr : Rd w a L) (hT : RdT w b T) (h : algB L T = false) :
    Calls Try.prog 18 #[.string s, .agg #[.slice a L.length ca, .slice b T.length cb]] w fun e w' => e = .returned (.bool false) ∧ Below w.heap.size w w' := by
  obtain ⟨w1, hw1⟩ : ∃ w1, w1 = w.alloc (.cells #[.slice a L.length ca, .slice b T.length cb] 28) := ⟨_, rfl⟩
  have hB : Below w.heap.size w w1 := by rw [hw1]; exact (Below.refl _ _).alloc (Nat.le_refl _) _
  have hx1 : w1.heap[w.heap.size]? = some (.cells #[.slice a L.length ca, .slice b T.length cb] 28 (0, 0)) := by rw [hw1]; exact heap_alloc_new w _
  have Kx := Lib.hid (show ∀ wz, Below w1.heap.size w1 wz → wz.heap[w.heap.size]? = some (.cells #[.slice a L.length ca, .slice b T.length cb] 28 (0, 0)) from fun wz h => (h.block _ (lt_of_block hx1)).trans hx1)
  have KR := Lib.hid (show ∀ wz, Below w1.heap.size w1 wz → Rd wz a L from fun wz h => (hr.below hB).below h)
  have KT := Lib.hid (show ∀ wz, Below w1.heap.size w1 wz → RdT wz b T from fun wz h => (hT.below hB).below h)
  have HA := Lib.hid h
  have z1 : Below w1.heap.size w1 w1 := Below.refl _ _
  have Q0 := Lib.hid q0
  have Q1 := Lib.hid q1
  have Q2 := Lib.hid q2
  clear q0 q1 q2
  clear h hr hT hx1
  go_enter Try.func18, Try.ntmps18
  go_wp2_with (first
    | go_skip
    | (rw [← hw1]; clear hw1)
    | (go_at_call 53; refine (propertyOf_2 s Q0.out Q1.out Q2.out _).mono ?_; rintro e w9 ⟨rfl, rfl⟩)
    | (refine wpList_load_row_w rfl 28 _ rfl w.heap.size rfl _ _ _ _ (Kx.out _ z1) Try.underlying28 rfl (size_Alg _ _) ?_)
    | (go_at_call 54; refine (readAlgebra_no a b ca cb L T _ (KR.out _ z1) (KT.out _ z1) HA.out).mono ?_; rintro e w2 ⟨rfl, h2⟩; have z2 : Below w1.heap.size w1 w2 := h2; clear h2)
    | (refine wpList_store_row rfl 70 _ _ rfl w2.heap.size (zeroAlg) rfl rfl _ _ (heap_alloc_new w2 (.cells zeroAlg 70)) size_zeroAlg rfl one_zeroAlg ?_; rw [World.setRow_alloc_new]; obtain ⟨bl, hbl⟩ : ∃ bl, bl = w2.heap.size := ⟨_, rfl⟩; obtain ⟨w3, hw3⟩ : ∃ x, x = w2.alloc (.cells (zeroAlg) 70) := ⟨_, rfl⟩; rw [← hw3, ← hbl]; have q3 : Below w2.heap.size w2 w3 := (by rw [hw3]; exact (Below.refl _ _).alloc (Nat.le_refl _) _); have z3 : Below w1.heap.size w1 w3 := z2.trans (q3.mono z2.size); clear hw3 hbl q3 z2))
  go_ret
  exact ⟨rfl, hB.trans (Below.mono (by first | exact z4 | exact z3) hB.size)⟩
set_option maxRecDepth 100000 in
set_option maxHeartbeats 1000000 in
theorem implHas_2y (s : ByteArray) (q0 : (s.toList == [112, 114, 101, 108, 105, 110, 101, 97, 114]) = false) (q1 : (s.toList == [100, 105, 118, 105, 115, 105, 98, 108, 101]) = false) (q2 : (s.toList == [105, 110, 118, 111, 108, 117, 116, 105, 118, 101]) = true) (a b : Option Addr) (ca cb : Nat) (L : List Int) (T : List (List Int)) (w : World) (hr : Rd w a L) (hT : RdT w b T) (h : algB L T = true) :
    Calls Try.prog 18 #[.string s, .agg #[.slice a L.length ca, .slice b T.length cb]] w fun e w' => e = .returned (.bool (hasB 2 L T)) ∧ Below w.heap.size w w' := by
  obtain ⟨w1, hw1⟩ : ∃ w1, w1 = w.alloc (.cells #[.slice a L.length ca, .slice b T.length cb] 28) := ⟨_, rfl⟩
  have hB : Below w.heap.size w w1 := by rw [hw1]; exact (Below.refl _ _).alloc (Nat.le_refl _) _
  have hx1 : w1.heap[w.heap.size]? = some (.cells #[.slice a L.length ca, .slice b T.length cb] 28 (0, 0)) := by rw [hw1]; exact heap_alloc_new w _
  have Kx := Lib.hid (show ∀ wz, Below w1.heap.size w1 wz → wz.heap[w.heap.size]? = some (.cells #[.slice a L.length ca, .slice b T.length cb] 28 (0, 0)) from fun wz h => (h.block _ (lt_of_block hx1)).trans hx1)
  have KR := Lib.hid (show ∀ wz, Below w1.heap.size w1 wz → Rd wz a L from fun wz h => (hr.below hB).below h)
  have KT := Lib.hid (show ∀ wz, Below w1.heap.size w1 wz → RdT wz b T from fun wz h => (hT.below hB).below h)
  have HA := Lib.hid h
  have z1 : Below w1.heap.size w1 w1 := Below.refl _ _
  have Q0 := Lib.hid q0
  have Q1 := Lib.hid q1
  have Q2 := Lib.hid q2
  clear q0 q1 q2
  clear h hr hT hx1
  go_enter Try.func18, Try.ntmps18
  go_wp2_with (first
    | go_skip
    | (rw [← hw1]; clear hw1)
    | (go_at_call 53; refine (propertyOf_2 s Q0.out Q1.out Q2.out _).mono ?_; rintro e w9 ⟨rfl, rfl⟩)
    | (refine wpList_load_row_w rfl 28 _ rfl w.heap.size rfl _ _ _ _ (Kx.out _ z1) Try.underlying28 rfl (size_Alg _ _) ?_)
    | (go_at_call 54; refine (readAlgebra_yes a b ca cb L T _ (KR.out _ z1) (KT.out _ z1) HA.out).mono ?_; rintro e w2 ⟨rfl, h2⟩; have z2 : Below w1.heap.size w1 w2 := h2; clear h2)
    | (refine wpList_store_row rfl 70 _ _ rfl w2.heap.size (algOf L T) rfl rfl _ _ (heap_alloc_new w2 (.cells zeroAlg 70)) (size_alg _ _ _ _ _ _) rfl (one_alg _ _ _ _ _ _) ?_; rw [World.setRow_alloc_new]; obtain ⟨bl, hbl⟩ : ∃ bl, bl = w2.heap.size := ⟨_, rfl⟩; obtain ⟨w3, hw3⟩ : ∃ x, x = w2.alloc (.cells (algOf L T) 70) := ⟨_, rfl⟩; rw [← hw3, ← hbl]; have q3 : Below w2.heap.size w2 w3 := (by rw [hw3]; exact (Below.refl _ _).alloc (Nat.le_refl _) _); have hA : AlgAt w3 bl L T := (by rw [hw3, hbl]; exact AlgAt.new w2 L T); have z3 : Below w1.heap.size w1 w3 := z2.trans (q3.mono z2.size); clear hw3 hbl q3 z2)
    | (refine wpList_load_row_w rfl 70 _ rfl bl rfl _ _ _ _ hA Try.underlying70 rfl (size_alg _ _ _ _ _ _) ?_)
    | (go_at_call 55; refine (hasProp_any 111 (prQ2 L T) L T w3 HA.out enters_pr2 (fun x y x0 x1 y0 y1 wr => prClo_2 L T x y wr HA.out x0 x1 y0 y1)).mono ?_; rintro e w4 ⟨rfl, h4⟩; have z4 : Below w1.heap.size w1 w4 := z3.trans (h4.mono z3.size); clear z3 h4))
  go_ret
  exact ⟨rfl, hB.trans (Below.mono (by first | exact z4 | exact z3) hB.size)⟩
set_option maxRecDepth 100000 in
set_option maxHeartbeats 1000000 in
theorem implHas_3n (s : ByteArray) (q0 : (s.toList == [112, 114, 101, 108, 105, 110, 101, 97, 114]) = false) (q1 : (s.toList == [100, 105, 118, 105, 115, 105, 98, 108, 101]) = false) (q2 : (s.toList == [105, 110, 118, 111, 108, 117, 116, 105, 118, 101]) = false) (q3 : (s.toList == [105, 100, 101, 109, 112, 111, 116, 101, 110, 116]) = true) (a b : Option Addr) (ca cb : Nat) (L : List Int) (T : List (List Int)) (w : World) (hr : Rd w a L) (hT : RdT w b T) (h : algB L T = false) :
    Calls Try.prog 18 #[.string s, .agg #[.slice a L.length ca, .slice b T.length cb]] w fun e w' => e = .returned (.bool false) ∧ Below w.heap.size w w' := by
  obtain ⟨w1, hw1⟩ : ∃ w1, w1 = w.alloc (.cells #[.slice a L.length ca, .slice b T.length cb] 28) := ⟨_, rfl⟩
  have hB : Below w.heap.size w w1 := by rw [hw1]; exact (Below.refl _ _).alloc (Nat.le_refl _) _
  have hx1 : w1.heap[w.heap.size]? = some (.cells #[.slice a L.length ca, .slice b T.length cb] 28 (0, 0)) := by rw [hw1]; exact heap_alloc_new w _
  have Kx := Lib.hid (show ∀ wz, Below w1.heap.size w1 wz → wz.heap[w.heap.size]? = some (.cells #[.slice a L.length ca, .slice b T.length cb] 28 (0, 0)) from fun wz h => (h.block _ (lt_of_block hx1)).trans hx1)
  have KR := Lib.hid (show ∀ wz, Below w1.heap.size w1 wz → Rd wz a L from fun wz h => (hr.below hB).below h)
  have KT := Lib.hid (show ∀ wz, Below w1.heap.size w1 wz → RdT wz b T from fun wz h => (hT.below hB).below h)
  have HA := Lib.hid h
  have z1 : Below w1.heap.size w1 w1 := Below.refl _ _
  have Q0 := Lib.hid q0
  have Q1 := Lib.hid q1
  have Q2 := Lib.hid q2
  have Q3 := Lib.hid q3
  clear q0 q1 q2 q3
  clear h hr hT hx1
  go_enter Try.func18, Try.ntmps18
  go_wp2_with (first
    | go_skip
    | (rw [← hw1]; clear hw1)
    | (go_at_call 53; refine (propertyOf_3 s Q0.out Q1.out Q2.out Q3.out _).mono ?_; rintro e w9 ⟨rfl, rfl⟩)
    | (refine wpList_load_row_w rfl 28 _ rfl w.heap.size rfl _ _ _ _ (Kx.out _ z1) Try.underlying28 rfl (size_Alg _ _) ?_)
    | (go_at_call 54; refine (readAlgebra_no a b ca cb L T _ (KR.out _ z1) (KT.out _ z1) HA.out).mono ?_; rintro e w2 ⟨rfl, h2⟩; have z2 : Below w1.heap.size w1 w2 := h2; clear h2)
    | (refine wpList_store_row rfl 70 _ _ rfl w2.heap.size (zeroAlg) rfl rfl _ _ (heap_alloc_new w2 (.cells zeroAlg 70)) size_zeroAlg rfl one_zeroAlg ?_; rw [World.setRow_alloc_new]; obtain ⟨bl, hbl⟩ : ∃ bl, bl = w2.heap.size := ⟨_, rfl⟩; obtain ⟨w3, hw3⟩ : ∃ x, x = w2.alloc (.cells (zeroAlg) 70) := ⟨_, rfl⟩; rw [← hw3, ← hbl]; have q3 : Below w2.heap.size w2 w3 := (by rw [hw3]; exact (Below.refl _ _).alloc (Nat.le_refl _) _); have z3 : Below w1.heap.size w1 w3 := z2.trans (q3.mono z2.size); clear hw3 hbl q3 z2))
  go_ret
  exact ⟨rfl, hB.trans (Below.mono (by first | exact z4 | exact z3) hB.size)⟩
set_option maxRecDepth 100000 in
set_option maxHeartbeats 1000000 in
theorem implHas_3y (s : ByteArray) (q0 : (s.toList == [112, 114, 101, 108, 105, 110, 101, 97, 114]) = false) (q1 : (s.toList == [100, 105, 118, 105, 115, 105, 98, 108, 101]) = false) (q2 : (s.toList == [105, 110, 118, 111, 108, 117, 116, 105, 118, 101]) = false) (q3 : (s.toList == [105, 100, 101, 109, 112, 111, 116, 101, 110, 116]) = true) (a b : Option Addr) (ca cb : Nat) (L : List Int) (T : List (List Int)) (w : World) (hr : Rd w a L) (hT : RdT w b T) (h : algB L T = true) :
    Calls Try.prog 18 #[.string s, .agg #[.slice a L.length ca, .slice b T.length cb]] w fun e w' => e = .returned (.bool (hasB 3 L T)) ∧ Below w.heap.size w w' := by
  obtain ⟨w1, hw1⟩ : ∃ w1, w1 = w.alloc (.cells #[.slice a L.length ca, .slice b T.length cb] 28) := ⟨_, rfl⟩
  have hB : Below w.heap.size w w1 := by rw [hw1]; exact (Below.refl _ _).alloc (Nat.le_refl _) _
  have hx1 : w1.heap[w.heap.size]? = some (.cells #[.slice a L.length ca, .slice b T.length cb] 28 (0, 0)) := by rw [hw1]; exact heap_alloc_new w _
  have Kx := Lib.hid (show ∀ wz, Below w1.heap.size w1 wz → wz.heap[w.heap.size]? = some (.cells #[.slice a L.length ca, .slice b T.length cb] 28 (0, 0)) from fun wz h => (h.block _ (lt_of_block hx1)).trans hx1)
  have KR := Lib.hid (show ∀ wz, Below w1.heap.size w1 wz → Rd wz a L from fun wz h => (hr.below hB).below h)
  have KT := Lib.hid (show ∀ wz, Below w1.heap.size w1 wz → RdT wz b T from fun wz h => (hT.below hB).below h)
  have HA := Lib.hid h
  have z1 : Below w1.heap.size w1 w1 := Below.refl _ _
  have Q0 := Lib.hid q0
  have Q1 := Lib.hid q1
  have Q2 := Lib.hid q2
  have Q3 := Lib.hid q3
  clear q0 q1 q2 q3
  clear h hr hT hx1
  go_enter Try.func18, Try.ntmps18
  go_wp2_with (first
    | go_skip
    | (rw [← hw1]; clear hw1)
    | (go_at_call 53; refine (propertyOf_3 s Q0.out Q1.out Q2.out Q3.out _).mono ?_; rintro e w9 ⟨rfl, rfl⟩)
    | (refine wpList_load_row_w rfl 28 _ rfl w.heap.size rfl _ _ _ _ (Kx.out _ z1) Try.underlying28 rfl (size_Alg _ _) ?_)
    | (go_at_call 54; refine (readAlgebra_yes a b ca cb L T _ (KR.out _ z1) (KT.out _ z1) HA.out).mono ?_; rintro e w2 ⟨rfl, h2⟩; have z2 : Below w1.heap.size w1 w2 := h2; clear h2)
    | (refine wpList_store_row rfl 70 _ _ rfl w2.heap.size (algOf L T) rfl rfl _ _ (heap_alloc_new w2 (.cells zeroAlg 70)) (size_alg _ _ _ _ _ _) rfl (one_alg _ _ _ _ _ _) ?_; rw [World.setRow_alloc_new]; obtain ⟨bl, hbl⟩ : ∃ bl, bl = w2.heap.size := ⟨_, rfl⟩; obtain ⟨w3, hw3⟩ : ∃ x, x = w2.alloc (.cells (algOf L T) 70) := ⟨_, rfl⟩; rw [← hw3, ← hbl]; have q3 : Below w2.heap.size w2 w3 := (by rw [hw3]; exact (Below.refl _ _).alloc (Nat.le_refl _) _); have hA : AlgAt w3 bl L T := (by rw [hw3, hbl]; exact AlgAt.new w2 L T); have z3 : Below w1.heap.size w1 w3 := z2.trans (q3.mono z2.size); clear hw3 hbl q3 z2)
    | (refine wpList_load_row_w rfl 70 _ rfl bl rfl _ _ _ _ hA Try.underlying70 rfl (size_alg _ _ _ _ _ _) ?_)
    | (go_at_call 55; refine (hasProp_any 112 (prQ3 L T) L T w3 HA.out enters_pr3 (fun x y x0 x1 y0 y1 wr => prClo_3 L T x y wr HA.out x0 x1 y0 y1)).mono ?_; rintro e w4 ⟨rfl, h4⟩; have z4 : Below w1.heap.size w1 w4 := z3.trans (h4.mono z3.size); clear z3 h4))
  go_ret
  exact ⟨rfl, hB.trans (Below.mono (by first | exact z4 | exact z3) hB.size)⟩
set_option maxRecDepth 100000 in
set_option maxHeartbeats 1000000 in
theorem implHas_4n (s : ByteArray) (q0 : (s.toList == [112, 114, 101, 108, 105, 110, 101, 97, 114]) = false) (q1 : (s.toList == [100, 105, 118, 105, 115, 105, 98, 108, 101]) = false) (q2 : (s.toList == [105, 110, 118, 111, 108, 117, 116, 105, 118, 101]) = false) (q3 : (s.toList == [105, 100, 101, 109, 112, 111, 116, 101, 110, 116]) = false) (q4 : (s.toList == [98, 111, 111, 108, 101, 97, 110]) = true) (a b : Option Addr) (ca cb : Nat) (L : List Int) (T : List (List Int)) (w : World) (hr : Rd w a L) (hT : RdT w b T) (h : algB L T = false) :
    Calls Try.prog 18 #[.string s, .agg #[.slice a L.length ca, .slice b T.length cb]] w fun e w' => e = .returned (.bool false) ∧ Below w.heap.size w w' := by
  obtain ⟨w1, hw1⟩ : ∃ w1, w1 = w.alloc (.cells #[.slice a L.length ca, .slice b T.length cb] 28) := ⟨_, rfl⟩
  have hB : Below w.heap.size w w1 := by rw [hw1]; exact (Below.refl _ _).alloc (Nat.le_refl _) _
  have hx1 : w1.heap[w.heap.size]? = some (.cells #[.slice a L.length ca, .slice b T.length cb] 28 (0, 0)) := by rw [hw1]; exact heap_alloc_new w _
  have Kx := Lib.hid (show ∀ wz, Below w1.heap.size w1 wz → wz.heap[w.heap.size]? = some (.cells #[.slice a L.length ca, .slice b T.length cb] 28 (0, 0)) from fun wz h => (h.block _ (lt_of_block hx1)).trans hx1)
  have KR := Lib.hid (show ∀ wz, Below w1.heap.size w1 wz → Rd wz a L from fun wz h => (hr.below hB).below h)
  have KT := Lib.hid (show ∀ wz, Below w1.heap.size w1 wz → RdT wz b T from fun wz h => (hT.below hB).below h)
  have HA := Lib.hid h
  have z1 : Below w1.heap.size w1 w1 := Below.refl _ _
  have Q0 := Lib.hid q0
  have Q1 := Lib.hid q1
  have Q2 := Lib.hid q2
  have Q3 := Lib.hid q3
  have Q4 := Lib.hid q4
  clear q0 q1 q2 q3 q4
  clear h hr hT hx1
  go_enter Try.func18, Try.ntmps18
  go_wp2_with (first
    | go_skip
    | (rw [← hw1]; clear hw1)
    | (go_at_call 53; refine (propertyOf_4 s Q0.out Q1.out Q2.out Q3.out Q4.out _).mono ?_; rintro e w9 ⟨rfl, rfl⟩)
    | (refine wpList_load_row_w rfl 28 _ rfl w.heap.size rfl _ _ _ _ (Kx.out _ z1) Try.underlying28 rfl (size_Alg _ _) ?_)
    | (go_at_call 54; refine (readAlgebra_no a b ca cb L T _ (KR.out _ z1) (KT.out _ z1) HA.out).mono ?_; rintro e w2 ⟨rfl, h2⟩; have z2 : Below w1.heap.size w1 w2 := h2; clear h2)
    | (refine wpList_store_row rfl 70 _ _ rfl w2.heap.size (zeroAlg) rfl rfl _ _ (heap_alloc_new w2 (.cells zeroAlg 70)) size_zeroAlg rfl one_zeroAlg ?_; rw [World.setRow_alloc_new]; obtain ⟨bl, hbl⟩ : ∃ bl, bl = w2.heap.size := ⟨_, rfl⟩; obtain ⟨w3, hw3⟩ : ∃ x, x = w2.alloc (.cells (zeroAlg) 70) := ⟨_, rfl⟩; rw [← hw3, ← hbl]; have q3 : Below w2.heap.size w2 w3 := (by rw [hw3]; exact (Below.refl _ _).alloc (Nat.le_refl _) _); have z3 : Below w1.heap.size w1 w3 := z2.trans (q3.mono z2.size); clear hw3 hbl q3 z2))
  go_ret
  exact ⟨rfl, hB.trans (Below.mono (by first | exact z4 | exact z3) hB.size)⟩
set_option maxRecDepth 100000 in
set_option maxHeartbeats 1000000 in
theorem implHas_4y (s : ByteArray) (q0 : (s.toList == [112, 114, 101, 108, 105, 110, 101, 97, 114]) = false) (q1 : (s.toList == [100, 105, 118, 105, 115, 105, 98, 108, 101]) = false) (q2 : (s.toList == [105, 110, 118, 111, 108, 117, 116, 105, 118, 101]) = false) (q3 : (s.toList == [105, 100, 101, 109, 112, 111, 116, 101, 110, 116]) = false) (q4 : (s.toList == [98, 111, 111, 108, 101, 97, 110]) = true) (a b : Option Addr) (ca cb : Nat) (L : List Int) (T : List (List Int)) (w : World) (hr : Rd w a L) (hT : RdT w b T) (h : algB L T = true) :
    Calls Try.prog 18 #[.string s, .agg #[.slice a L.length ca, .slice b T.length cb]] w fun e w' => e = .returned (.bool (hasB 4 L T)) ∧ Below w.heap.size w w' := by
  obtain ⟨w1, hw1⟩ : ∃ w1, w1 = w.alloc (.cells #[.slice a L.length ca, .slice b T.length cb] 28) := ⟨_, rfl⟩
  have hB : Below w.heap.size w w1 := by rw [hw1]; exact (Below.refl _ _).alloc (Nat.le_refl _) _
  have hx1 : w1.heap[w.heap.size]? = some (.cells #[.slice a L.length ca, .slice b T.length cb] 28 (0, 0)) := by rw [hw1]; exact heap_alloc_new w _
  have Kx := Lib.hid (show ∀ wz, Below w1.heap.size w1 wz → wz.heap[w.heap.size]? = some (.cells #[.slice a L.length ca, .slice b T.length cb] 28 (0, 0)) from fun wz h => (h.block _ (lt_of_block hx1)).trans hx1)
  have KR := Lib.hid (show ∀ wz, Below w1.heap.size w1 wz → Rd wz a L from fun wz h => (hr.below hB).below h)
  have KT := Lib.hid (show ∀ wz, Below w1.heap.size w1 wz → RdT wz b T from fun wz h => (hT.below hB).below h)
  have HA := Lib.hid h
  have z1 : Below w1.heap.size w1 w1 := Below.refl _ _
  have Q0 := Lib.hid q0
  have Q1 := Lib.hid q1
  have Q2 := Lib.hid q2
  have Q3 := Lib.hid q3
  have Q4 := Lib.hid q4
  clear q0 q1 q2 q3 q4
  clear h hr hT hx1
  go_enter Try.func18, Try.ntmps18
  go_wp2_with (first
    | go_skip
    | (rw [← hw1]; clear hw1)
    | (go_at_call 53; refine (propertyOf_4 s Q0.out Q1.out Q2.out Q3.out Q4.out _).mono ?_; rintro e w9 ⟨rfl, rfl⟩)
    | (refine wpList_load_row_w rfl 28 _ rfl w.heap.size rfl _ _ _ _ (Kx.out _ z1) Try.underlying28 rfl (size_Alg _ _) ?_)
    | (go_at_call 54; refine (readAlgebra_yes a b ca cb L T _ (KR.out _ z1) (KT.out _ z1) HA.out).mono ?_; rintro e w2 ⟨rfl, h2⟩; have z2 : Below w1.heap.size w1 w2 := h2; clear h2)
    | (refine wpList_store_row rfl 70 _ _ rfl w2.heap.size (algOf L T) rfl rfl _ _ (heap_alloc_new w2 (.cells zeroAlg 70)) (size_alg _ _ _ _ _ _) rfl (one_alg _ _ _ _ _ _) ?_; rw [World.setRow_alloc_new]; obtain ⟨bl, hbl⟩ : ∃ bl, bl = w2.heap.size := ⟨_, rfl⟩; obtain ⟨w3, hw3⟩ : ∃ x, x = w2.alloc (.cells (algOf L T) 70) := ⟨_, rfl⟩; rw [← hw3, ← hbl]; have q3 : Below w2.heap.size w2 w3 := (by rw [hw3]; exact (Below.refl _ _).alloc (Nat.le_refl _) _); have hA : AlgAt w3 bl L T := (by rw [hw3, hbl]; exact AlgAt.new w2 L T); have z3 : Below w1.heap.size w1 w3 := z2.trans (q3.mono z2.size); clear hw3 hbl q3 z2)
    | (refine wpList_load_row_w rfl 70 _ rfl bl rfl _ _ _ _ hA Try.underlying70 rfl (size_alg _ _ _ _ _ _) ?_)
    | (go_at_call 55; refine (hasProp_any 113 (prQ4 L T) L T w3 HA.out enters_pr4 (fun x y x0 x1 y0 y1 wr => prClo_4 L T x y wr HA.out x0 x1 y0 y1)).mono ?_; rintro e w4 ⟨rfl, h4⟩; have z4 : Below w1.heap.size w1 w4 := z3.trans (h4.mono z3.size); clear z3 h4))
  go_ret
  exact ⟨rfl, hB.trans (Below.mono (by first | exact z4 | exact z3) hB.size)⟩
set_option maxRecDepth 100000 in
set_option maxHeartbeats 1000000 in
theorem implHas_5n (s : ByteArray) (q0 : (s.toList == [112, 114, 101, 108, 105, 110, 101, 97, 114]) = false) (q1 : (s.toList == [100, 105, 118, 105, 115, 105, 98, 108, 101]) = false) (q2 : (s.toList == [105, 110, 118, 111, 108, 117, 116, 105, 118, 101]) = false) (q3 : (s.toList == [105, 100, 101, 109, 112, 111, 116, 101, 110, 116]) = false) (q4 : (s.toList == [98, 111, 111, 108, 101, 97, 110]) = false) (a b : Option Addr) (ca cb : Nat) (L : List Int) (T : List (List Int)) (w : World) (hr : Rd w a L) (hT : RdT w b T) (h : algB L T = false) :
    Calls Try.prog 18 #[.string s, .agg #[.slice a L.length ca, .slice b T.length cb]] w fun e w' => e = .returned (.bool false) ∧ Below w.heap.size w w' := by
  obtain ⟨w1, hw1⟩ : ∃ w1, w1 = w.alloc (.cells #[.slice a L.length ca, .slice b T.length cb] 28) := ⟨_, rfl⟩
  have hB : Below w.heap.size w w1 := by rw [hw1]; exact (Below.refl _ _).alloc (Nat.le_refl _) _
  have hx1 : w1.heap[w.heap.size]? = some (.cells #[.slice a L.length ca, .slice b T.length cb] 28 (0, 0)) := by rw [hw1]; exact heap_alloc_new w _
  have Kx := Lib.hid (show ∀ wz, Below w1.heap.size w1 wz → wz.heap[w.heap.size]? = some (.cells #[.slice a L.length ca, .slice b T.length cb] 28 (0, 0)) from fun wz h => (h.block _ (lt_of_block hx1)).trans hx1)
  have KR := Lib.hid (show ∀ wz, Below w1.heap.size w1 wz → Rd wz a L from fun wz h => (hr.below hB).below h)
  have KT := Lib.hid (show ∀ wz, Below w1.heap.size w1 wz → RdT wz b T from fun wz h => (hT.below hB).below h)
  have HA := Lib.hid h
  have z1 : Below w1.heap.size w1 w1 := Below.refl _ _
  have Q0 := Lib.hid q0
  have Q1 := Lib.hid q1
  have Q2 := Lib.hid q2
  have Q3 := Lib.hid q3
  have Q4 := Lib.hid q4
  clear q0 q1 q2 q3 q4
  clear h hr hT hx1
  go_enter Try.func18, Try.ntmps18
  go_wp2_with (first
    | go_skip
    | (rw [← hw1]; clear hw1)
    | (go_at_call 53; refine (propertyOf_5 s Q0.out Q1.out Q2.out Q3.out Q4.out _).mono ?_; rintro e w9 ⟨rfl, rfl⟩)
    | (refine wpList_load_row_w rfl 28 _ rfl w.heap.size rfl _ _ _ _ (Kx.out _ z1) Try.underlying28 rfl (size_Alg _ _) ?_)
    | (go_at_call 54; refine (readAlgebra_no a b ca cb L T _ (KR.out _ z1) (KT.out _ z1) HA.out).mono ?_; rintro e w2 ⟨rfl, h2⟩; have z2 : Below w1.heap.size w1 w2 := h2; clear h2)
    | (refine wpList_store_row rfl 70 _ _ rfl w2.heap.size (zeroAlg) rfl rfl _ _ (heap_alloc_new w2 (.cells zeroAlg 70)) size_zeroAlg rfl one_zeroAlg ?_; rw [World.setRow_alloc_new]; obtain ⟨bl, hbl⟩ : ∃ bl, bl = w2.heap.size := ⟨_, rfl⟩; obtain ⟨w3, hw3⟩ : ∃ x, x = w2.alloc (.cells (zeroAlg) 70) := ⟨_, rfl⟩; rw [← hw3, ← hbl]; have q3 : Below w2.heap.size w2 w3 := (by rw [hw3]; exact (Below.refl _ _).alloc (Nat.le_refl _) _); have z3 : Below w1.heap.size w1 w3 := z2.trans (q3.mono z2.size); clear hw3 hbl q3 z2))
  go_ret
  exact ⟨rfl, hB.trans (Below.mono (by first | exact z4 | exact z3) hB.size)⟩
set_option maxRecDepth 100000 in
set_option maxHeartbeats 1000000 in
theorem implHas_5y (s : ByteArray) (q0 : (s.toList == [112, 114, 101, 108, 105, 110, 101, 97, 114]) = false) (q1 : (s.toList == [100, 105, 118, 105, 115, 105, 98, 108, 101]) = false) (q2 : (s.toList == [105, 110, 118, 111, 108, 117, 116, 105, 118, 101]) = false) (q3 : (s.toList == [105, 100, 101, 109, 112, 111, 116, 101, 110, 116]) = false) (q4 : (s.toList == [98, 111, 111, 108, 101, 97, 110]) = false) (a b : Option Addr) (ca cb : Nat) (L : List Int) (T : List (List Int)) (w : World) (hr : Rd w a L) (hT : RdT w b T) (h : algB L T = true) :
    Calls Try.prog 18 #[.string s, .agg #[.slice a L.length ca, .slice b T.length cb]] w fun e w' => e = .returned (.bool false) ∧ Below w.heap.size w w' := by
  obtain ⟨w1, hw1⟩ : ∃ w1, w1 = w.alloc (.cells #[.slice a L.length ca, .slice b T.length cb] 28) := ⟨_, rfl⟩
  have hB : Below w.heap.size w w1 := by rw [hw1]; exact (Below.refl _ _).alloc (Nat.le_refl _) _
  have hx1 : w1.heap[w.heap.size]? = some (.cells #[.slice a L.length ca, .slice b T.length cb] 28 (0, 0)) := by rw [hw1]; exact heap_alloc_new w _
  have Kx := Lib.hid (show ∀ wz, Below w1.heap.size w1 wz → wz.heap[w.heap.size]? = some (.cells #[.slice a L.length ca, .slice b T.length cb] 28 (0, 0)) from fun wz h => (h.block _ (lt_of_block hx1)).trans hx1)
  have KR := Lib.hid (show ∀ wz, Below w1.heap.size w1 wz → Rd wz a L from fun wz h => (hr.below hB).below h)
  have KT := Lib.hid (show ∀ wz, Below w1.heap.size w1 wz → RdT wz b T from fun wz h => (hT.below hB).below h)
  have HA := Lib.hid h
  have z1 : Below w1.heap.size w1 w1 := Below.refl _ _
  have Q0 := Lib.hid q0
  have Q1 := Lib.hid q1
  have Q2 := Lib.hid q2
  have Q3 := Lib.hid q3
  have Q4 := Lib.hid q4
  clear q0 q1 q2 q3 q4
  clear h hr hT hx1
  go_enter Try.func18, Try.ntmps18
  go_wp2_with (first
    | go_skip
    | (rw [← hw1]; clear hw1)
    | (go_at_call 53; refine (propertyOf_5 s Q0.out Q1.out Q2.out Q3.out Q4.out _).mono ?_; rintro e w9 ⟨rfl, rfl⟩)
    | (refine wpList_load_row_w rfl 28 _ rfl w.heap.size rfl _ _ _ _ (Kx.out _ z1) Try.underlying28 rfl (size_Alg _ _) ?_)
    | (go_at_call 54; refine (readAlgebra_yes a b ca cb L T _ (KR.out _ z1) (KT.out _ z1) HA.out).mono ?_; rintro e w2 ⟨rfl, h2⟩; have z2 : Below w1.heap.size w1 w2 := h2; clear h2)
    | (refine wpList_store_row rfl 70 _ _ rfl w2.heap.size (algOf L T) rfl rfl _ _ (heap_alloc_new w2 (.cells zeroAlg 70)) (size_alg _ _ _ _ _ _) rfl (one_alg _ _ _ _ _ _) ?_; rw [World.setRow_alloc_new]; obtain ⟨bl, hbl⟩ : ∃ bl, bl = w2.heap.size := ⟨_, rfl⟩; obtain ⟨w3, hw3⟩ : ∃ x, x = w2.alloc (.cells (algOf L T) 70) := ⟨_, rfl⟩; rw [← hw3, ← hbl]; have q3 : Below w2.heap.size w2 w3 := (by rw [hw3]; exact (Below.refl _ _).alloc (Nat.le_refl _) _); have hA : AlgAt w3 bl L T := (by rw [hw3, hbl]; exact AlgAt.new w2 L T); have z3 : Below w1.heap.size w1 w3 := z2.trans (q3.mono z2.size); clear hw3 hbl q3 z2))
  go_ret
  exact ⟨rfl, hB.trans (Below.mono (by first | exact z4 | exact z3) hB.size)⟩
/-- what HasProperty answers -/
def hpB (s : ByteArray) (L : List Int) (T : List (List Int)) : Bool := algB L T && (decide (prIx s < 5) && hasB (prIx s) L T)
theorem prIx_0 {s : ByteArray} (q0 : (s.toList == [112, 114, 101, 108, 105, 110, 101, 97, 114]) = true) : prIx s = 0 := by unfold prIx; rw [if_pos q0]
theorem prIx_1 {s : ByteArray} (q0 : (s.toList == [112, 114, 101, 108, 105, 110, 101, 97, 114]) = false) (q1 : (s.toList == [100, 105, 118, 105, 115, 105, 98, 108, 101]) = true) : prIx s = 1 := by unfold prIx; rw [if_neg (by rw [q0]; decide), if_pos q1]
theorem prIx_2 {s : ByteArray} (q0 : (s.toList == [112, 114, 101, 108, 105, 110, 101, 97, 114]) = false) (q1 : (s.toList == [100, 105, 118, 105, 115, 105, 98, 108, 101]) = false) (q2 : (s.toList == [105, 110, 118, 111, 108, 117, 116, 105, 118, 101]) = true) : prIx s = 2 := by unfold prIx; rw [if_neg (by rw [q0]; decide), if_neg (by rw [q1]; decide), if_pos q2]
theorem prIx_3 {s : ByteArray} (q0 : (s.toList == [112, 114, 101, 108, 105, 110, 101, 97, 114]) = false) (q1 : (s.toList == [100, 105, 118, 105, 115, 105, 98, 108, 101]) = false) (q2 : (s.toList == [105, 110, 118, 111, 108, 117, 116, 105, 118, 101]) = false) (q3 : (s.toList == [105, 100, 101, 109, 112, 111, 116, 101, 110, 116]) = true) : prIx s = 3 := by unfold prIx; rw [if_neg (by rw [q0]; decide), if_neg (by rw [q1]; decide), if_neg (by rw [q2]; decide), if_pos q3]
theorem prIx_4 {s : ByteArray} (q0 : (s.toList == [112, 114, 101, 108, 105, 110, 101, 97, 114]) = false) (q1 : (s.toList == [100, 105, 118, 105, 115, 105, 98, 108, 101]) = false) (q2 : (s.toList == [105, 110, 118, 111, 108, 117, 116, 105, 118, 101]) = false) (q3 : (s.toList == [105, 100, 101, 109, 112, 111, 116, 101, 110, 116]) = false) (q4 : (s.toList == [98, 111, 111, 108, 101, 97, 110]) = true) : prIx s = 4 := by unfold prIx; rw [if_neg (by rw [q0]; decide), if_neg (by rw [q1]; decide), if_neg (by rw [q2]; decide), if_neg (by rw [q3]; decide), if_pos q4]
theorem prIx_5 {s : ByteArray} (q0 : (s.toList == [112, 114, 101, 108, 105, 110, 101, 97, 114]) = false) (q1 : (s.toList == [100, 105, 118, 105, 115, 105, 98, 108, 101]) = false) (q2 : (s.toList == [105, 110, 118, 111, 108, 117, 116, 105, 118, 101]) = false) (q3 : (s.toList == [105, 100, 101, 109, 112, 111, 116, 101, 110, 116]) = false) (q4 : (s.toList == [98, 111, 111, 108, 101, 97, 110]) = false) : prIx s = 5 := by unfold prIx; rw [if_neg (by rw [q0]; decide), if_neg (by rw [q1]; decide), if_neg (by rw [q2]; decide), if_neg (by rw [q3]; decide), if_neg (by rw [q4]; decide)]
theorem hp_0 {s : ByteArray} (q0 : (s.toList == [112, 114, 101, 108, 105, 110, 101, 97, 114]) = true) {L : List Int} {T : List (List Int)} (h : algB L T = true) : hpB s L T = hasB 0 L T := by unfold hpB; rw [h, prIx_0 q0]; rfl
theorem hp_1 {s : ByteArray} (q0 : (s.toList == [112, 114, 101, 108, 105, 110, 101, 97, 114]) = false) (q1 : (s.toList == [100, 105, 118, 105, 115, 105, 98, 108, 101]) = true) {L : List Int} {T : List (List Int)} (h : algB L T = true) : hpB s L T = hasB 1 L T := by unfold hpB; rw [h, prIx_1 q0 q1]; rfl
theorem hp_2 {s : ByteArray} (q0 : (s.toList == [112, 114, 101, 108, 105, 110, 101, 97, 114]) = false) (q1 : (s.toList == [100, 105, 118, 105, 115, 105, 98, 108, 101]) = false) (q2 : (s.toList == [105, 110, 118, 111, 108, 117, 116, 105, 118, 101]) = true) {L : List Int} {T : List (List Int)} (h : algB L T = true) : hpB s L T = hasB 2 L T := by unfold hpB; rw [h, prIx_2 q0 q1 q2]; rfl
theorem hp_3 {s : ByteArray} (q0 : (s.toList == [112, 114, 101, 108, 105, 110, 101, 97, 114]) = false) (q1 : (s.toList == [100, 105, 118, 105, 115, 105, 98, 108, 101]) = false) (q2 : (s.toList == [105, 110, 118, 111, 108, 117, 116, 105, 118, 101]) = false) (q3 : (s.toList == [105, 100, 101, 109, 112, 111, 116, 101, 110, 116]) = true) {L : List Int} {T : List (List Int)} (h : algB L T = true) : hpB s L T = hasB 3 L T := by unfold hpB; rw [h, prIx_3 q0 q1 q2 q3]; rfl
theorem hp_4 {s : ByteArray} (q0 : (s.toList == [112, 114, 101, 108, 105, 110, 101, 97, 114]) = false) (q1 : (s.toList == [100, 105, 118, 105, 115, 105, 98, 108, 101]) = false) (q2 : (s.toList == [105, 110, 118, 111, 108, 117, 116, 105, 118, 101]) = false) (q3 : (s.toList == [105, 100, 101, 109, 112, 111, 116, 101, 110, 116]) = false) (q4 : (s.toList == [98, 111, 111, 108, 101, 97, 110]) = true) {L : List Int} {T : List (List Int)} (h : algB L T = true) : hpB s L T = hasB 4 L T := by unfold hpB; rw [h, prIx_4 q0 q1 q2 q3 q4]; rfl
theorem hp_5 {s : ByteArray} (q0 : (s.toList == [112, 114, 101, 108, 105, 110, 101, 97, 114]) = false) (q1 : (s.toList == [100, 105, 118, 105, 115, 105, 98, 108, 101]) = false) (q2 : (s.toList == [105, 110, 118, 111, 108, 117, 116, 105, 118, 101]) = false) (q3 : (s.toList == [105, 100, 101, 109, 112, 111, 116, 101, 110, 116]) = false) (q4 : (s.toList == [98, 111, 111, 108, 101, 97, 110]) = false) {L : List Int} {T : List (List Int)} (h : algB L T = true) : hpB s L T = false := by unfold hpB; rw [h, prIx_5 q0 q1 q2 q3 q4]; rfl
theorem hp_no (s : ByteArray) {L : List Int} {T : List (List Int)} (h : algB L T = false) : hpB s L T = false := by unfold hpB; rw [h]; rfl
/-- spec.HasProperty -/
theorem specHasProperty_any (s : ByteArray) (a b : Option Addr) (ca cb : Nat) (L : List Int) (T : List (List Int)) (w : World) (hr : Rd w a L) (hT : RdT w b T) : Calls Try.prog 16 #[.string s, .agg #[.slice a L.length ca, .slice b T.length cb]] w fun e w' => e = .returned (.bool (hpB s L T)) ∧ Below w.heap.size w w' := by
  cases h : algB L T with
  | false =>
    rw [hp_no s h]
    exact specHas_no s a b ca cb L T w hr hT h
  | true =>
    cases q0 : (s.toList == [112, 114, 101, 108, 105, 110, 101, 97, 114]) with
    | true => rw [hp_0 q0 h]; exact specHas_0 s q0 a b ca cb L T w hr hT h
    | false =>
      cases q1 : (s.toList == [100, 105, 118, 105, 115, 105, 98, 108, 101]) with
      | true => rw [hp_1 q0 q1 h]; exact specHas_1 s q0 q1 a b ca cb L T w hr hT h
      | false =>
        cases q2 : (s.toList == [105, 110, 118, 111, 108, 117, 116, 105, 118, 101]) with
        | true => rw [hp_2 q0 q1 q2 h]; exact specHas_2 s q0 q1 q2 a b ca cb L T w hr hT h
        | false =>
          cases q3 : (s.toList == [105, 100, 101, 109, 112, 111, 116, 101, 110, 116]) with
          | true => rw [hp_3 q0 q1 q2 q3 h]; exact specHas_3 s q0 q1 q2 q3 a b ca cb L T w hr hT h
          | false =>
            cases q4 : (s.toList == [98, 111, 111, 108, 101, 97, 110]) with
            | true => rw [hp_4 q0 q1 q2 q3 q4 h]; exact specHas_4 s q0 q1 q2 q3 q4 a b ca cb L T w hr hT h
            | false =>
              rw [hp_5 q0 q1 q2 q3 q4 h]; exact specHas_5 s q0 q1 q2 q3 q4 a b ca cb L T w hr hT h
/-- impl.HasProperty -/
theorem implHasProperty_any (s : ByteArray) (a b : Option Addr) (ca cb : Nat) (L : List Int) (T : List (List Int)) (w : World) (hr : Rd w a L) (hT : RdT w b T) : Calls Try.prog 18 #[.string s, .agg #[.slice a L.length ca, .slice b T.length cb]] w fun e w' => e = .returned (.bool (hpB s L T)) ∧ Below w.heap.size w w' := by
  cases h : algB L T with
  | false =>
    rw [hp_no s h]
    cases q0 : (s.toList == [112, 114, 101, 108, 105, 110, 101, 97, 114]) with
    | true => exact implHas_0n s q0 a b ca cb L T w hr hT h
    | false =>
      cases q1 : (s.toList == [100, 105, 118, 105, 115, 105, 98, 108, 101]) with
      | true => exact implHas_1n s q0 q1 a b ca cb L T w hr hT h
      | false =>
        cases q2 : (s.toList == [105, 110, 118, 111, 108, 117, 116, 105, 118, 101]) with
        | true => exact implHas_2n s q0 q1 q2 a b ca cb L T w hr hT h
        | false =>
          cases q3 : (s.toList == [105, 100, 101, 109, 112, 111, 116, 101, 110, 116]) with
          | true => exact implHas_3n s q0 q1 q2 q3 a b ca cb L T w hr hT h
          | false =>
            cases q4 : (s.toList == [98, 111, 111, 108, 101, 97, 110]) with
            | true => exact implHas_4n s q0 q1 q2 q3 q4 a b ca cb L T w hr hT h
            | false =>
              exact implHas_5n s q0 q1 q2 q3 q4 a b ca cb L T w hr hT h
  | true =>
    cases q0 : (s.toList == [112, 114, 101, 108, 105, 110, 101, 97, 114]) with
    | true => rw [hp_0 q0 h]; exact implHas_0y s q0 a b ca cb L T w hr hT h
    | false =>
      cases q1 : (s.toList == [100, 105, 118, 105, 115, 105, 98, 108, 101]) with
      | true => rw [hp_1 q0 q1 h]; exact implHas_1y s q0 q1 a b ca cb L T w hr hT h
      | false =>
        cases q2 : (s.toList == [105, 110, 118, 111, 108, 117, 116, 105, 118, 101]) with
        | true => rw [hp_2 q0 q1 q2 h]; exact implHas_2y s q0 q1 q2 a b ca cb L T w hr hT h
        | false =>
          cases q3 : (s.toList == [105, 100, 101, 109, 112, 111, 116, 101, 110, 116]) with
          | true => rw [hp_3 q0 q1 q2 q3 h]; exact implHas_3y s q0 q1 q2 q3 a b ca cb L T w hr hT h
          | false =>
            cases q4 : (s.toList == [98, 111, 111, 108, 101, 97, 110]) with
            | true => rw [hp_4 q0 q1 q2 q3 q4 h]; exact implHas_4y s q0 q1 q2 q3 q4 a b ca cb L T w hr hT h
            | false =>
              rw [hp_5 q0 q1 q2 q3 q4 h]; exact implHas_5y s q0 q1 q2 q3 q4 a b ca cb L T w hr hT h
end Go.Proofs.Ytmapofenghjinaa
