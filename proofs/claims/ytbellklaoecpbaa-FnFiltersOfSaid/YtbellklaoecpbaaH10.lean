import Derived.Test.YtbellklaoecpbaaG5
namespace Go.Proofs.Ytbellklaoecpbaa
open Go.RowKit

theorem withB_twoI {L : List Int} {x y : Int} : withB L [x, y] = ((decide (0 ≤ x) && decide (x ≤ (L.length : Int) - 1)) && (decide (0 ≤ y) && decide (y ≤ (L.length : Int) - 1))) := by
  unfold withB
  rw [show ((List.length [x, y] : Nat) : Int) = (0 + 1) + 1 from rfl, allI_succ _ (by omega), allI_succ _ (by omega), allI_zero, Bool.true_and]
  unfold inE
  rw [show nth [x, y] 0 = x from rfl, show nth [x, y] (0 + 1) = y from rfl, decide_eq_decide.2 (show x < (L.length : Int) ↔ x ≤ (L.length : Int) - 1 by omega), decide_eq_decide.2 (show y < (L.length : Int) ↔ y ≤ (L.length : Int) - 1 by omega)]
theorem withB_one {L : List Int} {x : Int} : withB L [x] = (decide (0 ≤ x) && decide (x ≤ (L.length : Int) - 1)) := by
  unfold withB
  rw [show ((List.length [x] : Nat) : Int) = 0 + 1 from rfl, allI_succ _ (by omega), allI_zero, Bool.true_and]
  unfold inE
  rw [show nth [x] 0 = x from rfl, decide_eq_decide.2 (show x < (L.length : Int) ↔ x ≤ (L.length : Int) - 1 by omega)]
theorem aw_two {L : List Int} {T : List (List Int)} {x y : Int} : awB L T [x, y] = algIn L T x y := by
  unfold awB algIn; rw [withB_twoI]; exact (Bool.and_assoc _ _ _).symm
theorem aw_one {L : List Int} {T : List (List Int)} {x : Int} : awB L T [x] = algIn L T x x := by
  unfold awB algIn; rw [withB_one]
  cases algB L T <;> cases (decide (0 ≤ x) && decide (x ≤ (L.length : Int) - 1)) <;> rfl
theorem readAW_good (a b a2 : Option Addr) (ca cb c2 : Nat) (L : List Int) (T : List (List Int)) (E : List Int) (w : World) (hr : Rd w a L) (hT : RdT w b T) (hr2 : Rd w a2 E) (hE : E.length ≤ 1048576) (h : awB L T E = true) :
    Calls Try.prog 71 #[.agg #[.slice a L.length ca, .slice b T.length cb], .slice a2 E.length c2] w fun e w' => e = .returned (.tuple #[.agg (algOf L T), .bool true]) ∧ Below w.heap.size w w' := by
  unfold awB at h
  rw [Bool.and_eq_true] at h
  exact readAW_yes a b a2 ca cb c2 L T E w hr hT hr2 hE h.1 h.2
theorem readAW2_no (a b a2 : Option Addr) (ca cb c2 : Nat) (L : List Int) (T : List (List Int)) (x y : Int) (w : World) (hr : Rd w a L) (hT : RdT w b T) (hr2 : Rd w a2 [x, y]) (h : awB L T [x, y] = false) :
    Calls Try.prog 71 #[.agg #[.slice a L.length ca, .slice b T.length cb], .slice a2 2 c2] w fun e w' => e = .returned (.tuple #[.agg zeroAlg, .bool false]) ∧ Below w.heap.size w w' :=
  readAW_no a b a2 ca cb c2 L T [x, y] w hr hT hr2 (by simp) h
theorem readAW2_good (a b a2 : Option Addr) (ca cb c2 : Nat) (L : List Int) (T : List (List Int)) (x y : Int) (w : World) (hr : Rd w a L) (hT : RdT w b T) (hr2 : Rd w a2 [x, y]) (h : awB L T [x, y] = true) :
    Calls Try.prog 71 #[.agg #[.slice a L.length ca, .slice b T.length cb], .slice a2 2 c2] w fun e w' => e = .returned (.tuple #[.agg (algOf L T), .bool true]) ∧ Below w.heap.size w w' :=
  readAW_good a b a2 ca cb c2 L T [x, y] w hr hT hr2 (by simp) h
theorem readAW1_no (a b a2 : Option Addr) (ca cb c2 : Nat) (L : List Int) (T : List (List Int)) (x : Int) (w : World) (hr : Rd w a L) (hT : RdT w b T) (hr2 : Rd w a2 [x]) (h : awB L T [x] = false) :
    Calls Try.prog 71 #[.agg #[.slice a L.length ca, .slice b T.length cb], .slice a2 1 c2] w fun e w' => e = .returned (.tuple #[.agg zeroAlg, .bool false]) ∧ Below w.heap.size w w' :=
  readAW_no a b a2 ca cb c2 L T [x] w hr hT hr2 (by simp) h
theorem readAW1_good (a b a2 : Option Addr) (ca cb c2 : Nat) (L : List Int) (T : List (List Int)) (x : Int) (w : World) (hr : Rd w a L) (hT : RdT w b T) (hr2 : Rd w a2 [x]) (h : awB L T [x] = true) :
    Calls Try.prog 71 #[.agg #[.slice a L.length ca, .slice b T.length cb], .slice a2 1 c2] w fun e w' => e = .returned (.tuple #[.agg (algOf L T), .bool true]) ∧ Below w.heap.size w w' :=
  readAW_good a b a2 ca cb c2 L T [x] w hr hT hr2 (by simp) h
theorem AlgAt.alloc {w : World} {b : Nat} {L : List Int} {T : List (List Int)} (h : AlgAt w b L T) (o : Obj) : AlgAt (w.alloc o) b L T := h.below ((Below.refl w.heap.size w).alloc (Nat.le_refl _) o) h.lt
set_option maxRecDepth 100000 in
set_option maxHeartbeats 1000000 in
theorem implValidAlgebra_no (a b : Option Addr) (ca cb : Nat) (L : List Int) (T : List (List Int)) (w : World) (hr : Rd w a L) (hT : RdT w b T) (h : algB L T = false) :
    Calls Try.prog 16 #[.agg #[.slice a L.length ca, .slice b T.length cb]] w fun e w' => e = .returned (.bool false) ∧ Below w.heap.size w w' := by
  obtain ⟨w1, hw1⟩ : ∃ w1, w1 = w.alloc (.cells #[.slice a L.length ca, .slice b T.length cb] 26) := ⟨_, rfl⟩
  have hB : Below w.heap.size w w1 := by rw [hw1]; exact (Below.refl _ _).alloc (Nat.le_refl _) _
  have hx : w1.heap[w.heap.size]? = some (.cells #[.slice a L.length ca, .slice b T.length cb] 26 (0, 0)) := by rw [hw1]; exact heap_alloc_new w _
  obtain ⟨c0, c1⟩ := bx_cells hx
  have Kx := Lib.hid (show ∀ wz, Below w1.heap.size w1 wz → wz.heap[w.heap.size]? = some (.cells #[.slice a L.length ca, .slice b T.length cb] 26 (0, 0)) from fun wz h => (h.block _ (lt_of_block hx)).trans hx)
  have KR := Lib.hid (show ∀ wz, Below w1.heap.size w1 wz → Rd wz a L from fun wz h => (hr.below hB).below h)
  have KT := Lib.hid (show ∀ wz, Below w1.heap.size w1 wz → RdT wz b T from fun wz h => (hT.below hB).below h)
  have z1 : Below w1.heap.size w1 w1 := Below.refl _ _
  clear hr hT hx
  go_enter Try.func16, Try.ntmps16
  go_wp2_with (first
    | (rw [← hw1]; clear hw1)
    | (refine wpList_load_row_w rfl 26 _ rfl w.heap.size rfl _ _ _ _ (Kx.out _ (by assumption)) Try.underlying26 rfl (size_Alg _ _) ?_)
    | (go_at_call 66; refine (readAlgebra_no _ _ _ _ L T _ (KR.out _ z1) (KT.out _ z1) h).mono ?_; rintro e w2 ⟨rfl, h2⟩; have z2 : Below w1.heap.size w1 w2 := h2)
    | (refine wpList_store_row rfl 63 _ _ rfl w2.heap.size zeroAlg rfl rfl _ _ (heap_alloc_new w2 (.cells zeroAlg 63)) size_zeroAlg rfl one_zeroAlg ?_; rw [World.setRow_alloc_new]; obtain ⟨bl, hbl⟩ : ∃ bl, bl = w2.heap.size := ⟨_, rfl⟩; obtain ⟨w9, hw9⟩ : ∃ w9, w9 = w2.alloc (.cells zeroAlg 63) := ⟨_, rfl⟩; rw [← hw9, ← hbl]; have B9 : Below w1.heap.size w1 w9 := (by rw [hw9]; exact z2.alloc z2.size _); clear hw9 hbl))
  go_ret
  exact ⟨rfl, hB.trans (B9.mono hB.size)⟩

set_option maxRecDepth 100000 in
set_option maxHeartbeats 1000000 in
theorem implValidAlgebra_yes (a b : Option Addr) (ca cb : Nat) (L : List Int) (T : List (List Int)) (w : World) (hr : Rd w a L) (hT : RdT w b T) (h : algB L T = true) :
    Calls Try.prog 16 #[.agg #[.slice a L.length ca, .slice b T.length cb]] w fun e w' => e = .returned (.bool true) ∧ Below w.heap.size w w' := by
  obtain ⟨w1, hw1⟩ : ∃ w1, w1 = w.alloc (.cells #[.slice a L.length ca, .slice b T.length cb] 26) := ⟨_, rfl⟩
  have hB : Below w.heap.size w w1 := by rw [hw1]; exact (Below.refl _ _).alloc (Nat.le_refl _) _
  have hx : w1.heap[w.heap.size]? = some (.cells #[.slice a L.length ca, .slice b T.length cb] 26 (0, 0)) := by rw [hw1]; exact heap_alloc_new w _
  obtain ⟨c0, c1⟩ := bx_cells hx
  have Kx := Lib.hid (show ∀ wz, Below w1.heap.size w1 wz → wz.heap[w.heap.size]? = some (.cells #[.slice a L.length ca, .slice b T.length cb] 26 (0, 0)) from fun wz h => (h.block _ (lt_of_block hx)).trans hx)
  have KR := Lib.hid (show ∀ wz, Below w1.heap.size w1 wz → Rd wz a L from fun wz h => (hr.below hB).below h)
  have KT := Lib.hid (show ∀ wz, Below w1.heap.size w1 wz → RdT wz b T from fun wz h => (hT.below hB).below h)
  have z1 : Below w1.heap.size w1 w1 := Below.refl _ _
  clear hr hT hx
  go_enter Try.func16, Try.ntmps16
  go_wp2_with (first
    | (rw [← hw1]; clear hw1)
    | (refine wpList_load_row_w rfl 26 _ rfl w.heap.size rfl _ _ _ _ (Kx.out _ (by assumption)) Try.underlying26 rfl (size_Alg _ _) ?_)
    | (go_at_call 66; refine (readAlgebra_yes _ _ _ _ L T _ (KR.out _ z1) (KT.out _ z1) h).mono ?_; rintro e w2 ⟨rfl, h2⟩; have z2 : Below w1.heap.size w1 w2 := h2)
    | (refine wpList_store_row rfl 63 _ _ rfl w2.heap.size (algOf L T) rfl rfl _ _ (heap_alloc_new w2 (.cells zeroAlg 63)) (size_alg _ _ _ _ _ _) rfl (one_alg _ _ _ _ _ _) ?_; rw [World.setRow_alloc_new]; obtain ⟨bl, hbl⟩ : ∃ bl, bl = w2.heap.size := ⟨_, rfl⟩; obtain ⟨w9, hw9⟩ : ∃ w9, w9 = w2.alloc (.cells (algOf L T) 63) := ⟨_, rfl⟩; rw [← hw9, ← hbl]; have hA : AlgAt w9 bl L T := (by rw [hw9, hbl]; exact AlgAt.new w2 L T); have B9 : Below w1.heap.size w1 w9 := (by rw [hw9]; exact z2.alloc z2.size _); clear hw9 hbl))
  go_ret
  exact ⟨rfl, hB.trans (B9.mono hB.size)⟩

theorem implValidAlgebra_any (a b : Option Addr) (ca cb : Nat) (L : List Int) (T : List (List Int)) (w : World) (hr : Rd w a L) (hT : RdT w b T) :
    Calls Try.prog 16 #[.agg #[.slice a L.length ca, .slice b T.length cb]] w fun e w' => e = .returned (.bool (algB L T)) ∧ Below w.heap.size w w' := by
  cases h : algB L T with
  | false => exact implValidAlgebra_no a b ca cb L T w hr hT h
  | true => exact implValidAlgebra_yes a b ca cb L T w hr hT h
set_option maxRecDepth 100000 in
set_option maxHeartbeats 1000000 in
/-- impl.algebra.not -/
theorem not_any (L : List Int) (T : List (List Int)) (x : Int) (w : World) (h : algB L T = true) (x0 : 0 ≤ x) (x1 : x < num L) :
    Calls Try.prog 74 #[.agg (algOf L T), .int .i64 x] w fun e w' => e = .returned (.int .i64 (imp L T x 0)) ∧ Below w.heap.size w w' := by
  obtain ⟨n1, n6⟩ := lat_len (algB_parts h).1
  have x6 : x < 6 := by omega
  have d : (w.alloc (.cells (algOf L T) 63)).cell? ⟨w.heap.size, 145 + x.toNat * 6, none⟩ = some (.int .i64 (imp L T x 0)) := by
    have := (AlgAt.new w L T).i x0 x6 (y := 0) (by omega) (by omega)
    rwa [impG_in x1 (by omega)] at this
  obtain ⟨w1, hw1⟩ : ∃ w1, w1 = w.alloc (.cells (algOf L T) 63) := ⟨_, rfl⟩
  rw [← hw1] at d
  have hB : Below w.heap.size w w1 := by rw [hw1]; exact (Below.refl _ _).alloc (Nat.le_refl _) _
  go_enter Try.func74, Try.ntmps74
  go_wp2_with (rw [← hw1]; clear hw1)
  go_ret
  exact ⟨rfl, hB⟩

set_option maxRecDepth 100000 in
set_option maxHeartbeats 1000000 in
/-- impl.algebra.near -/
theorem nearM_any (L : List Int) (T : List (List Int)) (x y : Int) (w : World) (h : algB L T = true) (x0 : 0 ≤ x) (x1 : x < num L) (y0 : 0 ≤ y) (y1 : y < num L) :
    Calls Try.prog 75 #[.agg (algOf L T), .int .i64 x, .int .i64 y] w fun e w' => e = .returned (.int .i64 (nearI L T x y)) ∧ Below w.heap.size w w' := by
  obtain ⟨n1, n6⟩ := lat_len (algB_parts h).1
  obtain ⟨i0, i1⟩ := imp_lt T x y (algB_parts h).1
  obtain ⟨j0, j1⟩ := imp_lt T y x (algB_parts h).1
  have x6 : x < 6 := by omega
  have y6 : y < 6 := by omega
  have i6 : imp L T x y < 6 := by omega
  have j6 : imp L T y x < 6 := by omega
  have d0 := (AlgAt.new w L T).i x0 x6 y0 y6
  have d1 := (AlgAt.new w L T).i y0 y6 x0 x6
  have d2 := (AlgAt.new w L T).t i0 i6 j0 j6
  rw [impG_in x1 y1] at d0
  rw [impG_in y1 x1] at d1
  rw [timG_in i1 j1] at d2
  obtain ⟨w1, hw1⟩ : ∃ w1, w1 = w.alloc (.cells (algOf L T) 63) := ⟨_, rfl⟩
  rw [← hw1] at d0 d1 d2
  have hB : Below w.heap.size w w1 := by rw [hw1]; exact (Below.refl _ _).alloc (Nat.le_refl _) _
  have hv := Lib.hid (show nearI L T x y = tv T (imp L T x y) (imp L T y x) from rfl)
  go_enter Try.func75, Try.ntmps75
  go_wp2_with (rw [← hw1]; clear hw1)
  go_quiet (fail)
  go_wp2
  go_ret
  exact ⟨ret_int (by rw [hv.out]), hB.trans (Dr.below ⟨_, rfl⟩ _)⟩

set_option maxRecDepth 100000 in
set_option maxHeartbeats 1000000 in
theorem implImplyOf_no (a b : Option Addr) (ca cb : Nat) (L : List Int) (T : List (List Int)) (x y : Int) (w : World) (hr : Rd w a L) (hT : RdT w b T) (h : algIn L T x y = false) :
    Calls Try.prog 22 #[.agg #[.slice a L.length ca, .slice b T.length cb], .int .i64 x, .int .i64 y] w fun e w' => e = .returned (.int .i64 (-1)) ∧ Below w.heap.size w w' := by
  obtain ⟨w1, hw1⟩ : ∃ w1, w1 = w.alloc (.cells #[.slice a L.length ca, .slice b T.length cb] 26) := ⟨_, rfl⟩
  have hB : Below w.heap.size w w1 := by rw [hw1]; exact (Below.refl _ _).alloc (Nat.le_refl _) _
  have hx : w1.heap[w.heap.size]? = some (.cells #[.slice a L.length ca, .slice b T.length cb] 26 (0, 0)) := by rw [hw1]; exact heap_alloc_new w _
  obtain ⟨c0, c1⟩ := bx_cells hx
  have Kx := Lib.hid (show ∀ wz, Below w1.heap.size w1 wz → wz.heap[w.heap.size]? = some (.cells #[.slice a L.length ca, .slice b T.length cb] 26 (0, 0)) from fun wz h => (h.block _ (lt_of_block hx)).trans hx)
  have KR := Lib.hid (show ∀ wz, Below w1.heap.size w1 wz → Rd wz a L from fun wz h => (hr.below hB).below h)
  have KT := Lib.hid (show ∀ wz, Below w1.heap.size w1 wz → RdT wz b T from fun wz h => (hT.below hB).below h)
  have z1 : Below w1.heap.size w1 w1 := Below.refl _ _
  clear hr hT hx
  have hE : Row (w1.alloc (.cells #[.int .i64 x, .int .i64 y] 3)) w1.heap.size [x, y] := heap_alloc_new w1 _
  have zE : Below w1.heap.size w1 (w1.alloc (.cells #[.int .i64 x, .int .i64 y] 3)) := (Below.refl _ _).alloc (Nat.le_refl _) _
  have HE := Lib.hid hE.rd
  have HAW := Lib.hid (show awB L T [x, y] = false by rw [aw_two]; exact h)
  clear hE
  go_enter Try.func22, Try.ntmps22
  go_wp2_with (first
    | go_skip
    | (rw [← hw1]; clear hw1)
    | (refine wpList_load_row_w rfl 26 _ rfl w.heap.size rfl _ _ _ _ (Kx.out _ (by assumption)) Try.underlying26 rfl (size_Alg _ _) ?_)
    | (go_at_call 71; refine (readAW2_no _ _ _ _ _ _ L T x  y _ (KR.out _ zE) (KT.out _ zE) HE.out HAW.out).mono ?_; rintro e w2 ⟨rfl, h2⟩; have z2 : Below w1.heap.size w1 w2 := zE.trans (h2.mono zE.size))
    | (refine wpList_store_row rfl 63 _ _ rfl w2.heap.size zeroAlg rfl rfl _ _ (heap_alloc_new w2 (.cells zeroAlg 63)) size_zeroAlg rfl one_zeroAlg ?_; rw [World.setRow_alloc_new]; obtain ⟨bl, hbl⟩ : ∃ bl, bl = w2.heap.size := ⟨_, rfl⟩; obtain ⟨w9, hw9⟩ : ∃ w9, w9 = w2.alloc (.cells zeroAlg 63) := ⟨_, rfl⟩; rw [← hw9, ← hbl]; have B9 : Below w1.heap.size w1 w9 := (by rw [hw9]; exact z2.alloc z2.size _); clear hw9 hbl))
  go_ret
  exact ⟨rfl, hB.trans (B9.mono hB.size)⟩

set_option maxRecDepth 100000 in
set_option maxHeartbeats 1000000 in
theorem implImplyOf_yes (a b : Option Addr) (ca cb : Nat) (L : List Int) (T : List (List Int)) (x y : Int) (w : World) (hr : Rd w a L) (hT : RdT w b T) (h : algIn L T x y = true) :
    Calls Try.prog 22 #[.agg #[.slice a L.length ca, .slice b T.length cb], .int .i64 x, .int .i64 y] w fun e w' => e = .returned (.int .i64 (imp L T x y)) ∧ Below w.heap.size w w' := by
  obtain ⟨w1, hw1⟩ : ∃ w1, w1 = w.alloc (.cells #[.slice a L.length ca, .slice b T.length cb] 26) := ⟨_, rfl⟩
  have hB : Below w.heap.size w w1 := by rw [hw1]; exact (Below.refl _ _).alloc (Nat.le_refl _) _
  have hx : w1.heap[w.heap.size]? = some (.cells #[.slice a L.length ca, .slice b T.length cb] 26 (0, 0)) := by rw [hw1]; exact heap_alloc_new w _
  obtain ⟨c0, c1⟩ := bx_cells hx
  have Kx := Lib.hid (show ∀ wz, Below w1.heap.size w1 wz → wz.heap[w.heap.size]? = some (.cells #[.slice a L.length ca, .slice b T.length cb] 26 (0, 0)) from fun wz h => (h.block _ (lt_of_block hx)).trans hx)
  have KR := Lib.hid (show ∀ wz, Below w1.heap.size w1 wz → Rd wz a L from fun wz h => (hr.below hB).below h)
  have KT := Lib.hid (show ∀ wz, Below w1.heap.size w1 wz → RdT wz b T from fun wz h => (hT.below hB).below h)
  have z1 : Below w1.heap.size w1 w1 := Below.refl _ _
  clear hr hT hx
  have hE : Row (w1.alloc (.cells #[.int .i64 x, .int .i64 y] 3)) w1.heap.size [x, y] := heap_alloc_new w1 _
  have zE : Below w1.heap.size w1 (w1.alloc (.cells #[.int .i64 x, .int .i64 y] 3)) := (Below.refl _ _).alloc (Nat.le_refl _) _
  have HE := Lib.hid hE.rd
  have HAW := Lib.hid (show awB L T [x, y] = true by rw [aw_two]; exact h)
  clear hE
  obtain ⟨ha, x0, x1, y0, y1⟩ := algIn_parts h
  obtain ⟨n1, n6⟩ := lat_len (algB_parts ha).1
  have x6 : x < 6 := by omega
  have y6 : y < 6 := by omega
  go_enter Try.func22, Try.ntmps22
  go_wp2_with (first
    | go_skip
    | (rw [← hw1]; clear hw1)
    | (refine wpList_load_row_w rfl 26 _ rfl w.heap.size rfl _ _ _ _ (Kx.out _ (by assumption)) Try.underlying26 rfl (size_Alg _ _) ?_)
    | (go_at_call 71; refine (readAW2_good _ _ _ _ _ _ L T x  y _ (KR.out _ zE) (KT.out _ zE) HE.out HAW.out).mono ?_; rintro e w2 ⟨rfl, h2⟩; have z2 : Below w1.heap.size w1 w2 := zE.trans (h2.mono zE.size))
    | (refine wpList_store_row rfl 63 _ _ rfl w2.heap.size (algOf L T) rfl rfl _ _ (heap_alloc_new w2 (.cells zeroAlg 63)) (size_alg _ _ _ _ _ _) rfl (one_alg _ _ _ _ _ _) ?_; rw [World.setRow_alloc_new]; obtain ⟨bl, hbl⟩ : ∃ bl, bl = w2.heap.size := ⟨_, rfl⟩; obtain ⟨w9, hw9⟩ : ∃ w9, w9 = w2.alloc (.cells (algOf L T) 63) := ⟨_, rfl⟩; rw [← hw9, ← hbl]; have hA : AlgAt w9 bl L T := (by rw [hw9, hbl]; exact AlgAt.new w2 L T); have B9 : Below w1.heap.size w1 w9 := (by rw [hw9]; exact z2.alloc z2.size _); clear hw9 hbl; have d := hA.i x0 x6 y0 y6; rw [impG_in x1 y1] at d))
  go_ret
  exact ⟨rfl, hB.trans (B9.mono hB.size)⟩

set_option maxRecDepth 100000 in
set_option maxHeartbeats 1000000 in
theorem implNotOf_no (a b : Option Addr) (ca cb : Nat) (L : List Int) (T : List (List Int)) (x : Int) (w : World) (hr : Rd w a L) (hT : RdT w b T) (h : algIn L T x x = false) :
    Calls Try.prog 25 #[.agg #[.slice a L.length ca, .slice b T.length cb], .int .i64 x] w fun e w' => e = .returned (.int .i64 (-1)) ∧ Below w.heap.size w w' := by
  obtain ⟨w1, hw1⟩ : ∃ w1, w1 = w.alloc (.cells #[.slice a L.length ca, .slice b T.length cb] 26) := ⟨_, rfl⟩
  have hB : Below w.heap.size w w1 := by rw [hw1]; exact (Below.refl _ _).alloc (Nat.le_refl _) _
  have hx : w1.heap[w.heap.size]? = some (.cells #[.slice a L.length ca, .slice b T.length cb] 26 (0, 0)) := by rw [hw1]; exact heap_alloc_new w _
  obtain ⟨c0, c1⟩ := bx_cells hx
  have Kx := Lib.hid (show ∀ wz, Below w1.heap.size w1 wz → wz.heap[w.heap.size]? = some (.cells #[.slice a L.length ca, .slice b T.length cb] 26 (0, 0)) from fun wz h => (h.block _ (lt_of_block hx)).trans hx)
  have KR := Lib.hid (show ∀ wz, Below w1.heap.size w1 wz → Rd wz a L from fun wz h => (hr.below hB).below h)
  have KT := Lib.hid (show ∀ wz, Below w1.heap.size w1 wz → RdT wz b T from fun wz h => (hT.below hB).below h)
  have z1 : Below w1.heap.size w1 w1 := Below.refl _ _
  clear hr hT hx
  have hE : Row (w1.alloc (.cells #[.int .i64 x] 3)) w1.heap.size [x] := heap_alloc_new w1 _
  have zE : Below w1.heap.size w1 (w1.alloc (.cells #[.int .i64 x] 3)) := (Below.refl _ _).alloc (Nat.le_refl _) _
  have HE := Lib.hid hE.rd
  have HAW := Lib.hid (show awB L T [x] = false by rw [aw_one]; exact h)
  clear hE
  go_enter Try.func25, Try.ntmps25
  go_wp2_with (first
    | go_skip
    | (rw [← hw1]; clear hw1)
    | (refine wpList_load_row_w rfl 26 _ rfl w.heap.size rfl _ _ _ _ (Kx.out _ (by assumption)) Try.underlying26 rfl (size_Alg _ _) ?_)
    | (go_at_call 71; refine (readAW1_no _ _ _ _ _ _ L T x _ (KR.out _ zE) (KT.out _ zE) HE.out HAW.out).mono ?_; rintro e w2 ⟨rfl, h2⟩; have z2 : Below w1.heap.size w1 w2 := zE.trans (h2.mono zE.size))
    | (refine wpList_store_row rfl 63 _ _ rfl w2.heap.size zeroAlg rfl rfl _ _ (heap_alloc_new w2 (.cells zeroAlg 63)) size_zeroAlg rfl one_zeroAlg ?_; rw [World.setRow_alloc_new]; obtain ⟨bl, hbl⟩ : ∃ bl, bl = w2.heap.size := ⟨_, rfl⟩; obtain ⟨w9, hw9⟩ : ∃ w9, w9 = w2.alloc (.cells zeroAlg 63) := ⟨_, rfl⟩; rw [← hw9, ← hbl]; have B9 : Below w1.heap.size w1 w9 := (by rw [hw9]; exact z2.alloc z2.size _); clear hw9 hbl))
  go_ret
  exact ⟨rfl, hB.trans (B9.mono hB.size)⟩

set_option maxRecDepth 100000 in
set_option maxHeartbeats 1000000 in
theorem implNotOf_yes (a b : Option Addr) (ca cb : Nat) (L : List Int) (T : List (List Int)) (x : Int) (w : World) (hr : Rd w a L) (hT : RdT w b T) (h : algIn L T x x = true) :
    Calls Try.prog 25 #[.agg #[.slice a L.length ca, .slice b T.length cb], .int .i64 x] w fun e w' => e = .returned (.int .i64 (imp L T x 0)) ∧ Below w.heap.size w w' := by
  obtain ⟨w1, hw1⟩ : ∃ w1, w1 = w.alloc (.cells #[.slice a L.length ca, .slice b T.length cb] 26) := ⟨_, rfl⟩
  have hB : Below w.heap.size w w1 := by rw [hw1]; exact (Below.refl _ _).alloc (Nat.le_refl _) _
  have hx : w1.heap[w.heap.size]? = some (.cells #[.slice a L.length ca, .slice b T.length cb] 26 (0, 0)) := by rw [hw1]; exact heap_alloc_new w _
  obtain ⟨c0, c1⟩ := bx_cells hx
  have Kx := Lib.hid (show ∀ wz, Below w1.heap.size w1 wz → wz.heap[w.heap.size]? = some (.cells #[.slice a L.length ca, .slice b T.length cb] 26 (0, 0)) from fun wz h => (h.block _ (lt_of_block hx)).trans hx)
  have KR := Lib.hid (show ∀ wz, Below w1.heap.size w1 wz → Rd wz a L from fun wz h => (hr.below hB).below h)
  have KT := Lib.hid (show ∀ wz, Below w1.heap.size w1 wz → RdT wz b T from fun wz h => (hT.below hB).below h)
  have z1 : Below w1.heap.size w1 w1 := Below.refl _ _
  clear hr hT hx
  have hE : Row (w1.alloc (.cells #[.int .i64 x] 3)) w1.heap.size [x] := heap_alloc_new w1 _
  have zE : Below w1.heap.size w1 (w1.alloc (.cells #[.int .i64 x] 3)) := (Below.refl _ _).alloc (Nat.le_refl _) _
  have HE := Lib.hid hE.rd
  have HAW := Lib.hid (show awB L T [x] = true by rw [aw_one]; exact h)
  clear hE
  obtain ⟨ha, x0, x1, y0, y1⟩ := algIn_parts h
  obtain ⟨n1, n6⟩ := lat_len (algB_parts ha).1
  have x6 : x < 6 := by omega
  go_enter Try.func25, Try.ntmps25
  go_wp2_with (first
    | go_skip
    | (rw [← hw1]; clear hw1)
    | (refine wpList_load_row_w rfl 26 _ rfl w.heap.size rfl _ _ _ _ (Kx.out _ (by assumption)) Try.underlying26 rfl (size_Alg _ _) ?_)
    | (go_at_call 71; refine (readAW1_good _ _ _ _ _ _ L T x _ (KR.out _ zE) (KT.out _ zE) HE.out HAW.out).mono ?_; rintro e w2 ⟨rfl, h2⟩; have z2 : Below w1.heap.size w1 w2 := zE.trans (h2.mono zE.size))
    | (refine wpList_store_row rfl 63 _ _ rfl w2.heap.size (algOf L T) rfl rfl _ _ (heap_alloc_new w2 (.cells zeroAlg 63)) (size_alg _ _ _ _ _ _) rfl (one_alg _ _ _ _ _ _) ?_; rw [World.setRow_alloc_new]; obtain ⟨bl, hbl⟩ : ∃ bl, bl = w2.heap.size := ⟨_, rfl⟩; obtain ⟨w9, hw9⟩ : ∃ w9, w9 = w2.alloc (.cells (algOf L T) 63) := ⟨_, rfl⟩; rw [← hw9, ← hbl]; have hA : AlgAt w9 bl L T := (by rw [hw9, hbl]; exact AlgAt.new w2 L T); have B9 : Below w1.heap.size w1 w9 := (by rw [hw9]; exact z2.alloc z2.size _); clear hw9 hbl; skip)
    | (refine wpList_load_row_w rfl 63 _ rfl bl rfl _ _ _ _ hA Try.underlying63 rfl (size_alg _ _ _ _ _ _) ?_)
    | (go_at_call 74; refine (not_any L T x _ ha x0 x1).mono ?_; rintro e w10 ⟨rfl, h10⟩; have B10 : Below w1.heap.size w1 w10 := B9.trans (h10.mono B9.size)))
  go_ret
  exact ⟨rfl, hB.trans (B10.mono hB.size)⟩

set_option maxRecDepth 100000 in
set_option maxHeartbeats 1000000 in
theorem implNearOf_no (a b : Option Addr) (ca cb : Nat) (L : List Int) (T : List (List Int)) (x y : Int) (w : World) (hr : Rd w a L) (hT : RdT w b T) (h : algIn L T x y = false) :
    Calls Try.prog 28 #[.agg #[.slice a L.length ca, .slice b T.length cb], .int .i64 x, .int .i64 y] w fun e w' => e = .returned (.int .i64 (-1)) ∧ Below w.heap.size w w' := by
  obtain ⟨w1, hw1⟩ : ∃ w1, w1 = w.alloc (.cells #[.slice a L.length ca, .slice b T.length cb] 26) := ⟨_, rfl⟩
  have hB : Below w.heap.size w w1 := by rw [hw1]; exact (Below.refl _ _).alloc (Nat.le_refl _) _
  have hx : w1.heap[w.heap.size]? = some (.cells #[.slice a L.length ca, .slice b T.length cb] 26 (0, 0)) := by rw [hw1]; exact heap_alloc_new w _
  obtain ⟨c0, c1⟩ := bx_cells hx
  have Kx := Lib.hid (show ∀ wz, Below w1.heap.size w1 wz → wz.heap[w.heap.size]? = some (.cells #[.slice a L.length ca, .slice b T.length cb] 26 (0, 0)) from fun wz h => (h.block _ (lt_of_block hx)).trans hx)
  have KR := Lib.hid (show ∀ wz, Below w1.heap.size w1 wz → Rd wz a L from fun wz h => (hr.below hB).below h)
  have KT := Lib.hid (show ∀ wz, Below w1.heap.size w1 wz → RdT wz b T from fun wz h => (hT.below hB).below h)
  have z1 : Below w1.heap.size w1 w1 := Below.refl _ _
  clear hr hT hx
  have hE : Row (w1.alloc (.cells #[.int .i64 x, .int .i64 y] 3)) w1.heap.size [x, y] := heap_alloc_new w1 _
  have zE : Below w1.heap.size w1 (w1.alloc (.cells #[.int .i64 x, .int .i64 y] 3)) := (Below.refl _ _).alloc (Nat.le_refl _) _
  have HE := Lib.hid hE.rd
  have HAW := Lib.hid (show awB L T [x, y] = false by rw [aw_two]; exact h)
  clear hE
  go_enter Try.func28, Try.ntmps28
  go_wp2_with (first
    | go_skip
    | (rw [← hw1]; clear hw1)
    | (refine wpList_load_row_w rfl 26 _ rfl w.heap.size rfl _ _ _ _ (Kx.out _ (by assumption)) Try.underlying26 rfl (size_Alg _ _) ?_)
    | (go_at_call 71; refine (readAW2_no _ _ _ _ _ _ L T x  y _ (KR.out _ zE) (KT.out _ zE) HE.out HAW.out).mono ?_; rintro e w2 ⟨rfl, h2⟩; have z2 : Below w1.heap.size w1 w2 := zE.trans (h2.mono zE.size))
    | (refine wpList_store_row rfl 63 _ _ rfl w2.heap.size zeroAlg rfl rfl _ _ (heap_alloc_new w2 (.cells zeroAlg 63)) size_zeroAlg rfl one_zeroAlg ?_; rw [World.setRow_alloc_new]; obtain ⟨bl, hbl⟩ : ∃ bl, bl = w2.heap.size := ⟨_, rfl⟩; obtain ⟨w9, hw9⟩ : ∃ w9, w9 = w2.alloc (.cells zeroAlg 63) := ⟨_, rfl⟩; rw [← hw9, ← hbl]; have B9 : Below w1.heap.size w1 w9 := (by rw [hw9]; exact z2.alloc z2.size _); clear hw9 hbl))
  go_ret
  exact ⟨rfl, hB.trans (B9.mono hB.size)⟩

set_option maxRecDepth 100000 in
set_option maxHeartbeats 1000000 in
theorem implNearOf_yes (a b : Option Addr) (ca cb : Nat) (L : List Int) (T : List (List Int)) (x y : Int) (w : World) (hr : Rd w a L) (hT : RdT w b T) (h : algIn L T x y = true) :
    Calls Try.prog 28 #[.agg #[.slice a L.length ca, .slice b T.length cb], .int .i64 x, .int .i64 y] w fun e w' => e = .returned (.int .i64 (nearI L T x y)) ∧ Below w.heap.size w w' := by
  obtain ⟨w1, hw1⟩ : ∃ w1, w1 = w.alloc (.cells #[.slice a L.length ca, .slice b T.length cb] 26) := ⟨_, rfl⟩
  have hB : Below w.heap.size w w1 := by rw [hw1]; exact (Below.refl _ _).alloc (Nat.le_refl _) _
  have hx : w1.heap[w.heap.size]? = some (.cells #[.slice a L.length ca, .slice b T.length cb] 26 (0, 0)) := by rw [hw1]; exact heap_alloc_new w _
  obtain ⟨c0, c1⟩ := bx_cells hx
  have Kx := Lib.hid (show ∀ wz, Below w1.heap.size w1 wz → wz.heap[w.heap.size]? = some (.cells #[.slice a L.length ca, .slice b T.length cb] 26 (0, 0)) from fun wz h => (h.block _ (lt_of_block hx)).trans hx)
  have KR := Lib.hid (show ∀ wz, Below w1.heap.size w1 wz → Rd wz a L from fun wz h => (hr.below hB).below h)
  have KT := Lib.hid (show ∀ wz, Below w1.heap.size w1 wz → RdT wz b T from fun wz h => (hT.below hB).below h)
  have z1 : Below w1.heap.size w1 w1 := Below.refl _ _
  clear hr hT hx
  have hE : Row (w1.alloc (.cells #[.int .i64 x, .int .i64 y] 3)) w1.heap.size [x, y] := heap_alloc_new w1 _
  have zE : Below w1.heap.size w1 (w1.alloc (.cells #[.int .i64 x, .int .i64 y] 3)) := (Below.refl _ _).alloc (Nat.le_refl _) _
  have HE := Lib.hid hE.rd
  have HAW := Lib.hid (show awB L T [x, y] = true by rw [aw_two]; exact h)
  clear hE
  obtain ⟨ha, x0, x1, y0, y1⟩ := algIn_parts h
  obtain ⟨n1, n6⟩ := lat_len (algB_parts ha).1
  have x6 : x < 6 := by omega
  have y6 : y < 6 := by omega
  go_enter Try.func28, Try.ntmps28
  go_wp2_with (first
    | go_skip
    | (rw [← hw1]; clear hw1)
    | (refine wpList_load_row_w rfl 26 _ rfl w.heap.size rfl _ _ _ _ (Kx.out _ (by assumption)) Try.underlying26 rfl (size_Alg _ _) ?_)
    | (go_at_call 71; refine (readAW2_good _ _ _ _ _ _ L T x  y _ (KR.out _ zE) (KT.out _ zE) HE.out HAW.out).mono ?_; rintro e w2 ⟨rfl, h2⟩; have z2 : Below w1.heap.size w1 w2 := zE.trans (h2.mono zE.size))
    | (refine wpList_store_row rfl 63 _ _ rfl w2.heap.size (algOf L T) rfl rfl _ _ (heap_alloc_new w2 (.cells zeroAlg 63)) (size_alg _ _ _ _ _ _) rfl (one_alg _ _ _ _ _ _) ?_; rw [World.setRow_alloc_new]; obtain ⟨bl, hbl⟩ : ∃ bl, bl = w2.heap.size := ⟨_, rfl⟩; obtain ⟨w9, hw9⟩ : ∃ w9, w9 = w2.alloc (.cells (algOf L T) 63) := ⟨_, rfl⟩; rw [← hw9, ← hbl]; have hA : AlgAt w9 bl L T := (by rw [hw9, hbl]; exact AlgAt.new w2 L T); have B9 : Below w1.heap.size w1 w9 := (by rw [hw9]; exact z2.alloc z2.size _); clear hw9 hbl; skip)
    | (refine wpList_load_row_w rfl 63 _ rfl bl rfl _ _ _ _ hA Try.underlying63 rfl (size_alg _ _ _ _ _ _) ?_)
    | (go_at_call 75; refine (nearM_any L T x y _ ha x0 x1 y0 y1).mono ?_; rintro e w10 ⟨rfl, h10⟩; have B10 : Below w1.heap.size w1 w10 := B9.trans (h10.mono B9.size)))
  go_ret
  exact ⟨rfl, hB.trans (B10.mono hB.size)⟩

theorem implImplyOf_any (a b : Option Addr) (ca cb : Nat) (L : List Int) (T : List (List Int)) (x y : Int) (w : World) (hr : Rd w a L) (hT : RdT w b T) :
    Calls Try.prog 22 #[.agg #[.slice a L.length ca, .slice b T.length cb], .int .i64 x, .int .i64 y] w fun e w' => e = .returned (.int .i64 (implyI L T x y)) ∧ Below w.heap.size w w' := by
  cases h : algIn L T x y with
  | false =>
    have := implImplyOf_no a b ca cb L T x y w hr hT h
    unfold implyI; rw [h]; exact this
  | true =>
    have := implImplyOf_yes a b ca cb L T x y w hr hT h
    unfold implyI; rw [h]; exact this
theorem implNotOf_any (a b : Option Addr) (ca cb : Nat) (L : List Int) (T : List (List Int)) (x : Int) (w : World) (hr : Rd w a L) (hT : RdT w b T) :
    Calls Try.prog 25 #[.agg #[.slice a L.length ca, .slice b T.length cb], .int .i64 x] w fun e w' => e = .returned (.int .i64 (notI L T x)) ∧ Below w.heap.size w w' := by
  cases h : algIn L T x x with
  | false =>
    have := implNotOf_no a b ca cb L T x w hr hT h
    unfold notI; rw [h]; exact this
  | true =>
    have := implNotOf_yes a b ca cb L T x w hr hT h
    unfold notI; rw [h]; exact this
theorem implNearOf_any (a b : Option Addr) (ca cb : Nat) (L : List Int) (T : List (List Int)) (x y : Int) (w : World) (hr : Rd w a L) (hT : RdT w b T) :
    Calls Try.prog 28 #[.agg #[.slice a L.length ca, .slice b T.length cb], .int .i64 x, .int .i64 y] w fun e w' => e = .returned (.int .i64 (nearO L T x y)) ∧ Below w.heap.size w w' := by
  cases h : algIn L T x y with
  | false =>
    have := implNearOf_no a b ca cb L T x y w hr hT h
    unfold nearO; rw [h]; exact this
  | true =>
    have := implNearOf_yes a b ca cb L T x y w hr hT h
    unfold nearO; rw [h]; exact this
end Go.Proofs.Ytbellklaoecpbaa
