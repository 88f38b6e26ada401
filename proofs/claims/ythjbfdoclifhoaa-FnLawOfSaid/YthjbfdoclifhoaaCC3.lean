import Derived.Test.YthjbfdoclifhoaaCC2
import Derived.Test.YthjbfdoclifhoaaP5
namespace Go.Proofs.Ythjbfdoclifhoaa
open Go.RowKit
set_option linter.unusedVariables false

theorem PrAt.ranges {B : Nat} {w : World} {g n c : Nat} {P : List (Int × Int)} (h : PrAt B w (.slice (some ⟨g, 0, none⟩) n c) P) (hP : 0 < P.length) : ∀ wz, Below w.heap.size w wz → ∀ j : Nat, j < P.length → wz.rangeAt g (j * 2) [.int .i64 (pAt P j).1, .int .i64 (pAt P j).2] := fun wz hz => by
  obtain ⟨g', c', e, _, _, _, hr⟩ := (h.below hz).shape hP
  injection e with e1 _ _
  injection e1 with e1
  injection e1 with e1 _ _
  rw [e1]
  exact hr
theorem slices_nil (w : World) (a : Option Addr) (n c n' c' : Nat) : (binOp .eql 24 (.slice a n c) (.slice none n' c')).run Try.prog w = .ok (.bool a.isNone) w := Lib.run_eql_slice_nil w _ _ a n c n' c' Try.underlying24
set_option maxRecDepth 100000 in
set_option maxHeartbeats 2000000 in
theorem implCrossN_out (a b : Option Addr) (ca cb : Nat) (A B : List Int) (w : World) (hrA : Rd w a A) (hrB : Rd w b B) (ha : latB A = true) (hb : latB B = true) (hm : ¬ (A.length : Int) * B.length ≤ 6) :
    Calls Try.prog 25 #[.slice a A.length ca, .slice b B.length cb] w fun e w' => e = .returned (.slice none 0 0) ∧ Below w.heap.size w w' := by
  have HA := Lib.hid ha
  have HB := Lib.hid hb
  obtain ⟨a1, a6, _⟩ := latB_parts ha
  obtain ⟨b1, b6, _⟩ := latB_parts hb
  have hna : num A = A.length := rfl
  have hnb : num B = B.length := rfl
  obtain ⟨m0, m36⟩ := mul_le36 (x := (A.length : Int)) (y := (B.length : Int)) (by omega) (by omega) (by omega) (by omega)
  have kmul : IntKind.i64.wrap ((A.length : Int) * B.length) = (A.length : Int) * B.length := IntWalk.i64_in _ (by omega)
  have hm2 : decide ((6 : Int) < (A.length : Int) * B.length) = true := decide_eq_true (by omega)
  clear ha hb
  go_enter Try.func25, Try.ntmps25
  go_wp2_with (first
    | go_skip
    | (go_at_call 50; refine (readLattice_yes b cb B _ hrB2 HB.out).mono ?_; rintro e w3 ⟨rfl, h3⟩; have z3 : Below w.heap.size w w3 := z2.trans (h3.mono z2.size))
    | (go_at_call 50; refine (readLattice_yes a ca A _ hrA HA.out).mono ?_; rintro e w1 ⟨rfl, h1⟩)
    | (refine wpList_store_row rfl 56 _ _ rfl w1.heap.size (latOf A) rfl rfl _ _ (heap_alloc_new w1 (.cells zeroLat 56)) (size_lat _ _ _ _) rfl (one_lat _ _ _ _) ?_; rw [World.setRow_alloc_new]; obtain ⟨b5, hb5⟩ : ∃ b5, b5 = w1.heap.size := ⟨_, rfl⟩; obtain ⟨w2, hw2⟩ : ∃ w2, w2 = w1.alloc (.cells (latOf A) 56) := ⟨_, rfl⟩; rw [← hw2, ← hb5]; have qw2 : Below w1.heap.size w1 w2 := (by rw [hw2]; exact (Below.refl _ _).alloc (Nat.le_refl _) _); have hLA : LatAt w2 b5 A := (by rw [hw2, hb5]; exact LatAt.new w1 A); clear hw2 hb5; have z2 : Below w.heap.size w w2 := h1.trans (qw2.mono h1.size); have hrB2 := hrB.below z2)
    | (refine wpList_store_row rfl 56 _ _ rfl w3.heap.size (latOf B) rfl rfl _ _ (heap_alloc_new w3 (.cells zeroLat 56)) (size_lat _ _ _ _) rfl (one_lat _ _ _ _) ?_; rw [World.setRow_alloc_new]; obtain ⟨b7, hb7⟩ : ∃ b7, b7 = w3.heap.size := ⟨_, rfl⟩; obtain ⟨w4, hw4⟩ : ∃ w4, w4 = w3.alloc (.cells (latOf B) 56) := ⟨_, rfl⟩; rw [← hw4, ← hb7]; have qw4 : Below w3.heap.size w3 w4 := (by rw [hw4]; exact (Below.refl _ _).alloc (Nat.le_refl _) _); have hLB : LatAt w4 b7 B := (by rw [hw4, hb7]; exact LatAt.new w3 B); clear hw4 hb7; have z4 : Below w.heap.size w w4 := z3.trans (qw4.mono z3.size); have hLA4 := (hLA.below h3 hLA.lt).below qw4 (Nat.lt_of_lt_of_le hLA.lt h3.size); have c0 := hLA4.size; have c1 := hLB.size; have hlt5 := hLA4.lt; have hlt7 := hLB.lt))
  go_ret
  exact ⟨rfl, z4⟩

set_option maxRecDepth 100000 in
set_option maxHeartbeats 4000000 in
theorem implCrossA_ff (a b : Option Addr) (ca cb : Nat) (L : List Int) (T : List (List Int)) (a2 b2 : Option Addr) (ca2 cb2 : Nat) (M : List Int) (U : List (List Int)) (w : World) (hr : Rd w a L) (hT : RdT w b T) (hr2 : Rd w a2 M) (hT2 : RdT w b2 U) (h : algB L T = false) (h2 : algB M U = false) : Calls Try.prog 10 #[.agg #[.slice a L.length ca, .slice b T.length cb], .agg #[.slice a2 M.length ca2, .slice b2 U.length cb2]] w (RetGAb (caL L T M U) (caT L T M U) (caOk L T M U) w) := by
  obtain ⟨w1, hw1⟩ : ∃ w1, w1 = ((w.alloc (.cells #[.slice a L.length ca, .slice b T.length cb] 31)).alloc (.cells #[.slice a2 M.length ca2, .slice b2 U.length cb2] 31)).alloc (.cells #[.slice none 0 0, .slice none 0 0] 31) := ⟨_, rfl⟩
  have hB : Below w.heap.size w w1 := by rw [hw1]; exact (((Below.refl _ _).alloc (Nat.le_refl _) _).alloc (by simp) _).alloc (by simp; omega) _
  have hx : w1.heap[w.heap.size]? = some (.cells #[.slice a L.length ca, .slice b T.length cb] 31 (0, 0)) := by
    rw [hw1, Below.heap_alloc _ _ _ (by simp; omega), Below.heap_alloc _ _ _ (by simp)]; exact heap_alloc_new w _
  have hx2 : w1.heap[w.heap.size + 1]? = some (.cells #[.slice a2 M.length ca2, .slice b2 U.length cb2] 31 (0, 0)) := by
    rw [hw1, Below.heap_alloc _ _ _ (by simp)]; exact heap_alloc2_new _ _ _
  have hz : w1.heap[w.heap.size + 1 + 1]? = some (.cells #[.slice none 0 0, .slice none 0 0] 31 (0, 0)) := by
    have := heap_alloc_new ((w.alloc (.cells #[.slice a L.length ca, .slice b T.length cb] 31)).alloc (.cells #[.slice a2 M.length ca2, .slice b2 U.length cb2] 31)) (.cells #[.slice none 0 0, .slice none 0 0] 31)
    rw [hw1]; simpa using this
  have Kx := Lib.hid (show ∀ wz, Below w1.heap.size w1 wz → wz.heap[w.heap.size]? = some (.cells #[.slice a L.length ca, .slice b T.length cb] 31 (0, 0)) from fun wz h => (h.block _ (lt_of_block hx)).trans hx)
  have Kx2 := Lib.hid (show ∀ wz, Below w1.heap.size w1 wz → wz.heap[w.heap.size + 1]? = some (.cells #[.slice a2 M.length ca2, .slice b2 U.length cb2] 31 (0, 0)) from fun wz h => (h.block _ (lt_of_block hx2)).trans hx2)
  have Kz := Lib.hid (show ∀ wz, Below w1.heap.size w1 wz → wz.heap[w.heap.size + 1 + 1]? = some (.cells #[.slice none 0 0, .slice none 0 0] 31 (0, 0)) from fun wz h => (h.block _ (lt_of_block hz)).trans hz)
  have KR := Lib.hid (show ∀ wz, Below w1.heap.size w1 wz → Rd wz a L from fun wz h => (hr.below hB).below h)
  have KT := Lib.hid (show ∀ wz, Below w1.heap.size w1 wz → RdT wz b T from fun wz h => (hT.below hB).below h)
  have KR2 := Lib.hid (show ∀ wz, Below w1.heap.size w1 wz → Rd wz a2 M from fun wz h => (hr2.below hB).below h)
  have KT2 := Lib.hid (show ∀ wz, Below w1.heap.size w1 wz → RdT wz b2 U from fun wz h => (hT2.below hB).below h)
  have hsz : w.heap.size + 1 + 1 < w1.heap.size := lt_of_block hz
  have z1 : Below w1.heap.size w1 w1 := Below.refl _ _
  clear hx hx2 hz hr hT hr2 hT2
  have HA := Lib.hid h
  have HA2 := Lib.hid h2
  have HV := Lib.hid (show caOk L T M U = false by unfold caOk; rw [h, h2]; rfl)
  clear h h2
  go_enter Try.func10, Try.ntmps10
  go_wp2_with (first
    | go_skip
    | (rw [← hw1]; clear hw1)
    | (refine wpList_load_row_w rfl 31 _ rfl w.heap.size rfl _ _ _ _ (Kx.out _ (by assumption)) Try.underlying31 rfl (size_Alg _ _) ?_)
    | (refine wpList_load_row_w rfl 31 _ rfl (w.heap.size + 1) rfl _ _ _ _ (Kx2.out _ (by assumption)) Try.underlying31 rfl (size_Alg _ _) ?_)
    | (go_at_call_of 24 (Value.agg #[.slice a L.length ca, .slice b T.length cb]); refine (readAlgebra_no a b ca cb L T _ (KR.out _ z1) (KT.out _ z1) HA.out).mono ?_; rintro e w2 ⟨rfl, hw2⟩; have z2 : Below w1.heap.size w1 w2 := z1.trans (hw2.mono z1.size); clear hw2)
    | (refine wpList_store_row rfl 58 _ _ rfl w2.heap.size (zeroAlg) rfl rfl _ _ (heap_alloc_new w2 (.cells zeroAlg 58)) size_zeroAlg rfl one_zeroAlg ?_; rw [World.setRow_alloc_new]; obtain ⟨g1, hg1⟩ : ∃ bl, bl = w2.heap.size := ⟨_, rfl⟩; obtain ⟨w3, hw3⟩ : ∃ x, x = w2.alloc (.cells (zeroAlg) 58) := ⟨_, rfl⟩; rw [← hw3, ← hg1]; have qw3 : Below w2.heap.size w2 w3 := (by rw [hw3]; exact (Below.refl _ _).alloc (Nat.le_refl _) _); have lg1 : w2.heap.size ≤ g1 := Nat.le_of_eq hg1.symm; have z3 : Below w1.heap.size w1 w3 := z2.trans (qw3.mono z2.size); clear hw3 hg1 z2)
    | (go_at_call_of 24 (Value.agg #[.slice a2 M.length ca2, .slice b2 U.length cb2]); refine (readAlgebra_no a2 b2 ca2 cb2 M U _ (KR2.out _ z3) (KT2.out _ z3) HA2.out).mono ?_; rintro e w4 ⟨rfl, hw4⟩; have z4 : Below w1.heap.size w1 w4 := z3.trans (hw4.mono z3.size); clear hw4)
    | (refine wpList_store_row rfl 58 _ _ rfl w4.heap.size (zeroAlg) rfl rfl _ _ (heap_alloc_new w4 (.cells zeroAlg 58)) size_zeroAlg rfl one_zeroAlg ?_; rw [World.setRow_alloc_new]; obtain ⟨g2, hg2⟩ : ∃ bl, bl = w4.heap.size := ⟨_, rfl⟩; obtain ⟨w5, hw5⟩ : ∃ x, x = w4.alloc (.cells (zeroAlg) 58) := ⟨_, rfl⟩; rw [← hw5, ← hg2]; have qw5 : Below w4.heap.size w4 w5 := (by rw [hw5]; exact (Below.refl _ _).alloc (Nat.le_refl _) _); have lg2 : w4.heap.size ≤ g2 := Nat.le_of_eq hg2.symm; have z5 : Below w1.heap.size w1 w5 := z4.trans (qw5.mono z4.size); obtain ⟨c0, c1⟩ := bx_cells (Kx.out _ z5); obtain ⟨d0, d1⟩ := bx_cells (Kx2.out _ z5); clear hw5 hg2 z4)
    | (go_at_call 25; refine (implCrossLattices_any a a2 ca ca2 L M _ (KR.out _ z5) (KR2.out _ z5)).mono ?_; rintro e w6 ⟨ua, uc, rfl, uo, hb6⟩; have z6 := z5.trans (hb6.mono z5.size))
    | (refine wpList_store_row rfl 31 _ _ rfl (w.heap.size + 1 + 1) #[.slice none 0 0, .slice none 0 0] rfl rfl _ _ (Kz.out _ z6) (size_Alg _ _) rfl (one_sl2 _ _ _ _ _ _) ?_))
  refine bodyPost_ret (v := .tuple #[.agg #[.slice none 0 0, .slice none 0 0], .bool false]) (results_Alg_tmp rfl _ _ (w.heap.size + 1 + 1) rfl _ _ (setRow_heap _ _ _ _ _ _ (Kz.out _ z6)) rfl) rfl ?_
  rw [HV.out, (ca_no HV.out).1, (ca_no HV.out).2]
  have hbz := below_setRow' (hB.trans (z6.mono hB.size)) (by omega : w.heap.size ≤ w.heap.size + 1 + 1) #[.slice none 0 0, .slice none 0 0]
  exact ⟨_, _, _, _, _, _, rfl, GA.zero _ _ hbz.size _, hbz⟩
set_option maxRecDepth 100000 in
set_option maxHeartbeats 4000000 in
theorem implCrossA_ft (a b : Option Addr) (ca cb : Nat) (L : List Int) (T : List (List Int)) (a2 b2 : Option Addr) (ca2 cb2 : Nat) (M : List Int) (U : List (List Int)) (w : World) (hr : Rd w a L) (hT : RdT w b T) (hr2 : Rd w a2 M) (hT2 : RdT w b2 U) (h : algB L T = false) (h2 : algB M U = true) : Calls Try.prog 10 #[.agg #[.slice a L.length ca, .slice b T.length cb], .agg #[.slice a2 M.length ca2, .slice b2 U.length cb2]] w (RetGAb (caL L T M U) (caT L T M U) (caOk L T M U) w) := by
  obtain ⟨w1, hw1⟩ : ∃ w1, w1 = ((w.alloc (.cells #[.slice a L.length ca, .slice b T.length cb] 31)).alloc (.cells #[.slice a2 M.length ca2, .slice b2 U.length cb2] 31)).alloc (.cells #[.slice none 0 0, .slice none 0 0] 31) := ⟨_, rfl⟩
  have hB : Below w.heap.size w w1 := by rw [hw1]; exact (((Below.refl _ _).alloc (Nat.le_refl _) _).alloc (by simp) _).alloc (by simp; omega) _
  have hx : w1.heap[w.heap.size]? = some (.cells #[.slice a L.length ca, .slice b T.length cb] 31 (0, 0)) := by
    rw [hw1, Below.heap_alloc _ _ _ (by simp; omega), Below.heap_alloc _ _ _ (by simp)]; exact heap_alloc_new w _
  have hx2 : w1.heap[w.heap.size + 1]? = some (.cells #[.slice a2 M.length ca2, .slice b2 U.length cb2] 31 (0, 0)) := by
    rw [hw1, Below.heap_alloc _ _ _ (by simp)]; exact heap_alloc2_new _ _ _
  have hz : w1.heap[w.heap.size + 1 + 1]? = some (.cells #[.slice none 0 0, .slice none 0 0] 31 (0, 0)) := by
    have := heap_alloc_new ((w.alloc (.cells #[.slice a L.length ca, .slice b T.length cb] 31)).alloc (.cells #[.slice a2 M.length ca2, .slice b2 U.length cb2] 31)) (.cells #[.slice none 0 0, .slice none 0 0] 31)
    rw [hw1]; simpa using this
  have Kx := Lib.hid (show ∀ wz, Below w1.heap.size w1 wz → wz.heap[w.heap.size]? = some (.cells #[.slice a L.length ca, .slice b T.length cb] 31 (0, 0)) from fun wz h => (h.block _ (lt_of_block hx)).trans hx)
  have Kx2 := Lib.hid (show ∀ wz, Below w1.heap.size w1 wz → wz.heap[w.heap.size + 1]? = some (.cells #[.slice a2 M.length ca2, .slice b2 U.length cb2] 31 (0, 0)) from fun wz h => (h.block _ (lt_of_block hx2)).trans hx2)
  have Kz := Lib.hid (show ∀ wz, Below w1.heap.size w1 wz → wz.heap[w.heap.size + 1 + 1]? = some (.cells #[.slice none 0 0, .slice none 0 0] 31 (0, 0)) from fun wz h => (h.block _ (lt_of_block hz)).trans hz)
  have KR := Lib.hid (show ∀ wz, Below w1.heap.size w1 wz → Rd wz a L from fun wz h => (hr.below hB).below h)
  have KT := Lib.hid (show ∀ wz, Below w1.heap.size w1 wz → RdT wz b T from fun wz h => (hT.below hB).below h)
  have KR2 := Lib.hid (show ∀ wz, Below w1.heap.size w1 wz → Rd wz a2 M from fun wz h => (hr2.below hB).below h)
  have KT2 := Lib.hid (show ∀ wz, Below w1.heap.size w1 wz → RdT wz b2 U from fun wz h => (hT2.below hB).below h)
  have hsz : w.heap.size + 1 + 1 < w1.heap.size := lt_of_block hz
  have z1 : Below w1.heap.size w1 w1 := Below.refl _ _
  clear hx hx2 hz hr hT hr2 hT2
  have HA := Lib.hid h
  have HA2 := Lib.hid h2
  have HV := Lib.hid (show caOk L T M U = false by unfold caOk; rw [h, h2]; rfl)
  clear h h2
  go_enter Try.func10, Try.ntmps10
  go_wp2_with (first
    | go_skip
    | (rw [← hw1]; clear hw1)
    | (refine wpList_load_row_w rfl 31 _ rfl w.heap.size rfl _ _ _ _ (Kx.out _ (by assumption)) Try.underlying31 rfl (size_Alg _ _) ?_)
    | (refine wpList_load_row_w rfl 31 _ rfl (w.heap.size + 1) rfl _ _ _ _ (Kx2.out _ (by assumption)) Try.underlying31 rfl (size_Alg _ _) ?_)
    | (go_at_call_of 24 (Value.agg #[.slice a L.length ca, .slice b T.length cb]); refine (readAlgebra_no a b ca cb L T _ (KR.out _ z1) (KT.out _ z1) HA.out).mono ?_; rintro e w2 ⟨rfl, hw2⟩; have z2 : Below w1.heap.size w1 w2 := z1.trans (hw2.mono z1.size); clear hw2)
    | (refine wpList_store_row rfl 58 _ _ rfl w2.heap.size (zeroAlg) rfl rfl _ _ (heap_alloc_new w2 (.cells zeroAlg 58)) size_zeroAlg rfl one_zeroAlg ?_; rw [World.setRow_alloc_new]; obtain ⟨g1, hg1⟩ : ∃ bl, bl = w2.heap.size := ⟨_, rfl⟩; obtain ⟨w3, hw3⟩ : ∃ x, x = w2.alloc (.cells (zeroAlg) 58) := ⟨_, rfl⟩; rw [← hw3, ← hg1]; have qw3 : Below w2.heap.size w2 w3 := (by rw [hw3]; exact (Below.refl _ _).alloc (Nat.le_refl _) _); have lg1 : w2.heap.size ≤ g1 := Nat.le_of_eq hg1.symm; have z3 : Below w1.heap.size w1 w3 := z2.trans (qw3.mono z2.size); clear hw3 hg1 z2)
    | (go_at_call_of 24 (Value.agg #[.slice a2 M.length ca2, .slice b2 U.length cb2]); refine (readAlgebra_yes a2 b2 ca2 cb2 M U _ (KR2.out _ z3) (KT2.out _ z3) HA2.out).mono ?_; rintro e w4 ⟨rfl, hw4⟩; have z4 : Below w1.heap.size w1 w4 := z3.trans (hw4.mono z3.size); clear hw4)
    | (refine wpList_store_row rfl 58 _ _ rfl w4.heap.size (algOf M U) rfl rfl _ _ (heap_alloc_new w4 (.cells zeroAlg 58)) (size_alg _ _ _ _ _ _) rfl (one_alg _ _ _ _ _ _) ?_; rw [World.setRow_alloc_new]; obtain ⟨g2, hg2⟩ : ∃ bl, bl = w4.heap.size := ⟨_, rfl⟩; obtain ⟨w5, hw5⟩ : ∃ x, x = w4.alloc (.cells (algOf M U) 58) := ⟨_, rfl⟩; rw [← hw5, ← hg2]; have hAg2 : AlgAt w5 g2 M U := (by rw [hw5, hg2]; exact AlgAt.new w4 M U); have ltg2 := hAg2.lt; have qw5 : Below w4.heap.size w4 w5 := (by rw [hw5]; exact (Below.refl _ _).alloc (Nat.le_refl _) _); have lg2 : w4.heap.size ≤ g2 := Nat.le_of_eq hg2.symm; have z5 : Below w1.heap.size w1 w5 := z4.trans (qw5.mono z4.size); obtain ⟨c0, c1⟩ := bx_cells (Kx.out _ z5); obtain ⟨d0, d1⟩ := bx_cells (Kx2.out _ z5); clear hw5 hg2 z4)
    | (go_at_call 25; refine (implCrossLattices_any a a2 ca ca2 L M _ (KR.out _ z5) (KR2.out _ z5)).mono ?_; rintro e w6 ⟨ua, uc, rfl, uo, hb6⟩; have z6 := z5.trans (hb6.mono z5.size))
    | (refine wpList_store_row rfl 31 _ _ rfl (w.heap.size + 1 + 1) #[.slice none 0 0, .slice none 0 0] rfl rfl _ _ (Kz.out _ z6) (size_Alg _ _) rfl (one_sl2 _ _ _ _ _ _) ?_))
  refine bodyPost_ret (v := .tuple #[.agg #[.slice none 0 0, .slice none 0 0], .bool false]) (results_Alg_tmp rfl _ _ (w.heap.size + 1 + 1) rfl _ _ (setRow_heap _ _ _ _ _ _ (Kz.out _ z6)) rfl) rfl ?_
  rw [HV.out, (ca_no HV.out).1, (ca_no HV.out).2]
  have hbz := below_setRow' (hB.trans (z6.mono hB.size)) (by omega : w.heap.size ≤ w.heap.size + 1 + 1) #[.slice none 0 0, .slice none 0 0]
  exact ⟨_, _, _, _, _, _, rfl, GA.zero _ _ hbz.size _, hbz⟩
set_option maxRecDepth 100000 in
set_option maxHeartbeats 4000000 in
theorem implCrossA_tf (a b : Option Addr) (ca cb : Nat) (L : List Int) (T : List (List Int)) (a2 b2 : Option Addr) (ca2 cb2 : Nat) (M : List Int) (U : List (List Int)) (w : World) (hr : Rd w a L) (hT : RdT w b T) (hr2 : Rd w a2 M) (hT2 : RdT w b2 U) (h : algB L T = true) (h2 : algB M U = false) : Calls Try.prog 10 #[.agg #[.slice a L.length ca, .slice b T.length cb], .agg #[.slice a2 M.length ca2, .slice b2 U.length cb2]] w (RetGAb (caL L T M U) (caT L T M U) (caOk L T M U) w) := by
  obtain ⟨w1, hw1⟩ : ∃ w1, w1 = ((w.alloc (.cells #[.slice a L.length ca, .slice b T.length cb] 31)).alloc (.cells #[.slice a2 M.length ca2, .slice b2 U.length cb2] 31)).alloc (.cells #[.slice none 0 0, .slice none 0 0] 31) := ⟨_, rfl⟩
  have hB : Below w.heap.size w w1 := by rw [hw1]; exact (((Below.refl _ _).alloc (Nat.le_refl _) _).alloc (by simp) _).alloc (by simp; omega) _
  have hx : w1.heap[w.heap.size]? = some (.cells #[.slice a L.length ca, .slice b T.length cb] 31 (0, 0)) := by
    rw [hw1, Below.heap_alloc _ _ _ (by simp; omega), Below.heap_alloc _ _ _ (by simp)]; exact heap_alloc_new w _
  have hx2 : w1.heap[w.heap.size + 1]? = some (.cells #[.slice a2 M.length ca2, .slice b2 U.length cb2] 31 (0, 0)) := by
    rw [hw1, Below.heap_alloc _ _ _ (by simp)]; exact heap_alloc2_new _ _ _
  have hz : w1.heap[w.heap.size + 1 + 1]? = some (.cells #[.slice none 0 0, .slice none 0 0] 31 (0, 0)) := by
    have := heap_alloc_new ((w.alloc (.cells #[.slice a L.length ca, .slice b T.length cb] 31)).alloc (.cells #[.slice a2 M.length ca2, .slice b2 U.length cb2] 31)) (.cells #[.slice none 0 0, .slice none 0 0] 31)
    rw [hw1]; simpa using this
  have Kx := Lib.hid (show ∀ wz, Below w1.heap.size w1 wz → wz.heap[w.heap.size]? = some (.cells #[.slice a L.length ca, .slice b T.length cb] 31 (0, 0)) from fun wz h => (h.block _ (lt_of_block hx)).trans hx)
  have Kx2 := Lib.hid (show ∀ wz, Below w1.heap.size w1 wz → wz.heap[w.heap.size + 1]? = some (.cells #[.slice a2 M.length ca2, .slice b2 U.length cb2] 31 (0, 0)) from fun wz h => (h.block _ (lt_of_block hx2)).trans hx2)
  have Kz := Lib.hid (show ∀ wz, Below w1.heap.size w1 wz → wz.heap[w.heap.size + 1 + 1]? = some (.cells #[.slice none 0 0, .slice none 0 0] 31 (0, 0)) from fun wz h => (h.block _ (lt_of_block hz)).trans hz)
  have KR := Lib.hid (show ∀ wz, Below w1.heap.size w1 wz → Rd wz a L from fun wz h => (hr.below hB).below h)
  have KT := Lib.hid (show ∀ wz, Below w1.heap.size w1 wz → RdT wz b T from fun wz h => (hT.below hB).below h)
  have KR2 := Lib.hid (show ∀ wz, Below w1.heap.size w1 wz → Rd wz a2 M from fun wz h => (hr2.below hB).below h)
  have KT2 := Lib.hid (show ∀ wz, Below w1.heap.size w1 wz → RdT wz b2 U from fun wz h => (hT2.below hB).below h)
  have hsz : w.heap.size + 1 + 1 < w1.heap.size := lt_of_block hz
  have z1 : Below w1.heap.size w1 w1 := Below.refl _ _
  clear hx hx2 hz hr hT hr2 hT2
  have HA := Lib.hid h
  have HA2 := Lib.hid h2
  have HV := Lib.hid (show caOk L T M U = false by unfold caOk; rw [h, h2]; rfl)
  clear h h2
  go_enter Try.func10, Try.ntmps10
  go_wp2_with (first
    | go_skip
    | (rw [← hw1]; clear hw1)
    | (refine wpList_load_row_w rfl 31 _ rfl w.heap.size rfl _ _ _ _ (Kx.out _ (by assumption)) Try.underlying31 rfl (size_Alg _ _) ?_)
    | (refine wpList_load_row_w rfl 31 _ rfl (w.heap.size + 1) rfl _ _ _ _ (Kx2.out _ (by assumption)) Try.underlying31 rfl (size_Alg _ _) ?_)
    | (go_at_call_of 24 (Value.agg #[.slice a L.length ca, .slice b T.length cb]); refine (readAlgebra_yes a b ca cb L T _ (KR.out _ z1) (KT.out _ z1) HA.out).mono ?_; rintro e w2 ⟨rfl, hw2⟩; have z2 : Below w1.heap.size w1 w2 := z1.trans (hw2.mono z1.size); clear hw2)
    | (refine wpList_store_row rfl 58 _ _ rfl w2.heap.size (algOf L T) rfl rfl _ _ (heap_alloc_new w2 (.cells zeroAlg 58)) (size_alg _ _ _ _ _ _) rfl (one_alg _ _ _ _ _ _) ?_; rw [World.setRow_alloc_new]; obtain ⟨g1, hg1⟩ : ∃ bl, bl = w2.heap.size := ⟨_, rfl⟩; obtain ⟨w3, hw3⟩ : ∃ x, x = w2.alloc (.cells (algOf L T) 58) := ⟨_, rfl⟩; rw [← hw3, ← hg1]; have hAg1 : AlgAt w3 g1 L T := (by rw [hw3, hg1]; exact AlgAt.new w2 L T); have ltg1 := hAg1.lt; have qw3 : Below w2.heap.size w2 w3 := (by rw [hw3]; exact (Below.refl _ _).alloc (Nat.le_refl _) _); have lg1 : w2.heap.size ≤ g1 := Nat.le_of_eq hg1.symm; have z3 : Below w1.heap.size w1 w3 := z2.trans (qw3.mono z2.size); clear hw3 hg1 z2)
    | (go_at_call_of 24 (Value.agg #[.slice a2 M.length ca2, .slice b2 U.length cb2]); refine (readAlgebra_no a2 b2 ca2 cb2 M U _ (KR2.out _ z3) (KT2.out _ z3) HA2.out).mono ?_; rintro e w4 ⟨rfl, hw4⟩; have z4 : Below w1.heap.size w1 w4 := z3.trans (hw4.mono z3.size); clear hw4)
    | (refine wpList_store_row rfl 58 _ _ rfl w4.heap.size (zeroAlg) rfl rfl _ _ (heap_alloc_new w4 (.cells zeroAlg 58)) size_zeroAlg rfl one_zeroAlg ?_; rw [World.setRow_alloc_new]; obtain ⟨g2, hg2⟩ : ∃ bl, bl = w4.heap.size := ⟨_, rfl⟩; obtain ⟨w5, hw5⟩ : ∃ x, x = w4.alloc (.cells (zeroAlg) 58) := ⟨_, rfl⟩; rw [← hw5, ← hg2]; have qw5 : Below w4.heap.size w4 w5 := (by rw [hw5]; exact (Below.refl _ _).alloc (Nat.le_refl _) _); have lg2 : w4.heap.size ≤ g2 := Nat.le_of_eq hg2.symm; have z5 : Below w1.heap.size w1 w5 := z4.trans (qw5.mono z4.size); obtain ⟨c0, c1⟩ := bx_cells (Kx.out _ z5); obtain ⟨d0, d1⟩ := bx_cells (Kx2.out _ z5); clear hw5 hg2 z4)
    | (go_at_call 25; refine (implCrossLattices_any a a2 ca ca2 L M _ (KR.out _ z5) (KR2.out _ z5)).mono ?_; rintro e w6 ⟨ua, uc, rfl, uo, hb6⟩; have z6 := z5.trans (hb6.mono z5.size))
    | (refine wpList_store_row rfl 31 _ _ rfl (w.heap.size + 1 + 1) #[.slice none 0 0, .slice none 0 0] rfl rfl _ _ (Kz.out _ z6) (size_Alg _ _) rfl (one_sl2 _ _ _ _ _ _) ?_))
  refine bodyPost_ret (v := .tuple #[.agg #[.slice none 0 0, .slice none 0 0], .bool false]) (results_Alg_tmp rfl _ _ (w.heap.size + 1 + 1) rfl _ _ (setRow_heap _ _ _ _ _ _ (Kz.out _ z6)) rfl) rfl ?_
  rw [HV.out, (ca_no HV.out).1, (ca_no HV.out).2]
  have hbz := below_setRow' (hB.trans (z6.mono hB.size)) (by omega : w.heap.size ≤ w.heap.size + 1 + 1) #[.slice none 0 0, .slice none 0 0]
  exact ⟨_, _, _, _, _, _, rfl, GA.zero _ _ hbz.size _, hbz⟩
set_option maxRecDepth 100000 in
set_option maxHeartbeats 4000000 in
theorem implCrossA_out (a b : Option Addr) (ca cb : Nat) (L : List Int) (T : List (List Int)) (a2 b2 : Option Addr) (ca2 cb2 : Nat) (M : List Int) (U : List (List Int)) (w : World) (hr : Rd w a L) (hT : RdT w b T) (hr2 : Rd w a2 M) (hT2 : RdT w b2 U) (h : algB L T = true) (h2 : algB M U = true) (h3 : ¬ (L.length : Int) * M.length ≤ 6) : Calls Try.prog 10 #[.agg #[.slice a L.length ca, .slice b T.length cb], .agg #[.slice a2 M.length ca2, .slice b2 U.length cb2]] w (RetGAb (caL L T M U) (caT L T M U) (caOk L T M U) w) := by
  obtain ⟨w1, hw1⟩ : ∃ w1, w1 = ((w.alloc (.cells #[.slice a L.length ca, .slice b T.length cb] 31)).alloc (.cells #[.slice a2 M.length ca2, .slice b2 U.length cb2] 31)).alloc (.cells #[.slice none 0 0, .slice none 0 0] 31) := ⟨_, rfl⟩
  have hB : Below w.heap.size w w1 := by rw [hw1]; exact (((Below.refl _ _).alloc (Nat.le_refl _) _).alloc (by simp) _).alloc (by simp; omega) _
  have hx : w1.heap[w.heap.size]? = some (.cells #[.slice a L.length ca, .slice b T.length cb] 31 (0, 0)) := by
    rw [hw1, Below.heap_alloc _ _ _ (by simp; omega), Below.heap_alloc _ _ _ (by simp)]; exact heap_alloc_new w _
  have hx2 : w1.heap[w.heap.size + 1]? = some (.cells #[.slice a2 M.length ca2, .slice b2 U.length cb2] 31 (0, 0)) := by
    rw [hw1, Below.heap_alloc _ _ _ (by simp)]; exact heap_alloc2_new _ _ _
  have hz : w1.heap[w.heap.size + 1 + 1]? = some (.cells #[.slice none 0 0, .slice none 0 0] 31 (0, 0)) := by
    have := heap_alloc_new ((w.alloc (.cells #[.slice a L.length ca, .slice b T.length cb] 31)).alloc (.cells #[.slice a2 M.length ca2, .slice b2 U.length cb2] 31)) (.cells #[.slice none 0 0, .slice none 0 0] 31)
    rw [hw1]; simpa using this
  have Kx := Lib.hid (show ∀ wz, Below w1.heap.size w1 wz → wz.heap[w.heap.size]? = some (.cells #[.slice a L.length ca, .slice b T.length cb] 31 (0, 0)) from fun wz h => (h.block _ (lt_of_block hx)).trans hx)
  have Kx2 := Lib.hid (show ∀ wz, Below w1.heap.size w1 wz → wz.heap[w.heap.size + 1]? = some (.cells #[.slice a2 M.length ca2, .slice b2 U.length cb2] 31 (0, 0)) from fun wz h => (h.block _ (lt_of_block hx2)).trans hx2)
  have Kz := Lib.hid (show ∀ wz, Below w1.heap.size w1 wz → wz.heap[w.heap.size + 1 + 1]? = some (.cells #[.slice none 0 0, .slice none 0 0] 31 (0, 0)) from fun wz h => (h.block _ (lt_of_block hz)).trans hz)
  have KR := Lib.hid (show ∀ wz, Below w1.heap.size w1 wz → Rd wz a L from fun wz h => (hr.below hB).below h)
  have KT := Lib.hid (show ∀ wz, Below w1.heap.size w1 wz → RdT wz b T from fun wz h => (hT.below hB).below h)
  have KR2 := Lib.hid (show ∀ wz, Below w1.heap.size w1 wz → Rd wz a2 M from fun wz h => (hr2.below hB).below h)
  have KT2 := Lib.hid (show ∀ wz, Below w1.heap.size w1 wz → RdT wz b2 U from fun wz h => (hT2.below hB).below h)
  have hsz : w.heap.size + 1 + 1 < w1.heap.size := lt_of_block hz
  have z1 : Below w1.heap.size w1 w1 := Below.refl _ _
  clear hx hx2 hz hr hT hr2 hT2
  obtain ⟨l1, l6⟩ := lat_len (alg_lat h)
  obtain ⟨k1, k6⟩ := lat_len (alg_lat h2)
  have n6 : (L.length : Int) ≤ 6 := l6
  have n1 : 1 ≤ (L.length : Int) := l1
  have m6 : (M.length : Int) ≤ 6 := k6
  have m1 : 1 ≤ (M.length : Int) := k1
  have HA := Lib.hid h
  have HA2 := Lib.hid h2
  have HV := Lib.hid (show caOk L T M U = false by unfold caOk; rw [h, h2, decide_eq_false h3]; rfl)
  have hl1 := Lib.hid (alg_lat h)
  have hl2 := Lib.hid (alg_lat h2)
  have H3 := Lib.hid h3
  have hnil := slices_nil
  clear h h2 h3 l1 l6 k1 k6
  go_enter Try.func10, Try.ntmps10
  go_wp2_with (first
    | go_skip
    | (rw [← hw1]; clear hw1)
    | (refine wpList_load_row_w rfl 31 _ rfl w.heap.size rfl _ _ _ _ (Kx.out _ (by assumption)) Try.underlying31 rfl (size_Alg _ _) ?_)
    | (refine wpList_load_row_w rfl 31 _ rfl (w.heap.size + 1) rfl _ _ _ _ (Kx2.out _ (by assumption)) Try.underlying31 rfl (size_Alg _ _) ?_)
    | (go_at_call_of 24 (Value.agg #[.slice a L.length ca, .slice b T.length cb]); refine (readAlgebra_yes a b ca cb L T _ (KR.out _ z1) (KT.out _ z1) HA.out).mono ?_; rintro e w2 ⟨rfl, hw2⟩; have z2 : Below w1.heap.size w1 w2 := z1.trans (hw2.mono z1.size); clear hw2)
    | (refine wpList_store_row rfl 58 _ _ rfl w2.heap.size (algOf L T) rfl rfl _ _ (heap_alloc_new w2 (.cells zeroAlg 58)) (size_alg _ _ _ _ _ _) rfl (one_alg _ _ _ _ _ _) ?_; rw [World.setRow_alloc_new]; obtain ⟨g1, hg1⟩ : ∃ bl, bl = w2.heap.size := ⟨_, rfl⟩; obtain ⟨w3, hw3⟩ : ∃ x, x = w2.alloc (.cells (algOf L T) 58) := ⟨_, rfl⟩; rw [← hw3, ← hg1]; have hAg1 : AlgAt w3 g1 L T := (by rw [hw3, hg1]; exact AlgAt.new w2 L T); have ltg1 := hAg1.lt; have qw3 : Below w2.heap.size w2 w3 := (by rw [hw3]; exact (Below.refl _ _).alloc (Nat.le_refl _) _); have lg1 : w2.heap.size ≤ g1 := Nat.le_of_eq hg1.symm; have z3 : Below w1.heap.size w1 w3 := z2.trans (qw3.mono z2.size); clear hw3 hg1 z2)
    | (go_at_call_of 24 (Value.agg #[.slice a2 M.length ca2, .slice b2 U.length cb2]); refine (readAlgebra_yes a2 b2 ca2 cb2 M U _ (KR2.out _ z3) (KT2.out _ z3) HA2.out).mono ?_; rintro e w4 ⟨rfl, hw4⟩; have z4 : Below w1.heap.size w1 w4 := z3.trans (hw4.mono z3.size); clear hw4)
    | (refine wpList_store_row rfl 58 _ _ rfl w4.heap.size (algOf M U) rfl rfl _ _ (heap_alloc_new w4 (.cells zeroAlg 58)) (size_alg _ _ _ _ _ _) rfl (one_alg _ _ _ _ _ _) ?_; rw [World.setRow_alloc_new]; obtain ⟨g2, hg2⟩ : ∃ bl, bl = w4.heap.size := ⟨_, rfl⟩; obtain ⟨w5, hw5⟩ : ∃ x, x = w4.alloc (.cells (algOf M U) 58) := ⟨_, rfl⟩; rw [← hw5, ← hg2]; have hAg2 : AlgAt w5 g2 M U := (by rw [hw5, hg2]; exact AlgAt.new w4 M U); have ltg2 := hAg2.lt; have qw5 : Below w4.heap.size w4 w5 := (by rw [hw5]; exact (Below.refl _ _).alloc (Nat.le_refl _) _); have lg2 : w4.heap.size ≤ g2 := Nat.le_of_eq hg2.symm; have z5 : Below w1.heap.size w1 w5 := z4.trans (qw5.mono z4.size); obtain ⟨c0, c1⟩ := bx_cells (Kx.out _ z5); obtain ⟨d0, d1⟩ := bx_cells (Kx2.out _ z5); clear hw5 hg2 z4)
    | (go_at_call 25; (refine (implCrossN_out a a2 ca ca2 L M _ (KR.out _ z5) (KR2.out _ z5) hl1.out hl2.out (by have := H3.out; omega)).mono ?_; rintro e w6 ⟨rfl, hb6⟩; have z6 := z5.trans (hb6.mono z5.size)))
    | (refine wpList_store_row rfl 31 _ _ rfl (w.heap.size + 1 + 1) #[.slice none 0 0, .slice none 0 0] rfl rfl _ _ (Kz.out _ z6) (size_Alg _ _) rfl (one_sl2 _ _ _ _ _ _) ?_))
  refine bodyPost_ret (v := .tuple #[.agg #[.slice none 0 0, .slice none 0 0], .bool false]) (results_Alg_tmp rfl _ _ (w.heap.size + 1 + 1) rfl _ _ (setRow_heap _ _ _ _ _ _ (Kz.out _ z6)) rfl) rfl ?_
  rw [HV.out, (ca_no HV.out).1, (ca_no HV.out).2]
  have hbz := below_setRow' (hB.trans (z6.mono hB.size)) (by omega : w.heap.size ≤ w.heap.size + 1 + 1) #[.slice none 0 0, .slice none 0 0]
  exact ⟨_, _, _, _, _, _, rfl, GA.zero _ _ hbz.size _, hbz⟩
set_option maxRecDepth 100000 in
set_option maxHeartbeats 4000000 in
theorem implCrossA_yes (a b : Option Addr) (ca cb : Nat) (L : List Int) (T : List (List Int)) (a2 b2 : Option Addr) (ca2 cb2 : Nat) (M : List Int) (U : List (List Int)) (w : World) (hr : Rd w a L) (hT : RdT w b T) (hr2 : Rd w a2 M) (hT2 : RdT w b2 U) (h : algB L T = true) (h2 : algB M U = true) (h3 : (L.length : Int) * M.length ≤ 6) : Calls Try.prog 10 #[.agg #[.slice a L.length ca, .slice b T.length cb], .agg #[.slice a2 M.length ca2, .slice b2 U.length cb2]] w (RetGAb (caL L T M U) (caT L T M U) (caOk L T M U) w) := by
  obtain ⟨w1, hw1⟩ : ∃ w1, w1 = ((w.alloc (.cells #[.slice a L.length ca, .slice b T.length cb] 31)).alloc (.cells #[.slice a2 M.length ca2, .slice b2 U.length cb2] 31)).alloc (.cells #[.slice none 0 0, .slice none 0 0] 31) := ⟨_, rfl⟩
  have hB : Below w.heap.size w w1 := by rw [hw1]; exact (((Below.refl _ _).alloc (Nat.le_refl _) _).alloc (by simp) _).alloc (by simp; omega) _
  have hx : w1.heap[w.heap.size]? = some (.cells #[.slice a L.length ca, .slice b T.length cb] 31 (0, 0)) := by
    rw [hw1, Below.heap_alloc _ _ _ (by simp; omega), Below.heap_alloc _ _ _ (by simp)]; exact heap_alloc_new w _
  have hx2 : w1.heap[w.heap.size + 1]? = some (.cells #[.slice a2 M.length ca2, .slice b2 U.length cb2] 31 (0, 0)) := by
    rw [hw1, Below.heap_alloc _ _ _ (by simp)]; exact heap_alloc2_new _ _ _
  have hz : w1.heap[w.heap.size + 1 + 1]? = some (.cells #[.slice none 0 0, .slice none 0 0] 31 (0, 0)) := by
    have := heap_alloc_new ((w.alloc (.cells #[.slice a L.length ca, .slice b T.length cb] 31)).alloc (.cells #[.slice a2 M.length ca2, .slice b2 U.length cb2] 31)) (.cells #[.slice none 0 0, .slice none 0 0] 31)
    rw [hw1]; simpa using this
  have Kx := Lib.hid (show ∀ wz, Below w1.heap.size w1 wz → wz.heap[w.heap.size]? = some (.cells #[.slice a L.length ca, .slice b T.length cb] 31 (0, 0)) from fun wz h => (h.block _ (lt_of_block hx)).trans hx)
  have Kx2 := Lib.hid (show ∀ wz, Below w1.heap.size w1 wz → wz.heap[w.heap.size + 1]? = some (.cells #[.slice a2 M.length ca2, .slice b2 U.length cb2] 31 (0, 0)) from fun wz h => (h.block _ (lt_of_block hx2)).trans hx2)
  have Kz := Lib.hid (show ∀ wz, Below w1.heap.size w1 wz → wz.heap[w.heap.size + 1 + 1]? = some (.cells #[.slice none 0 0, .slice none 0 0] 31 (0, 0)) from fun wz h => (h.block _ (lt_of_block hz)).trans hz)
  have KR := Lib.hid (show ∀ wz, Below w1.heap.size w1 wz → Rd wz a L from fun wz h => (hr.below hB).below h)
  have KT := Lib.hid (show ∀ wz, Below w1.heap.size w1 wz → RdT wz b T from fun wz h => (hT.below hB).below h)
  have KR2 := Lib.hid (show ∀ wz, Below w1.heap.size w1 wz → Rd wz a2 M from fun wz h => (hr2.below hB).below h)
  have KT2 := Lib.hid (show ∀ wz, Below w1.heap.size w1 wz → RdT wz b2 U from fun wz h => (hT2.below hB).below h)
  have hsz : w.heap.size + 1 + 1 < w1.heap.size := lt_of_block hz
  have z1 : Below w1.heap.size w1 w1 := Below.refl _ _
  clear hx hx2 hz hr hT hr2 hT2
  obtain ⟨l1, l6⟩ := lat_len (alg_lat h)
  obtain ⟨k1, k6⟩ := lat_len (alg_lat h2)
  have n6 : (L.length : Int) ≤ 6 := l6
  have n1 : 1 ≤ (L.length : Int) := l1
  have m6 : (M.length : Int) ≤ 6 := k6
  have m1 : 1 ≤ (M.length : Int) := k1
  have HA := Lib.hid h
  have HA2 := Lib.hid h2
  have HCI := Lib.hid (show crossI L M = caL L T M U from by rw [crossI_t (alg_lat h) (alg_lat h2) h3, (ca_yes h h2 h3).2.1])
  have HCT := Lib.hid (show tabL (caP T U M.length) ((L.length : Int) * M.length) = caT L T M U from (ca_yes h h2 h3).2.2.symm)
  have HOK := Lib.hid (ca_yes h h2 h3).1
  obtain ⟨N, hN⟩ : ∃ N, N = L.length * M.length := ⟨_, rfl⟩
  have hNi : (N : Int) = (L.length : Int) * M.length := by rw [hN, Int.natCast_mul]
  have hN6 : N ≤ 6 := by omega
  have hN1 : 0 < N := by rw [hN]; exact Nat.mul_pos (by omega) (by omega)
  have hcl : 0 < (caL L T M U).length := by rw [← HCI.out, crossI_t (alg_lat h) (alg_lat h2) h3, upL_len]; omega
  have HNI := Lib.hid hNi
  have HPL := Lib.hid (show (prL M.length N).length = N from prL_len _ _)
  have HPA := Lib.hid (show ∀ j, j < N → pAt (prL M.length N) j = (((j / M.length : Nat) : Int), ((j % M.length : Nat) : Int)) from fun j hj => prL_at hj)
  have HPO := Lib.hid (show ∀ w, Calls Try.prog 26 #[.agg (algOf L T), .agg (algOf M U)] w (RetPr (prL M.length N) w) from fun w => by rw [hN]; exact pairsOf_any L T M U w n6 m1 m6)
  have HCLO := Lib.hid (fun (bp ba bb g c p q : Nat) (w : World) (q1 : w.heap[bp]? = some (.cells #[.slice (some ⟨g, 0, none⟩) N c] 62 (0, 0))) (q2 : AlgAt w ba L T) (q3 : AlgAt w bb M U) (q4 : ∀ wz, Below w.heap.size w wz → ∀ j : Nat, j < N → wz.rangeAt g (j * 2) [.int .i64 ((j / M.length : Nat) : Int), .int .i64 ((j % M.length : Nat) : Int)]) (q5 : p < N) (q6 : q < N) => by
    rw [hN] at q1 q4 q5 q6 hN6
    exact crClo_any L T M U bp ba bb g c p q w q1 q2 q3 q4 h h2 hN6 q5 q6)
  have HCIL := Lib.hid (fun (w : World) (q1 : Rd w a L) (q2 : Rd w a2 M) => by have := implCrossLattices_any a a2 ca ca2 L M w q1 q2; rw [HCI.out] at this; exact this)
  obtain ⟨CL, hCL⟩ : ∃ X, X = caL L T M U := ⟨_, rfl⟩
  obtain ⟨CT, hCT⟩ : ∃ X, X = caT L T M U := ⟨_, rfl⟩
  rw [← hCL] at HCIL hcl ⊢
  rw [← hCT] at HCT ⊢
  rw [HOK.out]
  have hnil := slices_nil
  clear h h2 h3 l1 l6 k1 k6 hN hNi HCI hCL hCT
  go_enter Try.func10, Try.ntmps10
  go_wp2_with (first
    | go_skip
    | (rw [← hw1]; clear hw1)
    | (refine wpList_load_row_w rfl 31 _ rfl w.heap.size rfl _ _ _ _ (Kx.out _ (by assumption)) Try.underlying31 rfl (size_Alg _ _) ?_)
    | (refine wpList_load_row_w rfl 31 _ rfl (w.heap.size + 1) rfl _ _ _ _ (Kx2.out _ (by assumption)) Try.underlying31 rfl (size_Alg _ _) ?_)
    | (go_at_call_of 24 (Value.agg #[.slice a L.length ca, .slice b T.length cb]); refine (readAlgebra_yes a b ca cb L T _ (KR.out _ z1) (KT.out _ z1) HA.out).mono ?_; rintro e w2 ⟨rfl, hw2⟩; have z2 : Below w1.heap.size w1 w2 := z1.trans (hw2.mono z1.size); clear hw2)
    | (refine wpList_store_row rfl 58 _ _ rfl w2.heap.size (algOf L T) rfl rfl _ _ (heap_alloc_new w2 (.cells zeroAlg 58)) (size_alg _ _ _ _ _ _) rfl (one_alg _ _ _ _ _ _) ?_; rw [World.setRow_alloc_new]; obtain ⟨g1, hg1⟩ : ∃ bl, bl = w2.heap.size := ⟨_, rfl⟩; obtain ⟨w3, hw3⟩ : ∃ x, x = w2.alloc (.cells (algOf L T) 58) := ⟨_, rfl⟩; rw [← hw3, ← hg1]; have hAg1 : AlgAt w3 g1 L T := (by rw [hw3, hg1]; exact AlgAt.new w2 L T); have ltg1 := hAg1.lt; have qw3 : Below w2.heap.size w2 w3 := (by rw [hw3]; exact (Below.refl _ _).alloc (Nat.le_refl _) _); have lg1 : w2.heap.size ≤ g1 := Nat.le_of_eq hg1.symm; have z3 : Below w1.heap.size w1 w3 := z2.trans (qw3.mono z2.size); have KA := Lib.hid (show ∀ wz, Below w3.heap.size w3 wz → AlgAt wz g1 L T from fun wz hz => hAg1.below hz hAg1.lt); have y3 : Below w3.heap.size w3 w3 := Below.refl _ _; clear hAg1 qw3 hw3 hg1 z2)
    | (go_at_call_of 24 (Value.agg #[.slice a2 M.length ca2, .slice b2 U.length cb2]); refine (readAlgebra_yes a2 b2 ca2 cb2 M U _ (KR2.out _ z3) (KT2.out _ z3) HA2.out).mono ?_; rintro e w4 ⟨rfl, hw4⟩; have z4 : Below w1.heap.size w1 w4 := z3.trans (hw4.mono z3.size); have y4 := y3.trans (hw4.mono y3.size); clear hw4)
    | (refine wpList_store_row rfl 58 _ _ rfl w4.heap.size (algOf M U) rfl rfl _ _ (heap_alloc_new w4 (.cells zeroAlg 58)) (size_alg _ _ _ _ _ _) rfl (one_alg _ _ _ _ _ _) ?_; rw [World.setRow_alloc_new]; obtain ⟨g2, hg2⟩ : ∃ bl, bl = w4.heap.size := ⟨_, rfl⟩; obtain ⟨w5, hw5⟩ : ∃ x, x = w4.alloc (.cells (algOf M U) 58) := ⟨_, rfl⟩; rw [← hw5, ← hg2]; have hAg2 : AlgAt w5 g2 M U := (by rw [hw5, hg2]; exact AlgAt.new w4 M U); have ltg2 := hAg2.lt; have qw5 : Below w4.heap.size w4 w5 := (by rw [hw5]; exact (Below.refl _ _).alloc (Nat.le_refl _) _); have lg2 : w4.heap.size ≤ g2 := Nat.le_of_eq hg2.symm; have z5 : Below w1.heap.size w1 w5 := z4.trans (qw5.mono z4.size); obtain ⟨c0, c1⟩ := bx_cells (Kx.out _ z5); obtain ⟨d0, d1⟩ := bx_cells (Kx2.out _ z5); have y5 := y4.trans (qw5.mono y4.size); have KB := Lib.hid (show ∀ wz, Below w5.heap.size w5 wz → AlgAt wz g2 M U from fun wz hz => hAg2.below hz hAg2.lt); have x5 : Below w5.heap.size w5 w5 := Below.refl _ _; clear hAg2 qw5 y4 hw5 hg2 z4)
    | (go_at_call 25; refine (HCIL.out _ (KR.out _ z5) (KR2.out _ z5)).mono ?_; rintro e w6 ⟨ua, uc, rfl, uo, hb6⟩; have z6 := z5.trans (hb6.mono z5.size); have y6 := y5.trans (hb6.mono y5.size); have x6 := x5.trans (hb6.mono x5.size); obtain ⟨bu, uc', eu, _, lbu⟩ := uo.shape.resolve_left (fun h => (by have := h.2; rw [this] at hcl; simp at hcl)); injection eu with eu1 _ eu2; subst eu1; subst eu2; have UO := Lib.hid (GS.of uo); have s56 := hb6.size; clear c0 c1 d0 d1 uo hb6)
    | (refine wpList_load_row_w rfl 58 _ rfl g1 rfl _ _ _ _ (show w6.heap[g1]? = some (.cells (algOf L T) 58 (0, 0)) from KA.out _ y6) Try.underlying58 rfl (size_alg _ _ _ _ _ _) ?_)
    | (refine wpList_load_row_w rfl 58 _ rfl g2 rfl _ _ _ _ (show w6.heap[g2]? = some (.cells (algOf M U) 58 (0, 0)) from KB.out _ x6) Try.underlying58 rfl (size_alg _ _ _ _ _ _) ?_))
  refine (HPO.out _).mono ?_
  rintro e w7 ⟨v7, rfl, p7, hb7⟩
  have HP1 := Lib.hid (show 0 < (prL M.length N).length by rw [HPL.out]; exact hN1)
  obtain ⟨gp, cp, rfl, _, _, _, _⟩ := p7.shape HP1.out
  have HRG := Lib.hid (show ∀ wz, Below w7.heap.size w7 wz → ∀ j : Nat, j < N → wz.rangeAt gp (j * 2) [.int .i64 ((j / M.length : Nat) : Int), .int .i64 ((j % M.length : Nat) : Int)] from fun wz hz j hj => by
    have := p7.ranges HP1.out wz hz j (by rw [HPL.out]; exact hj)
    rw [HPA.out j hj] at this
    exact this)
  have hPNe : (prL M.length N).length = N := HPL.out
  rw [hPNe]
  have z7 := z6.trans (hb7.mono z6.size)
  have y7 := y6.trans (hb7.mono y6.size)
  have x7 := x6.trans (hb7.mono x6.size)
  have q7 : Below w6.heap.size w6 w7 := hb7
  clear p7 hb7 hPNe HPL HPA HP1 HPO z6 y6 x6
  obtain ⟨bp, hbp⟩ : ∃ x : Nat, x = w7.heap.size := ⟨_, rfl⟩
  obtain ⟨w8, hw8⟩ : ∃ x : World, x = w7.alloc (.cells #[.slice (some ⟨gp, 0, none⟩) N cp] 62) := ⟨_, rfl⟩
  have qw8 : Below w7.heap.size w7 w8 := by rw [hw8]; exact (Below.refl _ _).alloc (Nat.le_refl _) _
  have hxp : w8.heap[bp]? = some (.cells #[.slice (some ⟨gp, 0, none⟩) N cp] 62 (0, 0)) := by rw [hw8, hbp]; exact heap_alloc_new w7 _
  have KP := Lib.hid (show ∀ wz, Below w8.heap.size w8 wz → wz.heap[bp]? = some (.cells #[.slice (some ⟨gp, 0, none⟩) N cp] 62 (0, 0)) from fun wz h => (h.block _ (lt_of_block hxp)).trans hxp)
  have cP := cell_of_one hxp
  have z8 := z7.trans (qw8.mono z7.size)
  have y8 := y7.trans (qw8.mono y7.size)
  have x8 := x7.trans (qw8.mono x7.size)
  have q8 := q7.trans (qw8.mono q7.size)
  have s8 := q8.size
  have HRO := Lib.hid (rowsOf_T 27 #[.pointer (some ⟨bp, 0, none⟩), .pointer (some ⟨g1, 0, none⟩), .pointer (some ⟨g2, 0, none⟩)] (N : Int) (caP T U M.length) w8 (by omega) (by omega) enters_crA fun x y wr x0 x1 y0 y1 hb => by
    have := HCLO.out bp g1 g2 gp cp x.toNat y.toNat wr (KP.out _ hb) (KA.out _ (y8.trans (hb.mono y8.size))) (KB.out _ (x8.trans (hb.mono x8.size))) (fun wz hz => HRG.out wz (qw8.trans ((hb.trans (hz.mono hb.size)).mono qw8.size))) (by omega) (by omega)
    rw [Int.toNat_of_nonneg x0, Int.toNat_of_nonneg y0] at this
    exact this)
  rw [HNI.out, HCT.out] at HRO
  clear hxp z7 y7 x7 q7 HCLO HRG y8 x8 qw8 hN1
  go_wp2_with (first
    | go_skip
    | (rw [← hw8, ← hbp]; clear hw8 hbp)
    | (go_at_call 20; rw [HNI.out]; refine HRO.out.mono ?_; rintro e w9 ⟨rfl, gt9, hb9⟩; obtain ⟨B, hBB⟩ : ∃ x, x = w8.heap.size := ⟨_, rfl⟩; rw [← hBB] at gt9 ⊢; have lB : w8.heap.size ≤ B := Nat.le_of_eq hBB.symm; have z9 := z8.trans (hb9.mono z8.size); have UO9 := Lib.hid (UO.out.below (q8.trans (hb9.mono q8.size))); have GT9 := Lib.hid gt9; have s9 := hb9.size; clear hBB hb9 gt9 HRO)
    | (refine wpList_store_row rfl 31 _ _ rfl (w.heap.size + 1 + 1) #[.slice (some ⟨bu, 0, none⟩) CL.length uc, .slice (some ⟨B, 0, none⟩) CT.length CT.length] rfl rfl _ _ (Kz.out _ z9) (size_Alg _ _) rfl (one_sl2 _ _ _ _ _ _) ?_))
  refine bodyPost_ret (v := .tuple #[.agg #[.slice (some ⟨bu, 0, none⟩) CL.length uc, .slice (some ⟨B, 0, none⟩) CT.length CT.length], .bool true]) (results_Alg_tmp rfl _ _ (w.heap.size + 1 + 1) rfl _ _ (setRow_heap _ _ _ _ _ _ (Kz.out _ z9)) rfl) rfl ?_
  have hbz := below_setRow' (hB.trans (z9.mono hB.size)) (by omega : w.heap.size ≤ w.heap.size + 1 + 1) #[.slice (some ⟨bu, 0, none⟩) CL.length uc, .slice (some ⟨B, 0, none⟩) CT.length CT.length]
  have hb11 := below_setRow' (Below.refl (w.heap.size + 1 + 1) w9) (Nat.le_refl _) #[.slice (some ⟨bu, 0, none⟩) CL.length uc, .slice (some ⟨B, 0, none⟩) CT.length CT.length]
  have s11 := hb11.size
  have s1 := hB.size
  have s5 := z5.size
  have s10 := z9.size
  have hk : ∀ lo hi, w.heap.size + 1 + 1 < lo → Keep lo hi w9 (w9.setRow (w.heap.size + 1 + 1) #[.slice (some ⟨bu, 0, none⟩) CL.length uc, .slice (some ⟨B, 0, none⟩) CT.length CT.length]) := fun lo hi hlo k k1 _ _ => setRow_other w9 _ k _ (by omega)
  exact ⟨_, _, _, _, _, _, rfl, ⟨w5.heap.size, w6.heap.size, B, w9.heap.size, by omega, by omega, by omega, by omega, .inl (by omega), UO9.out.keep (hk _ _ (by omega)), GT9.out.keep (hk _ _ (by omega))⟩, hbz⟩
/-- impl.CrossAlgebras -/
theorem implCrossAlgebras_any (a b : Option Addr) (ca cb : Nat) (L : List Int) (T : List (List Int)) (a2 b2 : Option Addr) (ca2 cb2 : Nat) (M : List Int) (U : List (List Int)) (w : World) (hr : Rd w a L) (hT : RdT w b T) (hr2 : Rd w a2 M) (hT2 : RdT w b2 U) : Calls Try.prog 10 #[.agg #[.slice a L.length ca, .slice b T.length cb], .agg #[.slice a2 M.length ca2, .slice b2 U.length cb2]] w (RetGAb (caL L T M U) (caT L T M U) (caOk L T M U) w) := by
  cases h : algB L T <;> cases h2 : algB M U
  · exact implCrossA_ff a b ca cb L T a2 b2 ca2 cb2 M U w hr hT hr2 hT2 h h2
  · exact implCrossA_ft a b ca cb L T a2 b2 ca2 cb2 M U w hr hT hr2 hT2 h h2
  · exact implCrossA_tf a b ca cb L T a2 b2 ca2 cb2 M U w hr hT hr2 hT2 h h2
  · by_cases h3 : (L.length : Int) * M.length ≤ 6
    · exact implCrossA_yes a b ca cb L T a2 b2 ca2 cb2 M U w hr hT hr2 hT2 h h2 h3
    · exact implCrossA_out a b ca cb L T a2 b2 ca2 cb2 M U w hr hT hr2 hT2 h h2 h3
end Go.Proofs.Ythjbfdoclifhoaa
