import Derived.Test.YtdjhnbofnmhpaaaCE1
import Derived.Test.YtdjhnbofnmhpaaaFA
import Derived.Test.YtdjhnbofnmhpaaaMK
import Derived.Maps.AppendAt
namespace Go.Proofs.Ytdjhnbofnmhpaaa
open Go.RowKit
set_option linter.unusedVariables false

set_option maxRecDepth 100000 in
set_option maxHeartbeats 2000000 in
/-- laws.eqAlgebraS, of two that read the same -/
theorem eqAlgebraS_same (B C B' C' : Nat) (a b : Option Addr) (ca cb : Nat) (L : List Int) (Ts : List (List (List Int))) (w : World) (h1 : AlgsAt B C w (.slice a Ts.length ca) L Ts) (h2 : AlgsAt B' C' w (.slice b Ts.length cb) L Ts) (hs : ∀ j : Nat, j < Ts.length → Ti L (tabAt Ts j)) (hn : Ts.length ≤ 1000) :
    Calls Try.prog 9 #[.slice a Ts.length ca, .slice b Ts.length cb] w fun e w' => e = .returned (.bool true) ∧ Below w.heap.size w w' := by
  have hne : ((Ts.length : Int) != (Ts.length : Int)) = false := by simp
  have H1 := Lib.hid h1
  have H2 := Lib.hid h2
  have HS := Lib.hid hs
  clear h1 h2 hs
  go_enter Try.func9, Try.ntmps9
  go_wp2
  go_loopw [5] (fun iv wr => ∃ i : Nat, i ≤ Ts.length ∧ iv = .int .i64 (i : Int) ∧ Below w.heap.size w wr) (fun iv _ => (1100 - intOf iv).toNat)
  case atStart => exact ⟨0, by omega, rfl, Below.refl _ _⟩
  case round =>
    obtain ⟨i, iR, rfl, hb⟩ := hrel
    by_cases hi : (i : Int) < Ts.length
    · have ki : IntKind.i64.wrap ((i : Int) + 1) = (i : Int) + 1 := IntWalk.i64_in _ (by omega)
      have K1 := H1.out.below hb
      have K2 := H2.out.below hb
      obtain ⟨G1, rfl⟩ : ∃ G, a = some ⟨G, 0, none⟩ := by
        obtain ⟨G, c, e⟩ := algs_some K1 (by omega)
        injection e with e _ _
        exact ⟨G, e⟩
      obtain ⟨G2, rfl⟩ : ∃ G, b = some ⟨G, 0, none⟩ := by
        obtain ⟨G, c, e⟩ := algs_some K2 (by omega)
        injection e with e _ _
        exact ⟨G, e⟩
      obtain ⟨a1, ca1, b1, cb1, m1, o1, r1⟩ := K1.at (k := (i : Int)) (by omega) hi
      obtain ⟨a2, ca2, b2, cb2, m2, o2, r2⟩ := K2.at (k := (i : Int)) (by omega) hi
      rw [Int.toNat_natCast] at m1 m2 r1 r2
      have hti := HS.out i (by omega)
      obtain ⟨T, hTe⟩ : ∃ T, T = tabAt Ts i := ⟨_, rfl⟩
      rw [← hTe] at m1 m2 r1 r2 hti
      have HO1 := Lib.hid o1.rd
      have HO2 := Lib.hid o2.rd
      have HR1 := Lib.hid r1.rdT'
      have HR2 := Lib.hid r2.rdT'
      have HT := Lib.hid hti.sm
      have M1 := Lib.hid (show ∀ wz, Below wr.heap.size wr wz → wz.rangeAt G1 (i * 2) [.slice a1 L.length ca1, .slice b1 T.length cb1] from fun wz hz j v hv => by rw [hz.cell (block_lt_of_cell (m1 j v hv))]; exact m1 j v hv)
      have M2 := Lib.hid (show ∀ wz, Below wr.heap.size wr wz → wz.rangeAt G2 (i * 2) [.slice a2 L.length ca2, .slice b2 T.length cb2] from fun wz hz j v hv => by rw [hz.cell (block_lt_of_cell (m2 j v hv))]; exact m2 j v hv)
      have HC := Lib.hid (show ∀ wz, Below wr.heap.size wr wz → Calls Try.prog 31 #[.agg #[.slice a1 L.length ca1, .slice b1 T.length cb1], .agg #[.slice a2 L.length ca2, .slice b2 T.length cb2]] wz fun e w' => e = .returned (.bool true) ∧ Below wz.heap.size wz w' from fun wz hz => eqAlgebra_same _ _ _ _ _ _ _ _ L T wz (HO1.out.below hz) (HO2.out.below hz) (HR1.out.below hz) (HR2.out.below hz) (by have := HT.out.1; omega) (fun j hj => by have := HT.out.2.2 j hj; omega) (by have := HT.out.2.1; omega))
      clear K1 K2 m1 m2 o1 o2 r1 r2 hti hTe HO1 HO2 HR1 HR2 HT
      go_wp2
      refine region_in (Below wr.heap.size wr) (by kernel_rfl) (by kernel_rfl) (Dr.below ⟨1, rfl⟩ _) fun hne => ?_
      repeat (first
        | (go_big_quiet_want; refine quiet_load_mid 38 _ rfl G1 (i * 2) rfl #[.slice a1 L.length ca1, .slice b1 T.length cb1] _ (fun w' ⟨s, hs⟩ => by rw [hs]; exact M1.out _ s.h) Try.underlying38 rfl (size_Alg _ _) ?_; simp only [Act.put, List.setIfInBounds_toArray, List.set_cons_succ, List.set_cons_zero]; go_big_quiet_on)
        | (go_big_quiet_want; refine quiet_load_mid 38 _ rfl G2 (i * 2) rfl #[.slice a2 L.length ca2, .slice b2 T.length cb2] _ (fun w' ⟨s, hs⟩ => by rw [hs]; exact M2.out _ s.h) Try.underlying38 rfl (size_Alg _ _) ?_; simp only [Act.put, List.setIfInBounds_toArray, List.set_cons_succ, List.set_cons_zero]; go_big_quiet_on)
        | go_big_quiet_step ((first | (go_at_call 31; exact in_below _ (Nat.le_refl _) (HC.out _ (In.h _))))))
      refine wpQuiet_nil ?_
      intro s
      have hw2 := s.h
      obtain ⟨w7, hw2'⟩ : ∃ x : World, x = s.w := ⟨_, rfl⟩
      rw [← hw2'] at hw2 ⊢
      clear hw2'
      go_wp2
      go_roundw
      case rel => exact ⟨i + 1, by omega, by simp, hb.trans (hw2.mono hb.size)⟩
      case measure => simp [intOf]; omega
    · go_wp2
      go_ret
      exact ⟨rfl, hb⟩
set_option maxRecDepth 100000 in
set_option maxHeartbeats 2000000 in
/-- laws.equalAlgebras, of two that read the same -/
theorem equalAlgebras_same (B C B' C' : Nat) (a b : Option Addr) (ca cb : Nat) (L : List Int) (Ts : List (List (List Int))) (w : World) (h1 : AlgsAt B C w (.slice a Ts.length ca) L Ts) (h2 : AlgsAt B' C' w (.slice b Ts.length cb) L Ts) (hs : ∀ j : Nat, j < Ts.length → Ti L (tabAt Ts j)) (hn : Ts.length ≤ 1000) :
    Calls Try.prog 17 #[.slice a Ts.length ca, .slice b Ts.length cb] w fun e w' => e = .returned (.bool true) ∧ Below w.heap.size w w' := by
  have hne : ((Ts.length : Int) != (Ts.length : Int)) = false := by simp
  have H1 := Lib.hid h1
  have H2 := Lib.hid h2
  have HS := Lib.hid hs
  clear h1 h2 hs
  go_enter Try.func17, Try.ntmps17
  go_wp2
  go_loopw [5] (fun iv wr => ∃ i : Nat, i ≤ Ts.length ∧ iv = .int .i64 (i : Int) ∧ Below w.heap.size w wr) (fun iv _ => (1100 - intOf iv).toNat)
  case atStart => exact ⟨0, by omega, rfl, Below.refl _ _⟩
  case round =>
    obtain ⟨i, iR, rfl, hb⟩ := hrel
    by_cases hi : (i : Int) < Ts.length
    · have ki : IntKind.i64.wrap ((i : Int) + 1) = (i : Int) + 1 := IntWalk.i64_in _ (by omega)
      have K1 := H1.out.below hb
      have K2 := H2.out.below hb
      obtain ⟨G1, rfl⟩ : ∃ G, a = some ⟨G, 0, none⟩ := by
        obtain ⟨G, c, e⟩ := algs_some K1 (by omega)
        injection e with e _ _
        exact ⟨G, e⟩
      obtain ⟨G2, rfl⟩ : ∃ G, b = some ⟨G, 0, none⟩ := by
        obtain ⟨G, c, e⟩ := algs_some K2 (by omega)
        injection e with e _ _
        exact ⟨G, e⟩
      obtain ⟨a1, ca1, b1, cb1, m1, o1, r1⟩ := K1.at (k := (i : Int)) (by omega) hi
      obtain ⟨a2, ca2, b2, cb2, m2, o2, r2⟩ := K2.at (k := (i : Int)) (by omega) hi
      rw [Int.toNat_natCast] at m1 m2 r1 r2
      have hti := HS.out i (by omega)
      obtain ⟨T, hTe⟩ : ∃ T, T = tabAt Ts i := ⟨_, rfl⟩
      rw [← hTe] at m1 m2 r1 r2 hti
      have HO1 := Lib.hid o1.rd
      have HO2 := Lib.hid o2.rd
      have HR1 := Lib.hid r1.rdT'
      have HR2 := Lib.hid r2.rdT'
      have HT := Lib.hid hti.sm
      have M1 := Lib.hid (show ∀ wz, Below wr.heap.size wr wz → wz.rangeAt G1 (i * 2) [.slice a1 L.length ca1, .slice b1 T.length cb1] from fun wz hz j v hv => by rw [hz.cell (block_lt_of_cell (m1 j v hv))]; exact m1 j v hv)
      have M2 := Lib.hid (show ∀ wz, Below wr.heap.size wr wz → wz.rangeAt G2 (i * 2) [.slice a2 L.length ca2, .slice b2 T.length cb2] from fun wz hz j v hv => by rw [hz.cell (block_lt_of_cell (m2 j v hv))]; exact m2 j v hv)
      have HC := Lib.hid (show ∀ wz, Below wr.heap.size wr wz → Calls Try.prog 24 #[.agg #[.slice a1 L.length ca1, .slice b1 T.length cb1], .agg #[.slice a2 L.length ca2, .slice b2 T.length cb2]] wz fun e w' => e = .returned (.bool true) ∧ Below wz.heap.size wz w' from fun wz hz => equalAlgebra_same _ _ _ _ _ _ _ _ L T wz (HO1.out.below hz) (HO2.out.below hz) (HR1.out.below hz) (HR2.out.below hz) (by have := HT.out.1; omega) (fun j hj => by have := HT.out.2.2 j hj; omega) (by have := HT.out.2.1; omega))
      clear K1 K2 m1 m2 o1 o2 r1 r2 hti hTe HO1 HO2 HR1 HR2 HT
      go_wp2
      refine region_in (Below wr.heap.size wr) (by kernel_rfl) (by kernel_rfl) (Dr.below ⟨1, rfl⟩ _) fun hne => ?_
      repeat (first
        | (go_big_quiet_want; refine quiet_load_mid 38 _ rfl G1 (i * 2) rfl #[.slice a1 L.length ca1, .slice b1 T.length cb1] _ (fun w' ⟨s, hs⟩ => by rw [hs]; exact M1.out _ s.h) Try.underlying38 rfl (size_Alg _ _) ?_; simp only [Act.put, List.setIfInBounds_toArray, List.set_cons_succ, List.set_cons_zero]; go_big_quiet_on)
        | (go_big_quiet_want; refine quiet_load_mid 38 _ rfl G2 (i * 2) rfl #[.slice a2 L.length ca2, .slice b2 T.length cb2] _ (fun w' ⟨s, hs⟩ => by rw [hs]; exact M2.out _ s.h) Try.underlying38 rfl (size_Alg _ _) ?_; simp only [Act.put, List.setIfInBounds_toArray, List.set_cons_succ, List.set_cons_zero]; go_big_quiet_on)
        | go_big_quiet_step ((first | (go_at_call 24; exact in_below _ (Nat.le_refl _) (HC.out _ (In.h _))))))
      refine wpQuiet_nil ?_
      intro s
      have hw2 := s.h
      obtain ⟨w7, hw2'⟩ : ∃ x : World, x = s.w := ⟨_, rfl⟩
      rw [← hw2'] at hw2 ⊢
      clear hw2'
      go_wp2
      go_roundw
      case rel => exact ⟨i + 1, by omega, by simp, hb.trans (hw2.mono hb.size)⟩
      case measure => simp [intOf]; omega
    · go_wp2
      go_ret
      exact ⟨rfl, hb⟩
/-- tables of as many rows, row by row -/
def eqT (T U : List (List Int)) : Bool := (List.range T.length).all fun i => eqL (rowAt T (i : Int)) (rowAt U (i : Int))
theorem eqT_t {T U : List (List Int)} (h : ∀ j : Nat, j < T.length → eqL (rowAt T (j : Int)) (rowAt U (j : Int)) = true) : eqT T U = true := by
  unfold eqT
  rw [List.all_eq_true]
  intro i hi
  exact h i (List.mem_range.1 hi)
theorem eqT_f {T U : List (List Int)} {j : Nat} (hj : j < T.length) (h : eqL (rowAt T (j : Int)) (rowAt U (j : Int)) = false) : eqT T U = false := by
  unfold eqT
  rw [List.all_eq_false]
  exact ⟨j, List.mem_range.2 hj, by rw [h]; simp⟩
set_option maxRecDepth 100000 in
set_option maxHeartbeats 2000000 in
/-- laws.equalLists, of tables of as many rows -/
theorem equalLists_any (b1 b2 : Option Addr) (c1 c2 : Nat) (T U : List (List Int)) (w : World) (h1 : RdT w b1 T) (h2 : RdT w b2 U) (hm : ∀ j : Nat, j < T.length → (rowAt T j).length ≤ 1048576) (hn : T.length ≤ 1048576) (he : T.length = U.length) :
    Calls Try.prog 49 #[.slice b1 T.length c1, .slice b2 U.length c2] w fun e w' => e = .returned (.bool (eqT T U)) ∧ Dr w w' := by
  have hne : ((T.length : Int) != (T.length : Int)) = false := by simp
  have HM := Lib.hid hm
  have H1 := Lib.hid h1
  have H2 := Lib.hid h2
  have HE := Lib.hid he
  rw [← he]
  clear hm h1 h2 he
  go_enter Try.func49, Try.ntmps49
  go_wp2
  go_loopw [5] (fun i wr => ∃ k : Nat, k ≤ T.length ∧ i = .int .i64 (k : Int) ∧ (∀ j : Nat, j < k → eqL (rowAt T (j : Int)) (rowAt U (j : Int)) = true) ∧ Dr w wr) (fun i _ => ((T.length : Int) - intOf i).toNat)
  case atStart => exact ⟨0, by omega, rfl, fun j hj => absurd hj (by omega), Dr.refl _⟩
  case round =>
    obtain ⟨k, k1, rfl, hq, hd⟩ := hrel
    have HQ := Lib.hid hq
    clear hq
    by_cases hk : (k : Int) < T.length
    · have ki : IntKind.i64.wrap ((k : Int) + 1) = (k : Int) + 1 := IntWalk.i64_in _ (by omega)
      have hne1 : T ≠ [] := by intro e; rw [e] at hk; simp at hk; omega
      have hne2 : U ≠ [] := fun e => hne1 (List.eq_nil_of_length_eq_zero (by rw [HE.out, e]; rfl))
      obtain ⟨B1, o1, rfl, q1⟩ := (H1.out.dr hd) hne1
      obtain ⟨B2, o2, rfl, q2⟩ := (H2.out.dr hd) hne2
      obtain ⟨ra1, rc1, d1, r1⟩ := RdT.row q1 (k := (k : Int)) (by omega) hk
      obtain ⟨ra2, rc2, d2, r2⟩ := RdT.row q2 (k := (k : Int)) (by omega) (by have := HE.out; omega)
      rw [Int.toNat_natCast] at d1 d2
      have hm2 := HM.out k (by omega)
      have R1 := Lib.hid r1
      have R2 := Lib.hid r2
      have HM2 := Lib.hid hm2
      obtain ⟨V, hV⟩ : ∃ V, V = eqL (rowAt T (k : Int)) (rowAt U (k : Int)) := ⟨_, rfl⟩
      have HC := Lib.hid (show ∀ wz, Dr wr wz → Calls Try.prog 23 #[.slice ra1 (rowAt T (k : Int)).length rc1, .slice ra2 (rowAt U (k : Int)).length rc2] wz fun e w' => e = .returned (.bool V) ∧ Dr wz w' from fun wz hz => by rw [hV]; exact equalInts_any _ _ _ _ _ _ wz (Dr.rd hz R1.out) (Dr.rd hz R2.out) (by have := HM2.out; omega))
      have HV := Lib.hid hV
      clear q1 q2 hne1 hne2 r1 r2 hm2 R1 R2 HM2 hV
      cases V with
      | true =>
        go_wp2
        go_quiet (first | (go_at_call 23; exact q_dr (HC.out _ ⟨_, rfl⟩)))
        go_wp2
        go_roundw
        case rel => exact ⟨k + 1, by omega, by simp, fun j hj => by
          by_cases e : j < k
          · exact HQ.out j e
          · have : j = k := by omega
            subst this; exact HV.out.symm, hd.more _⟩
        case measure => simp [intOf]; omega
      | false =>
        go_wp2
        go_quiet (first | (go_at_call 23; exact q_dr (HC.out _ ⟨_, rfl⟩)))
        go_wp2
        go_ret
        exact ⟨by first | (rw [eqT_f (j := k) (by omega) HV.out.symm]; rfl) | rw [eqT_f (j := k) (by omega) HV.out.symm], hd.more _⟩
    · have HT := Lib.hid (eqT_t (T := T) (U := U) fun j hj => HQ.out j (by omega))
      go_wp2
      go_ret
      exact ⟨by first | (rw [HT.out]; rfl) | rw [HT.out], hd⟩
set_option maxRecDepth 100000 in
set_option maxHeartbeats 2000000 in
/-- laws.equalAlgebra, of one lattice -/
theorem equalAlgebra_tab (a1 a2 b1 b2 : Option Addr) (ca1 ca2 cb1 cb2 : Nat) (L : List Int) (T U : List (List Int)) (w : World) (h1 : Rd w a1 L) (h2 : Rd w a2 L) (t1 : RdT w b1 T) (t2 : RdT w b2 U) (hL : L.length ≤ 1048576) (hm : ∀ j : Nat, j < T.length → (rowAt T j).length ≤ 1048576) (hn : T.length ≤ 1048576) (he : T.length = U.length) :
    Calls Try.prog 24 #[.agg #[.slice a1 L.length ca1, .slice b1 T.length cb1], .agg #[.slice a2 L.length ca2, .slice b2 U.length cb2]] w fun e w' => e = .returned (.bool (eqT T U)) ∧ Below w.heap.size w w' := by
  obtain ⟨w1, hw1⟩ : ∃ w1, w1 = (w.alloc (.cells #[.slice a1 L.length ca1, .slice b1 T.length cb1] 38)).alloc (.cells #[.slice a2 L.length ca2, .slice b2 U.length cb2] 38) := ⟨_, rfl⟩
  have hB : Below w.heap.size w w1 := by rw [hw1]; exact ((Below.refl _ _).alloc (Nat.le_refl _) _).alloc (by simp) _
  have x1 : w1.heap[w.heap.size]? = some (.cells #[.slice a1 L.length ca1, .slice b1 T.length cb1] 38 (0, 0)) := by rw [hw1, Below.heap_alloc _ _ _ (by simp)]; exact heap_alloc_new w _
  have x2 : w1.heap[w.heap.size + 1]? = some (.cells #[.slice a2 L.length ca2, .slice b2 U.length cb2] 38 (0, 0)) := by rw [hw1]; exact heap_alloc2_new _ _ _
  obtain ⟨c0, c1⟩ := bx_cells x1
  obtain ⟨c2, c3⟩ := bx_cells x2
  have R1 := Lib.hid (h1.below hB)
  have R2 := Lib.hid (h2.below hB)
  have S1 := Lib.hid (t1.below hB)
  have S2 := Lib.hid (t2.below hB)
  have HM := Lib.hid hm
  have HE := Lib.hid he
  clear h1 h2 t1 t2 hm x1 x2 he
  go_enter Try.func24, Try.ntmps24
  go_wp2_with (first
    | (rw [← hw1]; clear hw1)
    | go_skip
    | (go_at_call 23; refine (equalInts_same _ _ _ _ _ _ R1.out R2.out (by omega)).mono ?_; rintro e w2 ⟨rfl, hd⟩; have c4 := hd.cell c1; have c5 := hd.cell c3)
    | (go_at_call 49; refine (equalLists_any _ _ _ _ _ _ _ (S1.out.dr hd) (S2.out.dr hd) HM.out hn HE.out).mono ?_; rintro e w3 ⟨rfl, hd2⟩))
  go_ret
  exact ⟨rfl, hB.trans ((hd.trans hd2).below _)⟩
end Go.Proofs.Ytdjhnbofnmhpaaa
