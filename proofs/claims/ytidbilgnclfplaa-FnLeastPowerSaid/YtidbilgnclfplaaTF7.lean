import Derived.Test.YtidbilgnclfplaaTD7
import Derived.Test.YtidbilgnclfplaaTP10
import Derived.Test.YtidbilgnclfplaaTM23
import Derived.Test.YtidbilgnclfplaaTM1
import Derived.Test.YtidbilgnclfplaaSL0
namespace Go.Proofs.Ytidbilgnclfplaa
open Go.RowKit

set_option maxRecDepth 100000 in
set_option maxHeartbeats 2000000 in
/-- laws.FnLeastPower -/
theorem lawPLeastPower (a0 : Option Addr) (len0 cap0 : Nat) (w : World) (hy : RdY w a0 len0 w.heap.size) (hc : len0 ≤ cap0) (hm : len0 ≤ maxLen) :
    Calls Try.prog 15 #[.slice a0 len0 cap0] w fun e w' => e = .returned (.bool true) ∧ Below w.heap.size w w' := by
  by_cases hbig : 1048576 < len0
  · have hbig2 : (1048576 : Int) < len0 := by omega
    go_enter Try.func15, Try.ntmps15
    go_wp2
    go_ret
    exact ⟨rfl, Below.refl _ _⟩
  · have hs : len0 ≤ 1048576 := by omega
    have hs2 : ¬ (1048576 : Int) < len0 := by omega
    go_enter Try.func15, Try.ntmps15
    go_wp2_with fail
    refine (drawLeastPower_any a0 len0 cap0 w hy hc hs).mono ?_
    rintro e w1 ⟨L, T, a, ca, b, cb, p, pa, pc, t, ta, tc, rfl, hP, hrY, hTY, hb, hpY, hpc, hp40, htY, htc, ht40⟩
    have _ := hm
    clear hs hs2 hbig hy hm hc
    have hr := hrY.rd
    have hT := hTY.rd
    obtain ⟨l1, l7, t6, r6⟩ := someP_len hP
    have hM : (L.length : Int) ≤ 9223372036854775807 := by omega
    obtain ⟨g, hg⟩ : ∃ g, g = w1.heap.size := ⟨_, rfl⟩
    obtain ⟨w2, hw2⟩ : ∃ w2, w2 = w1.alloc (.cells #[.slice a L.length ca, .slice b T.length cb] 33) := ⟨_, rfl⟩
    have hB : Below w.heap.size w w2 := by rw [hw2]; exact hb.alloc hb.size _
    have hB2 : Below w1.heap.size w1 w2 := by rw [hw2]; exact (Below.refl _ _).alloc (Nat.le_refl _) _
    have hx2 : w2.heap[g]? = some (.cells #[.slice a L.length ca, .slice b T.length cb] 33 (0, 0)) := by rw [hw2, hg]; exact heap_alloc_new w1 _
    have KX := Lib.hid (show ∀ wz, Below w2.heap.size w2 wz → wz.heap[g]? = some (.cells #[.slice a L.length ca, .slice b T.length cb] 33 (0, 0)) from fun wz h => (h.block _ (lt_of_block hx2)).trans hx2)
    have K0 := Lib.hid (show ∀ wz, Below w2.heap.size w2 wz → wz.cell? ⟨g, 0, none⟩ = some (.slice a L.length ca) from fun wz h => (bx_cells (KX.out _ h)).1)
    have K1 := Lib.hid (show ∀ wz, Below w2.heap.size w2 wz → wz.cell? ⟨g, 1, none⟩ = some (.slice b T.length cb) from fun wz h => (bx_cells (KX.out _ h)).2)
    have KR := Lib.hid (show ∀ wz, Below w2.heap.size w2 wz → Rd wz a L from fun wz h => (hr.below hB2).below h)
    have KT := Lib.hid (show ∀ wz, Below w2.heap.size w2 wz → RdT wz b T from fun wz h => (hT.below hB2).below h)
    have Kpp := Lib.hid (show ∀ wz, Below w2.heap.size w2 wz → Rd wz pa p from fun wz h => (hpY.rd.below hB2).below h)
    have Ktt := Lib.hid (show ∀ wz, Below w2.heap.size w2 wz → Rd wz ta t from fun wz h => (htY.rd.below hB2).below h)
    have FIN := Lib.hid (show ∀ wz, Below w2.heap.size w2 wz → Below w.heap.size w wz from fun wz h => hB.trans (h.mono hB.size))
    have z : Below w2.heap.size w2 w2 := Below.refl _ _
    have HP := Lib.hid hP
    clear hP hr hT hb hB hB2 hx2 r6 hrY hTY hpY htY
    have c0 := K0.out _ z
    have c1 := K1.out _ z
    obtain ⟨V0, hV0⟩ : ∃ V, (lpI L T p t).getD 0 = V := ⟨_, rfl⟩
    obtain ⟨V1, hV1⟩ : ∃ V, (lpI L T p t).isSome = V := ⟨_, rfl⟩
    have hne : (V0 != V0) = false := by simp
    have heq : (V0 == V0) = true := by simp
    have hne1 : (V1 != V1) = false := by simp
    have heq1 : (V1 == V1) = true := by simp
    cases hA : algB L T with
    | false =>
      go_wp2_with (first
      | go_skip
      | (refine wpList_store_row rfl 33 _ _ rfl w1.heap.size #[.slice a L.length ca, .slice b T.length cb] rfl rfl _ _ (heap_alloc_new w1 (.cells #[.slice none 0 0, .slice none 0 0] 33)) (size_Alg _ _) rfl (one_sl2 _ _ _ _ _ _) ?_; rw [World.setRow_alloc_new]; rw [← hw2, ← hg]; clear hw2 hg)
      | (refine wpList_store_row rfl 33 _ _ rfl w1.heap.size #[.slice a L.length ca, .slice (some ⟨B, off, none⟩) T.length cb] rfl rfl _ _ (heap_alloc_new w1 (.cells #[.slice none 0 0, .slice none 0 0] 33)) (size_Alg _ _) rfl (one_sl2 _ _ _ _ _ _) ?_; rw [World.setRow_alloc_new]; rw [← hw2, ← hg]; clear hw2 hg)
      | (refine wpList_load_row_w rfl 33 _ rfl g rfl _ _ _ _ (KX.out _ z) Try.underlying33 rfl (size_Alg _ _) ?_)
      | (go_at_call 35; (with_reducible refine (implLeastPower_any a b ca cb L T pa pc p ta tc t _ (KR.out _ z) (KT.out _ z) (Kpp.out _ z) (Ktt.out _ z) (by omega) (by omega) hpc htc).mono ?_); rw [hV0, hV1]; rintro e wz ⟨rfl, hb⟩; replace z := z.trans (hb.mono z.size); (try clear c0 c1); have c0 := K0.out _ z; have c1 := K1.out _ z; (try replace q1 := Q1.out _ z); (try replace q2 := Q2.out _ z))
      | (go_at_call 34; (with_reducible refine (specLeastPower_any a b ca cb L T pa pc p ta tc t _ (KR.out _ z) (KT.out _ z) (Kpp.out _ z) (Ktt.out _ z) (by omega) (by omega)).mono ?_); rw [hV0, hV1]; rintro e wz ⟨rfl, hb⟩; replace z := z.trans (hb.mono z.size); (try clear c0 c1); have c0 := K0.out _ z; have c1 := K1.out _ z; (try replace q1 := Q1.out _ z); (try replace q2 := Q2.out _ z))
      | (go_at_call 48; (with_reducible refine (implValidAlgebra_any a b ca cb L T _ (KR.out _ z) (KT.out _ z)).mono ?_); rw [hA]; rintro e wz ⟨rfl, hb⟩; replace z := z.trans (hb.mono z.size); (try clear c0 c1); have c0 := K0.out _ z; have c1 := K1.out _ z; (try replace q1 := Q1.out _ z); (try replace q2 := Q2.out _ z)))
      go_ret
      exact ⟨rfl, FIN.out _ z⟩
    | true =>
      cases hp : vtB p with
      | false =>
        go_wp2_with (first
        | go_skip
        | (refine wpList_store_row rfl 33 _ _ rfl w1.heap.size #[.slice a L.length ca, .slice b T.length cb] rfl rfl _ _ (heap_alloc_new w1 (.cells #[.slice none 0 0, .slice none 0 0] 33)) (size_Alg _ _) rfl (one_sl2 _ _ _ _ _ _) ?_; rw [World.setRow_alloc_new]; rw [← hw2, ← hg]; clear hw2 hg)
        | (refine wpList_store_row rfl 33 _ _ rfl w1.heap.size #[.slice a L.length ca, .slice (some ⟨B, off, none⟩) T.length cb] rfl rfl _ _ (heap_alloc_new w1 (.cells #[.slice none 0 0, .slice none 0 0] 33)) (size_Alg _ _) rfl (one_sl2 _ _ _ _ _ _) ?_; rw [World.setRow_alloc_new]; rw [← hw2, ← hg]; clear hw2 hg)
        | (refine wpList_load_row_w rfl 33 _ rfl g rfl _ _ _ _ (KX.out _ z) Try.underlying33 rfl (size_Alg _ _) ?_)
        | (go_at_call 35; (with_reducible refine (implLeastPower_any a b ca cb L T pa pc p ta tc t _ (KR.out _ z) (KT.out _ z) (Kpp.out _ z) (Ktt.out _ z) (by omega) (by omega) hpc htc).mono ?_); rw [hV0, hV1]; rintro e wz ⟨rfl, hb⟩; replace z := z.trans (hb.mono z.size); (try clear c0 c1); have c0 := K0.out _ z; have c1 := K1.out _ z; (try replace q1 := Q1.out _ z); (try replace q2 := Q2.out _ z))
        | (go_at_call 34; (with_reducible refine (specLeastPower_any a b ca cb L T pa pc p ta tc t _ (KR.out _ z) (KT.out _ z) (Kpp.out _ z) (Ktt.out _ z) (by omega) (by omega)).mono ?_); rw [hV0, hV1]; rintro e wz ⟨rfl, hb⟩; replace z := z.trans (hb.mono z.size); (try clear c0 c1); have c0 := K0.out _ z; have c1 := K1.out _ z; (try replace q1 := Q1.out _ z); (try replace q2 := Q2.out _ z))
        | (go_at_call 48; (with_reducible refine (implValidAlgebra_any a b ca cb L T _ (KR.out _ z) (KT.out _ z)).mono ?_); rw [hA]; rintro e wz ⟨rfl, hb⟩; replace z := z.trans (hb.mono z.size); (try clear c0 c1); have c0 := K0.out _ z; have c1 := K1.out _ z; (try replace q1 := Q1.out _ z); (try replace q2 := Q2.out _ z))
        | (go_at_call 37; (with_reducible refine (implValidTerm_any pa pc p _ (Kpp.out _ z) (by omega) hpc).mono ?_); rw [hp]; rintro e wz ⟨rfl, hb⟩; replace z := z.trans (hb.mono z.size); (try clear c0 c1); have c0 := K0.out _ z; have c1 := K1.out _ z; (try replace q1 := Q1.out _ z); (try replace q2 := Q2.out _ z)))
        go_ret
        exact ⟨rfl, FIN.out _ z⟩
      | true =>
        cases ht : vtB t with
        | false =>
          go_wp2_with (first
          | go_skip
          | (refine wpList_store_row rfl 33 _ _ rfl w1.heap.size #[.slice a L.length ca, .slice b T.length cb] rfl rfl _ _ (heap_alloc_new w1 (.cells #[.slice none 0 0, .slice none 0 0] 33)) (size_Alg _ _) rfl (one_sl2 _ _ _ _ _ _) ?_; rw [World.setRow_alloc_new]; rw [← hw2, ← hg]; clear hw2 hg)
          | (refine wpList_store_row rfl 33 _ _ rfl w1.heap.size #[.slice a L.length ca, .slice (some ⟨B, off, none⟩) T.length cb] rfl rfl _ _ (heap_alloc_new w1 (.cells #[.slice none 0 0, .slice none 0 0] 33)) (size_Alg _ _) rfl (one_sl2 _ _ _ _ _ _) ?_; rw [World.setRow_alloc_new]; rw [← hw2, ← hg]; clear hw2 hg)
          | (refine wpList_load_row_w rfl 33 _ rfl g rfl _ _ _ _ (KX.out _ z) Try.underlying33 rfl (size_Alg _ _) ?_)
          | (go_at_call 35; (with_reducible refine (implLeastPower_any a b ca cb L T pa pc p ta tc t _ (KR.out _ z) (KT.out _ z) (Kpp.out _ z) (Ktt.out _ z) (by omega) (by omega) hpc htc).mono ?_); rw [hV0, hV1]; rintro e wz ⟨rfl, hb⟩; replace z := z.trans (hb.mono z.size); (try clear c0 c1); have c0 := K0.out _ z; have c1 := K1.out _ z; (try replace q1 := Q1.out _ z); (try replace q2 := Q2.out _ z))
          | (go_at_call 34; (with_reducible refine (specLeastPower_any a b ca cb L T pa pc p ta tc t _ (KR.out _ z) (KT.out _ z) (Kpp.out _ z) (Ktt.out _ z) (by omega) (by omega)).mono ?_); rw [hV0, hV1]; rintro e wz ⟨rfl, hb⟩; replace z := z.trans (hb.mono z.size); (try clear c0 c1); have c0 := K0.out _ z; have c1 := K1.out _ z; (try replace q1 := Q1.out _ z); (try replace q2 := Q2.out _ z))
          | (go_at_call 48; (with_reducible refine (implValidAlgebra_any a b ca cb L T _ (KR.out _ z) (KT.out _ z)).mono ?_); rw [hA]; rintro e wz ⟨rfl, hb⟩; replace z := z.trans (hb.mono z.size); (try clear c0 c1); have c0 := K0.out _ z; have c1 := K1.out _ z; (try replace q1 := Q1.out _ z); (try replace q2 := Q2.out _ z))
          | (go_at_call 37; (with_reducible refine (implValidTerm_any pa pc p _ (Kpp.out _ z) (by omega) hpc).mono ?_); rw [hp]; rintro e wz ⟨rfl, hb⟩; replace z := z.trans (hb.mono z.size); (try clear c0 c1); have c0 := K0.out _ z; have c1 := K1.out _ z; (try replace q1 := Q1.out _ z); (try replace q2 := Q2.out _ z))
          | (go_at_call 37; (with_reducible refine (implValidTerm_any ta tc t _ (Ktt.out _ z) (by omega) htc).mono ?_); rw [ht]; rintro e wz ⟨rfl, hb⟩; replace z := z.trans (hb.mono z.size); (try clear c0 c1); have c0 := K0.out _ z; have c1 := K1.out _ z; (try replace q1 := Q1.out _ z); (try replace q2 := Q2.out _ z)))
          go_ret
          exact ⟨rfl, FIN.out _ z⟩
        | true =>
          cases hlp : lpI L T p t with
          | none =>
            have hit := lp_none hA hp ht hlp
            have e1 : V1 = false := by rw [← hV1, hlp]; rfl
            subst e1
            clear hlp
            go_wp2_with (first
            | go_skip
            | (refine wpList_store_row rfl 33 _ _ rfl w1.heap.size #[.slice a L.length ca, .slice b T.length cb] rfl rfl _ _ (heap_alloc_new w1 (.cells #[.slice none 0 0, .slice none 0 0] 33)) (size_Alg _ _) rfl (one_sl2 _ _ _ _ _ _) ?_; rw [World.setRow_alloc_new]; rw [← hw2, ← hg]; clear hw2 hg)
            | (refine wpList_store_row rfl 33 _ _ rfl w1.heap.size #[.slice a L.length ca, .slice (some ⟨B, off, none⟩) T.length cb] rfl rfl _ _ (heap_alloc_new w1 (.cells #[.slice none 0 0, .slice none 0 0] 33)) (size_Alg _ _) rfl (one_sl2 _ _ _ _ _ _) ?_; rw [World.setRow_alloc_new]; rw [← hw2, ← hg]; clear hw2 hg)
            | (refine wpList_load_row_w rfl 33 _ rfl g rfl _ _ _ _ (KX.out _ z) Try.underlying33 rfl (size_Alg _ _) ?_)
            | (go_at_call 35; (with_reducible refine (implLeastPower_any a b ca cb L T pa pc p ta tc t _ (KR.out _ z) (KT.out _ z) (Kpp.out _ z) (Ktt.out _ z) (by omega) (by omega) hpc htc).mono ?_); rw [hV0, hV1]; rintro e wz ⟨rfl, hb⟩; replace z := z.trans (hb.mono z.size); (try clear c0 c1); have c0 := K0.out _ z; have c1 := K1.out _ z; (try replace q1 := Q1.out _ z); (try replace q2 := Q2.out _ z))
            | (go_at_call 34; (with_reducible refine (specLeastPower_any a b ca cb L T pa pc p ta tc t _ (KR.out _ z) (KT.out _ z) (Kpp.out _ z) (Ktt.out _ z) (by omega) (by omega)).mono ?_); rw [hV0, hV1]; rintro e wz ⟨rfl, hb⟩; replace z := z.trans (hb.mono z.size); (try clear c0 c1); have c0 := K0.out _ z; have c1 := K1.out _ z; (try replace q1 := Q1.out _ z); (try replace q2 := Q2.out _ z))
            | (go_at_call 48; (with_reducible refine (implValidAlgebra_any a b ca cb L T _ (KR.out _ z) (KT.out _ z)).mono ?_); rw [hA]; rintro e wz ⟨rfl, hb⟩; replace z := z.trans (hb.mono z.size); (try clear c0 c1); have c0 := K0.out _ z; have c1 := K1.out _ z; (try replace q1 := Q1.out _ z); (try replace q2 := Q2.out _ z))
            | (go_at_call 37; (with_reducible refine (implValidTerm_any pa pc p _ (Kpp.out _ z) (by omega) hpc).mono ?_); rw [hp]; rintro e wz ⟨rfl, hb⟩; replace z := z.trans (hb.mono z.size); (try clear c0 c1); have c0 := K0.out _ z; have c1 := K1.out _ z; (try replace q1 := Q1.out _ z); (try replace q2 := Q2.out _ z))
            | (go_at_call 37; (with_reducible refine (implValidTerm_any ta tc t _ (Ktt.out _ z) (by omega) htc).mono ?_); rw [ht]; rintro e wz ⟨rfl, hb⟩; replace z := z.trans (hb.mono z.size); (try clear c0 c1); have c0 := K0.out _ z; have c1 := K1.out _ z; (try replace q1 := Q1.out _ z); (try replace q2 := Q2.out _ z))
            | (go_at_call 31; (with_reducible refine (implIsTrue_any a b ca cb L T ta tc t _ (KR.out _ z) (KT.out _ z) (Ktt.out _ z) (by omega) htc).mono ?_); rw [hit]; rintro e wz ⟨rfl, hb⟩; replace z := z.trans (hb.mono z.size); (try clear c0 c1); have c0 := K0.out _ z; have c1 := K1.out _ z; (try replace q1 := Q1.out _ z); (try replace q2 := Q2.out _ z)))
            go_ret
            exact ⟨rfl, FIN.out _ z⟩
          | some k =>
            obtain ⟨hfl, k0, k1, hit⟩ := lp_some hA hp ht hlp
            have e1 : V1 = true := by rw [← hV1, hlp]; rfl
            have e0 : V0 = k := by rw [← hV0, hlp]; rfl
            subst e1 e0
            have HFL := Lib.hid hfl
            clear hlp hfl
            by_cases hk : V0 = 0
            · have hkb : (V0 == 0) = true := by rw [hk]; rfl
              rw [hkb] at hit
              clear hk
              go_wp2_with (first
              | go_skip
              | (refine wpList_store_row rfl 33 _ _ rfl w1.heap.size #[.slice a L.length ca, .slice b T.length cb] rfl rfl _ _ (heap_alloc_new w1 (.cells #[.slice none 0 0, .slice none 0 0] 33)) (size_Alg _ _) rfl (one_sl2 _ _ _ _ _ _) ?_; rw [World.setRow_alloc_new]; rw [← hw2, ← hg]; clear hw2 hg)
              | (refine wpList_store_row rfl 33 _ _ rfl w1.heap.size #[.slice a L.length ca, .slice (some ⟨B, off, none⟩) T.length cb] rfl rfl _ _ (heap_alloc_new w1 (.cells #[.slice none 0 0, .slice none 0 0] 33)) (size_Alg _ _) rfl (one_sl2 _ _ _ _ _ _) ?_; rw [World.setRow_alloc_new]; rw [← hw2, ← hg]; clear hw2 hg)
              | (refine wpList_load_row_w rfl 33 _ rfl g rfl _ _ _ _ (KX.out _ z) Try.underlying33 rfl (size_Alg _ _) ?_)
              | (go_at_call 35; (with_reducible refine (implLeastPower_any a b ca cb L T pa pc p ta tc t _ (KR.out _ z) (KT.out _ z) (Kpp.out _ z) (Ktt.out _ z) (by omega) (by omega) hpc htc).mono ?_); rw [hV0, hV1]; rintro e wz ⟨rfl, hb⟩; replace z := z.trans (hb.mono z.size); (try clear c0 c1); have c0 := K0.out _ z; have c1 := K1.out _ z; (try replace q1 := Q1.out _ z); (try replace q2 := Q2.out _ z))
              | (go_at_call 34; (with_reducible refine (specLeastPower_any a b ca cb L T pa pc p ta tc t _ (KR.out _ z) (KT.out _ z) (Kpp.out _ z) (Ktt.out _ z) (by omega) (by omega)).mono ?_); rw [hV0, hV1]; rintro e wz ⟨rfl, hb⟩; replace z := z.trans (hb.mono z.size); (try clear c0 c1); have c0 := K0.out _ z; have c1 := K1.out _ z; (try replace q1 := Q1.out _ z); (try replace q2 := Q2.out _ z))
              | (go_at_call 48; (with_reducible refine (implValidAlgebra_any a b ca cb L T _ (KR.out _ z) (KT.out _ z)).mono ?_); rw [hA]; rintro e wz ⟨rfl, hb⟩; replace z := z.trans (hb.mono z.size); (try clear c0 c1); have c0 := K0.out _ z; have c1 := K1.out _ z; (try replace q1 := Q1.out _ z); (try replace q2 := Q2.out _ z))
              | (go_at_call 37; (with_reducible refine (implValidTerm_any pa pc p _ (Kpp.out _ z) (by omega) hpc).mono ?_); rw [hp]; rintro e wz ⟨rfl, hb⟩; replace z := z.trans (hb.mono z.size); (try clear c0 c1); have c0 := K0.out _ z; have c1 := K1.out _ z; (try replace q1 := Q1.out _ z); (try replace q2 := Q2.out _ z))
              | (go_at_call 37; (with_reducible refine (implValidTerm_any ta tc t _ (Ktt.out _ z) (by omega) htc).mono ?_); rw [ht]; rintro e wz ⟨rfl, hb⟩; replace z := z.trans (hb.mono z.size); (try clear c0 c1); have c0 := K0.out _ z; have c1 := K1.out _ z; (try replace q1 := Q1.out _ z); (try replace q2 := Q2.out _ z))
              | (go_at_call 31; (with_reducible refine (implIsTrue_any a b ca cb L T ta tc t _ (KR.out _ z) (KT.out _ z) (Ktt.out _ z) (by omega) htc).mono ?_); rw [hit]; rintro e wz ⟨rfl, hb⟩; replace z := z.trans (hb.mono z.size); (try clear c0 c1); have c0 := K0.out _ z; have c1 := K1.out _ z; (try replace q1 := Q1.out _ z); (try replace q2 := Q2.out _ z))
              | (go_at_call 33; (with_reducible refine (implFollows_any a b ca cb L T pa pc p ta tc t _ (KR.out _ z) (KT.out _ z) (Kpp.out _ z) (Ktt.out _ z) (by omega) (by omega) hpc htc).mono ?_); rw [HFL.out]; rintro e wz ⟨rfl, hb⟩; replace z := z.trans (hb.mono z.size); (try clear c0 c1); have c0 := K0.out _ z; have c1 := K1.out _ z; (try replace q1 := Q1.out _ z); (try replace q2 := Q2.out _ z)))
              go_ret
              exact ⟨rfl, FIN.out _ z⟩
            · have hkb : (V0 == 0) = false := by rw [beq_eq_false_iff_ne]; exact hk
              rw [hkb] at hit
              clear hk
              go_wp2_with (first
              | go_skip
              | (refine wpList_store_row rfl 33 _ _ rfl w1.heap.size #[.slice a L.length ca, .slice b T.length cb] rfl rfl _ _ (heap_alloc_new w1 (.cells #[.slice none 0 0, .slice none 0 0] 33)) (size_Alg _ _) rfl (one_sl2 _ _ _ _ _ _) ?_; rw [World.setRow_alloc_new]; rw [← hw2, ← hg]; clear hw2 hg)
              | (refine wpList_store_row rfl 33 _ _ rfl w1.heap.size #[.slice a L.length ca, .slice (some ⟨B, off, none⟩) T.length cb] rfl rfl _ _ (heap_alloc_new w1 (.cells #[.slice none 0 0, .slice none 0 0] 33)) (size_Alg _ _) rfl (one_sl2 _ _ _ _ _ _) ?_; rw [World.setRow_alloc_new]; rw [← hw2, ← hg]; clear hw2 hg)
              | (refine wpList_load_row_w rfl 33 _ rfl g rfl _ _ _ _ (KX.out _ z) Try.underlying33 rfl (size_Alg _ _) ?_)
              | (go_at_call 35; (with_reducible refine (implLeastPower_any a b ca cb L T pa pc p ta tc t _ (KR.out _ z) (KT.out _ z) (Kpp.out _ z) (Ktt.out _ z) (by omega) (by omega) hpc htc).mono ?_); rw [hV0, hV1]; rintro e wz ⟨rfl, hb⟩; replace z := z.trans (hb.mono z.size); (try clear c0 c1); have c0 := K0.out _ z; have c1 := K1.out _ z; (try replace q1 := Q1.out _ z); (try replace q2 := Q2.out _ z))
              | (go_at_call 34; (with_reducible refine (specLeastPower_any a b ca cb L T pa pc p ta tc t _ (KR.out _ z) (KT.out _ z) (Kpp.out _ z) (Ktt.out _ z) (by omega) (by omega)).mono ?_); rw [hV0, hV1]; rintro e wz ⟨rfl, hb⟩; replace z := z.trans (hb.mono z.size); (try clear c0 c1); have c0 := K0.out _ z; have c1 := K1.out _ z; (try replace q1 := Q1.out _ z); (try replace q2 := Q2.out _ z))
              | (go_at_call 48; (with_reducible refine (implValidAlgebra_any a b ca cb L T _ (KR.out _ z) (KT.out _ z)).mono ?_); rw [hA]; rintro e wz ⟨rfl, hb⟩; replace z := z.trans (hb.mono z.size); (try clear c0 c1); have c0 := K0.out _ z; have c1 := K1.out _ z; (try replace q1 := Q1.out _ z); (try replace q2 := Q2.out _ z))
              | (go_at_call 37; (with_reducible refine (implValidTerm_any pa pc p _ (Kpp.out _ z) (by omega) hpc).mono ?_); rw [hp]; rintro e wz ⟨rfl, hb⟩; replace z := z.trans (hb.mono z.size); (try clear c0 c1); have c0 := K0.out _ z; have c1 := K1.out _ z; (try replace q1 := Q1.out _ z); (try replace q2 := Q2.out _ z))
              | (go_at_call 37; (with_reducible refine (implValidTerm_any ta tc t _ (Ktt.out _ z) (by omega) htc).mono ?_); rw [ht]; rintro e wz ⟨rfl, hb⟩; replace z := z.trans (hb.mono z.size); (try clear c0 c1); have c0 := K0.out _ z; have c1 := K1.out _ z; (try replace q1 := Q1.out _ z); (try replace q2 := Q2.out _ z))
              | (go_at_call 31; (with_reducible refine (implIsTrue_any a b ca cb L T ta tc t _ (KR.out _ z) (KT.out _ z) (Ktt.out _ z) (by omega) htc).mono ?_); rw [hit]; rintro e wz ⟨rfl, hb⟩; replace z := z.trans (hb.mono z.size); (try clear c0 c1); have c0 := K0.out _ z; have c1 := K1.out _ z; (try replace q1 := Q1.out _ z); (try replace q2 := Q2.out _ z))
              | (go_at_call 33; (with_reducible refine (implFollows_any a b ca cb L T pa pc p ta tc t _ (KR.out _ z) (KT.out _ z) (Kpp.out _ z) (Ktt.out _ z) (by omega) (by omega) hpc htc).mono ?_); rw [HFL.out]; rintro e wz ⟨rfl, hb⟩; replace z := z.trans (hb.mono z.size); (try clear c0 c1); have c0 := K0.out _ z; have c1 := K1.out _ z; (try replace q1 := Q1.out _ z); (try replace q2 := Q2.out _ z)))
              go_ret
              exact ⟨rfl, FIN.out _ z⟩
end Go.Proofs.Ytidbilgnclfplaa
