import Derived.Test.YtidbilgnclfplaaTD2
import Derived.Test.YtidbilgnclfplaaTM22
import Derived.Test.YtidbilgnclfplaaSL0
namespace Go.Proofs.Ytidbilgnclfplaa
open Go.RowKit

set_option linter.unusedVariables false
theorem vlI_ge {L : List Int} {T : List (List Int)} {t N : List Int} (h : algB L T = true) (hv : vtB t = true) (hN : ∀ i, 0 ≤ i → i < 3 → El L (nth N i)) : 0 ≤ vlI L T N t.length t := (vlI_el h hN t.length t [] (vtB_parts hv).2).1
theorem rfI_some {L : List Int} {T : List (List Int)} {t v : List Int} (h : rfI L T t = some v) : algB L T = true ∧ vtB t = true ∧ v.length = 3 ∧ (∀ i, 0 ≤ i → i < 3 → El L (nth v i)) ∧ hdB L T t v = false ∧ vofI L T t v = vlI L T v t.length t ∧ itB L T t = false := by
  unfold rfI at h
  split at h
  · rename_i hav
    have hav' := hav
    rw [Bool.and_eq_true] at hav'
    have h3 := h
    obtain ⟨x, y, z, x0, x1, y0, y1, z0, z1, rfl, hp⟩ := f3_is h
    have he := el3 x0 x1 y0 y1 z0 z1
    have hq : hdB L T t [x, y, z] = false := by simpa using hp
    have hn : nmB L [x, y, z] = true := by
      unfold nmB
      rw [Bool.and_eq_true, decide_eq_true_eq, allI_iff]
      refine ⟨fun i i0 i1 => ?_, rfl⟩
      have := he i i0 (by have : num [x, y, z] = 3 := rfl; omega)
      unfold nmR
      rw [decide_eq_true this.1, decide_eq_true (show nth [x, y, z] i ≤ num L - 1 by have := this.2; omega)]
      rfl
    refine ⟨hav'.1, hav'.2, rfl, he, hq, ?_, ?_⟩
    · unfold vofI
      rw [hn, hav'.1, hav'.2]
      rfl
    · unfold itB
      rw [hav, h3]
      rfl
  · cases h
set_option maxRecDepth 100000 in
set_option maxHeartbeats 2000000 in
/-- laws.FnRefuteTerm -/
theorem lawPRefuteTerm (a0 : Option Addr) (len0 cap0 : Nat) (w : World) (hy : RdY w a0 len0 w.heap.size) (hc : len0 ≤ cap0) (hm : len0 ≤ maxLen) :
    Calls Try.prog 13 #[.slice a0 len0 cap0] w fun e w' => e = .returned (.bool true) ∧ Below w.heap.size w w' := by
  by_cases hbig : 1048576 < len0
  · have hbig2 : (1048576 : Int) < len0 := by omega
    go_enter Try.func13, Try.ntmps13
    go_wp2
    go_ret
    exact ⟨rfl, Below.refl _ _⟩
  · have hs : len0 ≤ 1048576 := by omega
    have hs2 : ¬ (1048576 : Int) < len0 := by omega
    go_enter Try.func13, Try.ntmps13
    go_wp2_with fail
    refine (drawRefuteTerm_any a0 len0 cap0 w hy hc hs).mono ?_
    rintro e w1 ⟨L, T, a, ca, b, cb, t, ta, tc, rfl, ⟨hP, hr, hT, hb⟩, htm, hct, hlt⟩
    have _ := hm
    clear hs hs2 hbig hy hm hc
    obtain ⟨l1, l7, t6, r6⟩ := someP_len hP
    have hM : (L.length : Int) ≤ 9223372036854775807 := by omega
    obtain ⟨g, hg⟩ : ∃ g, g = w1.heap.size := ⟨_, rfl⟩
    obtain ⟨w2, hw2⟩ : ∃ w2, w2 = w1.alloc (.cells #[.slice a L.length ca, .slice b T.length cb] 33) := ⟨_, rfl⟩
    have hB : Below w.heap.size w w2 := by rw [hw2]; exact hb.alloc hb.size _
    have hB2 : Below w1.heap.size w1 w2 := by rw [hw2]; exact (Below.refl _ _).alloc (Nat.le_refl _) _
    have hx2 : w2.heap[g]? = some (.cells #[.slice a L.length ca, .slice b T.length cb] 33 (0, 0)) := by rw [hw2, hg]; exact heap_alloc_new w1 _
    have KX := Lib.hid (show ∀ wz, Below w2.heap.size w2 wz → wz.heap[g]? = some (.cells #[.slice a L.length ca, .slice b T.length cb] 33 (0, 0)) from fun wz h => (h.block _ (lt_of_block hx2)).trans hx2)
    have K0 := Lib.hid (show ∀ wz, Below w2.heap.size w2 wz → wz.cell? ⟨g, 0, none⟩ = some (.slice a L.length ca) from fun wz h => (bx_cells (KX.out _ h)).1)
    have K1 := Lib.hid (show ∀ wz, Below w2.heap.size w2 wz → wz.cell? ⟨g, 1, none⟩ = some (.slice b T.length cb) from fun wz h => (bx_cells (KX.out _ h)).2)
    have KR := Lib.hid (show ∀ wz, Below w2.heap.size w2 wz → Rd wz a L from fun wz h => (hr.below hB2).below h)
    have KT := Lib.hid (show ∀ wz, Below w2.heap.size w2 wz → RdT wz b T from fun wz h => (hT.below hB2).below h)
    have Kt := Lib.hid (show ∀ wz, Below w2.heap.size w2 wz → Rd wz ta t from fun wz h => (htm.below hB2).below h)
    have FIN := Lib.hid (show ∀ wz, Below w2.heap.size w2 wz → Below w.heap.size w wz from fun wz h => hB.trans (h.mono hB.size))
    have z : Below w2.heap.size w2 w2 := Below.refl _ _
    have HP := Lib.hid hP
    clear hP hr hT hb hB hB2 hx2 r6 htm
    have c0 := K0.out _ z
    have c1 := K1.out _ z
    obtain ⟨V, hV0⟩ : ∃ V, (rfI L T t).getD [] = V := ⟨_, rfl⟩
    have hVl : V.length ≤ 3 := by
      rw [← hV0]
      cases h : rfI L T t with
      | none => exact Nat.zero_le _
      | some v => exact Nat.le_of_eq (rfI_some h).2.2.1
    cases hV1 : (rfI L T t).isSome with
    | false =>
      go_wp2_with (first
      | go_skip
      | (refine wpList_store_row rfl 33 _ _ rfl w1.heap.size #[.slice a L.length ca, .slice b T.length cb] rfl rfl _ _ (heap_alloc_new w1 (.cells #[.slice none 0 0, .slice none 0 0] 33)) (size_Alg _ _) rfl (one_sl2 _ _ _ _ _ _) ?_; rw [World.setRow_alloc_new]; rw [← hw2, ← hg]; clear hw2 hg)
      | (refine wpList_store_row rfl 33 _ _ rfl w1.heap.size #[.slice a L.length ca, .slice (some ⟨B, off, none⟩) T.length cb] rfl rfl _ _ (heap_alloc_new w1 (.cells #[.slice none 0 0, .slice none 0 0] 33)) (size_Alg _ _) rfl (one_sl2 _ _ _ _ _ _) ?_; rw [World.setRow_alloc_new]; rw [← hw2, ← hg]; clear hw2 hg)
      | (refine wpList_load_row_w rfl 33 _ rfl g rfl _ _ _ _ (KX.out _ z) Try.underlying33 rfl (size_Alg _ _) ?_)
      | (go_at_call 28; refine (implRefuteTerm_any _ _ _ _ L T _ _ t _ (KR.out _ z) (KT.out _ z) (Kt.out _ z) (by omega) hct).mono ?_; rw [hV0, hV1]; rintro e wG ⟨ga, gn, gc, rfl, gG, hb⟩; replace z := z.trans (hb.mono z.size); (try clear c0 c1); have c0 := K0.out _ z; have c1 := K1.out _ z; (try replace q1 := Q1.out _ z); (try replace q2 := Q2.out _ z); have zG : Below wG.heap.size wG wG := Below.refl _ _; obtain ⟨ga', gc', eg, rg⟩ := gG.rd; injection eg with eg1 eg2 eg3; subst eg1 eg2 eg3; have KG := Lib.hid (show ∀ wz, Below wG.heap.size wG wz → Rd wz ga V from fun wz h => rg.below h); have FG := Lib.hid z; clear gG rg)
      | (go_at_call 27; refine (specRefuteTerm_any _ _ _ _ L T _ _ t _ (KR.out _ z) (KT.out _ z) (Kt.out _ z) (by omega)).mono ?_; rw [hV0, hV1]; rintro e wS ⟨sa, sn, sc, rfl, gS, hb⟩; replace z := z.trans (hb.mono z.size); replace zG := zG.trans (hb.mono zG.size); (try clear c0 c1); have c0 := K0.out _ z; have c1 := K1.out _ z; (try replace q1 := Q1.out _ z); (try replace q2 := Q2.out _ z); obtain ⟨sa', sc', es, rs⟩ := gS; injection es with es1 es2 es3; subst es1 es2 es3; have zS : Below wS.heap.size wS wS := Below.refl _ _; have KS := Lib.hid (show ∀ wz, Below wS.heap.size wS wz → Rd wz sa V from fun wz h => rs.below h); clear rs)
      | (go_at_call 42; refine (equalIntsA_is _ _ _ _ V V _ (KG.out _ zG) (KS.out _ zS) (by omega) (eqL_same V)).mono ?_; rintro e wE ⟨rfl, hb⟩; replace zS := zS.trans (hb.mono zS.size); replace z := z.trans (hb.mono z.size); replace zG := zG.trans (hb.mono zG.size); (try clear c0 c1); have c0 := K0.out _ z; have c1 := K1.out _ z; (try replace q1 := Q1.out _ z); (try replace q2 := Q2.out _ z)))
      go_ret
      exact ⟨rfl, FIN.out _ z⟩
    | true =>
      obtain ⟨v, hv⟩ := Option.isSome_iff_exists.1 hV1
      obtain ⟨hA, hvt, hv3, hEl, hq, hvo, hit⟩ := rfI_some hv
      have hVv : V = v := by rw [← hV0, hv]; rfl
      subst hVv
      have hge := vlI_ge hA hvt hEl
      obtain ⟨U, hU⟩ : ∃ U, U = vlI L T V t.length t := ⟨_, rfl⟩
      have hne : (U != (L.length : Int) - 1) = true := by
        have : (vlI L T V t.length t == num L - 1) = false := hq
        rw [← hU] at this
        rw [bne]
        show (!(U == num L - 1)) = true
        rw [this]; rfl
      have hge2 : decide (U ≥ 0) = true := by rw [hU]; exact decide_eq_true hge
      have hge3 : U ≥ 0 := by rw [hU]; exact hge
      rw [← hU] at hvo
      clear hge hU hq hEl hv3
      go_wp2_with (first
      | go_skip
      | (refine wpList_store_row rfl 33 _ _ rfl w1.heap.size #[.slice a L.length ca, .slice b T.length cb] rfl rfl _ _ (heap_alloc_new w1 (.cells #[.slice none 0 0, .slice none 0 0] 33)) (size_Alg _ _) rfl (one_sl2 _ _ _ _ _ _) ?_; rw [World.setRow_alloc_new]; rw [← hw2, ← hg]; clear hw2 hg)
      | (refine wpList_store_row rfl 33 _ _ rfl w1.heap.size #[.slice a L.length ca, .slice (some ⟨B, off, none⟩) T.length cb] rfl rfl _ _ (heap_alloc_new w1 (.cells #[.slice none 0 0, .slice none 0 0] 33)) (size_Alg _ _) rfl (one_sl2 _ _ _ _ _ _) ?_; rw [World.setRow_alloc_new]; rw [← hw2, ← hg]; clear hw2 hg)
      | (refine wpList_load_row_w rfl 33 _ rfl g rfl _ _ _ _ (KX.out _ z) Try.underlying33 rfl (size_Alg _ _) ?_)
      | (go_at_call 28; refine (implRefuteTerm_any _ _ _ _ L T _ _ t _ (KR.out _ z) (KT.out _ z) (Kt.out _ z) (by omega) hct).mono ?_; rw [hV0, hV1]; rintro e wG ⟨ga, gn, gc, rfl, gG, hb⟩; replace z := z.trans (hb.mono z.size); (try clear c0 c1); have c0 := K0.out _ z; have c1 := K1.out _ z; (try replace q1 := Q1.out _ z); (try replace q2 := Q2.out _ z); have zG : Below wG.heap.size wG wG := Below.refl _ _; obtain ⟨ga', gc', eg, rg⟩ := gG.rd; injection eg with eg1 eg2 eg3; subst eg1 eg2 eg3; have KG := Lib.hid (show ∀ wz, Below wG.heap.size wG wz → Rd wz ga V from fun wz h => rg.below h); have FG := Lib.hid z; clear gG rg)
      | (go_at_call 27; refine (specRefuteTerm_any _ _ _ _ L T _ _ t _ (KR.out _ z) (KT.out _ z) (Kt.out _ z) (by omega)).mono ?_; rw [hV0, hV1]; rintro e wS ⟨sa, sn, sc, rfl, gS, hb⟩; replace z := z.trans (hb.mono z.size); replace zG := zG.trans (hb.mono zG.size); (try clear c0 c1); have c0 := K0.out _ z; have c1 := K1.out _ z; (try replace q1 := Q1.out _ z); (try replace q2 := Q2.out _ z); obtain ⟨sa', sc', es, rs⟩ := gS; injection es with es1 es2 es3; subst es1 es2 es3; have zS : Below wS.heap.size wS wS := Below.refl _ _; have KS := Lib.hid (show ∀ wz, Below wS.heap.size wS wz → Rd wz sa V from fun wz h => rs.below h); clear rs)
      | (go_at_call 42; refine (equalIntsA_is _ _ _ _ V V _ (KG.out _ zG) (KS.out _ zS) (by omega) (eqL_same V)).mono ?_; rintro e wE ⟨rfl, hb⟩; replace zS := zS.trans (hb.mono zS.size); replace z := z.trans (hb.mono z.size); replace zG := zG.trans (hb.mono zG.size); (try clear c0 c1); have c0 := K0.out _ z; have c1 := K1.out _ z; (try replace q1 := Q1.out _ z); (try replace q2 := Q2.out _ z)))
      have KV := Lib.hid (fun (wz : World) (h1 : Below w2.heap.size w2 wz) (h2 : Below wG.heap.size wG wz) => ret_to (implValueOf_any a b ca cb L T ta tc t ga gc V wz (KR.out _ h1) (KT.out _ h1) (Kt.out _ h1) (KG.out _ h2) (by omega) (by omega) hct) (congrArg (Value.int .i64) hvo))
      have KI := Lib.hid (fun (wz : World) (h1 : Below w2.heap.size w2 wz) => ret_to (implIsTrue_any a b ca cb L T ta tc t wz (KR.out _ h1) (KT.out _ h1) (Kt.out _ h1) (by omega) hct) (congrArg Value.bool hit))
      clear hvo hit hV0 hV1 hv hA hvt c0 c1
      refine region_in (Below wE.heap.size wE) (by kernel_rfl) (by kernel_rfl) (Dr.below ⟨1, rfl⟩ _) fun hne => ?_
      have r0 : ∀ s : In (Below wE.heap.size wE), s.w.cell? ⟨g, 0, none⟩ = some (.slice a L.length ca) := fun s => K0.out _ (in_trans z s)
      repeat (first
        | (go_big_quiet_want; refine quiet_load_row 33 _ rfl g rfl _ _ _ _ (fun w' ⟨s, hs⟩ => by rw [hs]; exact KX.out _ (in_trans z s)) Try.underlying33 rfl (size_Alg _ _) ?_; simp only [Act.put, List.setIfInBounds_toArray, List.set_cons_succ, List.set_cons_zero]; go_big_quiet_on)
        | go_big_quiet_step ((first | (go_at_call 25; exact in_below _ (Nat.le_refl _) (KV.out _ (in_trans z (by assumption)) (in_trans zG (by assumption)))) | (go_at_call 31; exact in_below _ (Nat.le_refl _) (KI.out _ (in_trans z (by assumption)))))))
      refine wpQuiet_nil ?_
      intro s
      have z4 := in_trans z s
      have hs7 := s.h
      obtain ⟨w7, hw7⟩ : ∃ x : World, x = s.w := ⟨_, rfl⟩
      rw [← hw7] at z4 hs7 ⊢
      clear hw7
      clear r0
      go_wp2
      go_ret
      exact ⟨rfl, FIN.out _ z4⟩
end Go.Proofs.Ytidbilgnclfplaa
