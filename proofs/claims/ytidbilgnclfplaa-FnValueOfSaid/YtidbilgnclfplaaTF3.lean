import Derived.Test.YtidbilgnclfplaaTD3
import Derived.Test.YtidbilgnclfplaaTF1
import Derived.Test.YtidbilgnclfplaaTM12
import Derived.Test.YtidbilgnclfplaaSL0
namespace Go.Proofs.Ytidbilgnclfplaa
open Go.RowKit

set_option linter.unusedVariables false
theorem vlI_app {L : List Int} {T : List (List Int)} {N : List Int} : ∀ (k : Nat) (t r q : List Int), tmR k t = some r → vlI L T N k (t ++ q) = vlI L T N k t
  | 0, _, _, _, h => by cases h
  | _ + 1, [], _, _, h => by cases h
  | k + 1, x :: t, r, q, h => by
    rw [List.cons_append]
    cases h1 : isLf x with
    | true => rw [vlI_leaf h1, vlI_leaf h1]
    | false =>
      by_cases h2 : x = 12
      · rw [tmR_opp h1 h2] at h; rw [vlI_opp h1 h2, vlI_opp h1 h2, vlI_app k t r q h]
      · cases h3 : isSg x with
        | false => rw [tmR_no h1 h2 h3] at h; cases h
        | true =>
          rw [tmR_sign h1 h2 h3] at h
          cases h4 : tmR k t with
          | none => rw [h4] at h; cases h
          | some p =>
            rw [h4] at h
            rw [vlI_sign h1 h2 h4, vlI_sign h1 h2 (tmR_app k t p q h4), vlI_app k t p q h4, vlI_app k p r q h]
theorem vtB_two {t : List Int} (x : Int) (hx : isSg x = true) (h : vtB t = true) {q : List Int} (hq : vtB q = true) (hl : t.length + q.length < 15) : vtB (x :: (t ++ q)) = true ∧ tmR (t ++ q).length (t ++ q) = some q ∧ tmR (t ++ q).length q = some [] := by
  obtain ⟨_, e⟩ := vtB_parts h
  obtain ⟨_, e2⟩ := vtB_parts hq
  obtain ⟨g1, g2⟩ := sg_leaf hx
  have m1 : tmR (t ++ q).length (t ++ q) = some q := by
    have := tmR_app t.length t [] q e
    exact tmR_mono _ _ _ _ this (by simp)
  have m2 : tmR (t ++ q).length q = some [] := tmR_mono _ _ _ _ e2 (by simp)
  refine ⟨?_, m1, m2⟩
  unfold vtB
  rw [List.length_cons, tmR_sign g1 g2 hx, m1]
  show (decide _ && (tmR (t ++ q).length q == some [])) = true
  rw [m2, decide_eq_true (by rw [List.length_append]; omega)]
  rfl
theorem vof_parts {L : List Int} {T : List (List Int)} {t N : List Int} (h : 0 ≤ vofI L T t N) : algB L T = true ∧ vtB t = true ∧ nmB L N = true ∧ vofI L T t N = vlI L T N t.length t := by
  unfold vofI at h ⊢
  cases hc : algB L T && (vtB t && nmB L N) with
  | false => (rw [hc] at h; have h' : (0 : Int) ≤ -1 := h; omega)
  | true =>
    rw [if_pos rfl]
    rw [Bool.and_eq_true, Bool.and_eq_true] at hc
    exact ⟨hc.1, hc.2.1, hc.2.2, rfl⟩
theorem vof_not {L : List Int} {T : List (List Int)} {t N : List Int} (hA : algB L T = true) (hv : vtB t = true) (hn : nmB L N = true) (hl : t.length < 15) : vofI L T ([12] ++ t) N = notI L T (vlI L T N t.length t) := by
  obtain ⟨_, hNe⟩ := nmB_parts hn
  have e := vlI_el hA hNe t.length t [] (vtB_parts hv).2
  rw [not_el hA e]
  unfold vofI
  rw [hA, hn, show vtB ([12] ++ t) = true from vtB_not hv hl]
  show vlI L T N (t.length + 1) (12 :: t) = _
  exact vlI_opp (by decide) rfl
theorem vof_same {L : List Int} {T : List (List Int)} {t N : List Int} (hA : algB L T = true) (hv : vtB t = true) (hn : nmB L N = true) (hl : 2 * t.length < 15) : vofI L T ([16] ++ t ++ t) N = num L - 1 := by
  obtain ⟨_, hNe⟩ := nmB_parts hn
  have e := vlI_el hA hNe t.length t [] (vtB_parts hv).2
  obtain ⟨h1, h2, h3⟩ := vtB_two 16 (by decide) hv hv (by omega)
  unfold vofI
  rw [hA, hn, show vtB ([16] ++ t ++ t) = true from h1]
  show vlI L T N ((t ++ t).length + 1) (16 :: (t ++ t)) = _
  have f1 : vlI L T N (t ++ t).length (t ++ t) = vlI L T N t.length t := by
    rw [vlI_mono t.length _ (t ++ t) t (tmR_app t.length t [] t (vtB_parts hv).2) (by simp), vlI_app t.length t [] t (vtB_parts hv).2]
  have f2 : vlI L T N (t ++ t).length t = vlI L T N t.length t := vlI_mono _ _ _ _ (vtB_parts hv).2 (by simp)
  rw [vlI_sign (by decide) (by decide) h2, f1, f2]
  show imp L T _ _ = _
  exact imp_self hA e
set_option maxRecDepth 100000 in
set_option maxHeartbeats 2000000 in
/-- laws.FnValueOf -/
theorem lawPValueOf (a0 : Option Addr) (len0 cap0 : Nat) (w : World) (hy : RdY w a0 len0 w.heap.size) (hc : len0 ≤ cap0) (hm : len0 ≤ maxLen) :
    Calls Try.prog 12 #[.slice a0 len0 cap0] w fun e w' => e = .returned (.bool true) ∧ Below w.heap.size w w' := by
  by_cases hbig : 1048576 < len0
  · have hbig2 : (1048576 : Int) < len0 := by omega
    go_enter Try.func12, Try.ntmps12
    go_wp2
    go_ret
    exact ⟨rfl, Below.refl _ _⟩
  · have hs : len0 ≤ 1048576 := by omega
    have hs2 : ¬ (1048576 : Int) < len0 := by omega
    obtain ⟨i0, hi, hi0, hi1, hi2⟩ := info_parts info_int
    go_enter Try.func12, Try.ntmps12
    go_wp2_with fail
    refine (drawValueOf_any a0 len0 cap0 w hy hc hs).mono ?_
    rintro e w1 ⟨L, T, a, ca, b, cb, t, ta, tc, N, na, nc, rfl, ⟨hP, hr, hT, hb⟩, htm, hct, hlt, hnm, hnl⟩
    have _ := hm
    clear hs hs2 hbig hy hm hc
    obtain ⟨l1, l7, t6, r6⟩ := someP_len hP
    have hM : (L.length : Int) ≤ 9223372036854775807 := by omega
    obtain ⟨g, hg⟩ : ∃ g, g = w1.heap.size := ⟨_, rfl⟩
    obtain ⟨w2, hw2⟩ : ∃ w2, w2 = w1.alloc (.cells #[.slice a L.length ca, .slice b T.length cb] 33) := ⟨_, rfl⟩
    have hB : Below w.heap.size w w2 := by rw [hw2]; exact hb.alloc hb.size _
    have hB2 : Below w1.heap.size w1 w2 := by rw [hw2]; exact (Below.refl _ _).alloc (Nat.le_refl _) _
    have hx2 : w2.heap[g]? = some (.cells #[.slice a L.length ca, .slice b T.length cb] 33 (0, 0)) := by rw [hw2, hg]; exact heap_alloc_new w1 _
    have KX := Lib.hid (show ∀ wz, Below w2.heap.size w2 wz → wz.heap[g]? = some (.cells #[.slice a L.length ca, .slice b T.length cb] 33 (0, 0)) from fun wz h => (h.block _ (lt_of_block hx2)).trans hx2)
    have K0 := Lib.hid (show ∀ wz, Below w2.heap.size w2 wz → wz.cell? ⟨g, 0, none⟩ = some (.slice a L.length ca) from fun wz h => (bx_cells (KX.out _ h)).1)
    have K1 := Lib.hid (show ∀ wz, Below w2.heap.size w2 wz → wz.cell? ⟨g, 1, none⟩ = some (.slice b T.length cb) from fun wz h => (bx_cells (KX.out _ h)).2)
    have KR := Lib.hid (show ∀ wz, Below w2.heap.size w2 wz → Rd wz a L from fun wz h => (hr.below hB2).below h)
    have KT := Lib.hid (show ∀ wz, Below w2.heap.size w2 wz → RdT wz b T from fun wz h => (hT.below hB2).below h)
    have Kt := Lib.hid (show ∀ wz, Below w2.heap.size w2 wz → Rd wz ta t from fun wz h => (htm.below hB2).below h)
    have KN := Lib.hid (show ∀ wz, Below w2.heap.size w2 wz → Rd wz na N from fun wz h => (hnm.below hB2).below h)
    have FIN := Lib.hid (show ∀ wz, Below w2.heap.size w2 wz → Below w.heap.size w wz from fun wz h => hB.trans (h.mono hB.size))
    have z : Below w2.heap.size w2 w2 := Below.refl _ _
    have HP := Lib.hid hP
    clear hP hr hT hb hB hB2 hx2 r6 htm hnm
    have c0 := K0.out _ z
    have c1 := K1.out _ z
    obtain ⟨V, hV⟩ : ∃ V, vofI L T t N = V := ⟨_, rfl⟩
    by_cases hneg : V < 0
    · have hd : decide (V < 0) = true := decide_eq_true hneg
      have hne : (V != V) = false := by simp
      have heq : (V == V) = true := by simp
      go_wp2_with (first
      | go_skip
      | (refine wpList_store_row rfl 33 _ _ rfl w1.heap.size #[.slice a L.length ca, .slice b T.length cb] rfl rfl _ _ (heap_alloc_new w1 (.cells #[.slice none 0 0, .slice none 0 0] 33)) (size_Alg _ _) rfl (one_sl2 _ _ _ _ _ _) ?_; rw [World.setRow_alloc_new]; rw [← hw2, ← hg]; clear hw2 hg)
      | (refine wpList_store_row rfl 33 _ _ rfl w1.heap.size #[.slice a L.length ca, .slice (some ⟨B, off, none⟩) T.length cb] rfl rfl _ _ (heap_alloc_new w1 (.cells #[.slice none 0 0, .slice none 0 0] 33)) (size_Alg _ _) rfl (one_sl2 _ _ _ _ _ _) ?_; rw [World.setRow_alloc_new]; rw [← hw2, ← hg]; clear hw2 hg)
      | (refine wpList_load_row_w rfl 33 _ rfl g rfl _ _ _ _ (KX.out _ z) Try.underlying33 rfl (size_Alg _ _) ?_)
      | (go_at_call 25; refine (implValueOf_any _ _ _ _ L T _ _ t _ _ N _ (KR.out _ z) (KT.out _ z) (Kt.out _ z) (KN.out _ z) (by omega) (by omega) hct).mono ?_; rw [hV]; rintro e wz ⟨rfl, hb⟩; replace z := z.trans (hb.mono z.size); (try clear c0 c1); have c0 := K0.out _ z; have c1 := K1.out _ z; (try replace q1 := Q1.out _ z); (try replace q2 := Q2.out _ z))
      | (go_at_call 22; refine (specValueOf_any _ _ _ _ L T _ _ t _ _ N _ (KR.out _ z) (KT.out _ z) (Kt.out _ z) (KN.out _ z) (by omega) (by omega)).mono ?_; rw [hV]; rintro e wz ⟨rfl, hb⟩; replace z := z.trans (hb.mono z.size); (try clear c0 c1); have c0 := K0.out _ z; have c1 := K1.out _ z; (try replace q1 := Q1.out _ z); (try replace q2 := Q2.out _ z)))
      go_ret
      exact ⟨rfl, FIN.out _ z⟩
    · have hge : 0 ≤ vofI L T t N := by rw [hV]; omega
      obtain ⟨hA, hvt, hn, hvl⟩ := vof_parts hge
      obtain ⟨hN3, hNe⟩ := nmB_parts hn
      have hVl : V = vlI L T N t.length t := by rw [← hV]; exact hvl
      have hEV : El L V := by rw [hVl]; exact vlI_el hA hNe t.length t [] (vtB_parts hvt).2
      obtain ⟨l15, _⟩ := vtB_parts hvt
      obtain ⟨tb, tof, rfl⟩ := rd_some (Kt.out _ z) (vtB_some hvt).2
      have HNOT := Lib.hid (fun (hl : t.length < 15) => vof_not hA hvt hn hl)
      have HSAME := Lib.hid (fun (hl : 2 * t.length < 15) => vof_same hA hvt hn hl)
      rw [← hVl] at HNOT
      have hd : decide (V < 0) = false := decide_eq_false hneg
      have hne : (V != V) = false := by simp
      clear hge hA hvt hn hvl hN3 hNe hVl hEV
      go_wp2_with (first
      | go_skip
      | (refine wpList_store_row rfl 33 _ _ rfl w1.heap.size #[.slice a L.length ca, .slice b T.length cb] rfl rfl _ _ (heap_alloc_new w1 (.cells #[.slice none 0 0, .slice none 0 0] 33)) (size_Alg _ _) rfl (one_sl2 _ _ _ _ _ _) ?_; rw [World.setRow_alloc_new]; rw [← hw2, ← hg]; clear hw2 hg)
      | (refine wpList_store_row rfl 33 _ _ rfl w1.heap.size #[.slice a L.length ca, .slice (some ⟨B, off, none⟩) T.length cb] rfl rfl _ _ (heap_alloc_new w1 (.cells #[.slice none 0 0, .slice none 0 0] 33)) (size_Alg _ _) rfl (one_sl2 _ _ _ _ _ _) ?_; rw [World.setRow_alloc_new]; rw [← hw2, ← hg]; clear hw2 hg)
      | (refine wpList_load_row_w rfl 33 _ rfl g rfl _ _ _ _ (KX.out _ z) Try.underlying33 rfl (size_Alg _ _) ?_)
      | (at_builtin; refine wpList_append_own _ rfl _ _ 22 rfl w5.heap.size 3 i0 (.int .i64 0) 1 8 Try.underlying22 hi hi0 hi1 hi2 rfl (by decide) _ _ _ rfl ho6 ⟨tb, tof, none⟩ t.length tc (t.map fun x => Value.int .i64 x) rfl (by simp) (rd_cells (Kt.out _ z)) (fun x hx => by simp at hx; obtain ⟨y, _, rfl⟩ := hx; rfl) (by unfold maxLen; first | omega | (simp; omega)) (by first | omega | (simp; omega)) hb56.size ?_; intro v7 w7 hown hgrow _; have ho7 : Own w5.heap.size w7 v7 (R2 ++ t) := (by unfold Own; rw [List.map_append, List.length_append]; exact hown); have hb57 : Below w5.heap.size w5 w7 := hb56.grown hgrow hb56.size (fun q hq => (World.ownsRow.lt ho6 q hq).1); have ho57 := ho5.below hb57; replace z := zA.trans (hb57.mono zA.size); obtain ⟨R3, hR3⟩ : ∃ R, R = R2 ++ t := ⟨_, rfl⟩; rw [← hR3] at ho7; have HR3 := Lib.hid hR3; have hR3m : R3.length ≤ 100 := (by rw [hR3, List.length_append]; omega); clear hown hgrow hR3 ho56 ho6 hb56; obtain ⟨sa, sc, rfl, _⟩ := ho7.slice; (try clear c0 c1); have c0 := K0.out _ z; have c1 := K1.out _ z; (try replace q1 := Q1.out _ z); (try replace q2 := Q2.out _ z))
      | (at_builtin; refine wpList_append_own _ rfl _ _ 22 rfl w2.heap.size 3 i0 (.int .i64 0) 1 8 Try.underlying22 hi hi0 hi1 hi2 rfl (by decide) _ _ _ rfl (Own.row (L := [12]) (heap_alloc_new _ (.cells #[.int .i64 12] 3)) z.size (by unfold maxLen; simp)) ⟨tb, tof, none⟩ t.length tc (t.map fun x => Value.int .i64 x) rfl (by simp) (old_newsZ _ (rd_cells (Kt.out _ z))) (fun x hx => by simp at hx; obtain ⟨y, _, rfl⟩ := hx; rfl) (by unfold maxLen; first | omega | (simp; omega)) (by first | omega | (simp; omega)) (by have := z.size; simp; omega) ?_; intro v5 w5 hown hgrow _; have ho5 : Own w2.heap.size w5 v5 ([12] ++ t) := (by unfold Own; rw [List.map_append, List.length_append]; exact hown); have zA : Below w2.heap.size w2 w5 := (z.alloc z.size _).grown hgrow (by have := z.size; simp; omega) (fun q hq => (by have := (World.ownsRow.lt (Own.row (L := [12]) (heap_alloc_new _ (.cells #[.int .i64 12] 3)) z.size (by unfold maxLen; simp)) q hq).1; exact this)); obtain ⟨R1, hR1⟩ : ∃ R, R = [12] ++ t := ⟨_, rfl⟩; rw [← hR1] at ho5; have HR1 := Lib.hid hR1; clear hown hgrow hR1; obtain ⟨ra, rc, rfl, _⟩ := ho5.slice; replace z := zA; (try clear c0 c1); have c0 := K0.out _ z; have c1 := K1.out _ z; (try replace q1 := Q1.out _ z); (try replace q2 := Q2.out _ z))
      | (at_builtin; refine wpList_append_own _ rfl _ _ 22 rfl w5.heap.size 3 i0 (.int .i64 0) 1 8 Try.underlying22 hi hi0 hi1 hi2 rfl (by decide) _ _ _ rfl (Own.row (L := [16]) (heap_alloc_new _ (.cells #[.int .i64 16] 3)) (Nat.le_refl _) (by unfold maxLen; simp)) ⟨tb, tof, none⟩ t.length tc (t.map fun x => Value.int .i64 x) rfl (by simp) (old_newsZ _ (rd_cells (Kt.out _ z))) (fun x hx => by simp at hx; obtain ⟨y, _, rfl⟩ := hx; rfl) (by unfold maxLen; first | omega | (simp; omega)) (by first | omega | (simp; omega)) (by simp) ?_; intro v6 w6 hown hgrow _; have ho6 : Own w5.heap.size w6 v6 ([16] ++ t) := (by unfold Own; rw [List.map_append, List.length_append]; exact hown); have hb56 : Below w5.heap.size w5 w6 := ((Below.refl w5.heap.size w5).alloc (Nat.le_refl _) _).grown hgrow (by simp) (fun q hq => (by have hq' : some w5.heap.size = some q := hq; injection hq' with hq'; omega)); have ho56 := ho5.below hb56; replace z := z.trans (hb56.mono z.size); obtain ⟨R2, hR2⟩ : ∃ R, R = [16] ++ t := ⟨_, rfl⟩; rw [← hR2] at ho6; have HR2 := Lib.hid hR2; have hR2l : R2.length = t.length + 1 := (by rw [hR2]; simp); have hR2m : R2.length ≤ 41 := (by omega); clear hown hgrow hR2 hR2l; (try clear c0 c1); have c0 := K0.out _ z; have c1 := K1.out _ z; (try replace q1 := Q1.out _ z); (try replace q2 := Q2.out _ z))
      | (go_at_call 25; refine (implValueOf_any _ _ _ _ L T _ _ t _ _ N _ (KR.out _ z) (KT.out _ z) (Kt.out _ z) (KN.out _ z) (by omega) (by omega) hct).mono ?_; rw [hV]; rintro e wz ⟨rfl, hb⟩; replace z := z.trans (hb.mono z.size); (try clear c0 c1); have c0 := K0.out _ z; have c1 := K1.out _ z; (try replace q1 := Q1.out _ z); (try replace q2 := Q2.out _ z))
      | (go_at_call 22; refine (specValueOf_any _ _ _ _ L T _ _ t _ _ N _ (KR.out _ z) (KT.out _ z) (Kt.out _ z) (KN.out _ z) (by omega) (by omega)).mono ?_; rw [hV]; rintro e wz ⟨rfl, hb⟩; replace z := z.trans (hb.mono z.size); (try clear c0 c1); have c0 := K0.out _ z; have c1 := K1.out _ z; (try replace q1 := Q1.out _ z); (try replace q2 := Q2.out _ z)))
      have zL : Below w7.heap.size w7 w7 := Below.refl _ _
      have KI := Lib.hid (fun (wz : World) (h1 : Below w2.heap.size w2 wz) => implNotOf_any a b ca cb L T V wz (KR.out _ h1) (KT.out _ h1))
      obtain ⟨U, hU⟩ : ∃ U, U = notI L T V := ⟨_, rfl⟩
      rw [← hU] at KI HNOT
      have KV1 := Lib.hid (fun (wz : World) (h1 : Below w2.heap.size w2 wz) (h2 : Below w7.heap.size w7 wz) => implValueOf_any a b ca cb L T ra rc R1 na nc N wz (KR.out _ h1) (KT.out _ h1) (ho57.below h2).rd (KN.out _ h1) (by rw [HR1.out]; simp; omega) (by omega) (ownCapT ho57))
      have KV3 := Lib.hid (fun (wz : World) (h1 : Below w2.heap.size w2 wz) (h2 : Below w7.heap.size w7 wz) => implValueOf_any a b ca cb L T sa sc R3 na nc N wz (KR.out _ h1) (KT.out _ h1) (ho7.below h2).rd (KN.out _ h1) (by omega) (by omega) (ownCapT ho7))
      obtain ⟨U1, hU1⟩ : ∃ U, U = vofI L T R1 N := ⟨_, rfl⟩
      obtain ⟨U3, hU3⟩ : ∃ U, U = vofI L T R3 N := ⟨_, rfl⟩
      rw [← hU1] at KV1
      rw [← hU3] at KV3
      have H1 := Lib.hid (fun (hl : t.length < 15) => show U1 = U by rw [hU1, HR1.out]; exact HNOT.out hl)
      have H3 := Lib.hid (fun (hl : 2 * t.length < 15) => show U3 = (L.length : Int) - 1 by rw [hU3, HR3.out, HR2.out]; exact HSAME.out hl)
      clear hU hU1 hU3 c0 c1 hneg hd hne
      by_cases h15 : t.length = 15
      · have q15 : ((t.length : Int) == 15) = true := by rw [h15]; rfl
        have q30 : (2 * (t.length : Int)) ≥ 15 := by omega
        have q30d : decide ((2 * (t.length : Int)) ≥ 15) = true := decide_eq_true q30
        have HL := Lib.hid h15
        clear h15
        refine region_in (Below w7.heap.size w7) (by kernel_rfl) (by kernel_rfl) (Dr.below ⟨1, rfl⟩ _) fun hne => ?_
        have r0 : ∀ s : In (Below w7.heap.size w7), s.w.cell? ⟨g, 0, none⟩ = some (.slice a L.length ca) := fun s => K0.out _ (in_trans z s)
        repeat (first
          | (go_big_quiet_want; refine quiet_load_row 33 _ rfl g rfl _ _ _ _ (fun w' ⟨s, hs⟩ => by rw [hs]; exact KX.out _ (in_trans z s)) Try.underlying33 rfl (size_Alg _ _) ?_; simp only [Act.put, List.setIfInBounds_toArray, List.set_cons_succ, List.set_cons_zero]; go_big_quiet_on)
          | go_big_quiet_step ((first | (go_at_call_of 25 R1.length; exact in_below _ (Nat.le_refl _) (KV1.out _ (in_trans z (by assumption)) (in_trans zL (by assumption)))) | (go_at_call_of 25 R3.length; exact in_below _ (Nat.le_refl _) (KV3.out _ (in_trans z (by assumption)) (in_trans zL (by assumption)))) | (go_at_call 45; exact in_below _ (Nat.le_refl _) (KI.out _ (in_trans z (by assumption)))))))
        refine wpQuiet_nil ?_
        intro s
        have z4 := in_trans z s
        have hs7 := s.h
        obtain ⟨w7, hw7⟩ : ∃ x : World, x = s.w := ⟨_, rfl⟩
        rw [← hw7] at z4 hs7 ⊢
        clear hw7
        clear r0
        go_wp2
        go_ret
        exact ⟨rfl, FIN.out _ z4⟩
      · have q15 : ((t.length : Int) == 15) = false := by rw [beq_eq_false_iff_ne]; omega
        have e1 := H1.out (by omega)
        subst e1
        have qU : (U1 == U1) = true := by simp
        by_cases h7 : 2 * t.length < 15
        · have q30 : ¬ (2 * (t.length : Int)) ≥ 15 := by omega
          have q30d : decide ((2 * (t.length : Int)) ≥ 15) = false := decide_eq_false q30
          have e3 := H3.out h7
          have q3 : (U3 == (L.length : Int) - 1) = true := by rw [e3]; simp
          have HE3 := Lib.hid e3
          clear e3 h15
          refine region_in (Below w7.heap.size w7) (by kernel_rfl) (by kernel_rfl) (Dr.below ⟨1, rfl⟩ _) fun hne => ?_
          have r0 : ∀ s : In (Below w7.heap.size w7), s.w.cell? ⟨g, 0, none⟩ = some (.slice a L.length ca) := fun s => K0.out _ (in_trans z s)
          repeat (first
            | (go_big_quiet_want; refine quiet_load_row 33 _ rfl g rfl _ _ _ _ (fun w' ⟨s, hs⟩ => by rw [hs]; exact KX.out _ (in_trans z s)) Try.underlying33 rfl (size_Alg _ _) ?_; simp only [Act.put, List.setIfInBounds_toArray, List.set_cons_succ, List.set_cons_zero]; go_big_quiet_on)
            | go_big_quiet_step ((first | (go_at_call_of 25 R1.length; exact in_below _ (Nat.le_refl _) (KV1.out _ (in_trans z (by assumption)) (in_trans zL (by assumption)))) | (go_at_call_of 25 R3.length; exact in_below _ (Nat.le_refl _) (KV3.out _ (in_trans z (by assumption)) (in_trans zL (by assumption)))) | (go_at_call 45; exact in_below _ (Nat.le_refl _) (KI.out _ (in_trans z (by assumption)))))))
          refine wpQuiet_nil ?_
          intro s
          have z4 := in_trans z s
          have hs7 := s.h
          obtain ⟨w7, hw7⟩ : ∃ x : World, x = s.w := ⟨_, rfl⟩
          rw [← hw7] at z4 hs7 ⊢
          clear hw7
          clear r0
          go_wp2
          go_ret
          exact ⟨rfl, FIN.out _ z4⟩
        · have q30 : (2 * (t.length : Int)) ≥ 15 := by omega
          have q30d : decide ((2 * (t.length : Int)) ≥ 15) = true := decide_eq_true q30
          clear h15
          refine region_in (Below w7.heap.size w7) (by kernel_rfl) (by kernel_rfl) (Dr.below ⟨1, rfl⟩ _) fun hne => ?_
          have r0 : ∀ s : In (Below w7.heap.size w7), s.w.cell? ⟨g, 0, none⟩ = some (.slice a L.length ca) := fun s => K0.out _ (in_trans z s)
          repeat (first
            | (go_big_quiet_want; refine quiet_load_row 33 _ rfl g rfl _ _ _ _ (fun w' ⟨s, hs⟩ => by rw [hs]; exact KX.out _ (in_trans z s)) Try.underlying33 rfl (size_Alg _ _) ?_; simp only [Act.put, List.setIfInBounds_toArray, List.set_cons_succ, List.set_cons_zero]; go_big_quiet_on)
            | go_big_quiet_step ((first | (go_at_call_of 25 R1.length; exact in_below _ (Nat.le_refl _) (KV1.out _ (in_trans z (by assumption)) (in_trans zL (by assumption)))) | (go_at_call_of 25 R3.length; exact in_below _ (Nat.le_refl _) (KV3.out _ (in_trans z (by assumption)) (in_trans zL (by assumption)))) | (go_at_call 45; exact in_below _ (Nat.le_refl _) (KI.out _ (in_trans z (by assumption)))))))
          refine wpQuiet_nil ?_
          intro s
          have z4 := in_trans z s
          have hs7 := s.h
          obtain ⟨w7, hw7⟩ : ∃ x : World, x = s.w := ⟨_, rfl⟩
          rw [← hw7] at z4 hs7 ⊢
          clear hw7
          clear r0
          go_wp2
          go_ret
          exact ⟨rfl, FIN.out _ z4⟩
end Go.Proofs.Ytidbilgnclfplaa
