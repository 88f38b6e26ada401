import Derived.Test.YtjcambkjcagcoaaGreatTM8
namespace Go.Proofs.YtjcambkjcagcoaaGreat
open Go.RowKit

theorem in_transT {w1 wr : World} (z : Below w1.heap.size w1 wr) (s : In (Below wr.heap.size wr)) : Below w1.heap.size w1 s.w := z.trans (s.h.mono z.size)
theorem ret_toT {f : FuncId} {args : Array Value} {w : World} {v v' : Value} {n : Nat} (h : Calls Tryz.prog f args w fun e w' => e = .returned v ∧ Below n w w') (e : v = v') : Calls Tryz.prog f args w fun e w' => e = .returned v' ∧ Below n w w' := by rw [← e]; exact h
set_option maxRecDepth 100000 in
set_option maxHeartbeats 8000000 in
/-- spec.value -/
theorem specValue_any (L : List Int) (T : List (List Int)) (ab ao ca tb to cb : Nat) (t : List Int) (eb eo ct : Nat) (N : List Int) (nb no cn : Nat) (hN3 : N.length = 3) (h : algB L T = true) (hNe : ∀ i, 0 ≤ i → i < 3 → El L (nth N i)) (hm : t.length ≤ 15) : ∀ (k i : Nat) (r : List Int) (w : World), Rd w (some ⟨ab, ao, none⟩) L → RdT w (some ⟨tb, to, none⟩) T → Rd w (some ⟨eb, eo, none⟩) t → Rd w (some ⟨nb, no, none⟩) N → tmR k (t.drop i) = some r →
    Calls Tryz.prog 123 #[.agg #[.slice (some ⟨ab, ao, none⟩) L.length ca, .slice (some ⟨tb, to, none⟩) T.length cb], .slice (some ⟨eb, eo, none⟩) t.length ct, .int .i64 (i : Int), .slice (some ⟨nb, no, none⟩) N.length cn] w fun e w' => e = .returned (.int .i64 (vlI L T N k (t.drop i))) ∧ Below w.heap.size w w' := by
  have hl := alg_lat h
  obtain ⟨n1, l6⟩ := lat_len hl
  have n1i : (1 : Int) ≤ L.length := n1
  have l6i : (L.length : Int) ≤ 6 := l6
  have nA : 3 ≤ N.length := by omega
  have HNN := Lib.hid (show N ≠ [] from fun e => by rw [e] at hN3; cases hN3)
  clear hN3
  have HA := Lib.hid h
  have HVE := Lib.hid (fun (k : Nat) (t r : List Int) (hh : tmR k t = some r) => vlI_el h hNe k t r hh)
  clear h hNe
  intro k
  induction k with
  | zero => intro i r w _ _ _ _ h; cases h
  | succ k ih =>
    intro i r w hrL hrT hrt hrN h
    have hi : i < t.length := by
      refine Classical.byContradiction fun hc => ?_
      rw [List.drop_eq_nil_of_le (by omega)] at h
      cases h
    have hiI : (i : Int) < t.length := by omega
    have hi0 : (0 : Int) ≤ i := by omega
    have hw1' : IntKind.i64.wrap ((i : Int) + 1) = (i : Int) + 1 := IntWalk.i64_in _ (by omega)
    obtain ⟨w1, hw1⟩ : ∃ w1, w1 = w.alloc (.cells #[.slice (some ⟨ab, ao, none⟩) L.length ca, .slice (some ⟨tb, to, none⟩) T.length cb] 26) := ⟨_, rfl⟩
    have hB : Below w.heap.size w w1 := by rw [hw1]; exact (Below.refl _ _).alloc (Nat.le_refl _) _
    have hx1 : w1.heap[w.heap.size]? = some (.cells #[.slice (some ⟨ab, ao, none⟩) L.length ca, .slice (some ⟨tb, to, none⟩) T.length cb] 26 (0, 0)) := by rw [hw1]; exact heap_alloc_new w _
    have KX := Lib.hid (show ∀ wz, Below w1.heap.size w1 wz → wz.heap[w.heap.size]? = some (.cells #[.slice (some ⟨ab, ao, none⟩) L.length ca, .slice (some ⟨tb, to, none⟩) T.length cb] 26 (0, 0)) from fun wz h => (h.block _ (lt_of_block hx1)).trans hx1)
    have KL := Lib.hid (show ∀ wz, Below w1.heap.size w1 wz → Rd wz (some ⟨ab, ao, none⟩) L from fun wz h => (hrL.below hB).below h)
    have KT := Lib.hid (show ∀ wz, Below w1.heap.size w1 wz → RdT wz (some ⟨tb, to, none⟩) T from fun wz h => (hrT.below hB).below h)
    have Kt := Lib.hid (show ∀ wz, Below w1.heap.size w1 wz → Rd wz (some ⟨eb, eo, none⟩) t from fun wz h => (hrt.below hB).below h)
    have KN := Lib.hid (show ∀ wz, Below w1.heap.size w1 wz → Rd wz (some ⟨nb, no, none⟩) N from fun wz h => (hrN.below hB).below h)
    have KC := Lib.hid (show ∀ wz, Below w1.heap.size w1 wz → wz.cell? ⟨eb, eo + i, none⟩ = some (.int .i64 (nth t i)) from fun wz hz => by
      obtain ⟨b', o', e, hc⟩ := (Kt.out _ hz) (fun e => by rw [e] at hi; simp at hi)
      simp only [Option.some.injEq, Addr.mk.injEq] at e
      rw [e.1, e.2.1]; exact hc i hi)
    have HI := Lib.hid ih
    rw [drop_cons hi] at h ⊢
    obtain ⟨x, hx⟩ : ∃ x, x = nth t i := ⟨_, rfl⟩
    rw [← hx] at h KC ⊢
    have z : Below w1.heap.size w1 w1 := Below.refl _ _
    clear hx ih hrL hrT hrt hrN hx1
    cases h1 : isLf x with
    | true =>
      have HV := Lib.hid (vlI_leaf (L := L) (T := T) (N := N) (k := k) (t := t.drop (i + 1)) h1)
      have hlf : x = 0 ∨ x = 1 ∨ x = 2 ∨ x = 10 ∨ x = 11 := by
        have := leaf_not h1
        simp only [beq_eq_false_iff_ne] at this
        have := num_cases (.inl h1)
        omega
      have c0 := KC.out _ z
      have kx := bx_cells (KX.out _ z)
      obtain ⟨k0, k1⟩ := kx
      have cN : ∀ j : Nat, j < 3 → w1.cell? ⟨nb, no + j, none⟩ = some (.int .i64 (nth N j)) := fun j hj => by
        obtain ⟨b', o', e, hc⟩ := (KN.out _ z) HNN.out
        simp only [Option.some.injEq, Addr.mk.injEq] at e
        rw [e.1, e.2.1]; exact hc j (by omega)
      have m0 : w1.cell? ⟨nb, no, none⟩ = some (.int .i64 (nth N 0)) := cN 0 (by omega)
      have m1 : w1.cell? ⟨nb, no + 1, none⟩ = some (.int .i64 (nth N 1)) := cN 1 (by omega)
      have m2 : w1.cell? ⟨nb, no + 2, none⟩ = some (.int .i64 (nth N 2)) := cN 2 (by omega)
      clear h h1 HI cN
      rcases hlf with rfl | rfl | rfl | rfl | rfl
      all_goals
        go_enter Tryz.func123, Tryz.ntmps123
        go_wp2_with (rw [← hw1]; clear hw1)
        go_ret
        exact ⟨by rw [HV.out]; rfl, hB⟩
    | false =>
      by_cases h2 : x = 12
      · subst h2
        rw [tmR_opp h1 rfl] at h
        have HV := Lib.hid (vlI_opp (L := L) (T := T) (N := N) (k := k) (t := t.drop (i + 1)) h1 rfl)
        obtain ⟨v0, v1⟩ := HVE.out k _ r h
        have HH := Lib.hid h
        have c0 := KC.out _ z
        clear h h1
        go_enter Tryz.func123, Tryz.ntmps123
        go_wp2_with (rw [← hw1]; clear hw1)
        refine region_in (Below w1.heap.size w1) (by kernel_rfl) (by kernel_rfl) (Dr.below ⟨1, rfl⟩ _) fun hne => ?_
        repeat (first
          | (go_big_quiet_want; refine quiet_load_row 26 _ rfl w.heap.size rfl _ _ _ _ (fun w' ⟨s, hs⟩ => by rw [hs]; exact KX.out _ (in_transT z s)) Tryz.underlying26 rfl (size_Alg _ _) ?_; simp only [Act.put, List.setIfInBounds_toArray, List.set_cons_succ, List.set_cons_zero]; go_big_quiet_on)
          | go_big_quiet_step ((first | (go_at_call 123; exact in_below _ (Nat.le_refl _) (HI.out (i + 1) r _ (KL.out _ (in_transT z _)) (KT.out _ (in_transT z _)) (Kt.out _ (in_transT z _)) (KN.out _ (in_transT z _)) HH.out)) | (go_at_call 160; exact in_below _ (Nat.le_refl _) (imply_any _ _ _ _ L T _ _ _ (KL.out _ (in_transT z _)) (KT.out _ (in_transT z _)) HA.out v0 v1 (by omega) (by omega))))))
        refine wpQuiet_nil ?_
        intro s
        have hs7 := in_transT z s
        obtain ⟨w7, hw7⟩ : ∃ x : World, x = s.w := ⟨_, rfl⟩
        rw [← hw7] at hs7 ⊢
        clear hw7
        go_wp2
        go_ret
        exact ⟨by rw [HV.out]; rfl, hB.trans (hs7.mono hB.size)⟩
      · cases h3 : isSg x with
        | false => rw [tmR_no h1 h2 h3] at h; cases h
        | true =>
          rw [tmR_sign h1 h2 h3] at h
          cases h4 : tmR k (t.drop (i + 1)) with
          | none => rw [h4] at h; cases h
          | some q =>
            rw [h4] at h
            have HV := Lib.hid (vlI_sign (L := L) (T := T) (N := N) h1 h2 h4)
            have hen := endI_some (k := k + t.length) (t := t) (i := i + 1) (tmR_mono k _ _ _ h4 (by omega))
            have HH := Lib.hid h4
            have HQ := Lib.hid (show tmR k (t.drop (t.length - q.length)) = some r by rw [hen.2.2.2]; exact h)
            have HD := Lib.hid (hen.2.2.2)
            have HE := Lib.hid hen.1
            have hsg : x = 13 ∨ x = 14 ∨ x = 15 ∨ x = 16 := by
              have := num_cases (.inr (.inr h3))
              unfold isSg at h3
              rw [Bool.and_eq_true, decide_eq_true_eq, decide_eq_true_eq] at h3
              omega
            obtain ⟨u0, u1⟩ := HVE.out k _ q h4
            obtain ⟨v0, v1⟩ := HVE.out k q r h
            obtain ⟨U, hU⟩ : ∃ U, U = vlI L T N k (t.drop (i + 1)) := ⟨_, rfl⟩
            obtain ⟨V, hV⟩ : ∃ V, V = vlI L T N k q := ⟨_, rfl⟩
            rw [← hU, ← hV] at HV
            rw [← hU] at u0 u1
            rw [← hV] at v0 v1
            have HU := Lib.hid hU.symm
            have HW := Lib.hid (show vlI L T N k (t.drop (t.length - q.length)) = V by rw [HD.out, hV])
            have hsm := (latB_parts hl).2.2
            have KCL := Lib.hid (show ∀ wz, Below w1.heap.size w1 wz → Cells wz ab ao L from fun wz hz => by
              obtain ⟨b', o', e, hc⟩ := (KL.out _ hz) (fun e => absurd (show L.length = 0 by rw [e]; rfl) (by omega))
              simp only [Option.some.injEq, Addr.mk.injEq] at e
              rw [e.1, e.2.1]; exact hc)
            obtain ⟨tb', to', e1, rb, ro, rc, hTA⟩ := tab_of (KT.out _ z) (alg_shape HA.out) n1
            simp only [Option.some.injEq, Addr.mk.injEq] at e1
            obtain ⟨rfl, rfl, _⟩ := e1
            have KTA := Lib.hid (show ∀ wz, Below w1.heap.size w1 wz → TabAt wz tb to (num L) L.length rb ro rc T from fun wz hz => hTA.below hz)
            have htl := shape_len (alg_shape HA.out)
            have uT : U < T.length := by have : num L = L.length := rfl; omega
            have vL : V < L.length := v1
            have uL : U < L.length := u1
            clear h h1 h2 h3 h4 hen hU hV hTA htl
            have c0 := KC.out _ z
            rcases hsg with rfl | rfl | rfl | rfl
            · go_enter Tryz.func123, Tryz.ntmps123
              go_wp2_with (first
                | (rw [← hw1]; clear hw1)
                | (refine wpList_load_row_w rfl 26 _ rfl w.heap.size rfl _ _ _ _ (KX.out _ z) Tryz.underlying26 rfl (size_Alg _ _) ?_)
                | (go_at_call 123; refine (HI.out (i + 1) q _ (KL.out _ z) (KT.out _ z) (Kt.out _ z) (KN.out _ z) HH.out).mono ?_; rintro e w2 ⟨rfl, hb⟩; replace z := z.trans (hb.mono z.size); rw [HU.out]))
              refine region_in (Below w2.heap.size w2) (by kernel_rfl) (by kernel_rfl) (Dr.below ⟨1, rfl⟩ _) fun hne => ?_
              repeat (first
                | (go_big_quiet_want; refine quiet_load_row 26 _ rfl w.heap.size rfl _ _ _ _ (fun w' ⟨s, hs⟩ => by rw [hs]; exact KX.out _ (in_transT z s)) Tryz.underlying26 rfl (size_Alg _ _) ?_; simp only [Act.put, List.setIfInBounds_toArray, List.set_cons_succ, List.set_cons_zero]; go_big_quiet_on)
                | go_big_quiet_step ((first | (go_at_call 121; exact in_below _ (Nat.le_refl _) (ret_toT ((end_any _ ct t (by omega) (k + t.length) (i + 1) _ (Kt.out _ (in_transT z _)) (by omega) (by omega)).mono fun _ _ h => ⟨h.1, h.2 ▸ Below.refl _ _⟩) (by rw [HE.out]))) | (go_at_call 123; exact in_below _ (Nat.le_refl _) (ret_toT (HI.out (t.length - q.length) r _ (KL.out _ (in_transT z _)) (KT.out _ (in_transT z _)) (Kt.out _ (in_transT z _)) (KN.out _ (in_transT z _)) HQ.out) (by rw [HW.out]))))))
              refine wpQuiet_nil ?_
              intro s
              have hs7 := in_transT z s
              obtain ⟨w7, hw7⟩ : ∃ x : World, x = s.w := ⟨_, rfl⟩
              rw [← hw7] at hs7 ⊢
              clear hw7
              have z7 := hs7
              have d0 := KC.out _ z7
              obtain ⟨k0, k1⟩ := bx_cells (KX.out _ z7)
              have d1 := (KTA.out _ z7).row u0 u1
              have d2 := (KTA.out _ z7).cell u0 u1 v0 v1
              clear c0
              go_wp2_with (first
                | go_skip
                | (go_at_call 147; refine (meet_any ab ao ca L U V _ (KCL.out _ z7) hsm u0 u1 v0 v1).mono ?_; rintro e w' ⟨rfl, rfl⟩))
              go_ret
              exact ⟨by rw [HV.out]; rfl, hB.trans (z7.mono hB.size)⟩
            · go_enter Tryz.func123, Tryz.ntmps123
              go_wp2_with (first
                | (rw [← hw1]; clear hw1)
                | (refine wpList_load_row_w rfl 26 _ rfl w.heap.size rfl _ _ _ _ (KX.out _ z) Tryz.underlying26 rfl (size_Alg _ _) ?_)
                | (go_at_call 123; refine (HI.out (i + 1) q _ (KL.out _ z) (KT.out _ z) (Kt.out _ z) (KN.out _ z) HH.out).mono ?_; rintro e w2 ⟨rfl, hb⟩; replace z := z.trans (hb.mono z.size); rw [HU.out]))
              refine region_in (Below w2.heap.size w2) (by kernel_rfl) (by kernel_rfl) (Dr.below ⟨1, rfl⟩ _) fun hne => ?_
              repeat (first
                | (go_big_quiet_want; refine quiet_load_row 26 _ rfl w.heap.size rfl _ _ _ _ (fun w' ⟨s, hs⟩ => by rw [hs]; exact KX.out _ (in_transT z s)) Tryz.underlying26 rfl (size_Alg _ _) ?_; simp only [Act.put, List.setIfInBounds_toArray, List.set_cons_succ, List.set_cons_zero]; go_big_quiet_on)
                | go_big_quiet_step ((first | (go_at_call 121; exact in_below _ (Nat.le_refl _) (ret_toT ((end_any _ ct t (by omega) (k + t.length) (i + 1) _ (Kt.out _ (in_transT z _)) (by omega) (by omega)).mono fun _ _ h => ⟨h.1, h.2 ▸ Below.refl _ _⟩) (by rw [HE.out]))) | (go_at_call 123; exact in_below _ (Nat.le_refl _) (ret_toT (HI.out (t.length - q.length) r _ (KL.out _ (in_transT z _)) (KT.out _ (in_transT z _)) (Kt.out _ (in_transT z _)) (KN.out _ (in_transT z _)) HQ.out) (by rw [HW.out]))))))
              refine wpQuiet_nil ?_
              intro s
              have hs7 := in_transT z s
              obtain ⟨w7, hw7⟩ : ∃ x : World, x = s.w := ⟨_, rfl⟩
              rw [← hw7] at hs7 ⊢
              clear hw7
              have z7 := hs7
              have d0 := KC.out _ z7
              obtain ⟨k0, k1⟩ := bx_cells (KX.out _ z7)
              have d1 := (KTA.out _ z7).row u0 u1
              have d2 := (KTA.out _ z7).cell u0 u1 v0 v1
              clear c0
              go_wp2_with (first
                | go_skip
                | (go_at_call 92; refine (join_any ab ao ca L U V _ (KCL.out _ z7) hsm u0 u1 v0 v1).mono ?_; rintro e w' ⟨rfl, rfl⟩))
              go_ret
              exact ⟨by rw [HV.out]; rfl, hB.trans (z7.mono hB.size)⟩
            · go_enter Tryz.func123, Tryz.ntmps123
              go_wp2_with (first
                | (rw [← hw1]; clear hw1)
                | (refine wpList_load_row_w rfl 26 _ rfl w.heap.size rfl _ _ _ _ (KX.out _ z) Tryz.underlying26 rfl (size_Alg _ _) ?_)
                | (go_at_call 123; refine (HI.out (i + 1) q _ (KL.out _ z) (KT.out _ z) (Kt.out _ z) (KN.out _ z) HH.out).mono ?_; rintro e w2 ⟨rfl, hb⟩; replace z := z.trans (hb.mono z.size); rw [HU.out]))
              refine region_in (Below w2.heap.size w2) (by kernel_rfl) (by kernel_rfl) (Dr.below ⟨1, rfl⟩ _) fun hne => ?_
              repeat (first
                | (go_big_quiet_want; refine quiet_load_row 26 _ rfl w.heap.size rfl _ _ _ _ (fun w' ⟨s, hs⟩ => by rw [hs]; exact KX.out _ (in_transT z s)) Tryz.underlying26 rfl (size_Alg _ _) ?_; simp only [Act.put, List.setIfInBounds_toArray, List.set_cons_succ, List.set_cons_zero]; go_big_quiet_on)
                | go_big_quiet_step ((first | (go_at_call 121; exact in_below _ (Nat.le_refl _) (ret_toT ((end_any _ ct t (by omega) (k + t.length) (i + 1) _ (Kt.out _ (in_transT z _)) (by omega) (by omega)).mono fun _ _ h => ⟨h.1, h.2 ▸ Below.refl _ _⟩) (by rw [HE.out]))) | (go_at_call 123; exact in_below _ (Nat.le_refl _) (ret_toT (HI.out (t.length - q.length) r _ (KL.out _ (in_transT z _)) (KT.out _ (in_transT z _)) (Kt.out _ (in_transT z _)) (KN.out _ (in_transT z _)) HQ.out) (by rw [HW.out]))))))
              refine wpQuiet_nil ?_
              intro s
              have hs7 := in_transT z s
              obtain ⟨w7, hw7⟩ : ∃ x : World, x = s.w := ⟨_, rfl⟩
              rw [← hw7] at hs7 ⊢
              clear hw7
              have z7 := hs7
              have d0 := KC.out _ z7
              obtain ⟨k0, k1⟩ := bx_cells (KX.out _ z7)
              have d1 := (KTA.out _ z7).row u0 u1
              have d2 := (KTA.out _ z7).cell u0 u1 v0 v1
              clear c0
              go_wp2_with (first
                | go_skip
                | fail)
              go_ret
              exact ⟨by rw [HV.out]; rfl, hB.trans (z7.mono hB.size)⟩
            · go_enter Tryz.func123, Tryz.ntmps123
              go_wp2_with (first
                | (rw [← hw1]; clear hw1)
                | (refine wpList_load_row_w rfl 26 _ rfl w.heap.size rfl _ _ _ _ (KX.out _ z) Tryz.underlying26 rfl (size_Alg _ _) ?_)
                | (go_at_call 123; refine (HI.out (i + 1) q _ (KL.out _ z) (KT.out _ z) (Kt.out _ z) (KN.out _ z) HH.out).mono ?_; rintro e w2 ⟨rfl, hb⟩; replace z := z.trans (hb.mono z.size); rw [HU.out]))
              refine region_in (Below w2.heap.size w2) (by kernel_rfl) (by kernel_rfl) (Dr.below ⟨1, rfl⟩ _) fun hne => ?_
              repeat (first
                | (go_big_quiet_want; refine quiet_load_row 26 _ rfl w.heap.size rfl _ _ _ _ (fun w' ⟨s, hs⟩ => by rw [hs]; exact KX.out _ (in_transT z s)) Tryz.underlying26 rfl (size_Alg _ _) ?_; simp only [Act.put, List.setIfInBounds_toArray, List.set_cons_succ, List.set_cons_zero]; go_big_quiet_on)
                | go_big_quiet_step ((first | (go_at_call 121; exact in_below _ (Nat.le_refl _) (ret_toT ((end_any _ ct t (by omega) (k + t.length) (i + 1) _ (Kt.out _ (in_transT z _)) (by omega) (by omega)).mono fun _ _ h => ⟨h.1, h.2 ▸ Below.refl _ _⟩) (by rw [HE.out]))) | (go_at_call 123; exact in_below _ (Nat.le_refl _) (ret_toT (HI.out (t.length - q.length) r _ (KL.out _ (in_transT z _)) (KT.out _ (in_transT z _)) (Kt.out _ (in_transT z _)) (KN.out _ (in_transT z _)) HQ.out) (by rw [HW.out]))))))
              refine wpQuiet_nil ?_
              intro s
              have hs7 := in_transT z s
              obtain ⟨w7, hw7⟩ : ∃ x : World, x = s.w := ⟨_, rfl⟩
              rw [← hw7] at hs7 ⊢
              clear hw7
              have z7 := hs7
              have d0 := KC.out _ z7
              obtain ⟨k0, k1⟩ := bx_cells (KX.out _ z7)
              have d1 := (KTA.out _ z7).row u0 u1
              have d2 := (KTA.out _ z7).cell u0 u1 v0 v1
              clear c0
              go_wp2_with (first
                | go_skip
                | (refine wpList_load_row_w rfl 26 _ rfl w.heap.size rfl _ _ _ _ (KX.out _ z7) Tryz.underlying26 rfl (size_Alg _ _) ?_)
                | (go_at_call 160; refine (imply_any _ _ _ _ L T U V _ (KL.out _ z7) (KT.out _ z7) HA.out u0 u1 v0 v1).mono ?_; rintro e w' ⟨rfl, hb⟩; replace z7 := z7.trans (hb.mono z7.size)))
              go_ret
              exact ⟨by rw [HV.out]; rfl, hB.trans (z7.mono hB.size)⟩
end Go.Proofs.YtjcambkjcagcoaaGreat
