import Derived.Test.YtidbilgnclfplaaTP3
namespace Go.Proofs.Ytidbilgnclfplaa
open Go.RowKit
set_option linter.unusedVariables false

theorem hd_cons {l : List UInt8} (h : hdY l ≠ 0) : l = hdY l :: l.tail := by
  cases l with
  | nil => exact absurd rfl h
  | cons x l => rfl
theorem hd_num {l : List UInt8} (h : ltN (hdY l) ≠ -1) : l = hdY l :: l.tail := hd_cons fun e => by rw [e] at h; exact h (by decide)
theorem u8_eq (c d : UInt8) : ((c.toNat : Int) == (d.toNat : Int)) = (c == d) := by
  rw [Bool.eq_iff_iff, beq_iff_eq, beq_iff_eq]
  constructor
  · intro h
    exact UInt8.toNat_inj.1 (by omega)
  · intro h; rw [h]
theorem rdC_nosign {l : List UInt8} {a : List Int} {r : List UInt8} (h : rdA l = some (a, r)) (hs : isSg (ltN (hdY r)) = false) : rdC rdA l = none := by
  cases e : rdC rdA l with
  | none => rfl
  | some p =>
    obtain ⟨a', s, r2, b, r4, f1, f2, f3, f4⟩ := rdC_some e
    rw [h] at f1
    injection f1 with f1
    injection f1 with _ f1
    rw [f1] at hs
    have : ltN (hdY (s :: r2)) = ltN s := rfl
    rw [this, f2] at hs
    cases hs
theorem rdC_noclose {l : List UInt8} {a c : List Int} {r r3 : List UInt8} (h : rdA l = some (a, r)) (h2 : rdA r.tail = some (c, r3)) (hs : hdY r3 ≠ 41) : rdC rdA l = none := by
  cases e : rdC rdA l with
  | none => rfl
  | some p =>
    obtain ⟨a', s, r2, b, r4, f1, f2, f3, f4⟩ := rdC_some e
    rw [h] at f1
    injection f1 with f1
    injection f1 with _ f1
    rw [f1] at h2
    have h2' : rdA r2 = some (c, r3) := h2
    rw [f3] at h2'
    injection h2' with h2'
    injection h2' with _ h2'
    rw [← h2'] at hs
    exact absurd rfl hs
theorem rdC_long {l : List UInt8} {a : List Int} {r : List UInt8} {b : Int} (h : rdA l = some (a, r)) (h2 : ∀ t r', rdA r.tail = some (t, r') → 15 < b + 1 + a.length + t.length) (t : List Int) (r' : List UInt8) (ht : rdC rdA l = some (t, r')) : 15 < b + t.length := by
  obtain ⟨a', s, r2, c, r4, f1, f2, f3, f4⟩ := rdC_some ht
  rw [h] at f1
  injection f1 with f1
  injection f1 with f0 f1
  rw [f1] at h2
  have := h2 c _ f3
  injection f4 with f4 _
  rw [f4, List.length_cons, List.length_append, ← f0]
  omega
set_option maxRecDepth 100000 in
set_option maxHeartbeats 600000 in
/-- impl.compound -/
theorem compound_any (g m : Nat) (hT : ∀ m', m' ≤ m → TermP g m') (s : ByteArray) (b : Int) (w : World) (h : RdP w g s (b + 1)) (hs : s.size ≤ 9223372036854775807) (b0 : 0 ≤ b) (hb : b + 1 + m = 15) :
    Calls Try.prog 116 #[.pointer (some ⟨g, 0, none⟩)] w (RetPs g (rdC rdA s.data.toList) b w) := by
  have HT := Lib.hid (hT m (Nat.le_refl _) s (b + 1) w h hs (by omega) hb)
  have HA := Lib.hid hT
  obtain ⟨l, hl⟩ : ∃ l, l = s.data.toList := ⟨_, rfl⟩
  rw [← hl] at HT ⊢
  clear h hT hl
  go_enter Try.func116, Try.ntmps116
  go_wp2_with fail
  refine HT.out.mono ?_
  rintro e w2 ⟨s2, b2, hR, hsz, hg, (⟨a, r, hra, hla, rfl, hr, rfl⟩ | ⟨hno, T, y, rfl⟩)⟩
  · obtain ⟨T1, y1, e1⟩ := rd_iface hra
    rw [e1]
    go_wp2_with fail
    refine (next_any g s2 _ w2 hR hsz).mono ?_
    rintro e w3 ⟨rfl, s3, hR3, ht3, hg3⟩
    have hsz3 := tail_size ht3 hsz
    rw [hr] at ht3 ⊢
    obtain ⟨c, hc⟩ : ∃ c, c = hdY r := ⟨_, rfl⟩
    rw [← hc]
    have HC := Lib.hid hc
    clear hc
    go_wp2_with fail
    refine (numberOf_any c w3).mono ?_
    rintro e w4 ⟨rfl, rfl⟩
    cases hsg : isSg (ltN c) with
    | false =>
      have HNO := Lib.hid (rdC_nosign hra (by rw [← HC.out]; exact hsg))
      obtain ⟨x, hx⟩ : ∃ x, x = ltN c := ⟨_, rfl⟩
      rw [← hx] at hsg ⊢
      clear hra e1 hx
      go_wp2_with (go_at_call 122; refine (isSign_any _ _).mono ?_; rw [hsg]; rintro e w' ⟨rfl, rfl⟩)
      go_ret2
      exact ⟨s3, _, hR3, hsz3, grown_trans hg hg3, .inr ⟨fun t r ht => (by rw [HNO.out] at ht; cases ht), _, _, rfl⟩⟩
    | true =>
      have HSG := Lib.hid hsg
      obtain ⟨x, hx⟩ : ∃ x, x = ltN c := ⟨_, rfl⟩
      have HX := Lib.hid hx
      rw [← hx] at hsg ⊢
      have HT2 := Lib.hid (HA.out (m - a.length) (by omega) s3 (b + 1 + a.length) w3 hR3 hsz3 (by omega) (by omega))
      rw [ht3] at HT2
      have HE1 := Lib.hid e1
      have HRA := Lib.hid hra
      clear hx e1 hra
      go_wp2_with (go_at_call 122; refine (isSign_any _ _).mono ?_; rw [hsg]; rintro e w' ⟨rfl, rfl⟩)
      refine HT2.out.mono ?_
      rintro e w5 ⟨s5, b5, hR5, hsz5, hg5, (⟨t, r3, hrt, hlt, rfl, hr5, rfl⟩ | ⟨hno, T, y, rfl⟩)⟩
      · obtain ⟨T2, y2, e2⟩ := rd_iface hrt
        rw [e2]
        have HE2 := Lib.hid e2
        have HRT := Lib.hid hrt
        clear e2 hrt
        go_wp2_with fail
        refine (next_any g s5 _ w5 hR5 hsz5).mono ?_
        rintro e w6 ⟨rfl, s6, hR6, ht6, hg6⟩
        have hsz6 := tail_size ht6 hsz5
        rw [hr5] at ht6 ⊢
        have hgF := grown_trans (grown_trans (grown_trans hg hg3) hg5) hg6
        by_cases h41 : hdY r3 = 41
        · have q41 : (((hdY r3).toNat : Int) != 41) = false := by rw [h41]; rfl
          obtain ⟨d, hd⟩ : ∃ d, d = ((hdY r3).toNat : Int) := ⟨_, rfl⟩
          rw [← hd] at q41 ⊢
          have H41 := Lib.hid h41
          clear hd h41
          go_wp2
          go_ret2
          have hl2 : r = c :: r.tail := by rw [HC.out]; exact hd_num (by rw [← HC.out]; intro e; rw [e] at HSG; exact absurd HSG.out (by decide))
          have hl3 : r3 = 41 :: r3.tail := by conv => lhs; rw [hd_cons (l := r3) (by rw [H41.out]; decide), H41.out]
          have hC := rdC_of (f := rdA) (l := l) (s := c) (r2 := r.tail) (r4 := r3.tail) (by rw [← hl2]; exact HRA.out) HSG.out (by rw [← hl3]; exact HRT.out)
          refine ⟨s6, _, hR6, hsz6, hgF, .inl ⟨_, _, hC, ?_, ?_, ht6, ?_⟩⟩
          · rw [List.length_cons, List.length_append]; omega
          · rw [tmV_com HSG.out (rdT_term _ _ _ _ HRA.out).1 (rdT_term _ _ _ _ HRT.out).1, HE1.out, HE2.out, ← HX.out]; rfl
          · rw [List.length_cons, List.length_append]; omega
        · have q41 : (((hdY r3).toNat : Int) != 41) = true := by
            rw [bne_iff_ne]
            intro e
            exact h41 (UInt8.toNat_inj.1 (by show _ = 41; omega))
          have HNO := Lib.hid (rdC_noclose HRA.out HRT.out h41)
          obtain ⟨d, hd⟩ : ∃ d, d = ((hdY r3).toNat : Int) := ⟨_, rfl⟩
          rw [← hd] at q41 ⊢
          clear hd h41
          go_wp2
          go_ret2
          exact ⟨s6, _, hR6, hsz6, hgF, .inr ⟨fun t r ht => (by rw [HNO.out] at ht; cases ht), _, _, rfl⟩⟩
      · have HNO := Lib.hid hno
        go_wp2
        go_ret2
        exact ⟨s5, _, hR5, hsz5, grown_trans (grown_trans hg hg3) hg5, .inr ⟨fun t r' ht => rdC_long HRA.out (fun t r' h => HNO.out t r' h) t r' ht, T, y, rfl⟩⟩
  · have HNO := Lib.hid hno
    go_wp2
    go_ret2
    refine ⟨s2, _, hR, hsz, hg, .inr ⟨fun t r ht => ?_, T, y, rfl⟩⟩
    obtain ⟨a', s', r2, c, r4, f1, f2, f3, f4⟩ := rdC_some ht
    have := HNO.out _ _ f1
    injection f4 with f4 _
    rw [f4, List.length_cons, List.length_append]
    omega
set_option maxRecDepth 100000 in
set_option maxHeartbeats 600000 in
/-- impl.term -/
theorem term_any (g : Nat) : ∀ m : Nat, TermP g m := by
  intro m
  induction m using Nat.strongRecOn with
  | ind m ih =>
    intro s b w h hs b0 hb
    obtain ⟨c0, c1, f0, f1⟩ := rdP_cells h
    by_cases hm : b = 15
    · subst hm
      have HNO := Lib.hid (show ∀ t r, rdA s.data.toList = some (t, r) → (15 : Int) < 15 + t.length from fun t r h => by
        have := (rdT_len h).1
        omega)
      go_enter Try.func91, Try.ntmps91
      go_wp2
      go_ret2
      exact ⟨s, _, h, hs, grown_refl _ _, .inr ⟨HNO.out, _, _, rfl⟩⟩
    · have hb15 : (b == 15) = false := by rw [beq_eq_false_iff_ne]; exact hm
      have bl : b < 15 := by omega
      obtain ⟨k, hk⟩ : ∃ k, m = k + 1 := ⟨m - 1, by omega⟩
      have hbk : b + 1 + k = 15 := by omega
      have hR1 := rdP_setB (b' := b + 1) h
      have hg1 := rdr_grown w g 1 (.int .i64 (b + 1))
      obtain ⟨w1, hw1⟩ : ∃ w1, w1 = w.setCell ⟨g, 1, none⟩ (.int .i64 (b + 1)) := ⟨_, rfl⟩
      rw [← hw1] at hR1 hg1
      have HCO := Lib.hid (fun (s : ByteArray) (w : World) (h : RdP w g s (b + 1)) (hs : s.size ≤ 9223372036854775807) => compound_any g k (fun m' h' => ih m' (by omega)) s b w h hs b0 hbk)
      have HOP := Lib.hid (fun (s : ByteArray) (w : World) (h : RdP w g s (b + 1)) (hs : s.size ≤ 9223372036854775807) => opposite_any g k (ih k (by omega)) s b w h hs b0 hbk)
      obtain ⟨l, hl⟩ : ∃ l, l = s.data.toList := ⟨_, rfl⟩
      have HN := Lib.hid (next_any g s (b + 1) w1 hR1 hs)
      have HL := Lib.hid hl
      rw [← hl] at HN ⊢
      clear ih h hR1 hl hb hm
      go_enter Try.func91, Try.ntmps91
      go_wp2_with (rw [← hw1]; clear hw1)
      refine HN.out.mono ?_
      rintro e w2 ⟨rfl, s2, hR2, ht2, hg2⟩
      have hsz2 := tail_size (by rw [ht2, HL.out]) hs
      have hg12 := grown_trans hg1 hg2
      obtain ⟨c, hc⟩ : ∃ c, c = hdY l := ⟨_, rfl⟩
      rw [← hc]
      have HC := Lib.hid hc
      clear hc
      go_wp2_with fail
      refine (numberOf_any c w2).mono ?_
      rintro e w3 ⟨rfl, rfl⟩
      by_cases h40 : c = 40
      · subst h40
        have hll : l = 40 :: l.tail := by conv => lhs; rw [hd_cons (l := l) (by rw [← HC.out]; decide), ← HC.out]
        have HA := Lib.hid (show rdA l = rdC rdA l.tail by (conv => lhs; rw [hll]); exact rdA_com)
        have HCC := Lib.hid (HCO.out s2 w2 hR2 hsz2)
        rw [ht2, ← HA.out] at HCC
        clear hll
        go_wp2_with fail
        refine HCC.out.mono ?_
        rintro e w5 ⟨s5, b5, hR5, hsz5, hg5, (⟨t, r3, hrt, hlt, rfl, hr5, rfl⟩ | ⟨hno, T, y, rfl⟩)⟩
        · obtain ⟨T2, y2, e2⟩ := rd_iface hrt
          rw [e2]
          have HE := Lib.hid e2
          clear e2
          go_wp2
          go_ret2
          exact ⟨s5, _, hR5, hsz5, grown_trans hg12 hg5, .inl ⟨t, r3, hrt, hlt, by rw [HE.out]; rfl, hr5, rfl⟩⟩
        · go_wp2
          go_ret2
          exact ⟨s5, _, hR5, hsz5, grown_trans hg12 hg5, .inr ⟨hno, T, y, rfl⟩⟩
      · have q40 : ((c.toNat : Int) == 40) = false := by
          rw [beq_eq_false_iff_ne]
          intro e
          exact h40 (UInt8.toNat_inj.1 (by show _ = 40; omega))
        obtain ⟨x, hx⟩ : ∃ x, x = ltN c := ⟨_, rfl⟩
        have HX := Lib.hid hx
        obtain ⟨d, hd⟩ : ∃ d, d = (c.toNat : Int) := ⟨_, rfl⟩
        have H40 := Lib.hid h40
        rw [← hx, ← hd]
        rw [← hd] at q40
        clear hx hd h40
        cases hlf : isLf x with
        | true =>
          have HLF := Lib.hid hlf
          go_wp2_with (go_at_call 117; refine (isLeaf_any _ _).mono ?_; rw [hlf]; rintro e w' ⟨rfl, rfl⟩)
          go_ret2
          have hll : l = c :: l.tail := by rw [HC.out]; exact hd_num (by rw [← HC.out, ← HX.out]; intro e; rw [e] at HLF; exact absurd HLF.out (by decide))
          have hA : rdA l = some ([x], l.tail) := by rw [HX.out]; (conv => lhs; rw [hll]); exact rdA_leaf (by rw [← HX.out]; exact HLF.out)
          exact ⟨s2, _, hR2, hsz2, hg12, .inl ⟨[x], l.tail, hA, by simp; omega, by rw [show tmV [x].length [x] = _ from tmV_leaf HLF.out]; rfl, ht2, by simp⟩⟩
        | false =>
          have HLF := Lib.hid hlf
          by_cases h12 : x = 12
          · subst h12
            have h45 : c = 45 := ltN_12 HX.out.symm
            have hll : l = c :: l.tail := by rw [HC.out]; exact hd_cons (by rw [← HC.out, h45]; decide)
            have HA := Lib.hid (show rdA l = rdO l.tail by (conv => lhs; rw [hll]); exact rdA_opp HX.out.symm)
            have HO := Lib.hid (HOP.out s2 w2 hR2 hsz2)
            rw [ht2, ← HA.out] at HO
            clear h45 hll
            go_wp2_with (go_at_call 117; refine (isLeaf_any _ _).mono ?_; rw [hlf]; rintro e w' ⟨rfl, rfl⟩)
            refine HO.out.mono ?_
            rintro e w5 ⟨s5, b5, hR5, hsz5, hg5, (⟨t, r3, hrt, hlt, rfl, hr5, rfl⟩ | ⟨hno, T, y, rfl⟩)⟩
            · obtain ⟨T2, y2, e2⟩ := rd_iface hrt
              rw [e2]
              have HE := Lib.hid e2
              clear e2
              go_wp2
              go_ret2
              exact ⟨s5, _, hR5, hsz5, grown_trans hg12 hg5, .inl ⟨t, r3, hrt, hlt, by rw [HE.out]; rfl, hr5, rfl⟩⟩
            · go_wp2
              go_ret2
              exact ⟨s5, _, hR5, hsz5, grown_trans hg12 hg5, .inr ⟨hno, T, y, rfl⟩⟩
          · have q12 : (x == 12) = false := by rw [beq_eq_false_iff_ne]; exact h12
            have HNO := Lib.hid (show rdA l = none by
              cases hl0 : l with
              | nil => rfl
              | cons d l' =>
                have hcd : c = d := by rw [HC.out, hl0]; rfl
                rw [← hcd]
                exact rdA_no (by rw [← HX.out]; exact HLF.out) (by rw [← HX.out]; exact h12) H40.out)
            clear h12
            go_wp2_with (go_at_call 117; refine (isLeaf_any _ _).mono ?_; rw [hlf]; rintro e w' ⟨rfl, rfl⟩)
            go_ret2
            exact ⟨s2, _, hR2, hsz2, hg12, .inr ⟨fun t r ht => (by rw [HNO.out] at ht; cases ht), _, _, rfl⟩⟩
end Go.Proofs.Ytidbilgnclfplaa
