import Derived.Test.YtaflhjjnkejcoaaLC
import Derived.Test.YtaflhjjnkejcoaaSG5
import Derived.Test.YtaflhjjnkejcoaaN12
namespace Go.Proofs.Ytaflhjjnkejcoaa
open Go.RowKit

set_option maxRecDepth 100000 in
set_option maxHeartbeats 16000000 in
/-- laws.FnHeartOf -/
theorem lawPHeartOf (a0 : Option Addr) (len0 cap0 : Nat) (w : World) (hy : RdY w a0 len0 w.heap.size) (hc : len0 ≤ cap0) (hm : len0 ≤ maxLen) :
    Calls Try.prog 11 #[.slice a0 len0 cap0] w fun e w' => e = .returned (.bool true) ∧ Below w.heap.size w w' := by
  by_cases hbig : 1048576 < len0
  · have hbig2 : (1048576 : Int) < len0 := by omega
    go_enter Try.func11, Try.ntmps11
    go_wp2
    go_ret
    exact ⟨rfl, Below.refl _ _⟩
  · have hs : len0 ≤ 1048576 := by omega
    have hs2 : ¬ (1048576 : Int) < len0 := by omega
    go_enter Try.func11, Try.ntmps11
    go_wp2_with fail
    refine (drawHeartOf_any a0 len0 cap0 w hy hc hs).mono ?_
    rintro e w1 ⟨L, T, a, ca, b, cb, rfl, hP, hr, hT, hb⟩
    have _ := hm
    clear hs hs2 hbig hy hm hc
    obtain ⟨l1, l7, t6, r6⟩ := someP_len hP
    have hM : (L.length : Int) ≤ 9223372036854775807 := by omega
    obtain ⟨g, hg⟩ : ∃ g, g = w1.heap.size := ⟨_, rfl⟩
    obtain ⟨w2, hw2⟩ : ∃ w2, w2 = w1.alloc (.cells #[.slice a L.length ca, .slice b T.length cb] 26) := ⟨_, rfl⟩
    have hB : Below w.heap.size w w2 := by rw [hw2]; exact hb.alloc hb.size _
    have hB2 : Below w1.heap.size w1 w2 := by rw [hw2]; exact (Below.refl _ _).alloc (Nat.le_refl _) _
    have hx2 : w2.heap[g]? = some (.cells #[.slice a L.length ca, .slice b T.length cb] 26 (0, 0)) := by rw [hw2, hg]; exact heap_alloc_new w1 _
    have KX := Lib.hid (show ∀ wz, Below w2.heap.size w2 wz → wz.heap[g]? = some (.cells #[.slice a L.length ca, .slice b T.length cb] 26 (0, 0)) from fun wz h => (h.block _ (lt_of_block hx2)).trans hx2)
    have K0 := Lib.hid (show ∀ wz, Below w2.heap.size w2 wz → wz.cell? ⟨g, 0, none⟩ = some (.slice a L.length ca) from fun wz h => (bx_cells (KX.out _ h)).1)
    have K1 := Lib.hid (show ∀ wz, Below w2.heap.size w2 wz → wz.cell? ⟨g, 1, none⟩ = some (.slice b T.length cb) from fun wz h => (bx_cells (KX.out _ h)).2)
    have KR := Lib.hid (show ∀ wz, Below w2.heap.size w2 wz → Rd wz a L from fun wz h => (hr.below hB2).below h)
    have KT := Lib.hid (show ∀ wz, Below w2.heap.size w2 wz → RdT wz b T from fun wz h => (hT.below hB2).below h)
    have FIN := Lib.hid (show ∀ wz, Below w2.heap.size w2 wz → Below w.heap.size w wz from fun wz h => hB.trans (h.mono hB.size))
    have z : Below w2.heap.size w2 w2 := Below.refl _ _
    have HP := Lib.hid hP
    clear hP hr hT hb hB hB2 hx2 r6
    have c0 := K0.out _ z
    have c1 := K1.out _ z
    cases ha : algB L T with
    | false =>
      obtain ⟨v1, v2⟩ := hrt_out ha
      go_wp2_with (first
      | go_skip
      | (refine wpList_store_row rfl 26 _ _ rfl w1.heap.size #[.slice a L.length ca, .slice b T.length cb] rfl rfl _ _ (heap_alloc_new w1 (.cells #[.slice none 0 0, .slice none 0 0] 26)) (size_Alg _ _) rfl (one_sl2 _ _ _ _ _ _) ?_; rw [World.setRow_alloc_new]; rw [← hw2, ← hg]; clear hw2 hg)
      | (refine wpList_store_row rfl 26 _ _ rfl w1.heap.size #[.slice a L.length ca, .slice (some ⟨B, off, none⟩) T.length cb] rfl rfl _ _ (heap_alloc_new w1 (.cells #[.slice none 0 0, .slice none 0 0] 26)) (size_Alg _ _) rfl (one_sl2 _ _ _ _ _ _) ?_; rw [World.setRow_alloc_new]; rw [← hw2, ← hg]; clear hw2 hg)
      | (refine wpList_load_row_w rfl 26 _ rfl g rfl _ _ _ _ (KX.out _ z) Try.underlying26 rfl (size_Alg _ _) ?_)
      | (go_at_call 53; refine (implHeartOf_any _ _ _ _ L T _ (KR.out _ z) (KT.out _ z)).mono ?_; rintro e wz ⟨rfl, hb⟩; replace z := z.trans (hb.mono z.size); (try clear c0 c1); have c0 := K0.out _ z; have c1 := K1.out _ z; (try replace q1 := Q1.out _ z); (try replace q2 := Q2.out _ z))
      | (go_at_call 54; refine (specHeartOf_any _ _ _ _ L T _ (KR.out _ z) (KT.out _ z)).mono ?_; rintro e wz ⟨rfl, hb⟩; replace z := z.trans (hb.mono z.size); (try clear c0 c1); have c0 := K0.out _ z; have c1 := K1.out _ z; (try replace q1 := Q1.out _ z); (try replace q2 := Q2.out _ z))
      | (go_at_call 21; refine (implValidAlgebra_any _ _ _ _ L T _ (KR.out _ z) (KT.out _ z)).mono ?_; rintro e wz ⟨rfl, hb⟩; replace z := z.trans (hb.mono z.size); (try clear c0 c1); have c0 := K0.out _ z; have c1 := K1.out _ z; (try replace q1 := Q1.out _ z); (try replace q2 := Q2.out _ z)))
      go_ret
      exact ⟨rfl, FIN.out _ z⟩
    | true =>
      have hl := alg_lat ha
      have l6 : (L.length : Int) ≤ 6 := (latB_parts hl).2.1
      have hp6 := (pw_6 l6).2
      have hsg := sg_hrt HP.out ha
      unfold sg_hrtP at hsg
      simp only [Bool.and_eq_true] at hsg
      obtain ⟨s1, s2, s3⟩ := hsg
      obtain ⟨V, hV⟩ : ∃ V, V = fls L T := ⟨_, rfl⟩
      rw [← hV] at s1
      have HF := Lib.hid (show ∀ (a b : Option Addr) (ca cb : Nat) (w : World), Rd w a L → RdT w b T → Calls Try.prog 55 #[.agg #[.slice a L.length ca, .slice b T.length cb]] w (RetSl w.heap.size V w) from fun a b ca cb w h1 h2 => by have := implFiltersOf_any a b ca cb L T w h1 h2; rw [show algV L T (fls L T) = V by unfold algV; rw [ha, hV]; rfl] at this; exact this)
      have hM2 : V.length ≤ 64 := by rw [hV]; exact fls_len L T l6
      have HR := Lib.hid (show ∀ i : Int, 0 ≤ i → i < V.length → 0 ≤ nth V i ∧ nth V i ≤ 63 from fun i i0 i1 => by
        have h1 := nth_mem' V i0 i1
        rw [hV] at h1
        have := fls_mem.1 h1
        rw [hV]; exact ⟨this.1, by omega⟩)
      have hpr : hpB ⟨#[112, 114, 101, 108, 105, 110, 101, 97, 114]⟩ L T = hasB 0 L T := by unfold hpB; rw [ha, show prIx ⟨#[112, 114, 101, 108, 105, 110, 101, 97, 114]⟩ = 0 by decide +kernel]; rfl
      obtain ⟨ch, ech⟩ : ∃ q, q = chainB L := ⟨_, rfl⟩
      obtain ⟨pr, epr⟩ : ∃ q, q = hasB 0 L T := ⟨_, rfl⟩
      have hch : (latB L && chainB L) = ch := by rw [hl, ech, Bool.true_and]
      rw [← ech] at s2 s3
      rw [← epr] at hpr s3
      cases ho : (hrtC L T == pw (num L - 1)) with
      | true =>
        obtain ⟨v1, v2⟩ := hrt_no ho
        have ho2 : (hrtC L T != pw (num L - 1)) = false := by unfold bne; rw [ho]; rfl
        rw [ho2] at s2
        have hnn : ch = true → ¬ (1 : Int) < L.length := fun h => by
          rw [h] at s2
          simp only [Bool.not_true, Bool.false_or, beq_iff_eq] at s2
          have := of_decide_eq_false s2.symm
          exact this
        have ha' := Lib.hid ha
        clear s1 s2 s3 hV ech epr ho ho2 hl hp6
        cases ch
        all_goals
          (try have nn := hnn rfl)
          clear hnn
          cases pr
          all_goals
            go_wp2_with (first
              | go_skip
              | (refine wpList_store_row rfl 26 _ _ rfl w1.heap.size #[.slice a L.length ca, .slice b T.length cb] rfl rfl _ _ (heap_alloc_new w1 (.cells #[.slice none 0 0, .slice none 0 0] 26)) (size_Alg _ _) rfl (one_sl2 _ _ _ _ _ _) ?_; rw [World.setRow_alloc_new]; rw [← hw2, ← hg]; clear hw2 hg)
              | (refine wpList_store_row rfl 26 _ _ rfl w1.heap.size #[.slice a L.length ca, .slice (some ⟨B, off, none⟩) T.length cb] rfl rfl _ _ (heap_alloc_new w1 (.cells #[.slice none 0 0, .slice none 0 0] 26)) (size_Alg _ _) rfl (one_sl2 _ _ _ _ _ _) ?_; rw [World.setRow_alloc_new]; rw [← hw2, ← hg]; clear hw2 hg)
              | (refine wpList_load_row_w rfl 26 _ rfl g rfl _ _ _ _ (KX.out _ z) Try.underlying26 rfl (size_Alg _ _) ?_)
              | (go_at_call 53; refine (implHeartOf_any _ _ _ _ L T _ (KR.out _ z) (KT.out _ z)).mono ?_; rintro e wz ⟨rfl, hb⟩; replace z := z.trans (hb.mono z.size); (try clear c0 c1); have c0 := K0.out _ z; have c1 := K1.out _ z; (try replace q1 := Q1.out _ z); (try replace q2 := Q2.out _ z))
              | (go_at_call 54; refine (specHeartOf_any _ _ _ _ L T _ (KR.out _ z) (KT.out _ z)).mono ?_; rintro e wz ⟨rfl, hb⟩; replace z := z.trans (hb.mono z.size); (try clear c0 c1); have c0 := K0.out _ z; have c1 := K1.out _ z; (try replace q1 := Q1.out _ z); (try replace q2 := Q2.out _ z))
              | (go_at_call 21; refine (implValidAlgebra_any _ _ _ _ L T _ (KR.out _ z) (KT.out _ z)).mono ?_; rintro e wz ⟨rfl, hb⟩; replace z := z.trans (hb.mono z.size); (try clear c0 c1); have c0 := K0.out _ z; have c1 := K1.out _ z; (try replace q1 := Q1.out _ z); (try replace q2 := Q2.out _ z))
              | (go_at_call 55; refine (HF.out _ _ _ _ _ (KR.out _ z) (KT.out _ z)).mono ?_; rintro e wz ⟨aT, cT, rfl, oT, hb⟩; replace z := z.trans (hb.mono z.size); (try clear c0 c1); have c0 := K0.out _ z; have c1 := K1.out _ z; (try replace q1 := Q1.out _ z); (try replace q2 := Q2.out _ z); have hT : Rd wz aT V := oT.rd; clear oT))
            clear c0 c1
            go_loopw [9] (fun xv wr => xv = .int .i64 0 ∧ Below w2.heap.size w2 wr) (fun xv _ => 0)
            case atStart => exact ⟨rfl, z⟩
            case round =>
              obtain ⟨rfl, z⟩ := hrel
              have c0 := K0.out _ z
              have c1 := K1.out _ z
              go_wp2_with (first
                | go_skip
                | (refine wpList_store_row rfl 26 _ _ rfl w1.heap.size #[.slice a L.length ca, .slice b T.length cb] rfl rfl _ _ (heap_alloc_new w1 (.cells #[.slice none 0 0, .slice none 0 0] 26)) (size_Alg _ _) rfl (one_sl2 _ _ _ _ _ _) ?_; rw [World.setRow_alloc_new]; rw [← hw2, ← hg]; clear hw2 hg)
                | (refine wpList_store_row rfl 26 _ _ rfl w1.heap.size #[.slice a L.length ca, .slice (some ⟨B, off, none⟩) T.length cb] rfl rfl _ _ (heap_alloc_new w1 (.cells #[.slice none 0 0, .slice none 0 0] 26)) (size_Alg _ _) rfl (one_sl2 _ _ _ _ _ _) ?_; rw [World.setRow_alloc_new]; rw [← hw2, ← hg]; clear hw2 hg)
                | (refine wpList_load_row_w rfl 26 _ rfl g rfl _ _ _ _ (KX.out _ z) Try.underlying26 rfl (size_Alg _ _) ?_)
                | (go_at_call 56; refine (implIsChain_any _ _ L _ (KR.out _ z)).mono ?_; rintro e wz ⟨rfl, hb⟩; replace z := z.trans (hb.mono z.size); (try clear c0 c1); have c0 := K0.out _ z; have c1 := K1.out _ z; (try replace q1 := Q1.out _ z); (try replace q2 := Q2.out _ z))
                | (go_at_call 19; refine (implHasProperty_any ⟨#[112, 114, 101, 108, 105, 110, 101, 97, 114]⟩ _ _ _ _ L T _ (KR.out _ z) (KT.out _ z)).mono ?_; rintro e wz ⟨rfl, hb⟩; replace z := z.trans (hb.mono z.size); (try clear c0 c1); have c0 := K0.out _ z; have c1 := K1.out _ z; (try replace q1 := Q1.out _ z); (try replace q2 := Q2.out _ z)))
              all_goals go_ret
              all_goals exact ⟨by first | rfl | exact ret_bool (by first | (simp; done) | (simp; omega)), FIN.out _ z⟩
      | false =>
        obtain ⟨v1, v2⟩ := hrt_yes ha ho
        have ho2 : (hrtC L T != pw (num L - 1)) = true := by unfold bne; rw [ho]; rfl
        rw [ho2] at s1 s2 s3
        simp only [Bool.not_true, Bool.false_or, Bool.and_eq_true, Bool.true_and] at s1 s2 s3
        obtain ⟨s4, s5, s6⟩ := s1
        obtain ⟨F, hF⟩ : ∃ F, F = hrtC L T := ⟨_, rfl⟩
        rw [← hF] at v1 s4 s5 s6
        have hfil : afB L T F = true := by unfold afB; rw [ha, s5]; rfl
        have hF2 : 0 ≤ F ∧ F ≤ 63 := by
          unfold isFilB setB at s5
          rw [Bool.and_eq_true, Bool.and_eq_true, decide_eq_true_iff, decide_eq_true_iff] at s5
          have : num L = L.length := rfl
          omega
        obtain ⟨f0, f63⟩ := hF2
        have hw6 : 1 < wt F := of_decide_eq_true s6
        have HV := Lib.hid (show ∀ i : Int, 0 ≤ i → i < V.length → 1 < wt (nth V i) → an (nth V i) F = F from fun i i0 i1 hw => by
          have h1 := nth_mem' V i0 i1
          have := (List.all_eq_true.1 s4) _ h1
          rw [decide_eq_true hw] at this
          simpa using this)
        have hnn : ch = true → (1 : Int) < L.length := fun h => by
          rw [h] at s2
          simp only [Bool.not_true, Bool.false_or, beq_iff_eq] at s2
          have := of_decide_eq_true s2.symm
          exact this
        have hcp : pr = true → ch = true := fun h => by rw [h] at s3; simpa using s3
        have ha' := Lib.hid ha
        clear s2 s3 s4 s5 s6 hV ech epr ho ho2 hl hp6 hF
        have hc3 : (ch = true ∧ pr = true) ∨ (ch = true ∧ pr = false) ∨ (ch = false ∧ pr = false) := by
          cases ch <;> cases pr <;> simp at hcp ⊢
        clear hcp
        rcases hc3 with ⟨rfl, rfl⟩ | ⟨rfl, rfl⟩ | ⟨rfl, rfl⟩
        all_goals
          (try have nn := hnn rfl)
          clear hnn
          all_goals
            go_wp2_with (first
              | go_skip
              | (refine wpList_store_row rfl 26 _ _ rfl w1.heap.size #[.slice a L.length ca, .slice b T.length cb] rfl rfl _ _ (heap_alloc_new w1 (.cells #[.slice none 0 0, .slice none 0 0] 26)) (size_Alg _ _) rfl (one_sl2 _ _ _ _ _ _) ?_; rw [World.setRow_alloc_new]; rw [← hw2, ← hg]; clear hw2 hg)
              | (refine wpList_store_row rfl 26 _ _ rfl w1.heap.size #[.slice a L.length ca, .slice (some ⟨B, off, none⟩) T.length cb] rfl rfl _ _ (heap_alloc_new w1 (.cells #[.slice none 0 0, .slice none 0 0] 26)) (size_Alg _ _) rfl (one_sl2 _ _ _ _ _ _) ?_; rw [World.setRow_alloc_new]; rw [← hw2, ← hg]; clear hw2 hg)
              | (refine wpList_load_row_w rfl 26 _ rfl g rfl _ _ _ _ (KX.out _ z) Try.underlying26 rfl (size_Alg _ _) ?_)
              | (go_at_call 53; refine (implHeartOf_any _ _ _ _ L T _ (KR.out _ z) (KT.out _ z)).mono ?_; rintro e wz ⟨rfl, hb⟩; replace z := z.trans (hb.mono z.size); (try clear c0 c1); have c0 := K0.out _ z; have c1 := K1.out _ z; (try replace q1 := Q1.out _ z); (try replace q2 := Q2.out _ z))
              | (go_at_call 54; refine (specHeartOf_any _ _ _ _ L T _ (KR.out _ z) (KT.out _ z)).mono ?_; rintro e wz ⟨rfl, hb⟩; replace z := z.trans (hb.mono z.size); (try clear c0 c1); have c0 := K0.out _ z; have c1 := K1.out _ z; (try replace q1 := Q1.out _ z); (try replace q2 := Q2.out _ z))
              | (go_at_call 21; refine (implValidAlgebra_any _ _ _ _ L T _ (KR.out _ z) (KT.out _ z)).mono ?_; rintro e wz ⟨rfl, hb⟩; replace z := z.trans (hb.mono z.size); (try clear c0 c1); have c0 := K0.out _ z; have c1 := K1.out _ z; (try replace q1 := Q1.out _ z); (try replace q2 := Q2.out _ z))
              | (go_at_call 55; refine (HF.out _ _ _ _ _ (KR.out _ z) (KT.out _ z)).mono ?_; rintro e wz ⟨aT, cT, rfl, oT, hb⟩; replace z := z.trans (hb.mono z.size); (try clear c0 c1); have c0 := K0.out _ z; have c1 := K1.out _ z; (try replace q1 := Q1.out _ z); (try replace q2 := Q2.out _ z); have hT : Rd wz aT V := oT.rd; clear oT))
            clear c0 c1
            go_loopw [9] (fun xv wr => ∃ i : Int, 0 ≤ i ∧ i ≤ V.length ∧ xv = .int .i64 i ∧ Below w2.heap.size w2 wr ∧ Rd wr aT V) (fun xv _ => ((V.length : Int) - intOf xv).toNat)
            case atStart => exact ⟨0, by omega, by omega, rfl, z, hT⟩
            case round =>
              obtain ⟨i, i0, i1, rfl, z, hT⟩ := hrel
              by_cases hi : i < V.length
              · have hT' := hT
                obtain ⟨b2, o2, rfl, hc2⟩ := hT' (by intro e; rw [e] at hi; simp at hi; omega)
                have c3 := hc2.at i i0 hi
                obtain ⟨r0, r1⟩ := HR.out i i0 hi
                have hbt : bits BinOp.and IntKind.i64 (nth V i) F = an (nth V i) F := bits_and_i64 _ _ r0 (by omega) f0 (by omega)
                clear hc2
                by_cases hw : 1 < wt (nth V i)
                · have V1 := HV.out i i0 hi hw
                  go_wp2_with (first | go_skip | (go_at_call 43; refine (lawWeight_any _ _ (by omega) (by omega)).mono ?_; rintro e wz ⟨rfl, rfl⟩))
                  go_roundw
                  case rel => exact ⟨i + 1, by omega, by omega, rfl, z, hT⟩
                  case measure => simp [intOf]; omega
                · go_wp2_with (first | go_skip | (go_at_call 43; refine (lawWeight_any _ _ (by omega) (by omega)).mono ?_; rintro e wz ⟨rfl, rfl⟩))
                  go_roundw
                  case rel => exact ⟨i + 1, by omega, by omega, rfl, z, hT⟩
                  case measure => simp [intOf]; omega
              · have c0 := K0.out _ z
                have c1 := K1.out _ z
                go_wp2_with (first
                  | go_skip
                  | (refine wpList_store_row rfl 26 _ _ rfl w1.heap.size #[.slice a L.length ca, .slice b T.length cb] rfl rfl _ _ (heap_alloc_new w1 (.cells #[.slice none 0 0, .slice none 0 0] 26)) (size_Alg _ _) rfl (one_sl2 _ _ _ _ _ _) ?_; rw [World.setRow_alloc_new]; rw [← hw2, ← hg]; clear hw2 hg)
                  | (refine wpList_store_row rfl 26 _ _ rfl w1.heap.size #[.slice a L.length ca, .slice (some ⟨B, off, none⟩) T.length cb] rfl rfl _ _ (heap_alloc_new w1 (.cells #[.slice none 0 0, .slice none 0 0] 26)) (size_Alg _ _) rfl (one_sl2 _ _ _ _ _ _) ?_; rw [World.setRow_alloc_new]; rw [← hw2, ← hg]; clear hw2 hg)
                  | (refine wpList_load_row_w rfl 26 _ rfl g rfl _ _ _ _ (KX.out _ z) Try.underlying26 rfl (size_Alg _ _) ?_)
                  | (go_at_call 56; refine (implIsChain_any _ _ L _ (KR.out _ z)).mono ?_; rintro e wz ⟨rfl, hb⟩; replace z := z.trans (hb.mono z.size); (try clear c0 c1); have c0 := K0.out _ z; have c1 := K1.out _ z; (try replace q1 := Q1.out _ z); (try replace q2 := Q2.out _ z))
                  | (go_at_call 19; refine (implHasProperty_any ⟨#[112, 114, 101, 108, 105, 110, 101, 97, 114]⟩ _ _ _ _ L T _ (KR.out _ z) (KT.out _ z)).mono ?_; rintro e wz ⟨rfl, hb⟩; replace z := z.trans (hb.mono z.size); (try clear c0 c1); have c0 := K0.out _ z; have c1 := K1.out _ z; (try replace q1 := Q1.out _ z); (try replace q2 := Q2.out _ z))
                  | (go_at_call 39; refine (implIsFilter_any _ _ _ _ L T _ _ (KR.out _ z) (KT.out _ z)).mono ?_; rintro e wz ⟨rfl, hb⟩; replace z := z.trans (hb.mono z.size); (try clear c0 c1); have c0 := K0.out _ z; have c1 := K1.out _ z; (try replace q1 := Q1.out _ z); (try replace q2 := Q2.out _ z))
                  | (go_at_call 43; refine (lawWeight_any _ _ (by omega) (by omega)).mono ?_; rintro e wz ⟨rfl, rfl⟩))
                all_goals go_ret
                all_goals exact ⟨by first | rfl | exact ret_bool (by first | (simp; done) | (simp; omega)), FIN.out _ z⟩
end Go.Proofs.Ytaflhjjnkejcoaa
