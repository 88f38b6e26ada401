import Derived.Test.YtaflhjjnkejcoaaSG2
import Derived.Test.YtaflhjjnkejcoaaSL0
import Derived.Test.YtaflhjjnkejcoaaSA11
namespace Go.Proofs.Ytaflhjjnkejcoaa
open Go.RowKit

set_option maxRecDepth 100000 in
set_option maxHeartbeats 2000000 in
/-- laws.FnHasProperty -/
theorem lawPHasProperty (a0 : Option Addr) (len0 cap0 : Nat) (w : World) (hy : RdY w a0 len0 w.heap.size) (hc : len0 ≤ cap0) (hm : len0 ≤ maxLen) :
    Calls Try.prog 4 #[.slice a0 len0 cap0] w fun e w' => e = .returned (.bool true) ∧ Below w.heap.size w w' := by
  by_cases hbig : 1048576 < len0
  · have hbig2 : (1048576 : Int) < len0 := by omega
    go_enter Try.func4, Try.ntmps4
    go_wp2
    go_ret
    exact ⟨rfl, Below.refl _ _⟩
  · have hs : len0 ≤ 1048576 := by omega
    have hs2 : ¬ (1048576 : Int) < len0 := by omega
    go_enter Try.func4, Try.ntmps4
    go_wp2_with fail
    refine (drawHasProperty_any a0 len0 cap0 w hy hc hs).mono ?_
    rintro e w1 ⟨L, T, a, ca, b, cb, s, rfl, hS, hP, hr, hT, hb⟩
    have _ := hm
    clear hs hs2 hbig hy hm hc
    obtain ⟨l1, l7, t6, r6⟩ := someP_len hP
    have hM : (L.length : Int) ≤ 9223372036854775807 := by omega
    obtain ⟨g, hg⟩ : ∃ g, g = w1.heap.size := ⟨_, rfl⟩
    obtain ⟨w2, hw2⟩ : ∃ w2, w2 = w1.alloc (.cells #[.slice a L.length ca, .slice b T.length cb] 26) := ⟨_, rfl⟩
    have hB : Below w.heap.size w w2 := by rw [hw2]; exact hb.alloc hb.size _
    have hB2 : Below w1.heap.size w1 w2 := by rw [hw2]; exact (Below.refl _ _).alloc (Nat.le_refl _) _
    have hx2 : w2.heap[g]? = some (.cells #[.slice a L.length ca, .slice b T.length cb] 26 (0, 0)) := by rw [hw2, hg]; exact heap_alloc_new w1 _
    have KX := Lib.hid (show ∀ wz, Below w2.heap.size w2 wz → wz.heap[g]? = some (.cells #[.slice a L.length ca, .slice b T.length cb] 26 (0, 0)) from fun wz h => (h.block _ (lt_of_block hx2)).trans hx2)
    have K0 := Lib.hid (show ∀ wz, Below w2.heap.size w2 wz → wz.cell? ⟨g, 0, none⟩ = some (.slice a L.length ca) from fun wz h => (bx_cells (KX.out _ h)).1)
    have K1 := Lib.hid (show ∀ wz, Below w2.heap.size w2 wz → wz.cell? ⟨g, 1, none⟩ = some (.slice b T.length cb) from fun wz h => (bx_cells (KX.out _ h)).2)
    have KR := Lib.hid (show ∀ wz, Below w2.heap.size w2 wz → Rd wz a L from fun wz h => (hr.below hB2).below h)
    have KT := Lib.hid (show ∀ wz, Below w2.heap.size w2 wz → RdT wz b T from fun wz h => (hT.below hB2).below h)
    have FIN := Lib.hid (show ∀ wz, Below w2.heap.size w2 wz → Below w.heap.size w wz from fun wz h => hB.trans (h.mono hB.size))
    have z : Below w2.heap.size w2 w2 := Below.refl _ _
    have HP := Lib.hid hP
    clear hP hr hT hb hB hB2 hx2 r6
    have c0 := K0.out _ z
    have c1 := K1.out _ z
    cases ha : algB L T with
    | false =>
      have e0 : hpB s L T = false := by unfold hpB; rw [ha]; rfl
      clear hS
      go_wp2_with (first
      | go_skip
      | (refine wpList_store_row rfl 26 _ _ rfl w1.heap.size #[.slice a L.length ca, .slice b T.length cb] rfl rfl _ _ (heap_alloc_new w1 (.cells #[.slice none 0 0, .slice none 0 0] 26)) (size_Alg _ _) rfl (one_sl2 _ _ _ _ _ _) ?_; rw [World.setRow_alloc_new]; rw [← hw2, ← hg]; clear hw2 hg)
      | (refine wpList_store_row rfl 26 _ _ rfl w1.heap.size #[.slice a L.length ca, .slice (some ⟨B, off, none⟩) T.length cb] rfl rfl _ _ (heap_alloc_new w1 (.cells #[.slice none 0 0, .slice none 0 0] 26)) (size_Alg _ _) rfl (one_sl2 _ _ _ _ _ _) ?_; rw [World.setRow_alloc_new]; rw [← hw2, ← hg]; clear hw2 hg)
      | (refine wpList_load_row_w rfl 26 _ rfl g rfl _ _ _ _ (KX.out _ z) Try.underlying26 rfl (size_Alg _ _) ?_)
      | (go_at_call 19; refine (implHasProperty_any s _ _ _ _ L T _ (KR.out _ z) (KT.out _ z)).mono ?_; rintro e wz ⟨rfl, hb⟩; replace z := z.trans (hb.mono z.size); (try clear c0 c1); have c0 := K0.out _ z; have c1 := K1.out _ z; (try replace q1 := Q1.out _ z); (try replace q2 := Q2.out _ z))
      | (go_at_call 20; refine (specHasProperty_any s _ _ _ _ L T _ (KR.out _ z) (KT.out _ z)).mono ?_; rintro e wz ⟨rfl, hb⟩; replace z := z.trans (hb.mono z.size); (try clear c0 c1); have c0 := K0.out _ z; have c1 := K1.out _ z; (try replace q1 := Q1.out _ z); (try replace q2 := Q2.out _ z))
      | (go_at_call 21; refine (implValidAlgebra_any _ _ _ _ L T _ (KR.out _ z) (KT.out _ z)).mono ?_; rintro e wz ⟨rfl, hb⟩; replace z := z.trans (hb.mono z.size); (try clear c0 c1); have c0 := K0.out _ z; have c1 := K1.out _ z; (try replace q1 := Q1.out _ z); (try replace q2 := Q2.out _ z)))
      go_ret
      exact ⟨rfl, FIN.out _ z⟩
    | true =>
      have hsg := sg_has HP.out ha
      have hl := alg_lat ha
      have hn : s = ⟨#[112, 114, 101, 108, 105, 110, 101, 97, 114]⟩ ∨ s = ⟨#[100, 105, 118, 105, 115, 105, 98, 108, 101]⟩ ∨ s = ⟨#[105, 110, 118, 111, 108, 117, 116, 105, 118, 101]⟩ ∨ s = ⟨#[105, 100, 101, 109, 112, 111, 116, 101, 110, 116]⟩ ∨ s = ⟨#[98, 111, 111, 108, 101, 97, 110]⟩ ∨ s = ⟨#[]⟩ := by
        unfold prNames at hS
        simp only [List.mem_cons, List.not_mem_nil, or_false] at hS
        rcases hS with h | h | h | h | h | h | h | h <;> simp [h]
      have p0 : prIx ⟨#[112, 114, 101, 108, 105, 110, 101, 97, 114]⟩ = 0 := by decide +kernel
      have p1 : prIx ⟨#[100, 105, 118, 105, 115, 105, 98, 108, 101]⟩ = 1 := by decide +kernel
      have p2 : prIx ⟨#[105, 110, 118, 111, 108, 117, 116, 105, 118, 101]⟩ = 2 := by decide +kernel
      have p3 : prIx ⟨#[105, 100, 101, 109, 112, 111, 116, 101, 110, 116]⟩ = 3 := by decide +kernel
      have p4 : prIx ⟨#[98, 111, 111, 108, 101, 97, 110]⟩ = 4 := by decide +kernel
      have p5 : prIx ⟨#[]⟩ = 5 := by decide +kernel
      have hh : ∀ t, hpB t L T = (decide (prIx t < 5) && hasB (prIx t) L T) := fun t => by unfold hpB; rw [ha]; rfl
      have h0 : hpB ⟨#[112, 114, 101, 108, 105, 110, 101, 97, 114]⟩ L T = hasB 0 L T := by rw [hh, p0]; rfl
      have h1 : hpB ⟨#[100, 105, 118, 105, 115, 105, 98, 108, 101]⟩ L T = hasB 1 L T := by rw [hh, p1]; rfl
      have h2 : hpB ⟨#[105, 110, 118, 111, 108, 117, 116, 105, 118, 101]⟩ L T = hasB 2 L T := by rw [hh, p2]; rfl
      have h3 : hpB ⟨#[105, 100, 101, 109, 112, 111, 116, 101, 110, 116]⟩ L T = hasB 3 L T := by rw [hh, p3]; rfl
      have h4 : hpB ⟨#[98, 111, 111, 108, 101, 97, 110]⟩ L T = hasB 4 L T := by rw [hh, p4]; rfl
      have h5 : hpB ⟨#[]⟩ L T = false := by rw [hh, p5]; rfl
      unfold sgHas at hsg
      simp only [Bool.and_eq_true, beq_iff_eq, Bool.or_eq_true, Bool.not_eq_true'] at hsg
      obtain ⟨g4, gp, gd⟩ := hsg
      obtain ⟨d0, e0⟩ : ∃ q, q = hasB 0 L T := ⟨_, rfl⟩
      obtain ⟨d1, e1⟩ : ∃ q, q = hasB 1 L T := ⟨_, rfl⟩
      obtain ⟨d2, e2⟩ : ∃ q, q = hasB 2 L T := ⟨_, rfl⟩
      obtain ⟨d3, e3⟩ : ∃ q, q = hasB 3 L T := ⟨_, rfl⟩
      obtain ⟨d4, e4⟩ : ∃ q, q = hasB 4 L T := ⟨_, rfl⟩
      obtain ⟨dd, ed⟩ : ∃ q, q = distB L := ⟨_, rfl⟩
      rw [← e0] at h0 gp
      rw [← e1] at h1 gd
      rw [← e2] at h2 g4
      rw [← e3] at h3 g4
      rw [← e4] at h4 g4
      have hd : (latB L && distB L) = dd := by rw [hl, ed, Bool.true_and]
      rw [← ed] at gp gd
      clear e0 e1 e2 e3 e4 ed hh p0 p1 p2 p3 p4 p5 hl hS HP l1 l7 t6 hM
      subst g4
      rcases hn with rfl | rfl | rfl | rfl | rfl | rfl
      · cases d0 <;> cases dd <;> first | (simp at gp; done) | skip
        all_goals
          cases d2 <;> cases d3
          all_goals
            go_wp2_with (first
              | go_skip
              | (refine wpList_store_row rfl 26 _ _ rfl w1.heap.size #[.slice a L.length ca, .slice b T.length cb] rfl rfl _ _ (heap_alloc_new w1 (.cells #[.slice none 0 0, .slice none 0 0] 26)) (size_Alg _ _) rfl (one_sl2 _ _ _ _ _ _) ?_; rw [World.setRow_alloc_new]; rw [← hw2, ← hg]; clear hw2 hg)
              | (refine wpList_store_row rfl 26 _ _ rfl w1.heap.size #[.slice a L.length ca, .slice (some ⟨B, off, none⟩) T.length cb] rfl rfl _ _ (heap_alloc_new w1 (.cells #[.slice none 0 0, .slice none 0 0] 26)) (size_Alg _ _) rfl (one_sl2 _ _ _ _ _ _) ?_; rw [World.setRow_alloc_new]; rw [← hw2, ← hg]; clear hw2 hg)
              | (refine wpList_load_row_w rfl 26 _ rfl g rfl _ _ _ _ (KX.out _ z) Try.underlying26 rfl (size_Alg _ _) ?_)
              | (go_at_call_of 19 (Value.string ⟨#[112, 114, 101, 108, 105, 110, 101, 97, 114]⟩); refine (implHasProperty_any ⟨#[112, 114, 101, 108, 105, 110, 101, 97, 114]⟩ _ _ _ _ L T _ (KR.out _ z) (KT.out _ z)).mono ?_; rintro e wz ⟨rfl, hb⟩; replace z := z.trans (hb.mono z.size); (try clear c0 c1); have c0 := K0.out _ z; have c1 := K1.out _ z; (try replace q1 := Q1.out _ z); (try replace q2 := Q2.out _ z))
              | (go_at_call_of 19 (Value.string ⟨#[105, 100, 101, 109, 112, 111, 116, 101, 110, 116]⟩); refine (implHasProperty_any ⟨#[105, 100, 101, 109, 112, 111, 116, 101, 110, 116]⟩ _ _ _ _ L T _ (KR.out _ z) (KT.out _ z)).mono ?_; rintro e wz ⟨rfl, hb⟩; replace z := z.trans (hb.mono z.size); (try clear c0 c1); have c0 := K0.out _ z; have c1 := K1.out _ z; (try replace q1 := Q1.out _ z); (try replace q2 := Q2.out _ z))
              | (go_at_call_of 19 (Value.string ⟨#[105, 110, 118, 111, 108, 117, 116, 105, 118, 101]⟩); refine (implHasProperty_any ⟨#[105, 110, 118, 111, 108, 117, 116, 105, 118, 101]⟩ _ _ _ _ L T _ (KR.out _ z) (KT.out _ z)).mono ?_; rintro e wz ⟨rfl, hb⟩; replace z := z.trans (hb.mono z.size); (try clear c0 c1); have c0 := K0.out _ z; have c1 := K1.out _ z; (try replace q1 := Q1.out _ z); (try replace q2 := Q2.out _ z))
              | (go_at_call_of 19 (Value.string ⟨#[98, 111, 111, 108, 101, 97, 110]⟩); refine (implHasProperty_any ⟨#[98, 111, 111, 108, 101, 97, 110]⟩ _ _ _ _ L T _ (KR.out _ z) (KT.out _ z)).mono ?_; rintro e wz ⟨rfl, hb⟩; replace z := z.trans (hb.mono z.size); (try clear c0 c1); have c0 := K0.out _ z; have c1 := K1.out _ z; (try replace q1 := Q1.out _ z); (try replace q2 := Q2.out _ z))
              | (go_at_call_of 20 (Value.string ⟨#[112, 114, 101, 108, 105, 110, 101, 97, 114]⟩); refine (specHasProperty_any ⟨#[112, 114, 101, 108, 105, 110, 101, 97, 114]⟩ _ _ _ _ L T _ (KR.out _ z) (KT.out _ z)).mono ?_; rintro e wz ⟨rfl, hb⟩; replace z := z.trans (hb.mono z.size); (try clear c0 c1); have c0 := K0.out _ z; have c1 := K1.out _ z; (try replace q1 := Q1.out _ z); (try replace q2 := Q2.out _ z))
              | (go_at_call 21; refine (implValidAlgebra_any _ _ _ _ L T _ (KR.out _ z) (KT.out _ z)).mono ?_; rintro e wz ⟨rfl, hb⟩; replace z := z.trans (hb.mono z.size); (try clear c0 c1); have c0 := K0.out _ z; have c1 := K1.out _ z; (try replace q1 := Q1.out _ z); (try replace q2 := Q2.out _ z))
              | (go_at_call 22; refine (implIsDistributive_any _ _ L _ (KR.out _ z)).mono ?_; rintro e wz ⟨rfl, hb⟩; replace z := z.trans (hb.mono z.size); (try clear c0 c1); have c0 := K0.out _ z; have c1 := K1.out _ z; (try replace q1 := Q1.out _ z); (try replace q2 := Q2.out _ z)))
            go_ret
            exact ⟨by first | rfl | exact ret_bool (by first | (simp; done) | (simpa using hd)), FIN.out _ z⟩
      · cases d1 <;> cases dd <;> first | (simp at gd; done) | skip
        all_goals
          cases d2 <;> cases d3
          all_goals
            go_wp2_with (first
              | go_skip
              | (refine wpList_store_row rfl 26 _ _ rfl w1.heap.size #[.slice a L.length ca, .slice b T.length cb] rfl rfl _ _ (heap_alloc_new w1 (.cells #[.slice none 0 0, .slice none 0 0] 26)) (size_Alg _ _) rfl (one_sl2 _ _ _ _ _ _) ?_; rw [World.setRow_alloc_new]; rw [← hw2, ← hg]; clear hw2 hg)
              | (refine wpList_store_row rfl 26 _ _ rfl w1.heap.size #[.slice a L.length ca, .slice (some ⟨B, off, none⟩) T.length cb] rfl rfl _ _ (heap_alloc_new w1 (.cells #[.slice none 0 0, .slice none 0 0] 26)) (size_Alg _ _) rfl (one_sl2 _ _ _ _ _ _) ?_; rw [World.setRow_alloc_new]; rw [← hw2, ← hg]; clear hw2 hg)
              | (refine wpList_load_row_w rfl 26 _ rfl g rfl _ _ _ _ (KX.out _ z) Try.underlying26 rfl (size_Alg _ _) ?_)
              | (go_at_call_of 19 (Value.string ⟨#[100, 105, 118, 105, 115, 105, 98, 108, 101]⟩); refine (implHasProperty_any ⟨#[100, 105, 118, 105, 115, 105, 98, 108, 101]⟩ _ _ _ _ L T _ (KR.out _ z) (KT.out _ z)).mono ?_; rintro e wz ⟨rfl, hb⟩; replace z := z.trans (hb.mono z.size); (try clear c0 c1); have c0 := K0.out _ z; have c1 := K1.out _ z; (try replace q1 := Q1.out _ z); (try replace q2 := Q2.out _ z))
              | (go_at_call_of 19 (Value.string ⟨#[105, 100, 101, 109, 112, 111, 116, 101, 110, 116]⟩); refine (implHasProperty_any ⟨#[105, 100, 101, 109, 112, 111, 116, 101, 110, 116]⟩ _ _ _ _ L T _ (KR.out _ z) (KT.out _ z)).mono ?_; rintro e wz ⟨rfl, hb⟩; replace z := z.trans (hb.mono z.size); (try clear c0 c1); have c0 := K0.out _ z; have c1 := K1.out _ z; (try replace q1 := Q1.out _ z); (try replace q2 := Q2.out _ z))
              | (go_at_call_of 19 (Value.string ⟨#[105, 110, 118, 111, 108, 117, 116, 105, 118, 101]⟩); refine (implHasProperty_any ⟨#[105, 110, 118, 111, 108, 117, 116, 105, 118, 101]⟩ _ _ _ _ L T _ (KR.out _ z) (KT.out _ z)).mono ?_; rintro e wz ⟨rfl, hb⟩; replace z := z.trans (hb.mono z.size); (try clear c0 c1); have c0 := K0.out _ z; have c1 := K1.out _ z; (try replace q1 := Q1.out _ z); (try replace q2 := Q2.out _ z))
              | (go_at_call_of 19 (Value.string ⟨#[98, 111, 111, 108, 101, 97, 110]⟩); refine (implHasProperty_any ⟨#[98, 111, 111, 108, 101, 97, 110]⟩ _ _ _ _ L T _ (KR.out _ z) (KT.out _ z)).mono ?_; rintro e wz ⟨rfl, hb⟩; replace z := z.trans (hb.mono z.size); (try clear c0 c1); have c0 := K0.out _ z; have c1 := K1.out _ z; (try replace q1 := Q1.out _ z); (try replace q2 := Q2.out _ z))
              | (go_at_call_of 20 (Value.string ⟨#[100, 105, 118, 105, 115, 105, 98, 108, 101]⟩); refine (specHasProperty_any ⟨#[100, 105, 118, 105, 115, 105, 98, 108, 101]⟩ _ _ _ _ L T _ (KR.out _ z) (KT.out _ z)).mono ?_; rintro e wz ⟨rfl, hb⟩; replace z := z.trans (hb.mono z.size); (try clear c0 c1); have c0 := K0.out _ z; have c1 := K1.out _ z; (try replace q1 := Q1.out _ z); (try replace q2 := Q2.out _ z))
              | (go_at_call 21; refine (implValidAlgebra_any _ _ _ _ L T _ (KR.out _ z) (KT.out _ z)).mono ?_; rintro e wz ⟨rfl, hb⟩; replace z := z.trans (hb.mono z.size); (try clear c0 c1); have c0 := K0.out _ z; have c1 := K1.out _ z; (try replace q1 := Q1.out _ z); (try replace q2 := Q2.out _ z))
              | (go_at_call 22; refine (implIsDistributive_any _ _ L _ (KR.out _ z)).mono ?_; rintro e wz ⟨rfl, hb⟩; replace z := z.trans (hb.mono z.size); (try clear c0 c1); have c0 := K0.out _ z; have c1 := K1.out _ z; (try replace q1 := Q1.out _ z); (try replace q2 := Q2.out _ z)))
            go_ret
            exact ⟨by first | rfl | exact ret_bool (by first | (simp; done) | (simpa using hd)), FIN.out _ z⟩
      · clear gp gd
        all_goals
          cases d2 <;> cases d3
          all_goals
            go_wp2_with (first
              | go_skip
              | (refine wpList_store_row rfl 26 _ _ rfl w1.heap.size #[.slice a L.length ca, .slice b T.length cb] rfl rfl _ _ (heap_alloc_new w1 (.cells #[.slice none 0 0, .slice none 0 0] 26)) (size_Alg _ _) rfl (one_sl2 _ _ _ _ _ _) ?_; rw [World.setRow_alloc_new]; rw [← hw2, ← hg]; clear hw2 hg)
              | (refine wpList_store_row rfl 26 _ _ rfl w1.heap.size #[.slice a L.length ca, .slice (some ⟨B, off, none⟩) T.length cb] rfl rfl _ _ (heap_alloc_new w1 (.cells #[.slice none 0 0, .slice none 0 0] 26)) (size_Alg _ _) rfl (one_sl2 _ _ _ _ _ _) ?_; rw [World.setRow_alloc_new]; rw [← hw2, ← hg]; clear hw2 hg)
              | (refine wpList_load_row_w rfl 26 _ rfl g rfl _ _ _ _ (KX.out _ z) Try.underlying26 rfl (size_Alg _ _) ?_)
              | (go_at_call_of 19 (Value.string ⟨#[105, 110, 118, 111, 108, 117, 116, 105, 118, 101]⟩); refine (implHasProperty_any ⟨#[105, 110, 118, 111, 108, 117, 116, 105, 118, 101]⟩ _ _ _ _ L T _ (KR.out _ z) (KT.out _ z)).mono ?_; rintro e wz ⟨rfl, hb⟩; replace z := z.trans (hb.mono z.size); (try clear c0 c1); have c0 := K0.out _ z; have c1 := K1.out _ z; (try replace q1 := Q1.out _ z); (try replace q2 := Q2.out _ z))
              | (go_at_call_of 19 (Value.string ⟨#[105, 100, 101, 109, 112, 111, 116, 101, 110, 116]⟩); refine (implHasProperty_any ⟨#[105, 100, 101, 109, 112, 111, 116, 101, 110, 116]⟩ _ _ _ _ L T _ (KR.out _ z) (KT.out _ z)).mono ?_; rintro e wz ⟨rfl, hb⟩; replace z := z.trans (hb.mono z.size); (try clear c0 c1); have c0 := K0.out _ z; have c1 := K1.out _ z; (try replace q1 := Q1.out _ z); (try replace q2 := Q2.out _ z))
              | (go_at_call_of 19 (Value.string ⟨#[98, 111, 111, 108, 101, 97, 110]⟩); refine (implHasProperty_any ⟨#[98, 111, 111, 108, 101, 97, 110]⟩ _ _ _ _ L T _ (KR.out _ z) (KT.out _ z)).mono ?_; rintro e wz ⟨rfl, hb⟩; replace z := z.trans (hb.mono z.size); (try clear c0 c1); have c0 := K0.out _ z; have c1 := K1.out _ z; (try replace q1 := Q1.out _ z); (try replace q2 := Q2.out _ z))
              | (go_at_call_of 20 (Value.string ⟨#[105, 110, 118, 111, 108, 117, 116, 105, 118, 101]⟩); refine (specHasProperty_any ⟨#[105, 110, 118, 111, 108, 117, 116, 105, 118, 101]⟩ _ _ _ _ L T _ (KR.out _ z) (KT.out _ z)).mono ?_; rintro e wz ⟨rfl, hb⟩; replace z := z.trans (hb.mono z.size); (try clear c0 c1); have c0 := K0.out _ z; have c1 := K1.out _ z; (try replace q1 := Q1.out _ z); (try replace q2 := Q2.out _ z))
              | (go_at_call 21; refine (implValidAlgebra_any _ _ _ _ L T _ (KR.out _ z) (KT.out _ z)).mono ?_; rintro e wz ⟨rfl, hb⟩; replace z := z.trans (hb.mono z.size); (try clear c0 c1); have c0 := K0.out _ z; have c1 := K1.out _ z; (try replace q1 := Q1.out _ z); (try replace q2 := Q2.out _ z))
              | (go_at_call 22; refine (implIsDistributive_any _ _ L _ (KR.out _ z)).mono ?_; rintro e wz ⟨rfl, hb⟩; replace z := z.trans (hb.mono z.size); (try clear c0 c1); have c0 := K0.out _ z; have c1 := K1.out _ z; (try replace q1 := Q1.out _ z); (try replace q2 := Q2.out _ z)))
            go_ret
            exact ⟨by first | rfl | exact ret_bool (by first | (simp; done) | (simpa using hd)), FIN.out _ z⟩
      · clear gp gd
        all_goals
          cases d2 <;> cases d3
          all_goals
            go_wp2_with (first
              | go_skip
              | (refine wpList_store_row rfl 26 _ _ rfl w1.heap.size #[.slice a L.length ca, .slice b T.length cb] rfl rfl _ _ (heap_alloc_new w1 (.cells #[.slice none 0 0, .slice none 0 0] 26)) (size_Alg _ _) rfl (one_sl2 _ _ _ _ _ _) ?_; rw [World.setRow_alloc_new]; rw [← hw2, ← hg]; clear hw2 hg)
              | (refine wpList_store_row rfl 26 _ _ rfl w1.heap.size #[.slice a L.length ca, .slice (some ⟨B, off, none⟩) T.length cb] rfl rfl _ _ (heap_alloc_new w1 (.cells #[.slice none 0 0, .slice none 0 0] 26)) (size_Alg _ _) rfl (one_sl2 _ _ _ _ _ _) ?_; rw [World.setRow_alloc_new]; rw [← hw2, ← hg]; clear hw2 hg)
              | (refine wpList_load_row_w rfl 26 _ rfl g rfl _ _ _ _ (KX.out _ z) Try.underlying26 rfl (size_Alg _ _) ?_)
              | (go_at_call_of 19 (Value.string ⟨#[105, 100, 101, 109, 112, 111, 116, 101, 110, 116]⟩); refine (implHasProperty_any ⟨#[105, 100, 101, 109, 112, 111, 116, 101, 110, 116]⟩ _ _ _ _ L T _ (KR.out _ z) (KT.out _ z)).mono ?_; rintro e wz ⟨rfl, hb⟩; replace z := z.trans (hb.mono z.size); (try clear c0 c1); have c0 := K0.out _ z; have c1 := K1.out _ z; (try replace q1 := Q1.out _ z); (try replace q2 := Q2.out _ z))
              | (go_at_call_of 19 (Value.string ⟨#[105, 110, 118, 111, 108, 117, 116, 105, 118, 101]⟩); refine (implHasProperty_any ⟨#[105, 110, 118, 111, 108, 117, 116, 105, 118, 101]⟩ _ _ _ _ L T _ (KR.out _ z) (KT.out _ z)).mono ?_; rintro e wz ⟨rfl, hb⟩; replace z := z.trans (hb.mono z.size); (try clear c0 c1); have c0 := K0.out _ z; have c1 := K1.out _ z; (try replace q1 := Q1.out _ z); (try replace q2 := Q2.out _ z))
              | (go_at_call_of 19 (Value.string ⟨#[98, 111, 111, 108, 101, 97, 110]⟩); refine (implHasProperty_any ⟨#[98, 111, 111, 108, 101, 97, 110]⟩ _ _ _ _ L T _ (KR.out _ z) (KT.out _ z)).mono ?_; rintro e wz ⟨rfl, hb⟩; replace z := z.trans (hb.mono z.size); (try clear c0 c1); have c0 := K0.out _ z; have c1 := K1.out _ z; (try replace q1 := Q1.out _ z); (try replace q2 := Q2.out _ z))
              | (go_at_call_of 20 (Value.string ⟨#[105, 100, 101, 109, 112, 111, 116, 101, 110, 116]⟩); refine (specHasProperty_any ⟨#[105, 100, 101, 109, 112, 111, 116, 101, 110, 116]⟩ _ _ _ _ L T _ (KR.out _ z) (KT.out _ z)).mono ?_; rintro e wz ⟨rfl, hb⟩; replace z := z.trans (hb.mono z.size); (try clear c0 c1); have c0 := K0.out _ z; have c1 := K1.out _ z; (try replace q1 := Q1.out _ z); (try replace q2 := Q2.out _ z))
              | (go_at_call 21; refine (implValidAlgebra_any _ _ _ _ L T _ (KR.out _ z) (KT.out _ z)).mono ?_; rintro e wz ⟨rfl, hb⟩; replace z := z.trans (hb.mono z.size); (try clear c0 c1); have c0 := K0.out _ z; have c1 := K1.out _ z; (try replace q1 := Q1.out _ z); (try replace q2 := Q2.out _ z))
              | (go_at_call 22; refine (implIsDistributive_any _ _ L _ (KR.out _ z)).mono ?_; rintro e wz ⟨rfl, hb⟩; replace z := z.trans (hb.mono z.size); (try clear c0 c1); have c0 := K0.out _ z; have c1 := K1.out _ z; (try replace q1 := Q1.out _ z); (try replace q2 := Q2.out _ z)))
            go_ret
            exact ⟨by first | rfl | exact ret_bool (by first | (simp; done) | (simpa using hd)), FIN.out _ z⟩
      · clear gp gd
        all_goals
          cases d2 <;> cases d3
          all_goals
            go_wp2_with (first
              | go_skip
              | (refine wpList_store_row rfl 26 _ _ rfl w1.heap.size #[.slice a L.length ca, .slice b T.length cb] rfl rfl _ _ (heap_alloc_new w1 (.cells #[.slice none 0 0, .slice none 0 0] 26)) (size_Alg _ _) rfl (one_sl2 _ _ _ _ _ _) ?_; rw [World.setRow_alloc_new]; rw [← hw2, ← hg]; clear hw2 hg)
              | (refine wpList_store_row rfl 26 _ _ rfl w1.heap.size #[.slice a L.length ca, .slice (some ⟨B, off, none⟩) T.length cb] rfl rfl _ _ (heap_alloc_new w1 (.cells #[.slice none 0 0, .slice none 0 0] 26)) (size_Alg _ _) rfl (one_sl2 _ _ _ _ _ _) ?_; rw [World.setRow_alloc_new]; rw [← hw2, ← hg]; clear hw2 hg)
              | (refine wpList_load_row_w rfl 26 _ rfl g rfl _ _ _ _ (KX.out _ z) Try.underlying26 rfl (size_Alg _ _) ?_)
              | (go_at_call_of 19 (Value.string ⟨#[98, 111, 111, 108, 101, 97, 110]⟩); refine (implHasProperty_any ⟨#[98, 111, 111, 108, 101, 97, 110]⟩ _ _ _ _ L T _ (KR.out _ z) (KT.out _ z)).mono ?_; rintro e wz ⟨rfl, hb⟩; replace z := z.trans (hb.mono z.size); (try clear c0 c1); have c0 := K0.out _ z; have c1 := K1.out _ z; (try replace q1 := Q1.out _ z); (try replace q2 := Q2.out _ z))
              | (go_at_call_of 19 (Value.string ⟨#[105, 100, 101, 109, 112, 111, 116, 101, 110, 116]⟩); refine (implHasProperty_any ⟨#[105, 100, 101, 109, 112, 111, 116, 101, 110, 116]⟩ _ _ _ _ L T _ (KR.out _ z) (KT.out _ z)).mono ?_; rintro e wz ⟨rfl, hb⟩; replace z := z.trans (hb.mono z.size); (try clear c0 c1); have c0 := K0.out _ z; have c1 := K1.out _ z; (try replace q1 := Q1.out _ z); (try replace q2 := Q2.out _ z))
              | (go_at_call_of 19 (Value.string ⟨#[105, 110, 118, 111, 108, 117, 116, 105, 118, 101]⟩); refine (implHasProperty_any ⟨#[105, 110, 118, 111, 108, 117, 116, 105, 118, 101]⟩ _ _ _ _ L T _ (KR.out _ z) (KT.out _ z)).mono ?_; rintro e wz ⟨rfl, hb⟩; replace z := z.trans (hb.mono z.size); (try clear c0 c1); have c0 := K0.out _ z; have c1 := K1.out _ z; (try replace q1 := Q1.out _ z); (try replace q2 := Q2.out _ z))
              | (go_at_call_of 20 (Value.string ⟨#[98, 111, 111, 108, 101, 97, 110]⟩); refine (specHasProperty_any ⟨#[98, 111, 111, 108, 101, 97, 110]⟩ _ _ _ _ L T _ (KR.out _ z) (KT.out _ z)).mono ?_; rintro e wz ⟨rfl, hb⟩; replace z := z.trans (hb.mono z.size); (try clear c0 c1); have c0 := K0.out _ z; have c1 := K1.out _ z; (try replace q1 := Q1.out _ z); (try replace q2 := Q2.out _ z))
              | (go_at_call 21; refine (implValidAlgebra_any _ _ _ _ L T _ (KR.out _ z) (KT.out _ z)).mono ?_; rintro e wz ⟨rfl, hb⟩; replace z := z.trans (hb.mono z.size); (try clear c0 c1); have c0 := K0.out _ z; have c1 := K1.out _ z; (try replace q1 := Q1.out _ z); (try replace q2 := Q2.out _ z))
              | (go_at_call 22; refine (implIsDistributive_any _ _ L _ (KR.out _ z)).mono ?_; rintro e wz ⟨rfl, hb⟩; replace z := z.trans (hb.mono z.size); (try clear c0 c1); have c0 := K0.out _ z; have c1 := K1.out _ z; (try replace q1 := Q1.out _ z); (try replace q2 := Q2.out _ z)))
            go_ret
            exact ⟨by first | rfl | exact ret_bool (by first | (simp; done) | (simpa using hd)), FIN.out _ z⟩
      · clear gp gd
        all_goals
          cases d2 <;> cases d3
          all_goals
            go_wp2_with (first
              | go_skip
              | (refine wpList_store_row rfl 26 _ _ rfl w1.heap.size #[.slice a L.length ca, .slice b T.length cb] rfl rfl _ _ (heap_alloc_new w1 (.cells #[.slice none 0 0, .slice none 0 0] 26)) (size_Alg _ _) rfl (one_sl2 _ _ _ _ _ _) ?_; rw [World.setRow_alloc_new]; rw [← hw2, ← hg]; clear hw2 hg)
              | (refine wpList_store_row rfl 26 _ _ rfl w1.heap.size #[.slice a L.length ca, .slice (some ⟨B, off, none⟩) T.length cb] rfl rfl _ _ (heap_alloc_new w1 (.cells #[.slice none 0 0, .slice none 0 0] 26)) (size_Alg _ _) rfl (one_sl2 _ _ _ _ _ _) ?_; rw [World.setRow_alloc_new]; rw [← hw2, ← hg]; clear hw2 hg)
              | (refine wpList_load_row_w rfl 26 _ rfl g rfl _ _ _ _ (KX.out _ z) Try.underlying26 rfl (size_Alg _ _) ?_)
              | (go_at_call_of 19 (Value.string ⟨#[]⟩); refine (implHasProperty_any ⟨#[]⟩ _ _ _ _ L T _ (KR.out _ z) (KT.out _ z)).mono ?_; rintro e wz ⟨rfl, hb⟩; replace z := z.trans (hb.mono z.size); (try clear c0 c1); have c0 := K0.out _ z; have c1 := K1.out _ z; (try replace q1 := Q1.out _ z); (try replace q2 := Q2.out _ z))
              | (go_at_call_of 19 (Value.string ⟨#[105, 100, 101, 109, 112, 111, 116, 101, 110, 116]⟩); refine (implHasProperty_any ⟨#[105, 100, 101, 109, 112, 111, 116, 101, 110, 116]⟩ _ _ _ _ L T _ (KR.out _ z) (KT.out _ z)).mono ?_; rintro e wz ⟨rfl, hb⟩; replace z := z.trans (hb.mono z.size); (try clear c0 c1); have c0 := K0.out _ z; have c1 := K1.out _ z; (try replace q1 := Q1.out _ z); (try replace q2 := Q2.out _ z))
              | (go_at_call_of 19 (Value.string ⟨#[105, 110, 118, 111, 108, 117, 116, 105, 118, 101]⟩); refine (implHasProperty_any ⟨#[105, 110, 118, 111, 108, 117, 116, 105, 118, 101]⟩ _ _ _ _ L T _ (KR.out _ z) (KT.out _ z)).mono ?_; rintro e wz ⟨rfl, hb⟩; replace z := z.trans (hb.mono z.size); (try clear c0 c1); have c0 := K0.out _ z; have c1 := K1.out _ z; (try replace q1 := Q1.out _ z); (try replace q2 := Q2.out _ z))
              | (go_at_call_of 19 (Value.string ⟨#[98, 111, 111, 108, 101, 97, 110]⟩); refine (implHasProperty_any ⟨#[98, 111, 111, 108, 101, 97, 110]⟩ _ _ _ _ L T _ (KR.out _ z) (KT.out _ z)).mono ?_; rintro e wz ⟨rfl, hb⟩; replace z := z.trans (hb.mono z.size); (try clear c0 c1); have c0 := K0.out _ z; have c1 := K1.out _ z; (try replace q1 := Q1.out _ z); (try replace q2 := Q2.out _ z))
              | (go_at_call_of 20 (Value.string ⟨#[]⟩); refine (specHasProperty_any ⟨#[]⟩ _ _ _ _ L T _ (KR.out _ z) (KT.out _ z)).mono ?_; rintro e wz ⟨rfl, hb⟩; replace z := z.trans (hb.mono z.size); (try clear c0 c1); have c0 := K0.out _ z; have c1 := K1.out _ z; (try replace q1 := Q1.out _ z); (try replace q2 := Q2.out _ z))
              | (go_at_call 21; refine (implValidAlgebra_any _ _ _ _ L T _ (KR.out _ z) (KT.out _ z)).mono ?_; rintro e wz ⟨rfl, hb⟩; replace z := z.trans (hb.mono z.size); (try clear c0 c1); have c0 := K0.out _ z; have c1 := K1.out _ z; (try replace q1 := Q1.out _ z); (try replace q2 := Q2.out _ z))
              | (go_at_call 22; refine (implIsDistributive_any _ _ L _ (KR.out _ z)).mono ?_; rintro e wz ⟨rfl, hb⟩; replace z := z.trans (hb.mono z.size); (try clear c0 c1); have c0 := K0.out _ z; have c1 := K1.out _ z; (try replace q1 := Q1.out _ z); (try replace q2 := Q2.out _ z)))
            go_ret
            exact ⟨by first | rfl | exact ret_bool (by first | (simp; done) | (simpa using hd)), FIN.out _ z⟩
end Go.Proofs.Ytaflhjjnkejcoaa
