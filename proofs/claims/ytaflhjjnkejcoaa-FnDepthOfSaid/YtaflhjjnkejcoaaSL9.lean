import Derived.Test.YtaflhjjnkejcoaaSL8
import Derived.Test.YtaflhjjnkejcoaaN12
namespace Go.Proofs.Ytaflhjjnkejcoaa
open Go.RowKit

theorem fil_rng {L : List Int} {T : List (List Int)} (ha : algB L T = true) {x : Int} (hx : El L x) : 0 ≤ filByI L T (pw x) ∧ filByI L T (pw x) ≤ 63 := by
  have l6 : num L ≤ 6 := (latB_parts (alg_lat ha)).2.1
  have hxp : 0 ≤ pw x ∧ pw x ≤ pw (num L) - 1 := by
    have a := pw_pos x
    have b := pw_mono (x + 1) (num L) (by have := hx.2; omega)
    have c := pw_succ x hx.1
    omega
  have hs : setB L (pw x) = true := by unfold setB; rw [decide_eq_true hxp.1, decide_eq_true hxp.2]; rfl
  have e1 : filByI L T (pw x) = genI L T (pw x) := by unfold filByI; rw [ha, hs]; rfl
  have := fls_mem.1 (gen_mem ha (pw x))
  have := (pw_6 l6).2
  rw [e1]; omega
theorem dep_pow {L : List Int} {T : List (List Int)} {x : Int} (h : algIn L T x x = true) (hb : depB L T x = true) : 0 ≤ depI L T x ∧ depI L T x ≤ 6 ∧ powO L T x (depI L T x) = 0 ∧ (depI L T x ≠ 0 → ¬ powO L T x (depI L T x - 1) = 0) := by
  have hn := (latB_parts (alg_lat (algIn_parts h).1)).2.1
  unfold depB at hb
  rw [h, Bool.true_and, decide_eq_true_iff] at hb
  have e : depI L T x = firstI (num L + 1) (depQ L T x) := by unfold depI depV; rw [h, if_pos rfl, if_neg (by omega)]
  rw [e]
  have hn' : num L ≤ 6 := hn
  have hp : ∀ k : Int, 0 ≤ k → k ≤ 6 → powO L T x k = powr L T x k := fun k k0 k1 => by unfold powO; rw [h, decide_eq_true k0, decide_eq_true (show k ≤ 20 by omega)]; rfl
  rcases firstI_cases (num L + 1) (depQ L T x) with ⟨e, _⟩ | ⟨k0, k1, hk, hbb⟩
  · omega
  · refine ⟨k0, by omega, ?_, fun hne => ?_⟩
    · rw [hp _ k0 (by omega)]; exact beq_iff_eq.1 hk
    · rw [hp _ (by omega) (by omega)]
      have := hbb (firstI (num L + 1) (depQ L T x) - 1) (by omega) (by omega)
      exact beq_eq_false_iff_ne.1 this
set_option maxHeartbeats 400000 in
/-- laws.power -/
theorem lawPower_any (n : Int) (w : World) (hn0 : 0 ≤ n) (hn : n ≤ 30) :
    Calls Try.prog 37 #[.int .i64 n] w fun e w' => e = .returned (.int .i64 (pw n)) ∧ w = w' := by
  go_enter Try.func37, Try.ntmps37
  go_wp2
  go_loop [0, 3] (fun i o => ∃ k : Int, 0 ≤ k ∧ k ≤ n ∧ i = .int .i64 k ∧ o = .int .i64 (pw (n - k))) (fun i _ => (intOf i).toNat)
  case atStart => exact ⟨n, hn0, Int.le_refl _, rfl, by simp [pw_zero]⟩
  case round =>
    obtain ⟨k, h0, h1, rfl, rfl⟩ := hrel
    have p1 := pw_30 (n - k) (by omega)
    have p2 := pw_pos (n - k)
    by_cases hk : 0 < k
    · have hs := pw_succ (n - k) (by omega)
      have HS := Lib.hid hs; clear hs
      go_wp2
      go_round
      case rel => exact ⟨k - 1, by omega, by omega, rfl, by rw [← HS.out]; congr 2; omega⟩
      case measure => simp [intOf]; omega
    · have e : k = 0 := by omega
      subst e
      go_wp2
      go_ret
      exact ⟨ret_int (by simp), rfl⟩

set_option maxHeartbeats 400000 in
/-- laws.bit -/
theorem lawBit_any (v y : Int) (w : World) (hv : 0 ≤ v) (hv2 : v ≤ 63) (hy0 : 0 ≤ y) (hy : y ≤ 30) :
    Calls Try.prog 35 #[.int .i64 v, .int .i64 y] w fun e w' => e = .returned (.int .i64 (bt v y)) ∧ w = w' := by
  have p1 := pw_30 y hy
  have p2 := pw_pos y
  go_enter Try.func35, Try.ntmps35
  go_wp2_with (go_at_call 37; refine (lawPower_any _ _ hy0 hy).mono ?_; rintro e w' ⟨rfl, rfl⟩)
  have d1 : 0 ≤ v / pw y := Int.ediv_nonneg hv (by omega)
  go_ret
  exact ⟨ret_int (by simp [bt]; rw [Int.tmod_eq_emod_of_nonneg d1]), rfl⟩

set_option maxRecDepth 100000 in
set_option maxHeartbeats 2000000 in
/-- laws.FnDepthOf -/
theorem lawPDepthOf (a0 : Option Addr) (len0 cap0 : Nat) (w : World) (hy : RdY w a0 len0 w.heap.size) (hc : len0 ≤ cap0) (hm : len0 ≤ maxLen) :
    Calls Try.prog 6 #[.slice a0 len0 cap0] w fun e w' => e = .returned (.bool true) ∧ Below w.heap.size w w' := by
  by_cases hbig : 1048576 < len0
  · have hbig2 : (1048576 : Int) < len0 := by omega
    go_enter Try.func6, Try.ntmps6
    go_wp2
    go_ret
    exact ⟨rfl, Below.refl _ _⟩
  · have hs : len0 ≤ 1048576 := by omega
    have hs2 : ¬ (1048576 : Int) < len0 := by omega
    go_enter Try.func6, Try.ntmps6
    go_wp2_with fail
    refine (drawDepthOf_any a0 len0 cap0 w hy hc hs).mono ?_
    rintro e w1 ⟨L, T, a, ca, b, cb, x, rfl, x0, x1, hP, hr, hT, hb⟩
    have _ := hm
    clear hs hs2 hbig hy hm hc
    obtain ⟨l1, l7, t6, r6⟩ := someP_len hP
    have hM : (L.length : Int) ≤ 9223372036854775807 := by omega
    obtain ⟨g, hg⟩ : ∃ g, g = w1.heap.size := ⟨_, rfl⟩
    obtain ⟨w2, hw2⟩ : ∃ w2, w2 = w1.alloc (.cells #[.slice a L.length ca, .slice b T.length cb] 26) := ⟨_, rfl⟩
    have hB : Below w.heap.size w w2 := by rw [hw2]; exact hb.alloc hb.size _
    have hB2 : Below w1.heap.size w1 w2 := by rw [hw2]; exact (Below.refl _ _).alloc (Nat.le_refl _) _
    have hx2 : w2.heap[g]? = some (.cells #[.slice a L.length ca, .slice b T.length cb] 26 (0, 0)) := by rw [hw2, hg]; exact heap_alloc_new w1 _
    have KX := Lib.hid (show ∀ wz, Below w2.heap.size w2 wz → wz.heap[g]? = some (.cells #[.slice a L.length ca, .slice b T.length cb] 26 (0, 0)) from fun wz h => (h.block _ (lt_of_block hx2)).trans hx2)
    have K0 := Lib.hid (show ∀ wz, Below w2.heap.size w2 wz → wz.cell? ⟨g, 0, none⟩ = some (.slice a L.length ca) from fun wz h => (bx_cells (KX.out _ h)).1)
    have K1 := Lib.hid (show ∀ wz, Below w2.heap.size w2 wz → wz.cell? ⟨g, 1, none⟩ = some (.slice b T.length cb) from fun wz h => (bx_cells (KX.out _ h)).2)
    have KR := Lib.hid (show ∀ wz, Below w2.heap.size w2 wz → Rd wz a L from fun wz h => (hr.below hB2).below h)
    have KT := Lib.hid (show ∀ wz, Below w2.heap.size w2 wz → RdT wz b T from fun wz h => (hT.below hB2).below h)
    have FIN := Lib.hid (show ∀ wz, Below w2.heap.size w2 wz → Below w.heap.size w wz from fun wz h => hB.trans (h.mono hB.size))
    have z : Below w2.heap.size w2 w2 := Below.refl _ _
    have HP := Lib.hid hP
    clear hP hr hT hb hB hB2 hx2 r6
    have c0 := K0.out _ z
    have c1 := K1.out _ z
    cases hA : algIn L T x x with
    | false =>
      have v1 : notI L T x = -1 := by unfold notI; rw [hA]; rfl
      obtain ⟨v2, v3⟩ := dep_out hA
      clear hA
      go_wp2_with (first
      | go_skip
      | (refine wpList_store_row rfl 26 _ _ rfl w1.heap.size #[.slice a L.length ca, .slice b T.length cb] rfl rfl _ _ (heap_alloc_new w1 (.cells #[.slice none 0 0, .slice none 0 0] 26)) (size_Alg _ _) rfl (one_sl2 _ _ _ _ _ _) ?_; rw [World.setRow_alloc_new]; rw [← hw2, ← hg]; clear hw2 hg)
      | (refine wpList_store_row rfl 26 _ _ rfl w1.heap.size #[.slice a L.length ca, .slice (some ⟨B, off, none⟩) T.length cb] rfl rfl _ _ (heap_alloc_new w1 (.cells #[.slice none 0 0, .slice none 0 0] 26)) (size_Alg _ _) rfl (one_sl2 _ _ _ _ _ _) ?_; rw [World.setRow_alloc_new]; rw [← hw2, ← hg]; clear hw2 hg)
      | (refine wpList_load_row_w rfl 26 _ rfl g rfl _ _ _ _ (KX.out _ z) Try.underlying26 rfl (size_Alg _ _) ?_)
      | (go_at_call 33; refine (implDepthOf_any _ _ _ _ L T x _ (KR.out _ z) (KT.out _ z)).mono ?_; rintro e wz ⟨rfl, hb⟩; replace z := z.trans (hb.mono z.size); (try clear c0 c1); have c0 := K0.out _ z; have c1 := K1.out _ z; (try replace q1 := Q1.out _ z); (try replace q2 := Q2.out _ z))
      | (go_at_call 34; refine (specDepthOf_any _ _ _ _ L T x _ (KR.out _ z) (KT.out _ z) hM).mono ?_; rintro e wz ⟨rfl, hb⟩; replace z := z.trans (hb.mono z.size); (try clear c0 c1); have c0 := K0.out _ z; have c1 := K1.out _ z; (try replace q1 := Q1.out _ z); (try replace q2 := Q2.out _ z))
      | (go_at_call 29; refine (implNotOf_any _ _ _ _ L T x _ (KR.out _ z) (KT.out _ z)).mono ?_; rintro e wz ⟨rfl, hb⟩; replace z := z.trans (hb.mono z.size); (try clear c0 c1); have c0 := K0.out _ z; have c1 := K1.out _ z; (try replace q1 := Q1.out _ z); (try replace q2 := Q2.out _ z)))
      go_ret
      exact ⟨rfl, FIN.out _ z⟩
    | true =>
      obtain ⟨ha, x0, x1, _, _⟩ := algIn_parts hA
      have hX : El L x := ⟨x0, x1⟩
      have hl := alg_lat ha
      have l6 : (L.length : Int) ≤ 6 := (latB_parts hl).2.1
      have x1' : x < L.length := x1
      have hd := gen_dep hA
      obtain ⟨F, hF⟩ : ∃ F, F = filByI L T (pw x) := ⟨_, rfl⟩
      have hF2 : 0 ≤ F ∧ F ≤ 63 := by rw [hF]; exact fil_rng ha hX
      rw [← hF] at hd
      have v0 : filByI L T (pw x) = F := hF.symm
      obtain ⟨f0, f1⟩ := hF2
      have e1 := not_el ha hX
      have e2 := (imp_el ha x 0).1
      obtain ⟨o, ho⟩ : ∃ o, o = imp L T x 0 := ⟨_, rfl⟩
      rw [← ho] at e1 e2
      have o2 : ¬ o < 0 := by omega
      have hp := dep_pow hA
      obtain ⟨d, hd2⟩ : ∃ d, d = depI L T x := ⟨_, rfl⟩
      have v1 : depI L T x = d := hd2.symm
      rw [← hd2] at hp
      clear hX hl ha ho hF hd2
      cases hk : depB L T x with
      | false =>
        rw [hk] at hd
        have hbt := ib_f hd
        clear hA hp hd e2
        go_wp2_with (first
        | go_skip
        | (refine wpList_store_row rfl 26 _ _ rfl w1.heap.size #[.slice a L.length ca, .slice b T.length cb] rfl rfl _ _ (heap_alloc_new w1 (.cells #[.slice none 0 0, .slice none 0 0] 26)) (size_Alg _ _) rfl (one_sl2 _ _ _ _ _ _) ?_; rw [World.setRow_alloc_new]; rw [← hw2, ← hg]; clear hw2 hg)
        | (refine wpList_store_row rfl 26 _ _ rfl w1.heap.size #[.slice a L.length ca, .slice (some ⟨B, off, none⟩) T.length cb] rfl rfl _ _ (heap_alloc_new w1 (.cells #[.slice none 0 0, .slice none 0 0] 26)) (size_Alg _ _) rfl (one_sl2 _ _ _ _ _ _) ?_; rw [World.setRow_alloc_new]; rw [← hw2, ← hg]; clear hw2 hg)
        | (refine wpList_load_row_w rfl 26 _ rfl g rfl _ _ _ _ (KX.out _ z) Try.underlying26 rfl (size_Alg _ _) ?_)
        | (go_at_call 33; refine (implDepthOf_any _ _ _ _ L T x _ (KR.out _ z) (KT.out _ z)).mono ?_; rintro e wz ⟨rfl, hb⟩; replace z := z.trans (hb.mono z.size); (try clear c0 c1); have c0 := K0.out _ z; have c1 := K1.out _ z; (try replace q1 := Q1.out _ z); (try replace q2 := Q2.out _ z))
        | (go_at_call 34; refine (specDepthOf_any _ _ _ _ L T x _ (KR.out _ z) (KT.out _ z) hM).mono ?_; rintro e wz ⟨rfl, hb⟩; replace z := z.trans (hb.mono z.size); (try clear c0 c1); have c0 := K0.out _ z; have c1 := K1.out _ z; (try replace q1 := Q1.out _ z); (try replace q2 := Q2.out _ z))
        | (go_at_call 29; refine (implNotOf_any _ _ _ _ L T x _ (KR.out _ z) (KT.out _ z)).mono ?_; rintro e wz ⟨rfl, hb⟩; replace z := z.trans (hb.mono z.size); (try clear c0 c1); have c0 := K0.out _ z; have c1 := K1.out _ z; (try replace q1 := Q1.out _ z); (try replace q2 := Q2.out _ z)))
        refine region_in (Below wz.heap.size wz) (by kernel_rfl) (by kernel_rfl) (Dr.below ⟨1, rfl⟩ _) fun hne => ?_
        have r0 : ∀ s : In (Below wz.heap.size wz), s.w.cell? ⟨g, 0, none⟩ = some (.slice a L.length ca) := fun s => K0.out _ (in_trans z s)
        repeat (first
          | (go_big_quiet_want; refine quiet_load_row 26 _ rfl g rfl _ _ _ _ (fun w' ⟨s, hs⟩ => by rw [hs]; exact KX.out _ (in_trans z s)) Try.underlying26 rfl (size_Alg _ _) ?_; simp only [Act.put, List.setIfInBounds_toArray, List.set_cons_succ, List.set_cons_zero]; go_big_quiet_on)
          | go_big_quiet_step ((first | (go_at_call 37; exact in_same _ (lawPower_any _ _ (by omega) (by omega))) | (go_at_call 35; exact in_same _ (lawBit_any _ _ _ f0 f1 (by omega) (by omega))) | (go_at_call 36; exact in_below _ (Nat.le_refl _) (ret_to (implFilterBy_any _ _ _ _ L T _ _ (KR.out _ (in_trans z _)) (KT.out _ (in_trans z _))) (by rw [v0]))) | (go_at_call 15; exact in_below _ (Nat.le_refl _) (implPowerOf_any _ _ _ _ L T _ _ _ (KR.out _ (in_trans z _)) (KT.out _ (in_trans z _)))))))
        refine wpQuiet_nil ?_
        intro s
        have z4 := in_trans z s
        have hs7 := s.h
        obtain ⟨w7, hw7⟩ : ∃ x : World, x = s.w := ⟨_, rfl⟩
        rw [← hw7] at z4 hs7 ⊢
        clear hw7
        clear r0
        go_wp2
        go_ret
        exact ⟨by first | rfl | exact ret_bool (by simp), FIN.out _ z4⟩
      | true =>
        rw [hk] at hd
        have hbt := ib_t hd
        obtain ⟨d0, d1, w1', w2'⟩ := hp hk
        by_cases hd0 : d = 0
        · subst hd0
          clear hA hp hd e2 w2'
          go_wp2_with (first
          | go_skip
          | (refine wpList_store_row rfl 26 _ _ rfl w1.heap.size #[.slice a L.length ca, .slice b T.length cb] rfl rfl _ _ (heap_alloc_new w1 (.cells #[.slice none 0 0, .slice none 0 0] 26)) (size_Alg _ _) rfl (one_sl2 _ _ _ _ _ _) ?_; rw [World.setRow_alloc_new]; rw [← hw2, ← hg]; clear hw2 hg)
          | (refine wpList_store_row rfl 26 _ _ rfl w1.heap.size #[.slice a L.length ca, .slice (some ⟨B, off, none⟩) T.length cb] rfl rfl _ _ (heap_alloc_new w1 (.cells #[.slice none 0 0, .slice none 0 0] 26)) (size_Alg _ _) rfl (one_sl2 _ _ _ _ _ _) ?_; rw [World.setRow_alloc_new]; rw [← hw2, ← hg]; clear hw2 hg)
          | (refine wpList_load_row_w rfl 26 _ rfl g rfl _ _ _ _ (KX.out _ z) Try.underlying26 rfl (size_Alg _ _) ?_)
          | (go_at_call 33; refine (implDepthOf_any _ _ _ _ L T x _ (KR.out _ z) (KT.out _ z)).mono ?_; rintro e wz ⟨rfl, hb⟩; replace z := z.trans (hb.mono z.size); (try clear c0 c1); have c0 := K0.out _ z; have c1 := K1.out _ z; (try replace q1 := Q1.out _ z); (try replace q2 := Q2.out _ z))
          | (go_at_call 34; refine (specDepthOf_any _ _ _ _ L T x _ (KR.out _ z) (KT.out _ z) hM).mono ?_; rintro e wz ⟨rfl, hb⟩; replace z := z.trans (hb.mono z.size); (try clear c0 c1); have c0 := K0.out _ z; have c1 := K1.out _ z; (try replace q1 := Q1.out _ z); (try replace q2 := Q2.out _ z))
          | (go_at_call 29; refine (implNotOf_any _ _ _ _ L T x _ (KR.out _ z) (KT.out _ z)).mono ?_; rintro e wz ⟨rfl, hb⟩; replace z := z.trans (hb.mono z.size); (try clear c0 c1); have c0 := K0.out _ z; have c1 := K1.out _ z; (try replace q1 := Q1.out _ z); (try replace q2 := Q2.out _ z)))
          refine region_in (Below wz.heap.size wz) (by kernel_rfl) (by kernel_rfl) (Dr.below ⟨1, rfl⟩ _) fun hne => ?_
          have r0 : ∀ s : In (Below wz.heap.size wz), s.w.cell? ⟨g, 0, none⟩ = some (.slice a L.length ca) := fun s => K0.out _ (in_trans z s)
          repeat (first
            | (go_big_quiet_want; refine quiet_load_row 26 _ rfl g rfl _ _ _ _ (fun w' ⟨s, hs⟩ => by rw [hs]; exact KX.out _ (in_trans z s)) Try.underlying26 rfl (size_Alg _ _) ?_; simp only [Act.put, List.setIfInBounds_toArray, List.set_cons_succ, List.set_cons_zero]; go_big_quiet_on)
            | go_big_quiet_step ((first | (go_at_call 37; exact in_same _ (lawPower_any _ _ (by omega) (by omega))) | (go_at_call 35; exact in_same _ (lawBit_any _ _ _ f0 f1 (by omega) (by omega))) | (go_at_call 36; exact in_below _ (Nat.le_refl _) (ret_to (implFilterBy_any _ _ _ _ L T _ _ (KR.out _ (in_trans z _)) (KT.out _ (in_trans z _))) (by rw [v0]))) | (go_at_call 15; exact in_below _ (Nat.le_refl _) (implPowerOf_any _ _ _ _ L T _ _ _ (KR.out _ (in_trans z _)) (KT.out _ (in_trans z _)))))))
          refine wpQuiet_nil ?_
          intro s
          have z4 := in_trans z s
          have hs7 := s.h
          obtain ⟨w7, hw7⟩ : ∃ x : World, x = s.w := ⟨_, rfl⟩
          rw [← hw7] at z4 hs7 ⊢
          clear hw7
          clear r0
          go_wp2
          go_ret
          exact ⟨by first | rfl | exact ret_bool (by simp <;> assumption), FIN.out _ z4⟩
        · have w3' := w2' hd0
          have hd3 : (d == 0) = false := beq_eq_false_iff_ne.2 hd0
          have hd4 : decide (d = 0) = false := decide_eq_false hd0
          clear hA hp hd e2 w2'
          go_wp2_with (first
          | go_skip
          | (refine wpList_store_row rfl 26 _ _ rfl w1.heap.size #[.slice a L.length ca, .slice b T.length cb] rfl rfl _ _ (heap_alloc_new w1 (.cells #[.slice none 0 0, .slice none 0 0] 26)) (size_Alg _ _) rfl (one_sl2 _ _ _ _ _ _) ?_; rw [World.setRow_alloc_new]; rw [← hw2, ← hg]; clear hw2 hg)
          | (refine wpList_store_row rfl 26 _ _ rfl w1.heap.size #[.slice a L.length ca, .slice (some ⟨B, off, none⟩) T.length cb] rfl rfl _ _ (heap_alloc_new w1 (.cells #[.slice none 0 0, .slice none 0 0] 26)) (size_Alg _ _) rfl (one_sl2 _ _ _ _ _ _) ?_; rw [World.setRow_alloc_new]; rw [← hw2, ← hg]; clear hw2 hg)
          | (refine wpList_load_row_w rfl 26 _ rfl g rfl _ _ _ _ (KX.out _ z) Try.underlying26 rfl (size_Alg _ _) ?_)
          | (go_at_call 33; refine (implDepthOf_any _ _ _ _ L T x _ (KR.out _ z) (KT.out _ z)).mono ?_; rintro e wz ⟨rfl, hb⟩; replace z := z.trans (hb.mono z.size); (try clear c0 c1); have c0 := K0.out _ z; have c1 := K1.out _ z; (try replace q1 := Q1.out _ z); (try replace q2 := Q2.out _ z))
          | (go_at_call 34; refine (specDepthOf_any _ _ _ _ L T x _ (KR.out _ z) (KT.out _ z) hM).mono ?_; rintro e wz ⟨rfl, hb⟩; replace z := z.trans (hb.mono z.size); (try clear c0 c1); have c0 := K0.out _ z; have c1 := K1.out _ z; (try replace q1 := Q1.out _ z); (try replace q2 := Q2.out _ z))
          | (go_at_call 29; refine (implNotOf_any _ _ _ _ L T x _ (KR.out _ z) (KT.out _ z)).mono ?_; rintro e wz ⟨rfl, hb⟩; replace z := z.trans (hb.mono z.size); (try clear c0 c1); have c0 := K0.out _ z; have c1 := K1.out _ z; (try replace q1 := Q1.out _ z); (try replace q2 := Q2.out _ z)))
          refine region_in (Below wz.heap.size wz) (by kernel_rfl) (by kernel_rfl) (Dr.below ⟨1, rfl⟩ _) fun hne => ?_
          have r0 : ∀ s : In (Below wz.heap.size wz), s.w.cell? ⟨g, 0, none⟩ = some (.slice a L.length ca) := fun s => K0.out _ (in_trans z s)
          repeat (first
            | (go_big_quiet_want; refine quiet_load_row 26 _ rfl g rfl _ _ _ _ (fun w' ⟨s, hs⟩ => by rw [hs]; exact KX.out _ (in_trans z s)) Try.underlying26 rfl (size_Alg _ _) ?_; simp only [Act.put, List.setIfInBounds_toArray, List.set_cons_succ, List.set_cons_zero]; go_big_quiet_on)
            | go_big_quiet_step ((first | (go_at_call 37; exact in_same _ (lawPower_any _ _ (by omega) (by omega))) | (go_at_call 35; exact in_same _ (lawBit_any _ _ _ f0 f1 (by omega) (by omega))) | (go_at_call 36; exact in_below _ (Nat.le_refl _) (ret_to (implFilterBy_any _ _ _ _ L T _ _ (KR.out _ (in_trans z _)) (KT.out _ (in_trans z _))) (by rw [v0]))) | (go_at_call 15; exact in_below _ (Nat.le_refl _) (implPowerOf_any _ _ _ _ L T _ _ _ (KR.out _ (in_trans z _)) (KT.out _ (in_trans z _)))))))
          refine wpQuiet_nil ?_
          intro s
          have z4 := in_trans z s
          have hs7 := s.h
          obtain ⟨w7, hw7⟩ : ∃ x : World, x = s.w := ⟨_, rfl⟩
          rw [← hw7] at z4 hs7 ⊢
          clear hw7
          clear r0
          go_wp2
          go_ret
          exact ⟨by first | rfl | exact ret_bool (by simp <;> assumption), FIN.out _ z4⟩
end Go.Proofs.Ytaflhjjnkejcoaa
