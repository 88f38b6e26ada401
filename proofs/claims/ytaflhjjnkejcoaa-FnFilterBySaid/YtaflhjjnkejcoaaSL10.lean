import Derived.Test.YtaflhjjnkejcoaaLC
import Derived.Test.YtaflhjjnkejcoaaSL8
import Derived.Test.YtaflhjjnkejcoaaSA9
import Derived.Test.YtaflhjjnkejcoaaN12
namespace Go.Proofs.Ytaflhjjnkejcoaa
open Go.RowKit

set_option maxRecDepth 100000 in
set_option maxHeartbeats 2000000 in
/-- laws.FnFilterBy -/
theorem lawPFilterBy (a0 : Option Addr) (len0 cap0 : Nat) (w : World) (hy : RdY w a0 len0 w.heap.size) (hc : len0 ≤ cap0) (hm : len0 ≤ maxLen) :
    Calls Try.prog 8 #[.slice a0 len0 cap0] w fun e w' => e = .returned (.bool true) ∧ Below w.heap.size w w' := by
  by_cases hbig : 1048576 < len0
  · have hbig2 : (1048576 : Int) < len0 := by omega
    go_enter Try.func8, Try.ntmps8
    go_wp2
    go_ret
    exact ⟨rfl, Below.refl _ _⟩
  · have hs : len0 ≤ 1048576 := by omega
    have hs2 : ¬ (1048576 : Int) < len0 := by omega
    go_enter Try.func8, Try.ntmps8
    go_wp2_with fail
    refine (drawFilterBy_any a0 len0 cap0 w hy hc hs).mono ?_
    rintro e w1 ⟨L, T, a, ca, b, cb, x, rfl, x0, x1, hP, hr, hT, hb⟩
    have _ := hm
    clear hs hs2 hbig hy hm hc
    obtain ⟨l1, l7, t6, r6⟩ := someP_len hP
    have hM : (L.length : Int) ≤ 9223372036854775807 := by omega
    obtain ⟨g, hg⟩ : ∃ g, g = w1.heap.size := ⟨_, rfl⟩
    obtain ⟨w2, hw2⟩ : ∃ w2, w2 = w1.alloc (.cells #[.slice a L.length ca, .slice b T.length cb] 26) := ⟨_, rfl⟩
    have hB : Below w.heap.size w w2 := by rw [hw2]; exact hb.alloc hb.size _
    have hB2 : Below w1.heap.size w1 w2 := by rw [hw2]; exact (Below.refl _ _).alloc (Nat.le_refl _) _
    have hx2 : w2.heap[g]? = some (.cells #[.slice a L.length ca, .slice b T.length cb] 26 (0, 0)) := by rw [hw2, hg]; exact heap_alloc_new w1 _
    have KX := Lib.hid (show ∀ wz, Below w2.heap.size w2 wz → wz.heap[g]? = some (.cells #[.slice a L.length ca, .slice b T.length cb] 26 (0, 0)) from fun wz h => (h.block _ (lt_of_block hx2)).trans hx2)
    have K0 := Lib.hid (show ∀ wz, Below w2.heap.size w2 wz → wz.cell? ⟨g, 0, none⟩ = some (.slice a L.length ca) from fun wz h => (bx_cells (KX.out _ h)).1)
    have K1 := Lib.hid (show ∀ wz, Below w2.heap.size w2 wz → wz.cell? ⟨g, 1, none⟩ = some (.slice b T.length cb) from fun wz h => (bx_cells (KX.out _ h)).2)
    have KR := Lib.hid (show ∀ wz, Below w2.heap.size w2 wz → Rd wz a L from fun wz h => (hr.below hB2).below h)
    have KT := Lib.hid (show ∀ wz, Below w2.heap.size w2 wz → RdT wz b T from fun wz h => (hT.below hB2).below h)
    have FIN := Lib.hid (show ∀ wz, Below w2.heap.size w2 wz → Below w.heap.size w wz from fun wz h => hB.trans (h.mono hB.size))
    have z : Below w2.heap.size w2 w2 := Below.refl _ _
    have HP := Lib.hid hP
    clear hP hr hT hb hB hB2 hx2 r6
    have c0 := K0.out _ z
    have c1 := K1.out _ z
    cases hA : algB L T && setB L x with
    | false =>
      have v1 : filByI L T x = -1 := by unfold filByI; rw [hA]; rfl
      clear hA
      go_wp2_with (first
      | go_skip
      | (refine wpList_store_row rfl 26 _ _ rfl w1.heap.size #[.slice a L.length ca, .slice b T.length cb] rfl rfl _ _ (heap_alloc_new w1 (.cells #[.slice none 0 0, .slice none 0 0] 26)) (size_Alg _ _) rfl (one_sl2 _ _ _ _ _ _) ?_; rw [World.setRow_alloc_new]; rw [← hw2, ← hg]; clear hw2 hg)
      | (refine wpList_store_row rfl 26 _ _ rfl w1.heap.size #[.slice a L.length ca, .slice (some ⟨B, off, none⟩) T.length cb] rfl rfl _ _ (heap_alloc_new w1 (.cells #[.slice none 0 0, .slice none 0 0] 26)) (size_Alg _ _) rfl (one_sl2 _ _ _ _ _ _) ?_; rw [World.setRow_alloc_new]; rw [← hw2, ← hg]; clear hw2 hg)
      | (refine wpList_load_row_w rfl 26 _ rfl g rfl _ _ _ _ (KX.out _ z) Try.underlying26 rfl (size_Alg _ _) ?_)
      | (go_at_call 36; refine (implFilterBy_any _ _ _ _ L T x _ (KR.out _ z) (KT.out _ z)).mono ?_; rintro e wz ⟨rfl, hb⟩; replace z := z.trans (hb.mono z.size); (try clear c0 c1); have c0 := K0.out _ z; have c1 := K1.out _ z; (try replace q1 := Q1.out _ z); (try replace q2 := Q2.out _ z))
      | (go_at_call 42; refine (specFilterBy_any _ _ _ _ L T x _ (KR.out _ z) (KT.out _ z)).mono ?_; rintro e wz ⟨rfl, hb⟩; replace z := z.trans (hb.mono z.size); (try clear c0 c1); have c0 := K0.out _ z; have c1 := K1.out _ z; (try replace q1 := Q1.out _ z); (try replace q2 := Q2.out _ z)))
      go_ret
      exact ⟨rfl, FIN.out _ z⟩
    | true =>
      obtain ⟨ha, hs⟩ := Bool.and_eq_true_iff.1 hA
      have hl := alg_lat ha
      have l6 : (L.length : Int) ≤ 6 := (latB_parts hl).2.1
      have v1 : filByI L T x = genI L T x := by unfold filByI; rw [hA]; rfl
      have hq := fls_mem.1 (gen_mem ha x)
      have hg := gen_has (T := T) hs
      have hs2 := hs
      unfold setB at hs2
      rw [Bool.and_eq_true, decide_eq_true_iff, decide_eq_true_iff] at hs2
      have hp6 := (pw_6 l6).2
      have hnum : num L = L.length := rfl
      have hpo : ∀ i, El L i → powO L T i (L.length : Int) = pwN L T i (num L).toNat := fun i hi => by
        unfold powO
        rw [algIn_el ha hi hi, decide_eq_true (show (0 : Int) ≤ L.length by omega), decide_eq_true (show (L.length : Int) ≤ 20 by omega)]
        rfl
      have HV := Lib.hid (show wt x = 1 → ∀ i j, El L i → El L j → ib x i = true → isBelowB L (powO L T i (L.length : Int)) j = (bt (genI L T x) j == 1) from fun h1 i j hi hj hb => by
        have e : x = pw i := one_bit' hs2.1 (by omega) hi.1 (by have := hi.2; omega) h1 hb
        rw [e, hpo i hi, below_el hl (pwN_el ha hi _) hj]
        exact (gen_pow ha hi hj).symm)
      have v2 : afB L T (genI L T x) = true := by
        unfold afB isFilB setB
        rw [ha, decide_eq_true hq.1, decide_eq_true (show genI L T x ≤ pw (num L) - 1 by omega), hq.2.2]; rfl
      obtain ⟨F, hF⟩ : ∃ F, F = genI L T x := ⟨_, rfl⟩
      rw [← hF] at v1 v2 hq HV hg
      have f0 : 0 ≤ F := hq.1
      have f63 : F ≤ 63 := by have := hq.2.1; omega
      have f1 : ¬ F < 0 := by omega
      have x00 : 0 ≤ x := hs2.1
      have x63 : x ≤ 63 := by omega
      have hbt : bits BinOp.and IntKind.i64 F x = x := by rw [bits_and_i64 _ _ f0 (by omega) x00 (by omega)]; exact hg
      have HW := Lib.hid (show ∀ i : Int, 0 ≤ i → i < L.length → bt x i = 0 ∨ bt x i = 1 from fun i _ _ => by
        unfold bt; omega)
      clear hA ha hs hs2 hq hF hl hpo hg hnum hp6
      by_cases hw : wt x = 1
      · have HV2 := Lib.hid (HV.out hw)
        go_wp2_with (first
          | go_skip
          | (refine wpList_store_row rfl 26 _ _ rfl w1.heap.size #[.slice a L.length ca, .slice b T.length cb] rfl rfl _ _ (heap_alloc_new w1 (.cells #[.slice none 0 0, .slice none 0 0] 26)) (size_Alg _ _) rfl (one_sl2 _ _ _ _ _ _) ?_; rw [World.setRow_alloc_new]; rw [← hw2, ← hg]; clear hw2 hg)
          | (refine wpList_store_row rfl 26 _ _ rfl w1.heap.size #[.slice a L.length ca, .slice (some ⟨B, off, none⟩) T.length cb] rfl rfl _ _ (heap_alloc_new w1 (.cells #[.slice none 0 0, .slice none 0 0] 26)) (size_Alg _ _) rfl (one_sl2 _ _ _ _ _ _) ?_; rw [World.setRow_alloc_new]; rw [← hw2, ← hg]; clear hw2 hg)
          | (refine wpList_load_row_w rfl 26 _ rfl g rfl _ _ _ _ (KX.out _ z) Try.underlying26 rfl (size_Alg _ _) ?_)
          | (go_at_call 36; refine (implFilterBy_any _ _ _ _ L T x _ (KR.out _ z) (KT.out _ z)).mono ?_; rintro e wz ⟨rfl, hb⟩; replace z := z.trans (hb.mono z.size); (try clear c0 c1); have c0 := K0.out _ z; have c1 := K1.out _ z; (try replace q1 := Q1.out _ z); (try replace q2 := Q2.out _ z))
          | (go_at_call 42; refine (specFilterBy_any _ _ _ _ L T x _ (KR.out _ z) (KT.out _ z)).mono ?_; rintro e wz ⟨rfl, hb⟩; replace z := z.trans (hb.mono z.size); (try clear c0 c1); have c0 := K0.out _ z; have c1 := K1.out _ z; (try replace q1 := Q1.out _ z); (try replace q2 := Q2.out _ z))
          | (go_at_call 39; refine (implIsFilter_any _ _ _ _ L T _ _ (KR.out _ z) (KT.out _ z)).mono ?_; rintro e wz ⟨rfl, hb⟩; replace z := z.trans (hb.mono z.size); (try clear c0 c1); have c0 := K0.out _ z; have c1 := K1.out _ z; (try replace q1 := Q1.out _ z); (try replace q2 := Q2.out _ z)))
        clear c0 c1 v1 v2 hbt
        go_loopw [6, 7] (fun xv yv wr => ∃ i : Int, 0 ≤ i ∧ i ≤ L.length ∧ xv = .int .i64 i ∧ Below w2.heap.size w2 wr) (fun xv _ _ => (6 - intOf xv).toNat)
        case atStart => exact ⟨0, by omega, by omega, rfl, z⟩
        case round =>
          obtain ⟨i, i0, i1, rfl, z⟩ := hrel
          have c0 := K0.out _ z
          by_cases hi : i < L.length
          · go_wp2_with (first | go_skip | (go_at_call 43; refine (lawWeight_any _ _ (by omega) (by omega)).mono ?_; rintro e wz ⟨rfl, rfl⟩))
            clear c0
            obtain ⟨wo, rfl⟩ : ∃ wo : World, wo = wr := ⟨_, rfl⟩
            go_loopw [7] (fun yv wr => ∃ j : Int, 0 ≤ j ∧ j ≤ L.length ∧ yv = .int .i64 j ∧ Below w2.heap.size w2 wr) (fun yv _ => (6 - intOf yv).toNat)
            case atStart => exact ⟨0, by omega, by omega, rfl, z⟩
            case round =>
              obtain ⟨j, j0, j1, rfl, z⟩ := hrel
              have c0 := K0.out _ z
              by_cases hj : j < L.length
              · rcases HW.out i i0 hi with hb | hb
                · go_wp2_with (first | go_skip | (go_at_call 35; refine (lawBit_any _ _ _ (by omega) (by omega) (by omega) (by omega)).mono ?_; rintro e wz ⟨rfl, rfl⟩))
                  go_roundw
                  case rel => exact ⟨i + 1, by omega, by omega, rfl, z⟩
                  case measure => simp [intOf]; omega
                · have V := HV2.out i j ⟨i0, hi⟩ ⟨j0, hj⟩ (by unfold ib; rw [hb]; rfl)
                  cases hV : (bt F j == 1)
                  all_goals
                    rw [hV] at V
                    go_wp2_with (first | go_skip | (go_at_call 35; refine (lawBit_any _ _ _ (by omega) (by omega) (by omega) (by omega)).mono ?_; rintro e wz ⟨rfl, rfl⟩))
                    clear c0
                    refine region_in (Below wr.heap.size wr) (by kernel_rfl) (by kernel_rfl) (Dr.below ⟨1, rfl⟩ _) fun hne => ?_
                    have r0 : ∀ s : In (Below wr.heap.size wr), s.w.cell? ⟨g, 0, none⟩ = some (.slice a L.length ca) := fun s => K0.out _ (in_trans z s)
                    repeat (first
                      | (go_big_quiet_want; refine quiet_load_row 26 _ rfl g rfl _ _ _ _ (fun w' ⟨s, hs⟩ => by rw [hs]; exact KX.out _ (in_trans z s)) Try.underlying26 rfl (size_Alg _ _) ?_; simp only [Act.put, List.setIfInBounds_toArray, List.set_cons_succ, List.set_cons_zero]; go_big_quiet_on)
                      | go_big_quiet_step ((first | (go_at_call 15; exact in_below _ (Nat.le_refl _) (implPowerOf_any _ _ _ _ L T _ _ _ (KR.out _ (in_trans z _)) (KT.out _ (in_trans z _)))) | (go_at_call 17; exact in_below _ (Nat.le_refl _) (implIsBelow_any _ _ L _ _ _ (KR.out _ (in_trans z _)))) | (go_at_call 35; exact in_same _ (lawBit_any _ _ _ (by omega) (by omega) (by omega) (by omega))))))
                    refine wpQuiet_nil ?_
                    intro s
                    have z4 := in_trans z s
                    have hs7 := s.h
                    obtain ⟨w7, hw7⟩ : ∃ x : World, x = s.w := ⟨_, rfl⟩
                    rw [← hw7] at z4 hs7 ⊢
                    clear hw7
                    clear r0
                    go_wp2
                    go_roundw
                    case rel => exact ⟨j + 1, by omega, by omega, rfl, z4⟩
                    case measure => simp [intOf]; omega
              · go_wp2_with (first | go_skip | (go_at_call 35; refine (lawBit_any _ _ _ (by omega) (by omega) (by omega) (by omega)).mono ?_; rintro e wz ⟨rfl, rfl⟩))
                go_roundw
                case rel => exact ⟨i + 1, by omega, by omega, rfl, z⟩
                case measure => simp [intOf]; omega
          · go_wp2_with (first | go_skip | (go_at_call 43; refine (lawWeight_any _ _ (by omega) (by omega)).mono ?_; rintro e wz ⟨rfl, rfl⟩))
            go_ret
            exact ⟨rfl, FIN.out _ z⟩
      · have n1 : (0 : Int) < L.length := by omega
        clear HV HW
        go_wp2_with (first
          | go_skip
          | (refine wpList_store_row rfl 26 _ _ rfl w1.heap.size #[.slice a L.length ca, .slice b T.length cb] rfl rfl _ _ (heap_alloc_new w1 (.cells #[.slice none 0 0, .slice none 0 0] 26)) (size_Alg _ _) rfl (one_sl2 _ _ _ _ _ _) ?_; rw [World.setRow_alloc_new]; rw [← hw2, ← hg]; clear hw2 hg)
          | (refine wpList_store_row rfl 26 _ _ rfl w1.heap.size #[.slice a L.length ca, .slice (some ⟨B, off, none⟩) T.length cb] rfl rfl _ _ (heap_alloc_new w1 (.cells #[.slice none 0 0, .slice none 0 0] 26)) (size_Alg _ _) rfl (one_sl2 _ _ _ _ _ _) ?_; rw [World.setRow_alloc_new]; rw [← hw2, ← hg]; clear hw2 hg)
          | (refine wpList_load_row_w rfl 26 _ rfl g rfl _ _ _ _ (KX.out _ z) Try.underlying26 rfl (size_Alg _ _) ?_)
          | (go_at_call 36; refine (implFilterBy_any _ _ _ _ L T x _ (KR.out _ z) (KT.out _ z)).mono ?_; rintro e wz ⟨rfl, hb⟩; replace z := z.trans (hb.mono z.size); (try clear c0 c1); have c0 := K0.out _ z; have c1 := K1.out _ z; (try replace q1 := Q1.out _ z); (try replace q2 := Q2.out _ z))
          | (go_at_call 42; refine (specFilterBy_any _ _ _ _ L T x _ (KR.out _ z) (KT.out _ z)).mono ?_; rintro e wz ⟨rfl, hb⟩; replace z := z.trans (hb.mono z.size); (try clear c0 c1); have c0 := K0.out _ z; have c1 := K1.out _ z; (try replace q1 := Q1.out _ z); (try replace q2 := Q2.out _ z))
          | (go_at_call 39; refine (implIsFilter_any _ _ _ _ L T _ _ (KR.out _ z) (KT.out _ z)).mono ?_; rintro e wz ⟨rfl, hb⟩; replace z := z.trans (hb.mono z.size); (try clear c0 c1); have c0 := K0.out _ z; have c1 := K1.out _ z; (try replace q1 := Q1.out _ z); (try replace q2 := Q2.out _ z)))
        clear c1 v1 v2 hbt
        go_loopw [6, 7] (fun xv yv wr => xv = .int .i64 0 ∧ Below w2.heap.size w2 wr) (fun xv _ _ => 0)
        case atStart => exact ⟨rfl, z⟩
        case round =>
          obtain ⟨rfl, z⟩ := hrel
          have c0 := K0.out _ z
          go_wp2_with (first | go_skip | (go_at_call 43; refine (lawWeight_any _ _ (by omega) (by omega)).mono ?_; rintro e wz ⟨rfl, rfl⟩))
          go_ret
          exact ⟨rfl, FIN.out _ z⟩
end Go.Proofs.Ytaflhjjnkejcoaa
