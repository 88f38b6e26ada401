import Derived.Test.YtjcambkjcagcoaaGreatSL0
import Derived.Test.YtjcambkjcagcoaaGreatLC
import Derived.Test.YtjcambkjcagcoaaGreatKG3
import Derived.Test.YtjcambkjcagcoaaGreatKM8
import Derived.Test.YtjcambkjcagcoaaGreatG10
import Derived.Test.YtjcambkjcagcoaaGreatN7
namespace Go.Proofs.YtjcambkjcagcoaaGreat
open Go.RowKit

set_option maxRecDepth 100000 in
set_option maxHeartbeats 8000000 in
/-- laws.FnRadicalOf -/
theorem lawPRadicalOf (a0 : Option Addr) (len0 cap0 : Nat) (w : World) (hy : RdY w a0 len0 w.heap.size) (hc : len0 ≤ cap0) (hm : len0 ≤ maxLen) :
    Calls Tryz.prog 6 #[.slice a0 len0 cap0] w fun e w' => e = .returned (.bool true) ∧ Below w.heap.size w w' := by
  by_cases hbig : 1048576 < len0
  · have hbig2 : (1048576 : Int) < len0 := by omega
    go_enter Tryz.func6, Tryz.ntmps6
    go_wp2
    go_ret
    exact ⟨rfl, Below.refl _ _⟩
  · have hs : len0 ≤ 1048576 := by omega
    have hs2 : ¬ (1048576 : Int) < len0 := by omega
    go_enter Tryz.func6, Tryz.ntmps6
    go_wp2_with fail
    refine (drawRadicalOf_any a0 len0 cap0 w hy hc hs).mono ?_
    rintro e w1 ⟨L, T, a, ca, b, cb, rfl, hP, hr, hT, hb⟩
    have _ := hm
    clear hs hs2 hbig hy hm hc
    obtain ⟨l1, l7, t6, r6⟩ := someP_len hP
    have hM : (L.length : Int) ≤ 9223372036854775807 := by omega
    obtain ⟨g, hg⟩ : ∃ g, g = w1.heap.size := ⟨_, rfl⟩
    obtain ⟨w2, hw2⟩ : ∃ w2, w2 = w1.alloc (.cells #[.slice a L.length ca, .slice b T.length cb] 26) := ⟨_, rfl⟩
    have hB : Below w.heap.size w w2 := by rw [hw2]; exact hb.alloc hb.size _
    have hB2 : Below w1.heap.size w1 w2 := by rw [hw2]; exact (Below.refl _ _).alloc (Nat.le_refl _) _
    have hx2 : w2.heap[g]? = some (.cells #[.slice a L.length ca, .slice b T.length cb] 26 (0, 0)) := by rw [hw2, hg]; exact heap_alloc_new w1 _
    have KX := Lib.hid (show ∀ wz, Below w2.heap.size w2 wz → wz.heap[g]? = some (.cells #[.slice a L.length ca, .slice b T.length cb] 26 (0, 0)) from fun wz h => (h.block _ (lt_of_block hx2)).trans hx2)
    have K0 := Lib.hid (show ∀ wz, Below w2.heap.size w2 wz → wz.cell? ⟨g, 0, none⟩ = some (.slice a L.length ca) from fun wz h => (bx_cells (KX.out _ h)).1)
    have K1 := Lib.hid (show ∀ wz, Below w2.heap.size w2 wz → wz.cell? ⟨g, 1, none⟩ = some (.slice b T.length cb) from fun wz h => (bx_cells (KX.out _ h)).2)
    have KR := Lib.hid (show ∀ wz, Below w2.heap.size w2 wz → Rd wz a L from fun wz h => (hr.below hB2).below h)
    have KT := Lib.hid (show ∀ wz, Below w2.heap.size w2 wz → RdT wz b T from fun wz h => (hT.below hB2).below h)
    have FIN := Lib.hid (show ∀ wz, Below w2.heap.size w2 wz → Below w.heap.size w wz from fun wz h => hB.trans (h.mono hB.size))
    have z : Below w2.heap.size w2 w2 := Below.refl _ _
    have HP := Lib.hid hP
    clear hP hr hT hb hB hB2 hx2 r6
    have c0 := K0.out _ z
    have c1 := K1.out _ z
    cases ha : algB L T with
    | false =>
      have v1 : radI L T = -1 := by unfold radI; rw [ha]; rfl
      clear ha
      go_wp2_with (first
      | go_skip
      | (refine wpList_store_row rfl 26 _ _ rfl w1.heap.size #[.slice a L.length ca, .slice b T.length cb] rfl rfl _ _ (heap_alloc_new w1 (.cells #[.slice none 0 0, .slice none 0 0] 26)) (size_Alg _ _) rfl (one_sl2 _ _ _ _ _ _) ?_; rw [World.setRow_alloc_new]; rw [← hw2, ← hg]; clear hw2 hg)
      | (refine wpList_store_row rfl 26 _ _ rfl w1.heap.size #[.slice a L.length ca, .slice (some ⟨B, off, none⟩) T.length cb] rfl rfl _ _ (heap_alloc_new w1 (.cells #[.slice none 0 0, .slice none 0 0] 26)) (size_Alg _ _) rfl (one_sl2 _ _ _ _ _ _) ?_; rw [World.setRow_alloc_new]; rw [← hw2, ← hg]; clear hw2 hg)
      | (refine wpList_load_row_w rfl 26 _ rfl g rfl _ _ _ _ (KX.out _ z) Tryz.underlying26 rfl (size_Alg _ _) ?_)
      | (go_at_call 31; refine (implRadicalOf_any _ _ _ _ L T _ (KR.out _ z) (KT.out _ z)).mono ?_; rintro e wz ⟨rfl, hb⟩; replace z := z.trans (hb.mono z.size); (try clear c0 c1); have c0 := K0.out _ z; have c1 := K1.out _ z; (try replace q1 := Q1.out _ z); (try replace q2 := Q2.out _ z))
      | (go_at_call 32; refine (specRadicalOf_any _ _ _ _ L T _ (KR.out _ z) (KT.out _ z)).mono ?_; rintro e wz ⟨rfl, hb⟩; replace z := z.trans (hb.mono z.size); (try clear c0 c1); have c0 := K0.out _ z; have c1 := K1.out _ z; (try replace q1 := Q1.out _ z); (try replace q2 := Q2.out _ z)))
      go_ret
      exact ⟨rfl, FIN.out _ z⟩
    | true =>
      have hl := alg_lat ha
      have l6 : (L.length : Int) ≤ 6 := (latB_parts hl).2.1
      have hsg := sg_rad HP.out ha
      obtain ⟨R, hR⟩ : ∃ R, R = radC L T := ⟨_, rfl⟩
      unfold sgRad1 at hsg
      rw [← hR, Bool.and_eq_true] at hsg
      obtain ⟨s1, s2⟩ := hsg
      have v1 : radI L T = R := by unfold radI; rw [ha, hR]; rfl
      have hfil := Lib.hid (show afB L T R = true by unfold afB; rw [ha, s1]; rfl)
      have hp6 := (pw_6 l6).2
      obtain ⟨f0, f63⟩ : 0 ≤ R ∧ R ≤ 63 := by
        unfold isFilB setB at s1
        rw [Bool.and_eq_true, Bool.and_eq_true, decide_eq_true_iff, decide_eq_true_iff] at s1
        have : num L = L.length := rfl
        omega
      have f1 : ¬ R < 0 := by omega
      have S2 := Lib.hid (show ∀ x, El L x → allI (L.length + 1) (radQ L T x) = ib R x from fun x hx => beq_iff_eq.1 ((allI_iff _ _).1 s2 x hx.1 hx.2))
      have v3 := Lib.hid (show ∀ x k, El L x → 0 ≤ k → k ≤ 6 → depB L T (notI L T (powO L T x k)) = radQ L T x k from fun x k hx k0 k1 => by
        have e : powO L T x k = powr L T x k := by unfold powO; rw [algIn_el ha hx hx, decide_eq_true k0, decide_eq_true (show k ≤ 20 by omega)]; rfl
        have ep : El L (powr L T x k) := by unfold powr; exact pwN_lt (alg_lat ha) (alg_shape ha) hx.1 hx.2 _
        rw [e, not_el ha ep]
        exact dep_el ha (imp_el ha _ _))
      clear ha hl hR s1 s2 hp6
      go_wp2_with (first
      | go_skip
      | (refine wpList_store_row rfl 26 _ _ rfl w1.heap.size #[.slice a L.length ca, .slice b T.length cb] rfl rfl _ _ (heap_alloc_new w1 (.cells #[.slice none 0 0, .slice none 0 0] 26)) (size_Alg _ _) rfl (one_sl2 _ _ _ _ _ _) ?_; rw [World.setRow_alloc_new]; rw [← hw2, ← hg]; clear hw2 hg)
      | (refine wpList_store_row rfl 26 _ _ rfl w1.heap.size #[.slice a L.length ca, .slice (some ⟨B, off, none⟩) T.length cb] rfl rfl _ _ (heap_alloc_new w1 (.cells #[.slice none 0 0, .slice none 0 0] 26)) (size_Alg _ _) rfl (one_sl2 _ _ _ _ _ _) ?_; rw [World.setRow_alloc_new]; rw [← hw2, ← hg]; clear hw2 hg)
      | (refine wpList_load_row_w rfl 26 _ rfl g rfl _ _ _ _ (KX.out _ z) Tryz.underlying26 rfl (size_Alg _ _) ?_)
      | (go_at_call 31; refine (implRadicalOf_any _ _ _ _ L T _ (KR.out _ z) (KT.out _ z)).mono ?_; rintro e wz ⟨rfl, hb⟩; replace z := z.trans (hb.mono z.size); (try clear c0 c1); have c0 := K0.out _ z; have c1 := K1.out _ z; (try replace q1 := Q1.out _ z); (try replace q2 := Q2.out _ z))
      | (go_at_call 32; refine (specRadicalOf_any _ _ _ _ L T _ (KR.out _ z) (KT.out _ z)).mono ?_; rintro e wz ⟨rfl, hb⟩; replace z := z.trans (hb.mono z.size); (try clear c0 c1); have c0 := K0.out _ z; have c1 := K1.out _ z; (try replace q1 := Q1.out _ z); (try replace q2 := Q2.out _ z)))
      go_loopw [5, 6, 7, 8, 9] (fun xv _ _ _ _ wr => ∃ i : Int, 0 ≤ i ∧ i ≤ L.length ∧ xv = .int .i64 i ∧ Below w2.heap.size w2 wr) (fun xv _ _ _ _ _ => (6 - intOf xv).toNat)
      case atStart => exact ⟨0, by omega, by omega, rfl, z⟩
      case round =>
        clear c0 c1 z
        obtain ⟨i, i0, i1, rfl, z⟩ := hrel
        have c0 := K0.out _ z
        have c1 := K1.out _ z
        by_cases hi : i < L.length
        · have ex : El L i := ⟨i0, by show i < (L.length : Int); omega⟩
          have hR := Lib.hid (S2.out i ex)
          go_wp2
          go_loopw [6, 7, 8, 9] (fun ev kv _ _ wr => ∃ k : Int, 0 ≤ k ∧ k ≤ L.length + 1 ∧ kv = .int .i64 k ∧ ev = .bool (allI k (radQ L T i)) ∧ Below w2.heap.size w2 wr) (fun _ kv _ _ _ => (7 - intOf kv).toNat)
          case atStart => exact ⟨0, by omega, by omega, rfl, rfl, z⟩
          case round =>
            clear c0 c1 z
            obtain ⟨k, k0, k1, rfl, rfl, z⟩ := hrel
            have c0 := K0.out _ z
            have c1 := K1.out _ z
            by_cases hk : k ≤ L.length
            · have hd := v3.out i k ex k0 (by omega)
              have hsu := allI_succ k k0 (radQ L T i)
              cases hE : allI k (radQ L T i)
              all_goals
                cases hD : radQ L T i k
                all_goals
                  rw [hE, hD] at hsu
                  rw [hD] at hd
                  have HSU := Lib.hid hsu
                  clear hsu hE hD
                  go_wp2
                  refine region_in (Below wr.heap.size wr) (by kernel_rfl) (by kernel_rfl) (Dr.below ⟨1, rfl⟩ _) fun hne => ?_
                  have r0 : ∀ s : In (Below wr.heap.size wr), s.w.cell? ⟨g, 0, none⟩ = some (.slice a L.length ca) := fun s => K0.out _ (in_trans z s)
                  repeat (first
                    | (go_big_quiet_want; refine quiet_load_row 26 _ rfl g rfl _ _ _ _ (fun w' ⟨s, hs⟩ => by rw [hs]; exact KX.out _ (in_trans z s)) Tryz.underlying26 rfl (size_Alg _ _) ?_; simp only [Act.put, List.setIfInBounds_toArray, List.set_cons_succ, List.set_cons_zero]; go_big_quiet_on)
                    | go_big_quiet_step ((first | (go_at_call 35; exact in_below _ (Nat.le_refl _) (implPowerOf_any _ _ _ _ L T i k _ (KR.out _ (in_trans z _)) (KT.out _ (in_trans z _)))) | (go_at_call 34; exact in_below _ (Nat.le_refl _) (implNotOf_any _ _ _ _ L T _ _ (KR.out _ (in_trans z _)) (KT.out _ (in_trans z _)))) | (go_at_call 33; exact in_below _ (Nat.le_refl _) (implDepthOf_any _ _ _ _ L T _ _ (KR.out _ (in_trans z _)) (KT.out _ (in_trans z _)))))))
                  refine wpQuiet_nil ?_
                  intro s
                  have z4 := in_trans z s
                  have hs7 := s.h
                  obtain ⟨w7, hw7⟩ : ∃ x : World, x = s.w := ⟨_, rfl⟩
                  rw [← hw7] at z4 hs7 ⊢
                  clear hw7
                  clear r0
                  go_wp2
                  go_roundw
                  case rel => exact ⟨k + 1, by omega, by omega, rfl, by rw [HSU.out]; rfl, z4⟩
                  case measure => simp [intOf]; omega
            · have e : k = L.length + 1 := by omega
              subst e
              rw [hR.out]
              cases hb : ib R i
              all_goals
                have hbt := Lib.hid (show bt R i = _ from by first | exact ib_f hb | exact ib_t hb)
                have hbt2 := hbt.out
                clear hb
                go_wp2_with (go_at_call 36; refine (lawBit_any _ _ _ f0 f63 (by omega) (by omega)).mono ?_; rintro e w' ⟨rfl, rfl⟩)
                go_roundw
                case rel => exact ⟨i + 1, by omega, by omega, rfl, z⟩
                case measure => simp [intOf]; omega
        · go_wp2_with (first
          | go_skip
          | (refine wpList_store_row rfl 26 _ _ rfl w1.heap.size #[.slice a L.length ca, .slice b T.length cb] rfl rfl _ _ (heap_alloc_new w1 (.cells #[.slice none 0 0, .slice none 0 0] 26)) (size_Alg _ _) rfl (one_sl2 _ _ _ _ _ _) ?_; rw [World.setRow_alloc_new]; rw [← hw2, ← hg]; clear hw2 hg)
          | (refine wpList_store_row rfl 26 _ _ rfl w1.heap.size #[.slice a L.length ca, .slice (some ⟨B, off, none⟩) T.length cb] rfl rfl _ _ (heap_alloc_new w1 (.cells #[.slice none 0 0, .slice none 0 0] 26)) (size_Alg _ _) rfl (one_sl2 _ _ _ _ _ _) ?_; rw [World.setRow_alloc_new]; rw [← hw2, ← hg]; clear hw2 hg)
          | (refine wpList_load_row_w rfl 26 _ rfl g rfl _ _ _ _ (KX.out _ z) Tryz.underlying26 rfl (size_Alg _ _) ?_)
          | (go_at_call 37; refine (ret_to (implIsFilter_any _ _ _ _ L T _ _ (KR.out _ z) (KT.out _ z)) (congrArg Value.bool hfil.out)).mono ?_; rintro e wz ⟨rfl, hb⟩; replace z := z.trans (hb.mono z.size); (try clear c0 c1); have c0 := K0.out _ z; have c1 := K1.out _ z; (try replace q1 := Q1.out _ z); (try replace q2 := Q2.out _ z)))
          go_ret
          exact ⟨rfl, FIN.out _ z⟩
end Go.Proofs.YtjcambkjcagcoaaGreat
