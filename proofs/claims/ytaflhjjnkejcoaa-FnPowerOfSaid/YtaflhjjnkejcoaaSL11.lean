import Derived.Test.YtaflhjjnkejcoaaSL8
import Derived.Test.YtaflhjjnkejcoaaSA10
namespace Go.Proofs.Ytaflhjjnkejcoaa
open Go.RowKit

set_option maxRecDepth 100000 in
set_option maxHeartbeats 2000000 in
/-- laws.FnPowerOf -/
theorem lawPPowerOf (a0 : Option Addr) (len0 cap0 : Nat) (w : World) (hy : RdY w a0 len0 w.heap.size) (hc : len0 ≤ cap0) (hm : len0 ≤ maxLen) :
    Calls Try.prog 3 #[.slice a0 len0 cap0] w fun e w' => e = .returned (.bool true) ∧ Below w.heap.size w w' := by
  by_cases hbig : 1048576 < len0
  · have hbig2 : (1048576 : Int) < len0 := by omega
    go_enter Try.func3, Try.ntmps3
    go_wp2
    go_ret
    exact ⟨rfl, Below.refl _ _⟩
  · have hs : len0 ≤ 1048576 := by omega
    have hs2 : ¬ (1048576 : Int) < len0 := by omega
    go_enter Try.func3, Try.ntmps3
    go_wp2_with fail
    refine (drawPowerOf_any a0 len0 cap0 w hy hc hs).mono ?_
    rintro e w1 ⟨L, T, a, ca, b, cb, x, y, rfl, x0, x1, y0, y1, hP, hr, hT, hb⟩
    have _ := hm
    clear hs hs2 hbig hy hm hc
    obtain ⟨l1, l7, t6, r6⟩ := someP_len hP
    have hM : (L.length : Int) ≤ 9223372036854775807 := by omega
    obtain ⟨g, hg⟩ : ∃ g, g = w1.heap.size := ⟨_, rfl⟩
    obtain ⟨w2, hw2⟩ : ∃ w2, w2 = w1.alloc (.cells #[.slice a L.length ca, .slice b T.length cb] 26) := ⟨_, rfl⟩
    have hB : Below w.heap.size w w2 := by rw [hw2]; exact hb.alloc hb.size _
    have hB2 : Below w1.heap.size w1 w2 := by rw [hw2]; exact (Below.refl _ _).alloc (Nat.le_refl _) _
    have hx2 : w2.heap[g]? = some (.cells #[.slice a L.length ca, .slice b T.length cb] 26 (0, 0)) := by rw [hw2, hg]; exact heap_alloc_new w1 _
    have KX := Lib.hid (show ∀ wz, Below w2.heap.size w2 wz → wz.heap[g]? = some (.cells #[.slice a L.length ca, .slice b T.length cb] 26 (0, 0)) from fun wz h => (h.block _ (lt_of_block hx2)).trans hx2)
    have K0 := Lib.hid (show ∀ wz, Below w2.heap.size w2 wz → wz.cell? ⟨g, 0, none⟩ = some (.slice a L.length ca) from fun wz h => (bx_cells (KX.out _ h)).1)
    have K1 := Lib.hid (show ∀ wz, Below w2.heap.size w2 wz → wz.cell? ⟨g, 1, none⟩ = some (.slice b T.length cb) from fun wz h => (bx_cells (KX.out _ h)).2)
    have KR := Lib.hid (show ∀ wz, Below w2.heap.size w2 wz → Rd wz a L from fun wz h => (hr.below hB2).below h)
    have KT := Lib.hid (show ∀ wz, Below w2.heap.size w2 wz → RdT wz b T from fun wz h => (hT.below hB2).below h)
    have FIN := Lib.hid (show ∀ wz, Below w2.heap.size w2 wz → Below w.heap.size w wz from fun wz h => hB.trans (h.mono hB.size))
    have z : Below w2.heap.size w2 w2 := Below.refl _ _
    have HP := Lib.hid hP
    clear hP hr hT hb hB hB2 hx2 r6
    have c0 := K0.out _ z
    have c1 := K1.out _ z
    cases hA : algIn L T x x && (decide (0 ≤ y) && decide (y ≤ 20)) with
    | false =>
      have v1 : powO L T x y = -1 := by unfold powO; rw [hA]; rfl
      clear hA
      go_wp2_with (first
      | go_skip
      | (refine wpList_store_row rfl 26 _ _ rfl w1.heap.size #[.slice a L.length ca, .slice b T.length cb] rfl rfl _ _ (heap_alloc_new w1 (.cells #[.slice none 0 0, .slice none 0 0] 26)) (size_Alg _ _) rfl (one_sl2 _ _ _ _ _ _) ?_; rw [World.setRow_alloc_new]; rw [← hw2, ← hg]; clear hw2 hg)
      | (refine wpList_store_row rfl 26 _ _ rfl w1.heap.size #[.slice a L.length ca, .slice (some ⟨B, off, none⟩) T.length cb] rfl rfl _ _ (heap_alloc_new w1 (.cells #[.slice none 0 0, .slice none 0 0] 26)) (size_Alg _ _) rfl (one_sl2 _ _ _ _ _ _) ?_; rw [World.setRow_alloc_new]; rw [← hw2, ← hg]; clear hw2 hg)
      | (refine wpList_load_row_w rfl 26 _ rfl g rfl _ _ _ _ (KX.out _ z) Try.underlying26 rfl (size_Alg _ _) ?_)
      | (go_at_call 15; refine (implPowerOf_any _ _ _ _ L T x y _ (KR.out _ z) (KT.out _ z)).mono ?_; rintro e wz ⟨rfl, hb⟩; replace z := z.trans (hb.mono z.size); (try clear c0 c1); have c0 := K0.out _ z; have c1 := K1.out _ z; (try replace q1 := Q1.out _ z); (try replace q2 := Q2.out _ z))
      | (go_at_call 16; refine (specPowerOf_any _ _ _ _ L T x y _ (KR.out _ z) (KT.out _ z) hM).mono ?_; rintro e wz ⟨rfl, hb⟩; replace z := z.trans (hb.mono z.size); (try clear c0 c1); have c0 := K0.out _ z; have c1 := K1.out _ z; (try replace q1 := Q1.out _ z); (try replace q2 := Q2.out _ z)))
      go_ret
      exact ⟨rfl, FIN.out _ z⟩
    | true =>
      obtain ⟨hA1, hk⟩ := Bool.and_eq_true_iff.1 hA
      rw [Bool.and_eq_true, decide_eq_true_iff, decide_eq_true_iff] at hk
      obtain ⟨ha, x0, x1, _, _⟩ := algIn_parts hA1
      have hX : El L x := ⟨x0, x1⟩
      have hl := alg_lat ha
      have hpo : ∀ k : Int, 0 ≤ k → k ≤ 20 → powO L T x k = pwN L T x k.toNat := fun k k0 k1 => by
        unfold powO
        rw [hA1, decide_eq_true k0, decide_eq_true k1]
        rfl
      have v0 : powO L T x 0 = (L.length : Int) - 1 := hpo 0 (by omega) (by omega)
      have va : powO L T x 1 = x := by
        rw [hpo 1 (by omega) (by omega)]
        show tv T (num L - 1) x = x
        rw [tv_comm ha (el_t hl) hX]; exact tv_top ha hX
      have v1 : powO L T x y = pwN L T x y.toNat := hpo y hk.1 hk.2
      obtain ⟨o, ho⟩ : ∃ o, o = pwN L T x y.toNat := ⟨_, rfl⟩
      rw [← ho] at v1
      have eo : El L o := by rw [ho]; exact pwN_el ha hX _
      have hs := tv_le1 ha eo hX
      have v3 : isBelowB L (tv T o x) o = true := by rw [below_el hl (tv_el ha eo hX) eo]; exact hs
      have x1' : x < L.length := x1
      have o0 : 0 ≤ o := eo.1
      have o1 : o < L.length := eo.2
      have o2 : ¬ o < 0 := by omega
      have htl : (T.length : Int) = L.length := shape_len (alg_shape ha)
      obtain ⟨B, off, rfl, rb, ro, rc, htab⟩ := tab_of (KT.out _ z) (alg_shape ha) (by unfold num; omega)
      have KTA := Lib.hid (show ∀ wz, Below w2.heap.size w2 wz → TabAt wz B off (num L) L.length rb ro rc T from fun wz h => htab.below h)
      have oT : o < T.length := by omega
      by_cases h20 : y = 20
      · subst h20
        clear hA hA1 ha hl hX hs eo hpo ho htl htab
        go_wp2_with (first
          | go_skip
          | (refine wpList_store_row rfl 26 _ _ rfl w1.heap.size #[.slice a L.length ca, .slice b T.length cb] rfl rfl _ _ (heap_alloc_new w1 (.cells #[.slice none 0 0, .slice none 0 0] 26)) (size_Alg _ _) rfl (one_sl2 _ _ _ _ _ _) ?_; rw [World.setRow_alloc_new]; rw [← hw2, ← hg]; clear hw2 hg)
          | (refine wpList_store_row rfl 26 _ _ rfl w1.heap.size #[.slice a L.length ca, .slice (some ⟨B, off, none⟩) T.length cb] rfl rfl _ _ (heap_alloc_new w1 (.cells #[.slice none 0 0, .slice none 0 0] 26)) (size_Alg _ _) rfl (one_sl2 _ _ _ _ _ _) ?_; rw [World.setRow_alloc_new]; rw [← hw2, ← hg]; clear hw2 hg)
          | (refine wpList_load_row_w rfl 26 _ rfl g rfl _ _ _ _ (KX.out _ z) Try.underlying26 rfl (size_Alg _ _) ?_)
          | (go_at_call 15; refine (implPowerOf_any _ _ _ _ L T _ _ _ (KR.out _ z) (KT.out _ z)).mono ?_; rintro e wz ⟨rfl, hb⟩; replace z := z.trans (hb.mono z.size); (try clear c0 c1); have c0 := K0.out _ z; have c1 := K1.out _ z; (try replace q1 := Q1.out _ z); (try replace q2 := Q2.out _ z))
          | (go_at_call 16; refine (specPowerOf_any _ _ _ _ L T _ _ _ (KR.out _ z) (KT.out _ z) hM).mono ?_; rintro e wz ⟨rfl, hb⟩; replace z := z.trans (hb.mono z.size); (try clear c0 c1); have c0 := K0.out _ z; have c1 := K1.out _ z; (try replace q1 := Q1.out _ z); (try replace q2 := Q2.out _ z)))
        clear c0 c1
        refine region_in (Below wz.heap.size wz) (by kernel_rfl) (by kernel_rfl) (Dr.below ⟨1, rfl⟩ _) fun hne => ?_
        have r0 : ∀ s : In (Below wz.heap.size wz), s.w.cell? ⟨g, 0, none⟩ = some (.slice a L.length ca) := fun s => K0.out _ (in_trans z s)
        repeat (first
          | (go_big_quiet_want; refine quiet_load_row 26 _ rfl g rfl _ _ _ _ (fun w' ⟨s, hs⟩ => by rw [hs]; exact KX.out _ (in_trans z s)) Try.underlying26 rfl (size_Alg _ _) ?_; simp only [Act.put, List.setIfInBounds_toArray, List.set_cons_succ, List.set_cons_zero]; go_big_quiet_on)
          | go_big_quiet_step ((first | (go_at_call 15; exact in_below _ (Nat.le_refl _) (implPowerOf_any _ _ _ _ L T _ _ _ (KR.out _ (in_trans z _)) (KT.out _ (in_trans z _)))))))
        refine wpQuiet_nil ?_
        intro s
        have z4 := in_trans z s
        have hs7 := s.h
        obtain ⟨w7, hw7⟩ : ∃ x : World, x = s.w := ⟨_, rfl⟩
        rw [← hw7] at z4 hs7 ⊢
        clear hw7
        clear r0
        go_wp2
        go_ret
        exact ⟨rfl, FIN.out _ z4⟩
      · have hy : (y == 20) = false := beq_eq_false_iff_ne.2 h20
        have hw : IntKind.i64.wrap (y + 1) = y + 1 := IntWalk.i64_in _ (by omega)
        have v2 : powO L T x (y + 1) = tv T o x := by
          rw [hpo (y + 1) (by omega) (by omega), show (y + 1).toNat = y.toNat + 1 by omega, ho]
          rfl
        have y0' := hk.1
        clear hA hA1 ha hl hX hs eo hpo ho htl htab hk
        go_wp2_with (first
          | go_skip
          | (refine wpList_store_row rfl 26 _ _ rfl w1.heap.size #[.slice a L.length ca, .slice b T.length cb] rfl rfl _ _ (heap_alloc_new w1 (.cells #[.slice none 0 0, .slice none 0 0] 26)) (size_Alg _ _) rfl (one_sl2 _ _ _ _ _ _) ?_; rw [World.setRow_alloc_new]; rw [← hw2, ← hg]; clear hw2 hg)
          | (refine wpList_store_row rfl 26 _ _ rfl w1.heap.size #[.slice a L.length ca, .slice (some ⟨B, off, none⟩) T.length cb] rfl rfl _ _ (heap_alloc_new w1 (.cells #[.slice none 0 0, .slice none 0 0] 26)) (size_Alg _ _) rfl (one_sl2 _ _ _ _ _ _) ?_; rw [World.setRow_alloc_new]; rw [← hw2, ← hg]; clear hw2 hg)
          | (refine wpList_load_row_w rfl 26 _ rfl g rfl _ _ _ _ (KX.out _ z) Try.underlying26 rfl (size_Alg _ _) ?_)
          | (go_at_call 15; refine (implPowerOf_any _ _ _ _ L T _ _ _ (KR.out _ z) (KT.out _ z)).mono ?_; rintro e wz ⟨rfl, hb⟩; replace z := z.trans (hb.mono z.size); (try clear c0 c1); have c0 := K0.out _ z; have c1 := K1.out _ z; (try replace q1 := Q1.out _ z); (try replace q2 := Q2.out _ z))
          | (go_at_call 16; refine (specPowerOf_any _ _ _ _ L T _ _ _ (KR.out _ z) (KT.out _ z) hM).mono ?_; rintro e wz ⟨rfl, hb⟩; replace z := z.trans (hb.mono z.size); (try clear c0 c1); have c0 := K0.out _ z; have c1 := K1.out _ z; (try replace q1 := Q1.out _ z); (try replace q2 := Q2.out _ z)))
        clear c0 c1
        refine region_in (Below wz.heap.size wz) (by kernel_rfl) (by kernel_rfl) (Dr.below ⟨1, rfl⟩ _) fun hne => ?_
        have r0 : ∀ s : In (Below wz.heap.size wz), s.w.cell? ⟨g, 0, none⟩ = some (.slice a L.length ca) := fun s => K0.out _ (in_trans z s)
        have r1 : ∀ s : In (Below wz.heap.size wz), s.w.cell? ⟨g, 1, none⟩ = some (.slice (some ⟨B, off, none⟩) T.length cb) := fun s => K1.out _ (in_trans z s)
        have r2 : ∀ s : In (Below wz.heap.size wz), s.w.cell? ⟨B, off + (o).toNat, none⟩ = some (.slice (some ⟨rb (o), ro (o), none⟩) L.length (rc (o))) := fun s => (KTA.out _ (in_trans z s)).row o0 o1
        have r3 : ∀ s : In (Below wz.heap.size wz), s.w.cell? ⟨rb (o), ro (o) + (x).toNat, none⟩ = some (.int .i64 (tv T (o) (x))) := fun s => (KTA.out _ (in_trans z s)).cell o0 o1 x0 x1'
        repeat (first
          | (go_big_quiet_want; refine quiet_load_row 26 _ rfl g rfl _ _ _ _ (fun w' ⟨s, hs⟩ => by rw [hs]; exact KX.out _ (in_trans z s)) Try.underlying26 rfl (size_Alg _ _) ?_; simp only [Act.put, List.setIfInBounds_toArray, List.set_cons_succ, List.set_cons_zero]; go_big_quiet_on)
          | go_big_quiet_step ((first | (go_at_call 15; exact in_below _ (Nat.le_refl _) (implPowerOf_any _ _ _ _ L T _ _ _ (KR.out _ (in_trans z _)) (KT.out _ (in_trans z _)))) | (go_at_call 17; exact in_below _ (Nat.le_refl _) (implIsBelow_any _ _ L _ _ _ (KR.out _ (in_trans z _)))))))
        refine wpQuiet_nil ?_
        intro s
        have z4 := in_trans z s
        have hs7 := s.h
        obtain ⟨w7, hw7⟩ : ∃ x : World, x = s.w := ⟨_, rfl⟩
        rw [← hw7] at z4 hs7 ⊢
        clear hw7
        clear r0 r1 r2 r3
        go_wp2
        go_ret
        exact ⟨by first | rfl | exact ret_bool (by simp), FIN.out _ z4⟩
end Go.Proofs.Ytaflhjjnkejcoaa
