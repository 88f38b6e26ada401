import Derived.Test.YtbellklaoecpbaaSL0
namespace Go.Proofs.Ytbellklaoecpbaa
open Go.RowKit

set_option maxRecDepth 100000 in
set_option maxHeartbeats 2000000 in
/-- laws.FnNearOf -/
theorem lawPNearOf (a0 : Option Addr) (len0 cap0 : Nat) (w : World) (hy : RdY w a0 len0 w.heap.size) (hc : len0 ≤ cap0) (hm : len0 ≤ maxLen) :
    Calls Try.prog 6 #[.slice a0 len0 cap0] w fun e w' => e = .returned (.bool true) ∧ Below w.heap.size w w' := by
  by_cases hbig : 1048576 < len0
  · have hbig2 : (1048576 : Int) < len0 := by omega
    go_enter Try.func6, Try.ntmps6
    go_wp2
    go_ret
    exact ⟨rfl, Below.refl _ _⟩
  · have hs : len0 ≤ 1048576 := by omega
    have hs2 : ¬ (1048576 : Int) < len0 := by omega
    go_enter Try.func6, Try.ntmps6
    go_wp2_with fail
    refine (drawNearOf_any a0 len0 cap0 w hy hc hs).mono ?_
    rintro e w1 ⟨L, T, a, ca, b, cb, x, y, rfl, x0, x1, y0, y1, hP, hr, hT, hb⟩
    have _ := hm
    clear hs hs2 hbig hy hm hc
    obtain ⟨l1, l7, t6, r6⟩ := someP_len hP
    have hM : (L.length : Int) ≤ 9223372036854775807 := by omega
    obtain ⟨g, hg⟩ : ∃ g, g = w1.heap.size := ⟨_, rfl⟩
    obtain ⟨w2, hw2⟩ : ∃ w2, w2 = w1.alloc (.cells #[.slice a L.length ca, .slice b T.length cb] 26) := ⟨_, rfl⟩
    have hB : Below w.heap.size w w2 := by rw [hw2]; exact hb.alloc hb.size _
    have hB2 : Below w1.heap.size w1 w2 := by rw [hw2]; exact (Below.refl _ _).alloc (Nat.le_refl _) _
    have hx2 : w2.heap[g]? = some (.cells #[.slice a L.length ca, .slice b T.length cb] 26 (0, 0)) := by rw [hw2, hg]; exact heap_alloc_new w1 _
    have KX := Lib.hid (show ∀ wz, Below w2.heap.size w2 wz → wz.heap[g]? = some (.cells #[.slice a L.length ca, .slice b T.length cb] 26 (0, 0)) from fun wz h => (h.block _ (lt_of_block hx2)).trans hx2)
    have K0 := Lib.hid (show ∀ wz, Below w2.heap.size w2 wz → wz.cell? ⟨g, 0, none⟩ = some (.slice a L.length ca) from fun wz h => (bx_cells (KX.out _ h)).1)
    have K1 := Lib.hid (show ∀ wz, Below w2.heap.size w2 wz → wz.cell? ⟨g, 1, none⟩ = some (.slice b T.length cb) from fun wz h => (bx_cells (KX.out _ h)).2)
    have KR := Lib.hid (show ∀ wz, Below w2.heap.size w2 wz → Rd wz a L from fun wz h => (hr.below hB2).below h)
    have KT := Lib.hid (show ∀ wz, Below w2.heap.size w2 wz → RdT wz b T from fun wz h => (hT.below hB2).below h)
    have FIN := Lib.hid (show ∀ wz, Below w2.heap.size w2 wz → Below w.heap.size w wz from fun wz h => hB.trans (h.mono hB.size))
    have z : Below w2.heap.size w2 w2 := Below.refl _ _
    have HP := Lib.hid hP
    clear hP hr hT hb hB hB2 hx2 r6
    have c0 := K0.out _ z
    have c1 := K1.out _ z
    cases hA : algIn L T x y with
    | false =>
      have v1 : nearO L T x y = -1 := by unfold nearO; rw [hA]; rfl
      clear hA
      go_wp2_with (first
      | go_skip
      | (refine wpList_store_row rfl 26 _ _ rfl w1.heap.size #[.slice a L.length ca, .slice b T.length cb] rfl rfl _ _ (heap_alloc_new w1 (.cells #[.slice none 0 0, .slice none 0 0] 26)) (size_Alg _ _) rfl (one_sl2 _ _ _ _ _ _) ?_; rw [World.setRow_alloc_new]; rw [← hw2, ← hg]; clear hw2 hg)
      | (refine wpList_store_row rfl 26 _ _ rfl w1.heap.size #[.slice a L.length ca, .slice (some ⟨B, off, none⟩) T.length cb] rfl rfl _ _ (heap_alloc_new w1 (.cells #[.slice none 0 0, .slice none 0 0] 26)) (size_Alg _ _) rfl (one_sl2 _ _ _ _ _ _) ?_; rw [World.setRow_alloc_new]; rw [← hw2, ← hg]; clear hw2 hg)
      | (refine wpList_load_row_w rfl 26 _ rfl g rfl _ _ _ _ (KX.out _ z) Try.underlying26 rfl (size_Alg _ _) ?_)
      | (go_at_call 28; refine (implNearOf_any _ _ _ _ L T x y _ (KR.out _ z) (KT.out _ z)).mono ?_; rintro e wz ⟨rfl, hb⟩; replace z := z.trans (hb.mono z.size); (try clear c0 c1); have c0 := K0.out _ z; have c1 := K1.out _ z; (try replace q1 := Q1.out _ z); (try replace q2 := Q2.out _ z))
      | (go_at_call 29; refine (specNearOf_any _ _ _ _ L T x y _ (KR.out _ z) (KT.out _ z) hM).mono ?_; rintro e wz ⟨rfl, hb⟩; replace z := z.trans (hb.mono z.size); (try clear c0 c1); have c0 := K0.out _ z; have c1 := K1.out _ z; (try replace q1 := Q1.out _ z); (try replace q2 := Q2.out _ z)))
      go_ret
      exact ⟨rfl, FIN.out _ z⟩
    | true =>
      obtain ⟨ha, x0, x1, y0, y1⟩ := algIn_parts hA
      have hX : El L x := ⟨x0, x1⟩
      have hY : El L y := ⟨y0, y1⟩
      have hl := alg_lat ha
      obtain ⟨o, ho⟩ : ∃ o, o = nearI L T x y := ⟨_, rfl⟩
      have eo : El L o := by rw [ho]; exact nearI_el ha _ _
      have v1 : nearO L T x y = o := by rw [near_el ha hX hY, ho]
      have v2 : nearO L T y x = o := by rw [near_el ha hY hX, ho]; exact nearI_comm ha
      have HV := Lib.hid (show ∀ k, El L k → isBelowB L (tv T o (nearI L T y k)) (nearI L T x k) = true from fun k hk => by
        rw [below_el hl (tv_el ha eo (nearI_el ha _ _)) (nearI_el ha _ _), ho]
        exact nearI_trans ha hX hY hk)
      have HE := Lib.hid (show ∀ k, 0 ≤ nearI L T y k ∧ nearI L T y k < L.length from fun k => nearI_el ha y k)
      have HN := Lib.hid (show ∀ u k, El L u → El L k → nearO L T u k = nearI L T u k from fun u k hu hk => near_el ha hu hk)
      have HW := Lib.hid (show o = (L.length : Int) - 1 ↔ x = y by rw [ho]; exact nearI_top ha hX hY)
      have x1' : x < L.length := x1
      have y1' : y < L.length := y1
      have htl : (T.length : Int) = L.length := shape_len (alg_shape ha)
      obtain ⟨B, off, rfl, rb, ro, rc, htab⟩ := tab_of (KT.out _ z) (alg_shape ha) (by unfold num; omega)
      have KTA := Lib.hid (show ∀ wz, Below w2.heap.size w2 wz → TabAt wz B off (num L) L.length rb ro rc T from fun wz h => htab.below h)
      have o0 : 0 ≤ o := eo.1
      have o1 : o < L.length := eo.2
      have oT : o < T.length := by omega
      have o2 : ¬ o < 0 := by omega
      clear hA hl ho eo htl htab ha
      have HX := Lib.hid hX
      have HY := Lib.hid hY
      clear hX hY
      go_wp2_with (first
      | go_skip
      | (refine wpList_store_row rfl 26 _ _ rfl w1.heap.size #[.slice a L.length ca, .slice b T.length cb] rfl rfl _ _ (heap_alloc_new w1 (.cells #[.slice none 0 0, .slice none 0 0] 26)) (size_Alg _ _) rfl (one_sl2 _ _ _ _ _ _) ?_; rw [World.setRow_alloc_new]; rw [← hw2, ← hg]; clear hw2 hg)
      | (refine wpList_store_row rfl 26 _ _ rfl w1.heap.size #[.slice a L.length ca, .slice (some ⟨B, off, none⟩) T.length cb] rfl rfl _ _ (heap_alloc_new w1 (.cells #[.slice none 0 0, .slice none 0 0] 26)) (size_Alg _ _) rfl (one_sl2 _ _ _ _ _ _) ?_; rw [World.setRow_alloc_new]; rw [← hw2, ← hg]; clear hw2 hg)
      | (refine wpList_load_row_w rfl 26 _ rfl g rfl _ _ _ _ (KX.out _ z) Try.underlying26 rfl (size_Alg _ _) ?_)
      | (go_at_call 28; refine (implNearOf_any _ _ _ _ L T x y _ (KR.out _ z) (KT.out _ z)).mono ?_; rintro e wz ⟨rfl, hb⟩; replace z := z.trans (hb.mono z.size); (try clear c0 c1); have c0 := K0.out _ z; have c1 := K1.out _ z; (try replace q1 := Q1.out _ z); (try replace q2 := Q2.out _ z))
      | (go_at_call 29; refine (specNearOf_any _ _ _ _ L T x y _ (KR.out _ z) (KT.out _ z) hM).mono ?_; rintro e wz ⟨rfl, hb⟩; replace z := z.trans (hb.mono z.size); (try clear c0 c1); have c0 := K0.out _ z; have c1 := K1.out _ z; (try replace q1 := Q1.out _ z); (try replace q2 := Q2.out _ z)))
      clear c0 c1 v1
      go_loopw [7] (fun kv wr => ∃ k : Int, 0 ≤ k ∧ k ≤ L.length ∧ kv = .int .i64 k ∧ Below w2.heap.size w2 wr) (fun kv _ => (7 - intOf kv).toNat)
      case atStart => exact ⟨0, by omega, by omega, rfl, z⟩
      case round =>
        obtain ⟨k, k0, k1, rfl, z⟩ := hrel
        have c0 := K0.out _ z
        by_cases hk : k < L.length
        · have V := HV.out k ⟨k0, hk⟩
          obtain ⟨p0, p1⟩ := HE.out k
          have e1 := Lib.hid (HN.out y k HY.out ⟨k0, hk⟩)
          have e2 := Lib.hid (HN.out x k HX.out ⟨k0, hk⟩)
          go_wp2
          clear c0
          refine region_in (Below wr.heap.size wr) (by kernel_rfl) (by kernel_rfl) (Dr.below ⟨1, rfl⟩ _) fun hne => ?_
          have r0 : ∀ s : In (Below wr.heap.size wr), s.w.cell? ⟨g, 0, none⟩ = some (.slice a L.length ca) := fun s => K0.out _ (in_trans z s)
          have r1 : ∀ s : In (Below wr.heap.size wr), s.w.cell? ⟨g, 1, none⟩ = some (.slice (some ⟨B, off, none⟩) T.length cb) := fun s => K1.out _ (in_trans z s)
          have r2 : ∀ s : In (Below wr.heap.size wr), s.w.cell? ⟨B, off + (o).toNat, none⟩ = some (.slice (some ⟨rb (o), ro (o), none⟩) L.length (rc (o))) := fun s => (KTA.out _ (in_trans z s)).row o0 o1
          have r3 : ∀ s : In (Below wr.heap.size wr), s.w.cell? ⟨rb (o), ro (o) + (nearI L T y k).toNat, none⟩ = some (.int .i64 (tv T (o) (nearI L T y k))) := fun s => (KTA.out _ (in_trans z s)).cell o0 o1 p0 p1
          repeat (first
            | (go_big_quiet_want; refine quiet_load_row 26 _ rfl g rfl _ _ _ _ (fun w' ⟨s, hs⟩ => by rw [hs]; exact KX.out _ (in_trans z s)) Try.underlying26 rfl (size_Alg _ _) ?_; simp only [Act.put, List.setIfInBounds_toArray, List.set_cons_succ, List.set_cons_zero]; go_big_quiet_on)
            | go_big_quiet_step ((first | (go_at_call_of 28 (Value.int .i64 y); exact in_below _ (Nat.le_refl _) (ret_to (implNearOf_any _ _ _ _ L T y k _ (KR.out _ (in_trans z _)) (KT.out _ (in_trans z _))) (by rw [e1.out]))) | (go_at_call_of 28 (Value.int .i64 x); exact in_below _ (Nat.le_refl _) (ret_to (implNearOf_any _ _ _ _ L T x k _ (KR.out _ (in_trans z _)) (KT.out _ (in_trans z _))) (by rw [e2.out]))) | (go_at_call 18; exact in_below _ (Nat.le_refl _) (implIsBelow_any _ _ L _ _ _ (KR.out _ (in_trans z _)))))))
          refine wpQuiet_nil ?_
          intro s
          have z4 := in_trans z s
          have hs7 := s.h
          obtain ⟨w7, hw7⟩ : ∃ x : World, x = s.w := ⟨_, rfl⟩
          rw [← hw7] at z4 hs7 ⊢
          clear hw7
          clear r0 r1 r2 r3
          go_wp2
          go_roundw
          case rel => exact ⟨k + 1, by omega, by omega, rfl, z4⟩
          case measure => simp [intOf]; omega
        · have hE : (o == (L.length : Int) - 1) = (x == y) := Bool.eq_iff_iff.2 (by rw [beq_iff_eq, beq_iff_eq]; exact HW.out)
          have HQ := Lib.hid hE
          clear hE
          go_wp2_with (first
          | go_skip
          | (refine wpList_store_row rfl 26 _ _ rfl w1.heap.size #[.slice a L.length ca, .slice b T.length cb] rfl rfl _ _ (heap_alloc_new w1 (.cells #[.slice none 0 0, .slice none 0 0] 26)) (size_Alg _ _) rfl (one_sl2 _ _ _ _ _ _) ?_; rw [World.setRow_alloc_new]; rw [← hw2, ← hg]; clear hw2 hg)
          | (refine wpList_store_row rfl 26 _ _ rfl w1.heap.size #[.slice a L.length ca, .slice (some ⟨B, off, none⟩) T.length cb] rfl rfl _ _ (heap_alloc_new w1 (.cells #[.slice none 0 0, .slice none 0 0] 26)) (size_Alg _ _) rfl (one_sl2 _ _ _ _ _ _) ?_; rw [World.setRow_alloc_new]; rw [← hw2, ← hg]; clear hw2 hg)
          | (refine wpList_load_row_w rfl 26 _ rfl g rfl _ _ _ _ (KX.out _ z) Try.underlying26 rfl (size_Alg _ _) ?_)
          | (go_at_call 28; refine (implNearOf_any _ _ _ _ L T _ _ _ (KR.out _ z) (KT.out _ z)).mono ?_; rintro e wz ⟨rfl, hb⟩; replace z := z.trans (hb.mono z.size); (try clear c0 c1); have c0 := K0.out _ z; have c1 := K1.out _ z; (try replace q1 := Q1.out _ z); (try replace q2 := Q2.out _ z)))
          go_ret
          exact ⟨ret_bool (by simp [HQ.out]), FIN.out _ z⟩
end Go.Proofs.Ytbellklaoecpbaa
