import Derived.Test.YtbellklaoecpbaaSL0
namespace Go.Proofs.Ytbellklaoecpbaa
open Go.RowKit

set_option maxRecDepth 100000 in
set_option maxHeartbeats 2000000 in
/-- laws.FnValidAlgebra -/
theorem lawPValidAlgebra (a0 : Option Addr) (len0 cap0 : Nat) (w : World) (hy : RdY w a0 len0 w.heap.size) (hc : len0 ≤ cap0) (hm : len0 ≤ maxLen) :
    Calls Try.prog 3 #[.slice a0 len0 cap0] w fun e w' => e = .returned (.bool true) ∧ Below w.heap.size w w' := by
  by_cases hbig : 1048576 < len0
  · have hbig2 : (1048576 : Int) < len0 := by omega
    go_enter Try.func3, Try.ntmps3
    go_wp2
    go_ret
    exact ⟨rfl, Below.refl _ _⟩
  · have hs : len0 ≤ 1048576 := by omega
    have hs2 : ¬ (1048576 : Int) < len0 := by omega
    go_enter Try.func3, Try.ntmps3
    go_wp2_with fail
    refine (drawValidAlgebra_any a0 len0 cap0 w hy hc hs).mono ?_
    rintro e w1 ⟨L, T, a, ca, b, cb, rfl, hP, hr, hT, hb⟩
    have _ := hm
    clear hs hs2 hbig hy hm hc
    obtain ⟨l1, l7, t6, r6⟩ := someP_len hP
    have hM : (L.length : Int) ≤ 9223372036854775807 := by omega
    obtain ⟨g, hg⟩ : ∃ g, g = w1.heap.size := ⟨_, rfl⟩
    obtain ⟨w2, hw2⟩ : ∃ w2, w2 = w1.alloc (.cells #[.slice a L.length ca, .slice b T.length cb] 26) := ⟨_, rfl⟩
    have hB : Below w.heap.size w w2 := by rw [hw2]; exact hb.alloc hb.size _
    have hB2 : Below w1.heap.size w1 w2 := by rw [hw2]; exact (Below.refl _ _).alloc (Nat.le_refl _) _
    have hx2 : w2.heap[g]? = some (.cells #[.slice a L.length ca, .slice b T.length cb] 26 (0, 0)) := by rw [hw2, hg]; exact heap_alloc_new w1 _
    have KX := Lib.hid (show ∀ wz, Below w2.heap.size w2 wz → wz.heap[g]? = some (.cells #[.slice a L.length ca, .slice b T.length cb] 26 (0, 0)) from fun wz h => (h.block _ (lt_of_block hx2)).trans hx2)
    have K0 := Lib.hid (show ∀ wz, Below w2.heap.size w2 wz → wz.cell? ⟨g, 0, none⟩ = some (.slice a L.length ca) from fun wz h => (bx_cells (KX.out _ h)).1)
    have K1 := Lib.hid (show ∀ wz, Below w2.heap.size w2 wz → wz.cell? ⟨g, 1, none⟩ = some (.slice b T.length cb) from fun wz h => (bx_cells (KX.out _ h)).2)
    have KR := Lib.hid (show ∀ wz, Below w2.heap.size w2 wz → Rd wz a L from fun wz h => (hr.below hB2).below h)
    have KT := Lib.hid (show ∀ wz, Below w2.heap.size w2 wz → RdT wz b T from fun wz h => (hT.below hB2).below h)
    have FIN := Lib.hid (show ∀ wz, Below w2.heap.size w2 wz → Below w.heap.size w wz from fun wz h => hB.trans (h.mono hB.size))
    have z : Below w2.heap.size w2 w2 := Below.refl _ _
    have HP := Lib.hid hP
    clear hP hr hT hb hB hB2 hx2 r6
    have c0 := K0.out _ z
    have c1 := K1.out _ z
    cases ha : algB L T with
    | false =>
      go_wp2_with (first
      | go_skip
      | (refine wpList_store_row rfl 26 _ _ rfl w1.heap.size #[.slice a L.length ca, .slice b T.length cb] rfl rfl _ _ (heap_alloc_new w1 (.cells #[.slice none 0 0, .slice none 0 0] 26)) (size_Alg _ _) rfl (one_sl2 _ _ _ _ _ _) ?_; rw [World.setRow_alloc_new]; rw [← hw2, ← hg]; clear hw2 hg)
      | (refine wpList_store_row rfl 26 _ _ rfl w1.heap.size #[.slice a L.length ca, .slice (some ⟨B, off, none⟩) T.length cb] rfl rfl _ _ (heap_alloc_new w1 (.cells #[.slice none 0 0, .slice none 0 0] 26)) (size_Alg _ _) rfl (one_sl2 _ _ _ _ _ _) ?_; rw [World.setRow_alloc_new]; rw [← hw2, ← hg]; clear hw2 hg)
      | (refine wpList_load_row_w rfl 26 _ rfl g rfl _ _ _ _ (KX.out _ z) Try.underlying26 rfl (size_Alg _ _) ?_)
      | (go_at_call 16; refine (implValidAlgebra_any _ _ _ _ L T _ (KR.out _ z) (KT.out _ z)).mono ?_; rintro e wz ⟨rfl, hb⟩; replace z := z.trans (hb.mono z.size); (try clear c0 c1); have c0 := K0.out _ z; have c1 := K1.out _ z; (try replace q1 := Q1.out _ z); (try replace q2 := Q2.out _ z))
      | (go_at_call 17; refine (specValidAlgebra_any _ _ _ _ L T _ (KR.out _ z) (KT.out _ z)).mono ?_; rintro e wz ⟨rfl, hb⟩; replace z := z.trans (hb.mono z.size); (try clear c0 c1); have c0 := K0.out _ z; have c1 := K1.out _ z; (try replace q1 := Q1.out _ z); (try replace q2 := Q2.out _ z)))
      go_ret
      exact ⟨rfl, FIN.out _ z⟩
    | true =>
      have hl := alg_lat ha
      have htl : (T.length : Int) = L.length := shape_len (alg_shape ha)
      obtain ⟨B, off, rfl, rb, ro, rc, htab⟩ := tab_of (KT.out _ z) (alg_shape ha) (by unfold num; omega)
      have KTA := Lib.hid (show ∀ wz, Below w2.heap.size w2 wz → TabAt wz B off (num L) L.length rb ro rc T from fun wz h => htab.below h)
      have HV := Lib.hid (show ∀ i j, El L i → El L j → isBelowB L (tv T i j) (meetOfI L i j) = true from fun i j hi hj => by
        rw [meet_el hl hi hj, below_el hl (tv_el ha hi hj) (mt_el hl hi hj)]
        exact mt_ge hl hi hj (tv_el ha hi hj) (tv_le1 ha hi hj) (tv_le2 ha hi hj))
      have tl1 : T.length ≤ L.length := by omega
      have tl2 : L.length ≤ T.length := by omega
      have l6 := (latB_parts hl).2.1
      have l6' : (L.length : Int) ≤ 6 := l6
      have HA := Lib.hid ha
      clear htl htab l6
      go_wp2_with (first
      | go_skip
      | (refine wpList_store_row rfl 26 _ _ rfl w1.heap.size #[.slice a L.length ca, .slice b T.length cb] rfl rfl _ _ (heap_alloc_new w1 (.cells #[.slice none 0 0, .slice none 0 0] 26)) (size_Alg _ _) rfl (one_sl2 _ _ _ _ _ _) ?_; rw [World.setRow_alloc_new]; rw [← hw2, ← hg]; clear hw2 hg)
      | (refine wpList_store_row rfl 26 _ _ rfl w1.heap.size #[.slice a L.length ca, .slice (some ⟨B, off, none⟩) T.length cb] rfl rfl _ _ (heap_alloc_new w1 (.cells #[.slice none 0 0, .slice none 0 0] 26)) (size_Alg _ _) rfl (one_sl2 _ _ _ _ _ _) ?_; rw [World.setRow_alloc_new]; rw [← hw2, ← hg]; clear hw2 hg)
      | (refine wpList_load_row_w rfl 26 _ rfl g rfl _ _ _ _ (KX.out _ z) Try.underlying26 rfl (size_Alg _ _) ?_)
      | (go_at_call 16; refine (implValidAlgebra_any _ _ _ _ L T _ (KR.out _ z) (KT.out _ z)).mono ?_; rintro e wz ⟨rfl, hb⟩; replace z := z.trans (hb.mono z.size); (try clear c0 c1); have c0 := K0.out _ z; have c1 := K1.out _ z; (try replace q1 := Q1.out _ z); (try replace q2 := Q2.out _ z))
      | (go_at_call 17; refine (specValidAlgebra_any _ _ _ _ L T _ (KR.out _ z) (KT.out _ z)).mono ?_; rintro e wz ⟨rfl, hb⟩; replace z := z.trans (hb.mono z.size); (try clear c0 c1); have c0 := K0.out _ z; have c1 := K1.out _ z; (try replace q1 := Q1.out _ z); (try replace q2 := Q2.out _ z)))
      clear c0 c1
      go_loopw [6, 7] (fun xv yv wr => ∃ i : Int, 0 ≤ i ∧ i ≤ L.length ∧ xv = .int .i64 i ∧ Below w2.heap.size w2 wr) (fun xv _ _ => (6 - intOf xv).toNat)
      case atStart => exact ⟨0, by omega, by omega, rfl, z⟩
      case round =>
        obtain ⟨i, i0, i1, rfl, z⟩ := hrel
        have c0 := K0.out _ z
        by_cases hi : i < L.length
        · go_wp2
          clear c0
          obtain ⟨wo, rfl⟩ : ∃ wo : World, wo = wr := ⟨_, rfl⟩
          go_loopw [7] (fun yv wr => ∃ j : Int, 0 ≤ j ∧ j ≤ L.length ∧ yv = .int .i64 j ∧ Below w2.heap.size w2 wr) (fun yv _ => (6 - intOf yv).toNat)
          case atStart => exact ⟨0, by omega, by omega, rfl, z⟩
          case round =>
            obtain ⟨j, j0, j1, rfl, z⟩ := hrel
            by_cases hj : j < L.length
            · have iT : i < T.length := by omega
              have V := HV.out i j ⟨i0, hi⟩ ⟨j0, hj⟩
              go_wp2
              refine region_in (Below wr.heap.size wr) (by kernel_rfl) (by kernel_rfl) (Dr.below ⟨1, rfl⟩ _) fun hne => ?_
              have r0 : ∀ s : In (Below wr.heap.size wr), s.w.cell? ⟨g, 0, none⟩ = some (.slice a L.length ca) := fun s => K0.out _ (in_trans z s)
              have r1 : ∀ s : In (Below wr.heap.size wr), s.w.cell? ⟨g, 1, none⟩ = some (.slice (some ⟨B, off, none⟩) T.length cb) := fun s => K1.out _ (in_trans z s)
              have r2 : ∀ s : In (Below wr.heap.size wr), s.w.cell? ⟨B, off + (i).toNat, none⟩ = some (.slice (some ⟨rb (i), ro (i), none⟩) L.length (rc (i))) := fun s => (KTA.out _ (in_trans z s)).row i0 hi
              have r3 : ∀ s : In (Below wr.heap.size wr), s.w.cell? ⟨rb (i), ro (i) + (j).toNat, none⟩ = some (.int .i64 (tv T (i) (j))) := fun s => (KTA.out _ (in_trans z s)).cell i0 hi j0 hj
              repeat (first
                | go_big_quiet_step ((first | (go_at_call 19; exact in_below _ (Nat.le_refl _) (implMeetOf_any _ _ L _ _ _ (KR.out _ (in_trans z _)))) | (go_at_call 18; exact in_below _ (Nat.le_refl _) (implIsBelow_any _ _ L _ _ _ (KR.out _ (in_trans z _)))))))
              refine wpQuiet_nil ?_
              intro s
              have z4 := in_trans z s
              have hs7 := s.h
              obtain ⟨w7, hw7⟩ : ∃ x : World, x = s.w := ⟨_, rfl⟩
              rw [← hw7] at z4 hs7 ⊢
              clear hw7
              clear r0 r1 r2 r3
              go_wp2
              go_roundw
              case rel => exact ⟨j + 1, by omega, by omega, rfl, z4⟩
              case measure => simp [intOf]; omega
            · go_wp2
              go_roundw
              case rel => exact ⟨i + 1, by omega, by omega, rfl, z⟩
              case measure => simp [intOf]; omega
        · go_wp2_with (first
          | go_skip
          | (refine wpList_store_row rfl 26 _ _ rfl w1.heap.size #[.slice a L.length ca, .slice b T.length cb] rfl rfl _ _ (heap_alloc_new w1 (.cells #[.slice none 0 0, .slice none 0 0] 26)) (size_Alg _ _) rfl (one_sl2 _ _ _ _ _ _) ?_; rw [World.setRow_alloc_new]; rw [← hw2, ← hg]; clear hw2 hg)
          | (refine wpList_store_row rfl 26 _ _ rfl w1.heap.size #[.slice a L.length ca, .slice (some ⟨B, off, none⟩) T.length cb] rfl rfl _ _ (heap_alloc_new w1 (.cells #[.slice none 0 0, .slice none 0 0] 26)) (size_Alg _ _) rfl (one_sl2 _ _ _ _ _ _) ?_; rw [World.setRow_alloc_new]; rw [← hw2, ← hg]; clear hw2 hg)
          | (refine wpList_load_row_w rfl 26 _ rfl g rfl _ _ _ _ (KX.out _ z) Try.underlying26 rfl (size_Alg _ _) ?_)
          | (go_at_call 20; refine (implValidLattice_any _ _ L _ (KR.out _ z)).mono ?_; rintro e wz ⟨rfl, hb⟩; replace z := z.trans (hb.mono z.size); (try clear c0 c1); have c0 := K0.out _ z; have c1 := K1.out _ z; (try replace q1 := Q1.out _ z); (try replace q2 := Q2.out _ z)))
          go_ret
          exact ⟨rfl, FIN.out _ z⟩
end Go.Proofs.Ytbellklaoecpbaa
