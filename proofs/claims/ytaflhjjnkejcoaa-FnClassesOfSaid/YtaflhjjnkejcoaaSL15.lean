import Derived.Test.YtaflhjjnkejcoaaLC
import Derived.Test.YtaflhjjnkejcoaaSL8
import Derived.Test.YtaflhjjnkejcoaaSA12
import Derived.Test.YtaflhjjnkejcoaaN13
import Derived.Test.YtaflhjjnkejcoaaSL0
namespace Go.Proofs.Ytaflhjjnkejcoaa
open Go.RowKit

theorem rd_cellsV {w : World} {b o : Nat} {V : List Int} (h : Rd w (some ⟨b, o, none⟩) V) (hn : V ≠ []) : Cells w b o V := by
  obtain ⟨b', o', e, hc⟩ := h hn
  simp only [Option.some.injEq, Addr.mk.injEq] at e
  rw [e.1, e.2.1]; exact hc
set_option maxRecDepth 100000 in
set_option maxHeartbeats 8000000 in
/-- laws.FnClassesOf -/
theorem lawPClassesOf (a0 : Option Addr) (len0 cap0 : Nat) (w : World) (hy : RdY w a0 len0 w.heap.size) (hc : len0 ≤ cap0) (hm : len0 ≤ maxLen) :
    Calls Try.prog 9 #[.slice a0 len0 cap0] w fun e w' => e = .returned (.bool true) ∧ Below w.heap.size w w' := by
  by_cases hbig : 1048576 < len0
  · have hbig2 : (1048576 : Int) < len0 := by omega
    go_enter Try.func9, Try.ntmps9
    go_wp2
    go_ret
    exact ⟨rfl, Below.refl _ _⟩
  · have hs : len0 ≤ 1048576 := by omega
    have hs2 : ¬ (1048576 : Int) < len0 := by omega
    go_enter Try.func9, Try.ntmps9
    go_wp2_with fail
    refine (drawClassesOf_any a0 len0 cap0 w hy hc hs).mono ?_
    rintro e w1 ⟨L, T, a, ca, b, cb, x, rfl, x0, x1, hP, hr, hT, hb⟩
    have _ := hm
    clear hs hs2 hbig hy hm hc
    obtain ⟨l1, l7, t6, r6⟩ := someP_len hP
    have hM : (L.length : Int) ≤ 9223372036854775807 := by omega
    obtain ⟨g, hg⟩ : ∃ g, g = w1.heap.size := ⟨_, rfl⟩
    obtain ⟨w2, hw2⟩ : ∃ w2, w2 = w1.alloc (.cells #[.slice a L.length ca, .slice b T.length cb] 26) := ⟨_, rfl⟩
    have hB : Below w.heap.size w w2 := by rw [hw2]; exact hb.alloc hb.size _
    have hB2 : Below w1.heap.size w1 w2 := by rw [hw2]; exact (Below.refl _ _).alloc (Nat.le_refl _) _
    have hx2 : w2.heap[g]? = some (.cells #[.slice a L.length ca, .slice b T.length cb] 26 (0, 0)) := by rw [hw2, hg]; exact heap_alloc_new w1 _
    have KX := Lib.hid (show ∀ wz, Below w2.heap.size w2 wz → wz.heap[g]? = some (.cells #[.slice a L.length ca, .slice b T.length cb] 26 (0, 0)) from fun wz h => (h.block _ (lt_of_block hx2)).trans hx2)
    have K0 := Lib.hid (show ∀ wz, Below w2.heap.size w2 wz → wz.cell? ⟨g, 0, none⟩ = some (.slice a L.length ca) from fun wz h => (bx_cells (KX.out _ h)).1)
    have K1 := Lib.hid (show ∀ wz, Below w2.heap.size w2 wz → wz.cell? ⟨g, 1, none⟩ = some (.slice b T.length cb) from fun wz h => (bx_cells (KX.out _ h)).2)
    have KR := Lib.hid (show ∀ wz, Below w2.heap.size w2 wz → Rd wz a L from fun wz h => (hr.below hB2).below h)
    have KT := Lib.hid (show ∀ wz, Below w2.heap.size w2 wz → RdT wz b T from fun wz h => (hT.below hB2).below h)
    have FIN := Lib.hid (show ∀ wz, Below w2.heap.size w2 wz → Below w.heap.size w wz from fun wz h => hB.trans (h.mono hB.size))
    have z : Below w2.heap.size w2 w2 := Below.refl _ _
    have HP := Lib.hid hP
    clear hP hr hT hb hB hB2 hx2 r6
    have c0 := K0.out _ z
    have c1 := K1.out _ z
    cases hA : afB L T x with
    | false =>
      obtain ⟨V, hV⟩ : ∃ V, V = clsL L T x := ⟨_, rfl⟩
      have HI := Lib.hid (show ∀ (a b : Option Addr) (ca cb : Nat) (w : World), Rd w a L → RdT w b T → Calls Try.prog 45 #[.agg #[.slice a L.length ca, .slice b T.length cb], .int .i64 x] w (RetSl w.heap.size V w) from fun a b ca cb w h1 h2 => by rw [hV]; exact implClassesOf_any a b ca cb L T x w h1 h2)
      have HP2 := Lib.hid (show ∀ (a b : Option Addr) (ca cb : Nat) (w : World), Rd w a L → RdT w b T → Calls Try.prog 46 #[.agg #[.slice a L.length ca, .slice b T.length cb], .int .i64 x] w (RetSl w.heap.size V w) from fun a b ca cb w h1 h2 => by rw [hV]; exact specClassesOf_any a b ca cb L T x w h1 h2)
      rw [clsL_f hA] at hV
      subst hV
      have hM2 : ([] : List Int).length ≤ 1073741824 := by simp
      have hL0 : (([] : List Int).length : Int) = 0 := rfl
      clear hA
      go_wp2_with (first
      | go_skip
      | (refine wpList_store_row rfl 26 _ _ rfl w1.heap.size #[.slice a L.length ca, .slice b T.length cb] rfl rfl _ _ (heap_alloc_new w1 (.cells #[.slice none 0 0, .slice none 0 0] 26)) (size_Alg _ _) rfl (one_sl2 _ _ _ _ _ _) ?_; rw [World.setRow_alloc_new]; rw [← hw2, ← hg]; clear hw2 hg)
      | (refine wpList_store_row rfl 26 _ _ rfl w1.heap.size #[.slice a L.length ca, .slice (some ⟨B, off, none⟩) T.length cb] rfl rfl _ _ (heap_alloc_new w1 (.cells #[.slice none 0 0, .slice none 0 0] 26)) (size_Alg _ _) rfl (one_sl2 _ _ _ _ _ _) ?_; rw [World.setRow_alloc_new]; rw [← hw2, ← hg]; clear hw2 hg)
      | (refine wpList_load_row_w rfl 26 _ rfl g rfl _ _ _ _ (KX.out _ z) Try.underlying26 rfl (size_Alg _ _) ?_)
      | (go_at_call 45; refine (HI.out _ _ _ _ _ (KR.out _ z) (KT.out _ z)).mono ?_; rintro e wz ⟨aT, cT, rfl, oT, hb⟩; replace z := z.trans (hb.mono z.size); (try clear c0 c1); have c0 := K0.out _ z; have c1 := K1.out _ z; (try replace q1 := Q1.out _ z); (try replace q2 := Q2.out _ z); (try replace hT := hT.below hb); (try replace hU := hU.below hb); have hT : Rd wz aT ([] : List Int) := oT.rd; clear oT)
      | (go_at_call 46; refine (HP2.out _ _ _ _ _ (KR.out _ z) (KT.out _ z)).mono ?_; rintro e wz ⟨aU, cU, rfl, oU, hb⟩; replace z := z.trans (hb.mono z.size); (try clear c0 c1); have c0 := K0.out _ z; have c1 := K1.out _ z; (try replace q1 := Q1.out _ z); (try replace q2 := Q2.out _ z); (try replace hT := hT.below hb); (try replace hU := hU.below hb); have hU : Rd wz aU ([] : List Int) := oU.rd; clear oU)
      | (go_at_call 25; refine (equalInts_same _ _ _ _ ([] : List Int) _ hT hU hM2).mono ?_; rintro e wz ⟨rfl, hd⟩; replace z := z.trans (hd.below _); (try clear c0 c1); have c0 := K0.out _ z; have c1 := K1.out _ z; (try replace q1 := Q1.out _ z); (try replace q2 := Q2.out _ z); (try replace hT := hd.rd hT); (try replace hU := hd.rd hU)))
      go_ret
      exact ⟨rfl, FIN.out _ z⟩
    | true =>
      obtain ⟨V, hV⟩ : ∃ V, V = clsL L T x := ⟨_, rfl⟩
      have HI := Lib.hid (show ∀ (a b : Option Addr) (ca cb : Nat) (w : World), Rd w a L → RdT w b T → Calls Try.prog 45 #[.agg #[.slice a L.length ca, .slice b T.length cb], .int .i64 x] w (RetSl w.heap.size V w) from fun a b ca cb w h1 h2 => by rw [hV]; exact implClassesOf_any a b ca cb L T x w h1 h2)
      have HP2 := Lib.hid (show ∀ (a b : Option Addr) (ca cb : Nat) (w : World), Rd w a L → RdT w b T → Calls Try.prog 46 #[.agg #[.slice a L.length ca, .slice b T.length cb], .int .i64 x] w (RetSl w.heap.size V w) from fun a b ca cb w h1 h2 => by rw [hV]; exact specClassesOf_any a b ca cb L T x w h1 h2)
      have hA2 := hA
      unfold afB isFilB at hA2
      simp only [Bool.and_eq_true] at hA2
      obtain ⟨ha, hs, hf⟩ := hA2
      unfold setB at hs
      rw [Bool.and_eq_true, decide_eq_true_iff, decide_eq_true_iff] at hs
      have hl := alg_lat ha
      have l6 : (L.length : Int) ≤ 6 := (latB_parts hl).2.1
      have n1 : (1 : Int) ≤ L.length := (lat_len hl).1
      have hp6 := (pw_6 l6).2
      have x00 : 0 ≤ x := hs.1
      have x63 : x ≤ 63 := by have : num L = L.length := rfl; omega
      have hVL : (V.length : Int) = L.length := by rw [hV, clsL_t hA]; exact lstTo_len _ _ (by unfold num; omega)
      have hv1 : V.length ≤ L.length := by omega
      have hv2 : L.length ≤ V.length := by omega
      have hM2 : V.length ≤ 1073741824 := by omega
      have hV0 : ¬ (V.length : Int) = 0 := by omega
      have hVn : V ≠ [] := fun e => by rw [e] at hVL; simp at hVL; omega
      have HN := Lib.hid (show ∀ i j, El L i → El L j → nearO L T i j = nearI L T i j from fun i j hi hj => near_el ha hi hj)
      have HE := Lib.hid (show ∀ i j, 0 ≤ nearI L T i j ∧ nearI L T i j < L.length from fun i j => nearI_el ha i j)
      have HV := Lib.hid (show ∀ i j, El L i → El L j → (nth V i == nth V j) = (bt x (nearI L T i j) == 1) from fun i j hi hj => by
        rw [hV, clsL_t hA, lstTo_nth _ hi.1 hi.2, lstTo_nth _ hj.1 hj.2]
        exact cls_eq ha hf hi hj)
      have HW := Lib.hid (show ∀ i, El L i → (nth V i == nth V ((L.length : Int) - 1)) = (bt x i == 1) ∧ ¬ nth V i > i from fun i hi => by
        have ht : El L ((L.length : Int) - 1) := el_t hl
        refine ⟨?_, ?_⟩
        · rw [hV, clsL_t hA, lstTo_nth _ hi.1 hi.2, lstTo_nth _ ht.1 ht.2, cls_eq ha hf hi ht]
          unfold clsQ ib
          rw [show nearI L T i ((L.length : Int) - 1) = i from near_topE ha hi]
        · rw [hV, clsL_t hA, lstTo_nth _ hi.1 hi.2]
          have := (cls_ok ha hf hi).2.1
          omega)
      have HVN := Lib.hid hVn
      clear hA hs hf hl hp6 hV hVL ha
      go_wp2_with (first
      | go_skip
      | (refine wpList_store_row rfl 26 _ _ rfl w1.heap.size #[.slice a L.length ca, .slice b T.length cb] rfl rfl _ _ (heap_alloc_new w1 (.cells #[.slice none 0 0, .slice none 0 0] 26)) (size_Alg _ _) rfl (one_sl2 _ _ _ _ _ _) ?_; rw [World.setRow_alloc_new]; rw [← hw2, ← hg]; clear hw2 hg)
      | (refine wpList_store_row rfl 26 _ _ rfl w1.heap.size #[.slice a L.length ca, .slice (some ⟨B, off, none⟩) T.length cb] rfl rfl _ _ (heap_alloc_new w1 (.cells #[.slice none 0 0, .slice none 0 0] 26)) (size_Alg _ _) rfl (one_sl2 _ _ _ _ _ _) ?_; rw [World.setRow_alloc_new]; rw [← hw2, ← hg]; clear hw2 hg)
      | (refine wpList_load_row_w rfl 26 _ rfl g rfl _ _ _ _ (KX.out _ z) Try.underlying26 rfl (size_Alg _ _) ?_)
      | (go_at_call 45; refine (HI.out _ _ _ _ _ (KR.out _ z) (KT.out _ z)).mono ?_; rintro e wz ⟨aT, cT, rfl, oT, hb⟩; replace z := z.trans (hb.mono z.size); (try clear c0 c1); have c0 := K0.out _ z; have c1 := K1.out _ z; (try replace q1 := Q1.out _ z); (try replace q2 := Q2.out _ z); (try replace hT := hT.below hb); (try replace hU := hU.below hb); have hT : Rd wz aT V := oT.rd; clear oT)
      | (go_at_call 46; refine (HP2.out _ _ _ _ _ (KR.out _ z) (KT.out _ z)).mono ?_; rintro e wz ⟨aU, cU, rfl, oU, hb⟩; replace z := z.trans (hb.mono z.size); (try clear c0 c1); have c0 := K0.out _ z; have c1 := K1.out _ z; (try replace q1 := Q1.out _ z); (try replace q2 := Q2.out _ z); (try replace hT := hT.below hb); (try replace hU := hU.below hb); have hU : Rd wz aU V := oU.rd; clear oU)
      | (go_at_call 25; refine (equalInts_same _ _ _ _ V _ hT hU hM2).mono ?_; rintro e wz ⟨rfl, hd⟩; replace z := z.trans (hd.below _); (try clear c0 c1); have c0 := K0.out _ z; have c1 := K1.out _ z; (try replace q1 := Q1.out _ z); (try replace q2 := Q2.out _ z); (try replace hT := hd.rd hT); (try replace hU := hd.rd hU)))
      clear c0 c1 hU hV0 hVn
      generalize ((V.length : Int) == 0) = q9
      obtain ⟨b2, o2, rfl, _⟩ := hT HVN.out
      go_loopw [7, 8] (fun xv yv wr => ∃ i : Int, 0 ≤ i ∧ i ≤ L.length ∧ xv = .int .i64 i ∧ Below w2.heap.size w2 wr ∧ Rd wr (some ⟨b2, o2, none⟩) V) (fun xv _ _ => (7 - intOf xv).toNat)
      case atStart => exact ⟨0, by omega, by omega, rfl, z, hT⟩
      case round =>
        obtain ⟨i, i0, i1, rfl, z, hT⟩ := hrel
        by_cases hi : i < L.length
        · go_wp2
          obtain ⟨wo, rfl⟩ : ∃ wo : World, wo = wr := ⟨_, rfl⟩
          go_loopw [8] (fun yv wr => ∃ j : Int, 0 ≤ j ∧ j ≤ L.length ∧ yv = .int .i64 j ∧ Below w2.heap.size w2 wr ∧ Rd wr (some ⟨b2, o2, none⟩) V) (fun yv _ => (7 - intOf yv).toNat)
          case atStart => exact ⟨0, by omega, by omega, rfl, z, hT⟩
          case round =>
            obtain ⟨j, j0, j1, rfl, z, hT⟩ := hrel
            have hc2 := rd_cellsV hT HVN.out
            by_cases hj : j < L.length
            · have iV : i < (V.length : Int) := by omega
              have jV : j < (V.length : Int) := by omega
              have DD := Lib.hid (hc2.at i i0 iV)
              have DE := Lib.hid (hc2.at j j0 jV)
              have V1 := HV.out i j ⟨i0, hi⟩ ⟨j0, hj⟩
              obtain ⟨p0, p1⟩ := HE.out i j
              have e1 := Lib.hid (HN.out i j ⟨i0, hi⟩ ⟨j0, hj⟩)
              clear hc2
              cases hV : (bt x (nearI L T i j) == 1)
              all_goals
                rw [hV] at V1
                go_wp2
                refine region_in (Below wr.heap.size wr) (by kernel_rfl) (by kernel_rfl) (Dr.below ⟨1, rfl⟩ _) fun hne => ?_
                have r0 : ∀ s : In (Below wr.heap.size wr), s.w.cell? ⟨b2, o2 + i.toNat, none⟩ = some (.int .i64 (nth V i)) := fun s => by rw [s.h.cell (by exact block_lt_of_cell DD.out)]; exact DD.out
                have r1 : ∀ s : In (Below wr.heap.size wr), s.w.cell? ⟨b2, o2 + j.toNat, none⟩ = some (.int .i64 (nth V j)) := fun s => by rw [s.h.cell (by exact block_lt_of_cell DE.out)]; exact DE.out
                have r2 : ∀ s : In (Below wr.heap.size wr), s.w.cell? ⟨g, 0, none⟩ = some (.slice a L.length ca) := fun s => K0.out _ (in_trans z s)
                repeat (first
                  | (go_big_quiet_want; refine quiet_load_row 26 _ rfl g rfl _ _ _ _ (fun w' ⟨s, hs⟩ => by rw [hs]; exact KX.out _ (in_trans z s)) Try.underlying26 rfl (size_Alg _ _) ?_; simp only [Act.put, List.setIfInBounds_toArray, List.set_cons_succ, List.set_cons_zero]; go_big_quiet_on)
                  | go_big_quiet_step ((first | (go_at_call 47; exact in_below _ (Nat.le_refl _) (ret_to (implNearOf_any _ _ _ _ L T i j _ (KR.out _ (in_trans z _)) (KT.out _ (in_trans z _))) (by rw [e1.out]))) | (go_at_call 35; exact in_same _ (lawBit_any _ _ _ (by omega) (by omega) (by omega) (by omega))))))
                refine wpQuiet_nil ?_
                intro s
                have z4 := in_trans z s
                have hs7 := s.h
                obtain ⟨w7, hw7⟩ : ∃ x : World, x = s.w := ⟨_, rfl⟩
                rw [← hw7] at z4 hs7 ⊢
                clear hw7
                clear r0 r1 r2
                have hT4 := hT.below (show Below wr.heap.size wr w7 from hs7)
                go_wp2
                go_roundw
                case rel => exact ⟨j + 1, by omega, by omega, rfl, z4, hT4⟩
                case measure => simp [intOf]; omega
            · have iV : i < (V.length : Int) := by omega
              have nV : (L.length : Int) - 1 < (V.length : Int) := by omega
              have n0 : (0 : Int) ≤ (L.length : Int) - 1 := by omega
              have DD := Lib.hid (hc2.at i i0 iV)
              have DE := Lib.hid (hc2.at ((L.length : Int) - 1) n0 nV)
              have DF := Lib.hid (show wr.cell? ⟨b2, o2 + (L.length - 1), none⟩ = some (.int .i64 (nth V ((L.length : Int) - 1))) by have := DE.out; rwa [show ((L.length : Int) - 1).toNat = L.length - 1 by omega] at this)
              obtain ⟨V1, V2⟩ := HW.out i ⟨i0, hi⟩
              clear hc2
              cases hV : (bt x i == 1)
              all_goals
                rw [hV] at V1
                go_wp2
                refine region_in (Below wr.heap.size wr) (by kernel_rfl) (by kernel_rfl) (Dr.below ⟨1, rfl⟩ _) fun hne => ?_
                have r0 : ∀ s : In (Below wr.heap.size wr), s.w.cell? ⟨b2, o2 + i.toNat, none⟩ = some (.int .i64 (nth V i)) := fun s => by rw [s.h.cell (by exact block_lt_of_cell DD.out)]; exact DD.out
                have r1 : ∀ s : In (Below wr.heap.size wr), s.w.cell? ⟨b2, o2 + (L.length - 1), none⟩ = some (.int .i64 (nth V ((L.length : Int) - 1))) := fun s => by rw [s.h.cell (by exact block_lt_of_cell DF.out)]; exact DF.out
                have r2 : ∀ s : In (Below wr.heap.size wr), s.w.cell? ⟨b2, o2 + ((L.length : Int) - 1).toNat, none⟩ = some (.int .i64 (nth V ((L.length : Int) - 1))) := fun s => by rw [s.h.cell (by exact block_lt_of_cell DE.out)]; exact DE.out
                repeat (first
                  | go_big_quiet_step ((first | (go_at_call 35; exact in_same _ (lawBit_any _ _ _ (by omega) (by omega) (by omega) (by omega))))))
                refine wpQuiet_nil ?_
                intro s
                have z4 := in_trans z s
                have hs7 := s.h
                obtain ⟨w7, hw7⟩ : ∃ x : World, x = s.w := ⟨_, rfl⟩
                rw [← hw7] at z4 hs7 ⊢
                clear hw7
                clear r0 r1 r2
                have hT4 := hT.below (show Below wr.heap.size wr w7 from hs7)
                go_wp2
                go_roundw
                case rel => exact ⟨i + 1, by omega, by omega, rfl, z4, hT4⟩
                case measure => simp [intOf]; omega
        · go_wp2
          go_ret
          exact ⟨rfl, FIN.out _ z⟩
end Go.Proofs.Ytaflhjjnkejcoaa
