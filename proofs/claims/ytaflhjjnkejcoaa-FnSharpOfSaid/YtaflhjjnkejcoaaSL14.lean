import Derived.Test.YtaflhjjnkejcoaaLC
import Derived.Test.YtaflhjjnkejcoaaSG4
import Derived.Test.YtaflhjjnkejcoaaB9
namespace Go.Proofs.Ytaflhjjnkejcoaa
open Go.RowKit

set_option maxRecDepth 100000 in
set_option maxHeartbeats 1000000 in
/-- laws.maskOf -/
theorem lawMask_any (a : Option Addr) (c : Nat) (F : List Int) (w : World) (hr : Rd w a F) (hF : ∀ k, 0 ≤ k → k < num F → 0 ≤ nth F k ∧ nth F k < 6) (hl : F.length ≤ 1048576) :
    Calls Try.prog 31 #[.slice a F.length c] w fun e w' => e = .returned (.int .i64 (setL F)) ∧ w = w' := by
  have HF := Lib.hid hF
  clear hF
  go_enter Try.func31, Try.ntmps31
  go_wp2
  go_loopw [3, 4] (fun s c wr => ∃ k v : Int, 0 ≤ k ∧ k ≤ F.length ∧ c = .int .i64 k ∧ s = .int .i64 v ∧ v = setL (F.take k.toNat) ∧ w = wr) (fun _ c _ => ((F.length : Int) - intOf c).toNat)
  case atStart => exact ⟨0, 0, by omega, by omega, rfl, rfl, rfl, rfl⟩
  case round =>
    obtain ⟨k, v, k0, k1, rfl, rfl, hv, rfl⟩ := hrel
    by_cases hk : k < F.length
    · obtain ⟨fb, fo, rfl, hc⟩ := hr (by intro e; rw [e] at hk; simp at hk; omega)
      have d0 := hc.at k k0 hk
      obtain ⟨x0, x1⟩ := HF.out k k0 hk
      have ko := setL_next HF.out k0 hk
      rw [← hv] at ko
      have KO := Lib.hid ko
      clear hv ko hc
      go_wp2_with (go_at_call 37; refine (lawPower_any _ _ (by omega) (by omega)).mono ?_; rintro e w9 ⟨rfl, rfl⟩)
      go_roundw
      case rel => exact ⟨k + 1, _, by omega, by omega, rfl, rfl, KO.out, trivial⟩
      case measure => simp [intOf]; omega
    · have hv2 := Lib.hid (show v = setL F by rw [hv, take_end F (by omega)])
      clear hv
      go_wp2
      go_ret
      exact ⟨ret_int hv2.out, rfl⟩
set_option maxRecDepth 100000 in
set_option maxHeartbeats 8000000 in
/-- laws.FnSharpOf -/
theorem lawPSharpOf (a0 : Option Addr) (len0 cap0 : Nat) (w : World) (hy : RdY w a0 len0 w.heap.size) (hc : len0 ≤ cap0) (hm : len0 ≤ maxLen) :
    Calls Try.prog 5 #[.slice a0 len0 cap0] w fun e w' => e = .returned (.bool true) ∧ Below w.heap.size w w' := by
  by_cases hbig : 1048576 < len0
  · have hbig2 : (1048576 : Int) < len0 := by omega
    go_enter Try.func5, Try.ntmps5
    go_wp2
    go_ret
    exact ⟨rfl, Below.refl _ _⟩
  · have hs : len0 ≤ 1048576 := by omega
    have hs2 : ¬ (1048576 : Int) < len0 := by omega
    go_enter Try.func5, Try.ntmps5
    go_wp2_with fail
    refine (drawSharpOf_any a0 len0 cap0 w hy hc hs).mono ?_
    rintro e w1 ⟨L, T, a, ca, b, cb, rfl, hP, hr, hT, hb⟩
    have _ := hm
    clear hs hs2 hbig hy hm hc
    obtain ⟨l1, l7, t6, r6⟩ := someP_len hP
    have hM : (L.length : Int) ≤ 9223372036854775807 := by omega
    obtain ⟨g, hg⟩ : ∃ g, g = w1.heap.size := ⟨_, rfl⟩
    obtain ⟨w2, hw2⟩ : ∃ w2, w2 = w1.alloc (.cells #[.slice a L.length ca, .slice b T.length cb] 26) := ⟨_, rfl⟩
    have hB : Below w.heap.size w w2 := by rw [hw2]; exact hb.alloc hb.size _
    have hB2 : Below w1.heap.size w1 w2 := by rw [hw2]; exact (Below.refl _ _).alloc (Nat.le_refl _) _
    have hx2 : w2.heap[g]? = some (.cells #[.slice a L.length ca, .slice b T.length cb] 26 (0, 0)) := by rw [hw2, hg]; exact heap_alloc_new w1 _
    have KX := Lib.hid (show ∀ wz, Below w2.heap.size w2 wz → wz.heap[g]? = some (.cells #[.slice a L.length ca, .slice b T.length cb] 26 (0, 0)) from fun wz h => (h.block _ (lt_of_block hx2)).trans hx2)
    have K0 := Lib.hid (show ∀ wz, Below w2.heap.size w2 wz → wz.cell? ⟨g, 0, none⟩ = some (.slice a L.length ca) from fun wz h => (bx_cells (KX.out _ h)).1)
    have K1 := Lib.hid (show ∀ wz, Below w2.heap.size w2 wz → wz.cell? ⟨g, 1, none⟩ = some (.slice b T.length cb) from fun wz h => (bx_cells (KX.out _ h)).2)
    have KR := Lib.hid (show ∀ wz, Below w2.heap.size w2 wz → Rd wz a L from fun wz h => (hr.below hB2).below h)
    have KT := Lib.hid (show ∀ wz, Below w2.heap.size w2 wz → RdT wz b T from fun wz h => (hT.below hB2).below h)
    have FIN := Lib.hid (show ∀ wz, Below w2.heap.size w2 wz → Below w.heap.size w wz from fun wz h => hB.trans (h.mono hB.size))
    have z : Below w2.heap.size w2 w2 := Below.refl _ _
    have HP := Lib.hid hP
    clear hP hr hT hb hB hB2 hx2 r6
    have c0 := K0.out _ z
    have c1 := K1.out _ z
    cases ha : algB L T with
    | false =>
      obtain ⟨V, hV⟩ : ∃ V, V = algI L T (sharpQ L T) := ⟨_, rfl⟩
      have hM2 : V.length ≤ 1073741824 := by rw [hV]; unfold algI; rw [ha]; simp
      have HI := Lib.hid (show ∀ (a b : Option Addr) (ca cb : Nat) (w : World), Rd w a L → RdT w b T → Calls Try.prog 24 #[.agg #[.slice a L.length ca, .slice b T.length cb]] w (RetSl w.heap.size V w) from fun a b ca cb w h1 h2 => by rw [hV]; exact implSharpOf_any a b ca cb L T w h1 h2)
      have HP2 := Lib.hid (show ∀ (a b : Option Addr) (ca cb : Nat) (w : World), Rd w a L → RdT w b T → Calls Try.prog 26 #[.agg #[.slice a L.length ca, .slice b T.length cb]] w (RetSl w.heap.size V w) from fun a b ca cb w h1 h2 => by rw [hV]; exact specSharpOf_any a b ca cb L T w h1 h2)
      clear hV
      go_wp2_with (first
      | go_skip
      | (refine wpList_store_row rfl 26 _ _ rfl w1.heap.size #[.slice a L.length ca, .slice b T.length cb] rfl rfl _ _ (heap_alloc_new w1 (.cells #[.slice none 0 0, .slice none 0 0] 26)) (size_Alg _ _) rfl (one_sl2 _ _ _ _ _ _) ?_; rw [World.setRow_alloc_new]; rw [← hw2, ← hg]; clear hw2 hg)
      | (refine wpList_store_row rfl 26 _ _ rfl w1.heap.size #[.slice a L.length ca, .slice (some ⟨B, off, none⟩) T.length cb] rfl rfl _ _ (heap_alloc_new w1 (.cells #[.slice none 0 0, .slice none 0 0] 26)) (size_Alg _ _) rfl (one_sl2 _ _ _ _ _ _) ?_; rw [World.setRow_alloc_new]; rw [← hw2, ← hg]; clear hw2 hg)
      | (refine wpList_load_row_w rfl 26 _ rfl g rfl _ _ _ _ (KX.out _ z) Try.underlying26 rfl (size_Alg _ _) ?_)
      | (go_at_call 24; refine (HI.out _ _ _ _ _ (KR.out _ z) (KT.out _ z)).mono ?_; rintro e wz ⟨aT, cT, rfl, oT, hb⟩; replace z := z.trans (hb.mono z.size); (try clear c0 c1); have c0 := K0.out _ z; have c1 := K1.out _ z; (try replace q1 := Q1.out _ z); (try replace q2 := Q2.out _ z); (try replace hT := hT.below hb); (try replace hU := hU.below hb); have hT : Rd wz aT V := oT.rd; clear oT)
      | (go_at_call 26; refine (HP2.out _ _ _ _ _ (KR.out _ z) (KT.out _ z)).mono ?_; rintro e wz ⟨aU, cU, rfl, oU, hb⟩; replace z := z.trans (hb.mono z.size); (try clear c0 c1); have c0 := K0.out _ z; have c1 := K1.out _ z; (try replace q1 := Q1.out _ z); (try replace q2 := Q2.out _ z); (try replace hT := hT.below hb); (try replace hU := hU.below hb); have hU : Rd wz aU V := oU.rd; clear oU)
      | (go_at_call 25; refine (equalInts_same _ _ _ _ V _ hT hU hM2).mono ?_; rintro e wz ⟨rfl, hd⟩; replace z := z.trans (hd.below _); (try clear c0 c1); have c0 := K0.out _ z; have c1 := K1.out _ z; (try replace q1 := Q1.out _ z); (try replace q2 := Q2.out _ z); (try replace hT := hd.rd hT); (try replace hU := hd.rd hU))
      | (go_at_call 21; refine (implValidAlgebra_any _ _ _ _ L T _ (KR.out _ z) (KT.out _ z)).mono ?_; rintro e wz ⟨rfl, hb⟩; replace z := z.trans (hb.mono z.size); (try clear c0 c1); have c0 := K0.out _ z; have c1 := K1.out _ z; (try replace q1 := Q1.out _ z); (try replace q2 := Q2.out _ z); (try replace hT := hT.below hb); (try replace hU := hU.below hb)))
      go_ret
      exact ⟨rfl, FIN.out _ z⟩
    | true =>
      obtain ⟨V, hV⟩ : ∃ V, V = algI L T (sharpQ L T) := ⟨_, rfl⟩
      have HI := Lib.hid (show ∀ (a b : Option Addr) (ca cb : Nat) (w : World), Rd w a L → RdT w b T → Calls Try.prog 24 #[.agg #[.slice a L.length ca, .slice b T.length cb]] w (RetSl w.heap.size V w) from fun a b ca cb w h1 h2 => by rw [hV]; exact implSharpOf_any a b ca cb L T w h1 h2)
      have HP2 := Lib.hid (show ∀ (a b : Option Addr) (ca cb : Nat) (w : World), Rd w a L → RdT w b T → Calls Try.prog 26 #[.agg #[.slice a L.length ca, .slice b T.length cb]] w (RetSl w.heap.size V w) from fun a b ca cb w h1 h2 => by rw [hV]; exact specSharpOf_any a b ca cb L T w h1 h2)
      replace hV : V = filtTo (sharpQ L T) (num L) := by rw [hV]; unfold algI; rw [ha]; rfl
      have l6 := (latB_parts (alg_lat ha)).2.1
      have l6' : (L.length : Int) ≤ 6 := l6
      have hM3 : V.length ≤ 64 := by rw [hV]; exact by have := filtTo_len (sharpQ L T) (num L); omega
      have hM2 : V.length ≤ 1073741824 := by omega
      have hsg := sg_shp HP.out ha
      unfold sgShp at hsg
      simp only [Bool.and_eq_true, beq_iff_eq] at hsg
      rw [← hV] at hsg
      obtain ⟨g1, g2, g3⟩ := hsg
      obtain ⟨FV, hFV⟩ : ∃ FV, FV = filtTo (fixQ T) (num L) := ⟨_, rfl⟩
      obtain ⟨PV, hPV⟩ : ∃ PV, PV = prts L T := ⟨_, rfl⟩
      rw [← hFV] at g1
      rw [← hPV] at g2
      have HF := Lib.hid (show ∀ (a b : Option Addr) (ca cb : Nat) (w : World), Rd w a L → RdT w b T → Calls Try.prog 27 #[.agg #[.slice a L.length ca, .slice b T.length cb]] w (RetSl w.heap.size FV w) from fun a b ca cb w h1 h2 => by have := implFixedOf_any a b ca cb L T w h1 h2; rw [show algI L T (fixQ T) = FV by unfold algI; rw [ha, hFV]; rfl] at this; exact this)
      have HPR := Lib.hid (show ∀ (a b : Option Addr) (ca cb : Nat) (w : World), Rd w a L → RdT w b T → Calls Try.prog 30 #[.agg #[.slice a L.length ca, .slice b T.length cb]] w (RetSl w.heap.size PV w) from fun a b ca cb w h1 h2 => by have := implPartsOf_any a b ca cb L T w h1 h2; rw [show algV L T (prts L T) = PV by unfold algV; rw [ha, hPV]; rfl] at this; exact this)
      have hF2 : FV.length ≤ 1073741824 := by have := filtTo_len (fixQ T) (num L); rw [hFV]; omega
      have hP2 : PV.length ≤ 1073741824 := by
        have := filtTo_len (prtB L T) (pw (num L))
        have := (pw_6 l6).2
        rw [hPV]; unfold prts; omega
      have HE := Lib.hid (show ∀ i : Int, 0 ≤ i → i < V.length → inL FV (nth V i) = true ∧ inL V (notI L T (nth V i)) = true from fun i i0 i1 => by
        have hm := nth_mem' V i0 i1
        obtain ⟨x, hx⟩ : ∃ x, x = nth V i := ⟨_, rfl⟩
        rw [← hx] at hm ⊢
        have := (List.all_eq_true.1 g1) _ hm
        rw [Bool.and_eq_true] at this
        rw [hV, filtTo_mem] at hm
        refine ⟨this.1, ?_⟩
        rw [not_el ha ⟨hm.1, hm.2.1⟩]; exact this.2)
      have HM := Lib.hid (show ∀ k, 0 ≤ k → k < num V → 0 ≤ nth V k ∧ nth V k < 6 from fun k k0 k1 => by
        have hm := nth_mem' V k0 k1
        obtain ⟨x, hx⟩ : ∃ x, x = nth V k := ⟨_, rfl⟩
        rw [← hx] at hm ⊢
        rw [hV, filtTo_mem] at hm
        have hn6 : num L ≤ 6 := l6
        exact ⟨hm.1, by omega⟩)
      have hM7 : V.length ≤ 1048576 := by omega
      have HW := Lib.hid (show ((V.length : Int) == (L.length : Int)) = hpB ⟨#[98, 111, 111, 108, 101, 97, 110]⟩ L T by
        rw [g3]; unfold hpB; rw [ha, show prIx ⟨#[98, 111, 111, 108, 101, 97, 110]⟩ = 4 by decide +kernel]; rfl)
      obtain ⟨mk, hmk⟩ : ∃ mk, mk = setL V := ⟨_, rfl⟩
      rw [← hmk] at g2
      have HMK := Lib.hid hmk.symm
      have HG2 := Lib.hid g2
      clear l6 hV g1 g2 g3 hFV hPV hmk
      go_wp2_with (first
      | go_skip
      | (refine wpList_store_row rfl 26 _ _ rfl w1.heap.size #[.slice a L.length ca, .slice b T.length cb] rfl rfl _ _ (heap_alloc_new w1 (.cells #[.slice none 0 0, .slice none 0 0] 26)) (size_Alg _ _) rfl (one_sl2 _ _ _ _ _ _) ?_; rw [World.setRow_alloc_new]; rw [← hw2, ← hg]; clear hw2 hg)
      | (refine wpList_store_row rfl 26 _ _ rfl w1.heap.size #[.slice a L.length ca, .slice (some ⟨B, off, none⟩) T.length cb] rfl rfl _ _ (heap_alloc_new w1 (.cells #[.slice none 0 0, .slice none 0 0] 26)) (size_Alg _ _) rfl (one_sl2 _ _ _ _ _ _) ?_; rw [World.setRow_alloc_new]; rw [← hw2, ← hg]; clear hw2 hg)
      | (refine wpList_load_row_w rfl 26 _ rfl g rfl _ _ _ _ (KX.out _ z) Try.underlying26 rfl (size_Alg _ _) ?_)
      | (go_at_call 24; refine (HI.out _ _ _ _ _ (KR.out _ z) (KT.out _ z)).mono ?_; rintro e wz ⟨aT, cT, rfl, oT, hb⟩; replace z := z.trans (hb.mono z.size); (try clear c0 c1); have c0 := K0.out _ z; have c1 := K1.out _ z; (try replace q1 := Q1.out _ z); (try replace q2 := Q2.out _ z); (try replace hT := hT.below hb); (try replace hU := hU.below hb); have hT : Rd wz aT V := oT.rd; clear oT)
      | (go_at_call 26; refine (HP2.out _ _ _ _ _ (KR.out _ z) (KT.out _ z)).mono ?_; rintro e wz ⟨aU, cU, rfl, oU, hb⟩; replace z := z.trans (hb.mono z.size); (try clear c0 c1); have c0 := K0.out _ z; have c1 := K1.out _ z; (try replace q1 := Q1.out _ z); (try replace q2 := Q2.out _ z); (try replace hT := hT.below hb); (try replace hU := hU.below hb); have hU : Rd wz aU V := oU.rd; clear oU)
      | (go_at_call 25; refine (equalInts_same _ _ _ _ V _ hT hU hM2).mono ?_; rintro e wz ⟨rfl, hd⟩; replace z := z.trans (hd.below _); (try clear c0 c1); have c0 := K0.out _ z; have c1 := K1.out _ z; (try replace q1 := Q1.out _ z); (try replace q2 := Q2.out _ z); (try replace hT := hd.rd hT); (try replace hU := hd.rd hU))
      | (go_at_call 21; refine (implValidAlgebra_any _ _ _ _ L T _ (KR.out _ z) (KT.out _ z)).mono ?_; rintro e wz ⟨rfl, hb⟩; replace z := z.trans (hb.mono z.size); (try clear c0 c1); have c0 := K0.out _ z; have c1 := K1.out _ z; (try replace q1 := Q1.out _ z); (try replace q2 := Q2.out _ z); (try replace hT := hT.below hb); (try replace hU := hU.below hb))
      | (go_at_call 27; refine (HF.out _ _ _ _ _ (KR.out _ z) (KT.out _ z)).mono ?_; rintro e wz ⟨aF, cF, rfl, oF, hb⟩; replace z := z.trans (hb.mono z.size); (try clear c0 c1); have c0 := K0.out _ z; have c1 := K1.out _ z; (try replace q1 := Q1.out _ z); (try replace q2 := Q2.out _ z); (try replace hT := hT.below hb); (try replace hU := hU.below hb); have hF : Rd wz aF FV := oF.rd; clear oF))
      clear c0 c1 hU ha
      go_loopw [6] (fun xv wr => ∃ i : Int, 0 ≤ i ∧ i ≤ V.length ∧ xv = .int .i64 i ∧ Below w2.heap.size w2 wr ∧ Rd wr aT V ∧ Rd wr aF FV) (fun xv _ => ((V.length : Int) - intOf xv).toNat)
      case atStart => exact ⟨0, by omega, by omega, rfl, z, hT, hF⟩
      case round =>
        obtain ⟨i, i0, i1, rfl, z, hT, hF⟩ := hrel
        by_cases hi : i < V.length
        · obtain ⟨V1, V2⟩ := HE.out i i0 hi
          have hT' := hT
          obtain ⟨b2, o2, rfl, hc2⟩ := hT' (by intro e; rw [e] at hi; simp at hi; omega)
          have DD := Lib.hid (hc2.at i i0 hi)
          clear hc2
          go_wp2
          refine region_in (Below wr.heap.size wr) (by kernel_rfl) (by kernel_rfl) (Dr.below ⟨1, rfl⟩ _) fun hne => ?_
          have r0 : ∀ s : In (Below wr.heap.size wr), s.w.cell? ⟨b2, o2 + i.toNat, none⟩ = some (.int .i64 (nth V i)) := fun s => by rw [s.h.cell (by exact block_lt_of_cell DD.out)]; exact DD.out
          have r1 : ∀ s : In (Below wr.heap.size wr), s.w.cell? ⟨g, 0, none⟩ = some (.slice a L.length ca) := fun s => K0.out _ (in_trans z s)
          repeat (first
            | (go_big_quiet_want; refine quiet_load_row 26 _ rfl g rfl _ _ _ _ (fun w' ⟨s, hs⟩ => by rw [hs]; exact KX.out _ (in_trans z s)) Try.underlying26 rfl (size_Alg _ _) ?_; simp only [Act.put, List.setIfInBounds_toArray, List.set_cons_succ, List.set_cons_zero]; go_big_quiet_on)
            | go_big_quiet_step ((first | (go_at_call_of 28 (Value.slice (some ⟨b2, o2, none⟩) V.length cT); exact in_below _ (Nat.le_refl _) (dr_to (lawIsIn_any _ _ V _ _ (hT.below (In.h _)) hM2))) | (go_at_call_of 28 (Value.slice aF FV.length cF); exact in_below _ (Nat.le_refl _) (dr_to (lawIsIn_any _ _ FV _ _ (hF.below (In.h _)) hF2))) | (go_at_call 29; exact in_below _ (Nat.le_refl _) (implNotOf_any _ _ _ _ L T _ _ (KR.out _ (in_trans z _)) (KT.out _ (in_trans z _)))))))
          refine wpQuiet_nil ?_
          intro s
          have z4 := in_trans z s
          have hs7 := s.h
          obtain ⟨w7, hw7⟩ : ∃ x : World, x = s.w := ⟨_, rfl⟩
          rw [← hw7] at z4 hs7 ⊢
          clear hw7
          clear r0 r1
          have hT4 := hT.below (show Below wr.heap.size wr w7 from hs7)
          have hF4 := hF.below (show Below wr.heap.size wr w7 from hs7)
          go_wp2
          go_roundw
          case rel => exact ⟨i + 1, by omega, by omega, rfl, z4, hT4, hF4⟩
          case measure => simp [intOf]; omega
        · go_wp2
          have G2 := HG2.out
          have e0 := K0.out _ z
          have e1 := K1.out _ z
          go_region_held3 (fun w' => w'.cell? ⟨g, 0, none⟩ = some (.slice a L.length ca) ∧ w'.cell? ⟨g, 1, none⟩ = some (.slice b T.length cb))
            (first | go_keep | exact ⟨e0, e1⟩)
            (first
              | (go_simp; go_at_call 30; refine (HPR.out _ _ _ _ _ (KR.out _ (by first | exact z | exact z.drew | exact z.drew.drew | exact z.drew.drew.drew)) (KT.out _ (by first | exact z | exact z.drew | exact z.drew.drew | exact z.drew.drew.drew))).mono ?_; rintro e wz ⟨aP, cP, rfl, oP, hb⟩; replace z := (show Below w2.heap.size w2 wz from by first | exact z.trans (hb.mono z.size) | exact z.drew.trans (hb.mono z.drew.size) | exact z.drew.drew.trans (hb.mono z.drew.drew.size) | exact z.drew.drew.drew.trans (hb.mono z.drew.drew.drew.size)); have e0 := K0.out _ z; have e1 := K1.out _ z; (try replace hT := (show Rd wz aT V from by first | exact hT.below hb | exact (hT.below ((Below.refl _ _).drew)).below hb | exact (hT.below (((Below.refl _ _).drew).drew)).below hb | exact (hT.below ((((Below.refl _ _).drew).drew).drew)).below hb)); have hPd : Rd wz aP PV := oP.rd; clear oP)
              | (go_simp; go_at_call 31; refine (lawMask_any _ _ V _ (by first | exact hT | exact hT.below ((Below.refl _ _).drew) | exact hT.below (((Below.refl _ _).drew).drew) | exact hT.below ((((Below.refl _ _).drew).drew).drew)) HM.out hM7).mono ?_; rintro e wz ⟨rfl, rfl⟩; rw [HMK.out])
              | (go_simp; go_at_call 28; refine (dr_to (lawIsIn_any _ _ PV _ _ (by first | exact hPd | exact hPd.below ((Below.refl _ _).drew) | exact hPd.below (((Below.refl _ _).drew).drew) | exact hPd.below ((((Below.refl _ _).drew).drew).drew)) hP2)).mono ?_; rintro e wz ⟨rfl, hb⟩; replace z := (show Below w2.heap.size w2 wz from by first | exact z.trans (hb.mono z.size) | exact z.drew.trans (hb.mono z.drew.size) | exact z.drew.drew.trans (hb.mono z.drew.drew.size) | exact z.drew.drew.drew.trans (hb.mono z.drew.drew.drew.size)); have e0 := K0.out _ z; have e1 := K1.out _ z; (try replace hT := (show Rd wz aT V from by first | exact hT.below hb | exact (hT.below ((Below.refl _ _).drew)).below hb | exact (hT.below (((Below.refl _ _).drew).drew)).below hb | exact (hT.below ((((Below.refl _ _).drew).drew).drew)).below hb)))
              | (go_simp; go_at_call 19; refine (implHasProperty_any _ _ _ _ _ L T _ (KR.out _ (by first | exact z | exact z.drew | exact z.drew.drew | exact z.drew.drew.drew)) (KT.out _ (by first | exact z | exact z.drew | exact z.drew.drew | exact z.drew.drew.drew))).mono ?_; rintro e wz ⟨rfl, hb⟩; replace z := (show Below w2.heap.size w2 wz from by first | exact z.trans (hb.mono z.size) | exact z.drew.trans (hb.mono z.drew.size) | exact z.drew.drew.trans (hb.mono z.drew.drew.size) | exact z.drew.drew.drew.trans (hb.mono z.drew.drew.drew.size)); have e0 := K0.out _ z; have e1 := K1.out _ z))
          all_goals
            go_wp2
            go_ret
            exact ⟨ret_bool (by rw [← HW.out]; simp), FIN.out _ (by first | exact z | exact z.drew | exact z.drew.drew | exact z.drew.drew.drew)⟩
end Go.Proofs.Ytaflhjjnkejcoaa
