import Derived.Test.YtjcambkjcagcoaaGreatSL0
import Derived.Test.YtjcambkjcagcoaaGreatN12
import Derived.Test.YtjcambkjcagcoaaGreatLC
import Derived.Test.YtjcambkjcagcoaaGreatQR
import Derived.Test.YtjcambkjcagcoaaGreatQG2
import Derived.Test.YtjcambkjcagcoaaGreatPY
import Derived.Test.YtjcambkjcagcoaaGreatW4
import Derived.Test.YtjcambkjcagcoaaGreatPR3
namespace Go.Proofs.YtjcambkjcagcoaaGreat
open Go.RowKit

theorem enters_qof : Enters 14 := enters_of Tryz.func14 (by kernel_rfl) rfl
set_option maxRecDepth 100000 in
set_option maxHeartbeats 8000000 in
/-- laws.FnPrimeFilters -/
theorem lawPPrimeFilters (a0 : Option Addr) (len0 cap0 : Nat) (w : World) (hy : RdY w a0 len0 w.heap.size) (hc : len0 ≤ cap0) (hm : len0 ≤ maxLen) :
    Calls Tryz.prog 3 #[.slice a0 len0 cap0] w fun e w' => e = .returned (.bool true) ∧ Below w.heap.size w w' := by
  by_cases hbig : 1048576 < len0
  · have hbig2 : (1048576 : Int) < len0 := by omega
    go_enter Tryz.func3, Tryz.ntmps3
    go_wp2
    go_ret
    exact ⟨rfl, Below.refl _ _⟩
  · have hs : len0 ≤ 1048576 := by omega
    have hs2 : ¬ (1048576 : Int) < len0 := by omega
    go_enter Tryz.func3, Tryz.ntmps3
    go_wp2_with fail
    refine (drawPrimeFilters_any a0 len0 cap0 w hy hc hs).mono ?_
    rintro e w1 ⟨L, T, a, ca, b, cb, rfl, hP, hr, hT, hb⟩
    have _ := hm
    clear hs hs2 hbig hy hm hc
    obtain ⟨l1, l7, t6, r6⟩ := someP_len hP
    have hM : (L.length : Int) ≤ 9223372036854775807 := by omega
    obtain ⟨g, hg⟩ : ∃ g, g = w1.heap.size := ⟨_, rfl⟩
    obtain ⟨w2, hw2⟩ : ∃ w2, w2 = w1.alloc (.cells #[.slice a L.length ca, .slice b T.length cb] 26) := ⟨_, rfl⟩
    have hB : Below w.heap.size w w2 := by rw [hw2]; exact hb.alloc hb.size _
    have hB2 : Below w1.heap.size w1 w2 := by rw [hw2]; exact (Below.refl _ _).alloc (Nat.le_refl _) _
    have hx2 : w2.heap[g]? = some (.cells #[.slice a L.length ca, .slice b T.length cb] 26 (0, 0)) := by rw [hw2, hg]; exact heap_alloc_new w1 _
    have KX := Lib.hid (show ∀ wz, Below w2.heap.size w2 wz → wz.heap[g]? = some (.cells #[.slice a L.length ca, .slice b T.length cb] 26 (0, 0)) from fun wz h => (h.block _ (lt_of_block hx2)).trans hx2)
    have K0 := Lib.hid (show ∀ wz, Below w2.heap.size w2 wz → wz.cell? ⟨g, 0, none⟩ = some (.slice a L.length ca) from fun wz h => (bx_cells (KX.out _ h)).1)
    have K1 := Lib.hid (show ∀ wz, Below w2.heap.size w2 wz → wz.cell? ⟨g, 1, none⟩ = some (.slice b T.length cb) from fun wz h => (bx_cells (KX.out _ h)).2)
    have KR := Lib.hid (show ∀ wz, Below w2.heap.size w2 wz → Rd wz a L from fun wz h => (hr.below hB2).below h)
    have KT := Lib.hid (show ∀ wz, Below w2.heap.size w2 wz → RdT wz b T from fun wz h => (hT.below hB2).below h)
    have FIN := Lib.hid (show ∀ wz, Below w2.heap.size w2 wz → Below w.heap.size w wz from fun wz h => hB.trans (h.mono hB.size))
    have z : Below w2.heap.size w2 w2 := Below.refl _ _
    have HP := Lib.hid hP
    clear hP hr hT hb hB hB2 hx2 r6
    have c0 := K0.out _ z
    have c1 := K1.out _ z
    have HSP := Lib.hid HP.out
    cases ha : algB L T with
    | false =>
      obtain ⟨V, hV⟩ : ∃ V, V = algV L T (pris L T) := ⟨_, rfl⟩
      have hM2 : V.length ≤ 1073741824 := by rw [hV]; unfold algV; rw [ha]; simp
      have HI := Lib.hid (show ∀ (a b : Option Addr) (ca cb : Nat) (w : World), Rd w a L → RdT w b T → Calls Tryz.prog 9 #[.agg #[.slice a L.length ca, .slice b T.length cb]] w (RetSl w.heap.size V w) from fun a b ca cb w h1 h2 => by rw [hV]; exact implPrimeFilters_any a b ca cb L T w h1 h2)
      have HQ := Lib.hid (show ∀ (a b : Option Addr) (ca cb : Nat) (w : World), Rd w a L → RdT w b T → Calls Tryz.prog 11 #[.agg #[.slice a L.length ca, .slice b T.length cb]] w (RetSl w.heap.size V w) from fun a b ca cb w h1 h2 => by rw [hV]; exact specPrimeFilters_any a b ca cb L T w h1 h2)
      clear hV
      go_wp2_with (first
      | go_skip
      | (refine wpList_store_row rfl 26 _ _ rfl w1.heap.size #[.slice a L.length ca, .slice b T.length cb] rfl rfl _ _ (heap_alloc_new w1 (.cells #[.slice none 0 0, .slice none 0 0] 26)) (size_Alg _ _) rfl (one_sl2 _ _ _ _ _ _) ?_; rw [World.setRow_alloc_new]; rw [← hw2, ← hg]; clear hw2 hg)
      | (refine wpList_store_row rfl 26 _ _ rfl w1.heap.size #[.slice a L.length ca, .slice (some ⟨B, off, none⟩) T.length cb] rfl rfl _ _ (heap_alloc_new w1 (.cells #[.slice none 0 0, .slice none 0 0] 26)) (size_Alg _ _) rfl (one_sl2 _ _ _ _ _ _) ?_; rw [World.setRow_alloc_new]; rw [← hw2, ← hg]; clear hw2 hg)
      | (refine wpList_load_row_w rfl 26 _ rfl g rfl _ _ _ _ (KX.out _ z) Tryz.underlying26 rfl (size_Alg _ _) ?_)
      | (go_at_call 9; refine (HI.out _ _ _ _ _ (KR.out _ z) (KT.out _ z)).mono ?_; rintro e wz ⟨aT, cT, rfl, oT, hb⟩; replace z := z.trans (hb.mono z.size); (try clear c0 c1); have c0 := K0.out _ z; have c1 := K1.out _ z; (try replace q1 := Q1.out _ z); (try replace q2 := Q2.out _ z); (try replace hT := hT.below hb); (try replace hU := hU.below hb); have hT : Rd wz aT V := oT.rd; clear oT)
      | (go_at_call 11; refine (HQ.out _ _ _ _ _ (KR.out _ z) (KT.out _ z)).mono ?_; rintro e wz ⟨aU, cU, rfl, oU, hb⟩; replace z := z.trans (hb.mono z.size); (try clear c0 c1); have c0 := K0.out _ z; have c1 := K1.out _ z; (try replace q1 := Q1.out _ z); (try replace q2 := Q2.out _ z); (try replace hT := hT.below hb); (try replace hU := hU.below hb); have hU : Rd wz aU V := oU.rd; clear oU)
      | (go_at_call 10; refine (equalInts_same _ _ _ _ V _ hT hU hM2).mono ?_; rintro e wz ⟨rfl, hd⟩; replace z := z.trans (hd.below _); (try clear c0 c1); have c0 := K0.out _ z; have c1 := K1.out _ z; (try replace q1 := Q1.out _ z); (try replace q2 := Q2.out _ z); (try replace hT := hd.rd hT); (try replace hU := hd.rd hU))
      | (go_at_call 12; refine (implValidAlgebra_any _ _ _ _ L T _ (KR.out _ z) (KT.out _ z)).mono ?_; rintro e wz ⟨rfl, hb⟩; replace z := z.trans (hb.mono z.size); (try clear c0 c1); have c0 := K0.out _ z; have c1 := K1.out _ z; (try replace q1 := Q1.out _ z); (try replace q2 := Q2.out _ z); (try replace hT := hT.below hb); (try replace hU := hU.below hb)))
      go_ret
      exact ⟨rfl, FIN.out _ z⟩
    | true =>
      obtain ⟨V, hV⟩ : ∃ V, V = algV L T (pris L T) := ⟨_, rfl⟩
      have HI := Lib.hid (show ∀ (a b : Option Addr) (ca cb : Nat) (w : World), Rd w a L → RdT w b T → Calls Tryz.prog 9 #[.agg #[.slice a L.length ca, .slice b T.length cb]] w (RetSl w.heap.size V w) from fun a b ca cb w h1 h2 => by rw [hV]; exact implPrimeFilters_any a b ca cb L T w h1 h2)
      have HQ := Lib.hid (show ∀ (a b : Option Addr) (ca cb : Nat) (w : World), Rd w a L → RdT w b T → Calls Tryz.prog 11 #[.agg #[.slice a L.length ca, .slice b T.length cb]] w (RetSl w.heap.size V w) from fun a b ca cb w h1 h2 => by rw [hV]; exact specPrimeFilters_any a b ca cb L T w h1 h2)
      replace hV : V = pris L T := by rw [hV]; unfold algV; rw [ha]; rfl
      have l6 := (latB_parts (alg_lat ha)).2.1
      have l1' := (latB_parts (alg_lat ha)).1
      have l6' : (L.length : Int) ≤ 6 := l6
      have l1'' : (1 : Int) ≤ L.length := l1'
      have hM3 : V.length ≤ 64 := by rw [hV]; exact Nat.le_trans (List.length_filter_le _ _) (fls_len L T l6)
      have hM2 : V.length ≤ 1073741824 := by omega
      have hq := sg_pr HSP.out ha
      unfold sgPr1 at hq
      rw [← hV, Bool.and_eq_true, Bool.and_eq_true, List.all_eq_true] at hq
      obtain ⟨hq1, hq2, hq3⟩ := hq
      have hpr : hpB ⟨#[112, 114, 101, 108, 105, 110, 101, 97, 114]⟩ L T = hasB 0 L T := hp_0 (by decide +kernel) ha
      obtain ⟨d0, e0⟩ : ∃ q, q = hasB 0 L T := ⟨_, rfl⟩
      rw [← e0] at hpr hq1 hq2
      have HH := Lib.hid (show ∀ (a b : Option Addr) (ca cb : Nat) (w : World), Rd w a L → RdT w b T → Calls Tryz.prog 15 #[.string ⟨#[112, 114, 101, 108, 105, 110, 101, 97, 114]⟩, .agg #[.slice a L.length ca, .slice b T.length cb]] w fun e w' => e = .returned (.bool d0) ∧ Below w.heap.size w w' from fun a b ca cb w h1 h2 => ret_to (implHasProperty_any _ _ _ _ _ L T w h1 h2) (congrArg Value.bool hpr))
      have HE := Lib.hid (show ∀ i : Int, 0 ≤ i → i < V.length → afB L T (nth V i) = true ∧ (d0 = true → (latB (quL L T (nth V i)) && chainB (quL L T (nth V i))) = true) ∧ 0 ≤ nth V i ∧ nth V i < 64 from fun i i0 i1 => by
        have h1 := nth_mem' V i0 i1
        have h2 := hq1 _ h1
        rw [Bool.and_eq_true, Bool.or_eq_true, Bool.not_eq_true'] at h2
        rw [hV] at h1
        have h3 := fls_mem.1 (List.mem_filter.1 h1).1
        have := (pw_6 l6).2
        refine ⟨h2.1, fun hd => ?_, ?_, ?_⟩
        · rcases h2.2 with h | h
          · rw [hd] at h; cases h
          · exact h
        · rw [hV]; exact h3.1
        · rw [hV]; omega)
      have hasc : Asc V := fun i h1 h2 => by
        have := (allI_iff _ _).1 hq3 i (by omega) (by omega)
        rw [Bool.or_eq_true, decide_eq_true_iff, decide_eq_true_iff] at this
        omega
      have HASC := Lib.hid hasc
      have HCO := Lib.hid (show d0 = true → (L.length : Int) ≠ 1 → com (num L) V = pw ((L.length : Int) - 1) from fun hd hn => by
        rw [Bool.or_eq_true, Bool.or_eq_true, beq_iff_eq, beq_iff_eq, Bool.not_eq_true'] at hq2
        rcases hq2 with h | h | h
        · exact absurd h hn
        · rw [hd] at h; cases h
        · exact h)
      have HTK := Lib.hid (show ∀ i : Int, 0 ≤ i → i < V.length → com (num L) (V.take (i + 1).toNat) = an (com (num L) (V.take i.toNat)) (nth V i) ∧ 0 ≤ com (num L) (V.take i.toNat) ∧ com (num L) (V.take i.toNat) < 64 from fun i i0 i1 => by
        have hc := com_range (num L) (V.take i.toNat)
        have := (pw_6 l6).2
        refine ⟨?_, hc.1, by omega⟩
        have hs : V.take (i + 1).toNat = V.take i.toNat ++ [nth V i] := by
          rw [show (i + 1).toNat = i.toNat + 1 by omega, List.take_add_one]
          unfold nth
          rw [List.getD_eq_getElem?_getD, List.getElem?_eq_getElem (show i.toNat < V.length by omega)]
          rfl
        rw [hs]
        unfold com
        rw [List.foldl_append]
        rfl)
      have p1 : 1 ≤ pw (L.length : Int) := (pw_6 l6).1
      have p64 : pw (L.length : Int) ≤ 64 := (pw_6 l6).2
      have k1 : IntKind.i64.wrap (pw (L.length : Int) - 1) = pw (L.length : Int) - 1 := IntWalk.i64_in _ (by omega)
      clear hV l6 hasc hq1 hq2 hq3 hpr e0
      go_wp2_with (first
      | go_skip
      | (refine wpList_store_row rfl 26 _ _ rfl w1.heap.size #[.slice a L.length ca, .slice b T.length cb] rfl rfl _ _ (heap_alloc_new w1 (.cells #[.slice none 0 0, .slice none 0 0] 26)) (size_Alg _ _) rfl (one_sl2 _ _ _ _ _ _) ?_; rw [World.setRow_alloc_new]; rw [← hw2, ← hg]; clear hw2 hg)
      | (refine wpList_store_row rfl 26 _ _ rfl w1.heap.size #[.slice a L.length ca, .slice (some ⟨B, off, none⟩) T.length cb] rfl rfl _ _ (heap_alloc_new w1 (.cells #[.slice none 0 0, .slice none 0 0] 26)) (size_Alg _ _) rfl (one_sl2 _ _ _ _ _ _) ?_; rw [World.setRow_alloc_new]; rw [← hw2, ← hg]; clear hw2 hg)
      | (refine wpList_load_row_w rfl 26 _ rfl g rfl _ _ _ _ (KX.out _ z) Tryz.underlying26 rfl (size_Alg _ _) ?_)
      | (go_at_call 9; refine (HI.out _ _ _ _ _ (KR.out _ z) (KT.out _ z)).mono ?_; rintro e wz ⟨aT, cT, rfl, oT, hb⟩; replace z := z.trans (hb.mono z.size); (try clear c0 c1); have c0 := K0.out _ z; have c1 := K1.out _ z; (try replace q1 := Q1.out _ z); (try replace q2 := Q2.out _ z); (try replace hT := hT.below hb); (try replace hU := hU.below hb); have hT : Rd wz aT V := oT.rd; clear oT)
      | (go_at_call 11; refine (HQ.out _ _ _ _ _ (KR.out _ z) (KT.out _ z)).mono ?_; rintro e wz ⟨aU, cU, rfl, oU, hb⟩; replace z := z.trans (hb.mono z.size); (try clear c0 c1); have c0 := K0.out _ z; have c1 := K1.out _ z; (try replace q1 := Q1.out _ z); (try replace q2 := Q2.out _ z); (try replace hT := hT.below hb); (try replace hU := hU.below hb); have hU : Rd wz aU V := oU.rd; clear oU)
      | (go_at_call 10; refine (equalInts_same _ _ _ _ V _ hT hU hM2).mono ?_; rintro e wz ⟨rfl, hd⟩; replace z := z.trans (hd.below _); (try clear c0 c1); have c0 := K0.out _ z; have c1 := K1.out _ z; (try replace q1 := Q1.out _ z); (try replace q2 := Q2.out _ z); (try replace hT := hd.rd hT); (try replace hU := hd.rd hU))
      | (go_at_call 12; refine (implValidAlgebra_any _ _ _ _ L T _ (KR.out _ z) (KT.out _ z)).mono ?_; rintro e wz ⟨rfl, hb⟩; replace z := z.trans (hb.mono z.size); (try clear c0 c1); have c0 := K0.out _ z; have c1 := K1.out _ z; (try replace q1 := Q1.out _ z); (try replace q2 := Q2.out _ z); (try replace hT := hT.below hb); (try replace hU := hU.below hb))
      | (go_at_call 13; refine (lawPower_any _ _ (by omega) (by omega)).mono ?_; rintro e wz ⟨rfl, rfl⟩))
      clear c0 c1 hU ha HSP
      go_loopw [6, 7, 8, 9, 10] (fun av iv _ _ _ wr => ∃ i : Int, 0 ≤ i ∧ i ≤ V.length ∧ iv = .int .i64 i ∧ av = .int .i64 (com (num L) (V.take i.toNat)) ∧ Below w2.heap.size w2 wr ∧ Rd wr aT V) (fun _ iv _ _ _ _ => ((V.length : Int) - intOf iv).toNat)
      case atStart => exact ⟨0, by omega, by omega, rfl, rfl, z, hT⟩
      case round =>
        obtain ⟨i, i0, i1, rfl, rfl, z, hT⟩ := hrel
        by_cases hi : i < V.length
        · obtain ⟨hAF, hCH, f0, f63⟩ := HE.out i i0 hi
          obtain ⟨hTK, g0, g63⟩ := HTK.out i i0 hi
          have hT' := hT
          obtain ⟨b2, o2, rfl, hc2⟩ := hT' (by intro e; rw [e] at hi; simp at hi; omega)
          have d1 := hc2.at i i0 hi
          have hbt : bits BinOp.and IntKind.i64 (com (num L) (V.take i.toNat)) (nth V i) = com (num L) (V.take (i + 1).toNat) := by rw [hTK]; exact bits_and_i64 _ _ g0 (by omega) f0 (by omega)
          have KV := Lib.hid (show ∀ wz, Below wr.heap.size wr wz → wz.cell? ⟨b2, o2 + i.toNat, none⟩ = some (.int .i64 (nth V i)) from fun wz h => (h.cell (by exact block_lt_of_cell d1)).trans d1)
          obtain ⟨f, hf⟩ : ∃ f, f = nth V i := ⟨_, rfl⟩
          rw [← hf] at d1 hAF hCH f0 f63 hbt KV
          obtain ⟨QL, hQL⟩ : ∃ q, q = quL L T f := ⟨_, rfl⟩
          rw [← hQL] at hCH
          have HQU := Lib.hid (show ∀ (w : World), Rd w a L → RdT w b T → Calls Tryz.prog 14 #[.agg #[.slice a L.length ca, .slice b T.length cb], .int .i64 f] w (RetGAsb QL (quTb L T f) (quTo L T f) true w) from fun w h1 h2 => by rw [hQL, ← hAF]; exact implQuotientOf_any _ _ _ _ L T f w h1 h2)
          obtain ⟨QT, hQT⟩ : ∃ q, q = quTb L T f := ⟨_, rfl⟩
          obtain ⟨QW, hQW⟩ : ∃ q, q = quTo L T f := ⟨_, rfl⟩
          rw [← hQT, ← hQW] at HQU
          clear hc2 hQL hQT hQW hf hTK hAF
          go_wp2
          go_cut [8, 10] (fun sg sb wx => ∃ (ra : Option Addr) (rn rc : Nat) (rb : Option Addr) (rm rd g8 : Nat), sg = .pointer (some ⟨g8, 0, none⟩) ∧ sb = .bool true ∧ wx.heap[g8]? = some (.cells #[.slice ra rn rc, .slice rb rm rd] 26 (0, 0)) ∧ RA wx (.slice ra rn rc) (.slice rb rm rd) QL QT ∧ Below wr.heap.size wr wx)
          case first =>
            clear d1
            refine wp_region_any (by kernel_rfl) ?_
            refine any_of_C (C := fun wz => Below wr.heap.size wr wz) _ _ _ _ ?_
            refine anyC_take (i := 0) (v := .agg #[.slice a L.length ca, .slice b T.length cb]) rfl (by kernel_rfl) (by kernel_rfl) (by kernel_rfl) (fun _ _ _ h => h) (.inl ⟨rfl, fun wz hz => runs_load (C := fun wz => Below wr.heap.size wr wz) 26 _ rfl g rfl _ _ _ _ (fun w hw => KX.out _ (z.trans (hw.mono z.size))) Tryz.underlying26 rfl (size_Alg _ _) wz hz⟩) ?_
            refine anyC_take (i := 1) (v := .slice (some ⟨b2, o2, none⟩) V.length cT) rfl (by kernel_rfl) (by kernel_rfl) (by kernel_rfl) (fun _ _ _ h => h) (.inl ⟨rfl, fun wz hz => by apply runs_move1 <;> rfl⟩) ?_
            refine anyC_take (i := 2) (v := .int .i64 i) rfl (by kernel_rfl) (by kernel_rfl) (by kernel_rfl) (fun _ _ _ h => h) (.inl ⟨rfl, fun wz hz => by apply runs_move1 <;> rfl⟩) ?_
            refine anyC_take (i := 3) (v := .pointer (some ⟨b2, o2 + i.toNat, none⟩)) rfl (by kernel_rfl) (by kernel_rfl) (by kernel_rfl) (fun _ _ _ h => h) (.inl ⟨rfl, fun wz hz => by go_simp⟩) ?_
            refine anyC_take (i := 4) (v := .int .i64 f) rfl (by kernel_rfl) (by kernel_rfl) (by kernel_rfl) (fun _ _ _ h => h) (.inl ⟨rfl, fun wz hz => by have c := KV.out _ hz; go_simp⟩) ?_
            have zd : Below wr.heap.size wr (wr.drewN 1) := Dr.below ⟨1, rfl⟩ _
            obtain ⟨wd, hwd⟩ : ∃ x : World, x = wr.drewN 1 := ⟨_, rfl⟩
            change wpAnyC _ _ _ _ _ _ _ _ (wr.drewN 1)
            rw [← hwd] at zd ⊢
            clear hwd
            try simp only [List.getElem_toArray, List.getElem_cons_zero, List.getElem_cons_succ, Act.put, List.setIfInBounds_toArray, List.set_cons_succ, List.set_cons_zero]
            have zs := z.size
            refine anyC_two (i := 5) (j := 10) (f := 14) (args := #[.agg #[.slice a L.length ca, .slice b T.length cb], .int .i64 f]) rfl rfl (by kernel_rfl) rfl (by apply runs_call2 (he := enters_qof) <;> rfl) zd ?_ ?_
            · have zw := z.trans (zd.mono zs)
              refine (HQU.out wd (KR.out _ zw) (KT.out _ zw)).mono ?_
              rintro e w5 ⟨ra, rn, rc, rb, rm, rd, rs, rk, rq, rz, rfl, gr, _, rl1, rl2, hbr⟩
              refine ⟨_, rfl, ?_⟩
              try simp only [List.getElem_toArray, List.getElem_cons_zero, List.getElem_cons_succ, Act.put, List.setIfInBounds_toArray, List.set_cons_succ, List.set_cons_zero]
              have y5 := zd.trans (hbr.mono zd.size)
              refine anyC_take (i := 6) (v := .tuple #[.agg #[.slice ra rn rc, .slice rb rm rd], .slice rs rk rq, .bool true]) rfl (by kernel_rfl) (by kernel_rfl) (by kernel_rfl) (fun _ _ _ h => h) (.inl ⟨rfl, fun wz hz => by apply runs_move1 <;> rfl⟩) ?_
              try simp only [List.getElem_toArray, List.getElem_cons_zero, List.getElem_cons_succ, Act.put, List.setIfInBounds_toArray, List.set_cons_succ, List.set_cons_zero]
              refine anyC_take (i := 7) (v := .agg #[.slice ra rn rc, .slice rb rm rd]) rfl (by kernel_rfl) (by kernel_rfl) (by kernel_rfl) (fun _ _ _ h => h) (.inl ⟨rfl, fun wz hz => by apply runs_extract <;> rfl⟩) ?_
              try simp only [List.getElem_toArray, List.getElem_cons_zero, List.getElem_cons_succ, Act.put, List.setIfInBounds_toArray, List.set_cons_succ, List.set_cons_zero]
              refine anyC_take (i := 8) (v := .slice rs rk rq) rfl (by kernel_rfl) (by kernel_rfl) (by kernel_rfl) (fun _ _ _ h => h) (.inl ⟨rfl, fun wz hz => by apply runs_extract <;> rfl⟩) ?_
              try simp only [List.getElem_toArray, List.getElem_cons_zero, List.getElem_cons_succ, Act.put, List.setIfInBounds_toArray, List.set_cons_succ, List.set_cons_zero]
              refine anyC_take (i := 9) (v := .bool true) rfl (by kernel_rfl) (by kernel_rfl) (by kernel_rfl) (fun _ _ _ h => h) (.inl ⟨rfl, fun wz hz => by apply runs_extract <;> rfl⟩) ?_
              try simp only [List.getElem_toArray, List.getElem_cons_zero, List.getElem_cons_succ, Act.put, List.setIfInBounds_toArray, List.set_cons_succ, List.set_cons_zero]
              refine anyC_law (i := 10) rfl (by kernel_rfl) y5 ?_
              go_wp2_with fail
              obtain ⟨g8, hg8⟩ : ∃ x : Nat, x = w5.heap.size := ⟨_, rfl⟩
              obtain ⟨wA, hwA⟩ : ∃ x : World, x = w5.alloc (.cells #[.slice none 0 0, .slice none 0 0] 26) := ⟨_, rfl⟩
              rw [← hwA, ← hg8]
              have hzg : wA.heap[g8]? = some (.cells #[.slice none 0 0, .slice none 0 0] 26 (0, 0)) := by rw [hwA, hg8]; exact heap_alloc_new w5 _
              have lg : wr.heap.size ≤ g8 := by rw [hg8]; exact y5.size
              have lq : w5.heap.size ≤ g8 := Nat.le_of_eq hg8.symm
              have qA : Below w5.heap.size w5 wA := by rw [hwA]; exact (Below.refl _ _).alloc (Nat.le_refl _) _
              have yA := y5.trans (qA.mono y5.size)
              replace gr := gr.below qA
              clear hwA hg8
              try simp only [List.getElem_toArray, List.getElem_cons_zero, List.getElem_cons_succ, Act.put, List.setIfInBounds_toArray, List.set_cons_succ, List.set_cons_zero]
              refine anyC_law (i := 11) rfl (by kernel_rfl) yA ?_
              refine wpList_store_row rfl 26 _ _ rfl g8 #[.slice ra rn rc, .slice rb rm rd] rfl rfl _ _ hzg (size_Alg _ _) rfl (one_sl2 _ _ _ _ _ _) ?_
              unfold wpList
              have yB := below_setRow' yA (show wr.heap.size ≤ g8 from lg) #[.slice ra rn rc, .slice rb rm rd]
              have hra := (gr.keep (fun k k1 k2 _ => setRow_other _ g8 k #[.slice ra rn rc, .slice rb rm rd] (by omega))).rd
              refine anyC_law (i := 12) rfl (by kernel_rfl) yB ?_
              go_wp2_with fail
              try simp only [List.getElem_toArray, List.getElem_cons_zero, List.getElem_cons_succ, Act.put, List.setIfInBounds_toArray, List.set_cons_succ, List.set_cons_zero]
              refine anyC_law (i := 13) rfl (by kernel_rfl) yB ?_
              go_wp2_with fail
              try simp only [List.getElem_toArray, List.getElem_cons_zero, List.getElem_cons_succ, Act.put, List.setIfInBounds_toArray, List.set_cons_succ, List.set_cons_zero]
              refine anyC_done (by kernel_rfl) yB ?_ _
              try simp only [List.getElem_toArray, List.getElem_cons_zero, List.getElem_cons_succ, Act.put, List.setIfInBounds_toArray, List.set_cons_succ, List.set_cons_zero]
              go_wp2_with fail
              go_meet
              exact ⟨ra, rn, rc, rb, rm, rd, g8, rfl, rfl, setRow_heap _ _ _ _ _ _ hzg, hra, yB⟩
            · have zw := z.trans (zd.mono zs)
              go_wp2_with fail
              obtain ⟨g8, hg8⟩ : ∃ x : Nat, x = wd.heap.size := ⟨_, rfl⟩
              obtain ⟨wB, hwA⟩ : ∃ x : World, x = wd.alloc (.cells #[.slice none 0 0, .slice none 0 0] 26) := ⟨_, rfl⟩
              rw [← hwA, ← hg8]
              have hzB : wB.heap[g8]? = some (.cells #[.slice none 0 0, .slice none 0 0] 26 (0, 0)) := by rw [hwA, hg8]; exact heap_alloc_new wd _
              have lg : wr.heap.size ≤ g8 := by rw [hg8]; exact zd.size
              have lq : g8 < wB.heap.size := lt_of_block hzB
              have qA : Below wd.heap.size wd wB := by rw [hwA]; exact (Below.refl _ _).alloc (Nat.le_refl _) _
              have yb := zd.trans (qA.mono zd.size)
              have zb := z.trans (yb.mono zs)
              clear hwA hg8
              try simp only [List.getElem_toArray, List.getElem_cons_zero, List.getElem_cons_succ, Act.put, List.setIfInBounds_toArray, List.set_cons_succ, List.set_cons_zero]
              refine anyC_call (i := 5) (o := _) (f := 14) (args := #[.agg #[.slice a L.length ca, .slice b T.length cb], .int .i64 f]) rfl (by kernel_rfl) rfl (by apply runs_call2 (he := enters_qof) <;> rfl) yb ?_
              refine (HQU.out wB (KR.out _ zb) (KT.out _ zb)).mono ?_
              rintro e wA ⟨ra, rn, rc, rb, rm, rd, rs, rk, rq, rz, rfl, gr, _, rl1, rl2, hbr⟩
              refine ⟨_, rfl, ?_⟩
              try simp only [List.getElem_toArray, List.getElem_cons_zero, List.getElem_cons_succ, Act.put, List.setIfInBounds_toArray, List.set_cons_succ, List.set_cons_zero]
              have yA := yb.trans (hbr.mono yb.size)
              have hzg := (hbr.block _ (lt_of_block hzB)).trans hzB
              refine anyC_take (i := 6) (v := .tuple #[.agg #[.slice ra rn rc, .slice rb rm rd], .slice rs rk rq, .bool true]) rfl (by kernel_rfl) (by kernel_rfl) (by kernel_rfl) (fun _ _ _ h => h) (.inl ⟨rfl, fun wz hz => by apply runs_move1 <;> rfl⟩) ?_
              try simp only [List.getElem_toArray, List.getElem_cons_zero, List.getElem_cons_succ, Act.put, List.setIfInBounds_toArray, List.set_cons_succ, List.set_cons_zero]
              refine anyC_take (i := 7) (v := .agg #[.slice ra rn rc, .slice rb rm rd]) rfl (by kernel_rfl) (by kernel_rfl) (by kernel_rfl) (fun _ _ _ h => h) (.inl ⟨rfl, fun wz hz => by apply runs_extract <;> rfl⟩) ?_
              try simp only [List.getElem_toArray, List.getElem_cons_zero, List.getElem_cons_succ, Act.put, List.setIfInBounds_toArray, List.set_cons_succ, List.set_cons_zero]
              refine anyC_take (i := 8) (v := .slice rs rk rq) rfl (by kernel_rfl) (by kernel_rfl) (by kernel_rfl) (fun _ _ _ h => h) (.inl ⟨rfl, fun wz hz => by apply runs_extract <;> rfl⟩) ?_
              try simp only [List.getElem_toArray, List.getElem_cons_zero, List.getElem_cons_succ, Act.put, List.setIfInBounds_toArray, List.set_cons_succ, List.set_cons_zero]
              refine anyC_take (i := 9) (v := .bool true) rfl (by kernel_rfl) (by kernel_rfl) (by kernel_rfl) (fun _ _ _ h => h) (.inl ⟨rfl, fun wz hz => by apply runs_extract <;> rfl⟩) ?_
              try simp only [List.getElem_toArray, List.getElem_cons_zero, List.getElem_cons_succ, Act.put, List.setIfInBounds_toArray, List.set_cons_succ, List.set_cons_zero]
              refine anyC_law (i := 11) rfl (by kernel_rfl) yA ?_
              refine wpList_store_row rfl 26 _ _ rfl g8 #[.slice ra rn rc, .slice rb rm rd] rfl rfl _ _ hzg (size_Alg _ _) rfl (one_sl2 _ _ _ _ _ _) ?_
              unfold wpList
              have yB := below_setRow' yA (show wr.heap.size ≤ g8 from lg) #[.slice ra rn rc, .slice rb rm rd]
              have hra := (gr.keep (fun k k1 k2 _ => setRow_other _ g8 k #[.slice ra rn rc, .slice rb rm rd] (by omega))).rd
              refine anyC_law (i := 12) rfl (by kernel_rfl) yB ?_
              go_wp2_with fail
              try simp only [List.getElem_toArray, List.getElem_cons_zero, List.getElem_cons_succ, Act.put, List.setIfInBounds_toArray, List.set_cons_succ, List.set_cons_zero]
              refine anyC_law (i := 13) rfl (by kernel_rfl) yB ?_
              go_wp2_with fail
              try simp only [List.getElem_toArray, List.getElem_cons_zero, List.getElem_cons_succ, Act.put, List.setIfInBounds_toArray, List.set_cons_succ, List.set_cons_zero]
              refine anyC_done (by kernel_rfl) yB ?_ _
              try simp only [List.getElem_toArray, List.getElem_cons_zero, List.getElem_cons_succ, Act.put, List.setIfInBounds_toArray, List.set_cons_succ, List.set_cons_zero]
              go_wp2_with fail
              go_meet
              exact ⟨ra, rn, rc, rb, rm, rd, g8, rfl, rfl, setRow_heap _ _ _ _ _ _ hzg, hra, yB⟩
          case rest =>
            obtain ⟨ra, rn, rc, rb, rm, rd, g8, rfl, rfl, hx8, hra8, yc⟩ := hcut
            obtain ⟨rfl, _, hR8, _⟩ := ra_parts hra8
            have K8 := Lib.hid (show ∀ wz, Below wc.heap.size wc wz → wz.heap[g8]? = some (.cells #[.slice ra QL.length rc, .slice rb rm rd] 26 (0, 0)) from fun wz h => (h.block _ (lt_of_block hx8)).trans hx8)
            have y8 : Below wc.heap.size wc wc := Below.refl _ _
            have k8 := (bx_cells (K8.out _ y8)).1
            replace z := z.trans (yc.mono z.size)
            replace hT := hT.below yc
            have c0 := K0.out _ z
            have c1 := K1.out _ z
            clear hx8 hra8 yc d1
            cases d0 with
            | false =>
              go_wp2_with (first
                | go_skip
                | (refine wpList_store_row rfl 26 _ _ rfl w1.heap.size #[.slice a L.length ca, .slice b T.length cb] rfl rfl _ _ (heap_alloc_new w1 (.cells #[.slice none 0 0, .slice none 0 0] 26)) (size_Alg _ _) rfl (one_sl2 _ _ _ _ _ _) ?_; rw [World.setRow_alloc_new]; rw [← hw2, ← hg]; clear hw2 hg)
                | (refine wpList_store_row rfl 26 _ _ rfl w1.heap.size #[.slice a L.length ca, .slice (some ⟨B, off, none⟩) T.length cb] rfl rfl _ _ (heap_alloc_new w1 (.cells #[.slice none 0 0, .slice none 0 0] 26)) (size_Alg _ _) rfl (one_sl2 _ _ _ _ _ _) ?_; rw [World.setRow_alloc_new]; rw [← hw2, ← hg]; clear hw2 hg)
                | (refine wpList_load_row_w rfl 26 _ rfl g rfl _ _ _ _ (KX.out _ z) Tryz.underlying26 rfl (size_Alg _ _) ?_)
                | (go_at_call 15; refine (HH.out _ _ _ _ _ (KR.out _ z) (KT.out _ z)).mono ?_; rintro e wz ⟨rfl, hb⟩; replace z := z.trans (hb.mono z.size); (try clear c0 c1); have c0 := K0.out _ z; have c1 := K1.out _ z; (try replace q1 := Q1.out _ z); (try replace q2 := Q2.out _ z); (try replace hT := hT.below hb); (try replace hU := hU.below hb); (try replace y8 := y8.trans (hb.mono y8.size)); (try have k8 := (bx_cells (K8.out _ y8)).1)))
              go_roundw
              case rel => exact ⟨i + 1, by omega, by omega, rfl, rfl, z, hT⟩
              case measure => simp [intOf]; omega
            | true =>
              have hch := hCH rfl
              go_wp2_with (first
                | go_skip
                | (refine wpList_store_row rfl 26 _ _ rfl w1.heap.size #[.slice a L.length ca, .slice b T.length cb] rfl rfl _ _ (heap_alloc_new w1 (.cells #[.slice none 0 0, .slice none 0 0] 26)) (size_Alg _ _) rfl (one_sl2 _ _ _ _ _ _) ?_; rw [World.setRow_alloc_new]; rw [← hw2, ← hg]; clear hw2 hg)
                | (refine wpList_store_row rfl 26 _ _ rfl w1.heap.size #[.slice a L.length ca, .slice (some ⟨B, off, none⟩) T.length cb] rfl rfl _ _ (heap_alloc_new w1 (.cells #[.slice none 0 0, .slice none 0 0] 26)) (size_Alg _ _) rfl (one_sl2 _ _ _ _ _ _) ?_; rw [World.setRow_alloc_new]; rw [← hw2, ← hg]; clear hw2 hg)
                | (refine wpList_load_row_w rfl 26 _ rfl g rfl _ _ _ _ (KX.out _ z) Tryz.underlying26 rfl (size_Alg _ _) ?_)
                | (go_at_call 15; refine (HH.out _ _ _ _ _ (KR.out _ z) (KT.out _ z)).mono ?_; rintro e wz ⟨rfl, hb⟩; replace z := z.trans (hb.mono z.size); (try clear c0 c1); have c0 := K0.out _ z; have c1 := K1.out _ z; (try replace q1 := Q1.out _ z); (try replace q2 := Q2.out _ z); (try replace hT := hT.below hb); (try replace hU := hU.below hb); (try replace y8 := y8.trans (hb.mono y8.size)); (try have k8 := (bx_cells (K8.out _ y8)).1))
                | (go_at_call 16; refine (ret_to (implIsChain_any _ _ QL _ (hR8.below y8)) (congrArg Value.bool hch)).mono ?_; rintro e wz ⟨rfl, hb⟩; replace z := z.trans (hb.mono z.size); (try clear c0 c1); have c0 := K0.out _ z; have c1 := K1.out _ z; (try replace q1 := Q1.out _ z); (try replace q2 := Q2.out _ z); (try replace hT := hT.below hb); (try replace hU := hU.below hb); (try replace y8 := y8.trans (hb.mono y8.size)); (try have k8 := (bx_cells (K8.out _ y8)).1)))
              go_roundw
              case rel => exact ⟨i + 1, by omega, by omega, rfl, rfl, z, hT⟩
              case measure => simp [intOf]; omega
        · have e : i = V.length := by omega
          subst e
          have htk : V.take ((V.length : Int)).toNat = V := by rw [Int.toNat_natCast]; exact List.take_length
          rw [htk]
          have c0 := K0.out _ z
          have c1 := K1.out _ z
          have kw : IntKind.i64.wrap ((L.length : Int) - 1) = (L.length : Int) - 1 := IntWalk.i64_in _ (by omega)
          by_cases hn1 : (L.length : Int) = 1
          · have hn2 : ((L.length : Int) == 1) = true := by rw [beq_iff_eq]; exact hn1
            have HN2 := Lib.hid hn1
            clear hn1 htk
            go_wp2_with (first
              | go_skip
              | (refine wpList_store_row rfl 26 _ _ rfl w1.heap.size #[.slice a L.length ca, .slice b T.length cb] rfl rfl _ _ (heap_alloc_new w1 (.cells #[.slice none 0 0, .slice none 0 0] 26)) (size_Alg _ _) rfl (one_sl2 _ _ _ _ _ _) ?_; rw [World.setRow_alloc_new]; rw [← hw2, ← hg]; clear hw2 hg)
              | (refine wpList_store_row rfl 26 _ _ rfl w1.heap.size #[.slice a L.length ca, .slice (some ⟨B, off, none⟩) T.length cb] rfl rfl _ _ (heap_alloc_new w1 (.cells #[.slice none 0 0, .slice none 0 0] 26)) (size_Alg _ _) rfl (one_sl2 _ _ _ _ _ _) ?_; rw [World.setRow_alloc_new]; rw [← hw2, ← hg]; clear hw2 hg)
              | (refine wpList_load_row_w rfl 26 _ rfl g rfl _ _ _ _ (KX.out _ z) Tryz.underlying26 rfl (size_Alg _ _) ?_)
              | (go_at_call 17; refine (ascends_up _ _ V _ hT HASC.out hM2).mono ?_; rintro e wz ⟨rfl, hd⟩; replace z := z.trans (hd.below _); (try clear c0 c1); have c0 := K0.out _ z; have c1 := K1.out _ z; (try replace q1 := Q1.out _ z); (try replace q2 := Q2.out _ z); (try replace hT := hd.rd hT); (try replace hU := hd.rd hU)))
            go_ret
            exact ⟨by first | rfl | exact ret_bool (by simp [HN2.out]), FIN.out _ z⟩
          · have hn2 : ((L.length : Int) == 1) = false := by rw [beq_eq_false_iff_ne]; exact hn1
            cases d0 with
            | false =>
              clear htk
              go_wp2_with (first
                | go_skip
                | (refine wpList_store_row rfl 26 _ _ rfl w1.heap.size #[.slice a L.length ca, .slice b T.length cb] rfl rfl _ _ (heap_alloc_new w1 (.cells #[.slice none 0 0, .slice none 0 0] 26)) (size_Alg _ _) rfl (one_sl2 _ _ _ _ _ _) ?_; rw [World.setRow_alloc_new]; rw [← hw2, ← hg]; clear hw2 hg)
                | (refine wpList_store_row rfl 26 _ _ rfl w1.heap.size #[.slice a L.length ca, .slice (some ⟨B, off, none⟩) T.length cb] rfl rfl _ _ (heap_alloc_new w1 (.cells #[.slice none 0 0, .slice none 0 0] 26)) (size_Alg _ _) rfl (one_sl2 _ _ _ _ _ _) ?_; rw [World.setRow_alloc_new]; rw [← hw2, ← hg]; clear hw2 hg)
                | (refine wpList_load_row_w rfl 26 _ rfl g rfl _ _ _ _ (KX.out _ z) Tryz.underlying26 rfl (size_Alg _ _) ?_)
                | (go_at_call 17; refine (ascends_up _ _ V _ hT HASC.out hM2).mono ?_; rintro e wz ⟨rfl, hd⟩; replace z := z.trans (hd.below _); (try clear c0 c1); have c0 := K0.out _ z; have c1 := K1.out _ z; (try replace q1 := Q1.out _ z); (try replace q2 := Q2.out _ z); (try replace hT := hd.rd hT); (try replace hU := hd.rd hU))
                | (go_at_call 15; refine (HH.out _ _ _ _ _ (KR.out _ z) (KT.out _ z)).mono ?_; rintro e wz ⟨rfl, hb⟩; replace z := z.trans (hb.mono z.size); (try clear c0 c1); have c0 := K0.out _ z; have c1 := K1.out _ z; (try replace q1 := Q1.out _ z); (try replace q2 := Q2.out _ z); (try replace hT := hT.below hb); (try replace hU := hU.below hb); (try replace y8 := y8.trans (hb.mono y8.size)); (try have k8 := (bx_cells (K8.out _ y8)).1)))
              go_ret
              exact ⟨by first | rfl | exact ret_bool (by simp), FIN.out _ z⟩
            | true =>
              have hco := HCO.out rfl hn1
              rw [hco]
              clear htk hn1
              go_wp2_with (first
                | go_skip
                | (refine wpList_store_row rfl 26 _ _ rfl w1.heap.size #[.slice a L.length ca, .slice b T.length cb] rfl rfl _ _ (heap_alloc_new w1 (.cells #[.slice none 0 0, .slice none 0 0] 26)) (size_Alg _ _) rfl (one_sl2 _ _ _ _ _ _) ?_; rw [World.setRow_alloc_new]; rw [← hw2, ← hg]; clear hw2 hg)
                | (refine wpList_store_row rfl 26 _ _ rfl w1.heap.size #[.slice a L.length ca, .slice (some ⟨B, off, none⟩) T.length cb] rfl rfl _ _ (heap_alloc_new w1 (.cells #[.slice none 0 0, .slice none 0 0] 26)) (size_Alg _ _) rfl (one_sl2 _ _ _ _ _ _) ?_; rw [World.setRow_alloc_new]; rw [← hw2, ← hg]; clear hw2 hg)
                | (refine wpList_load_row_w rfl 26 _ rfl g rfl _ _ _ _ (KX.out _ z) Tryz.underlying26 rfl (size_Alg _ _) ?_)
                | (go_at_call 17; refine (ascends_up _ _ V _ hT HASC.out hM2).mono ?_; rintro e wz ⟨rfl, hd⟩; replace z := z.trans (hd.below _); (try clear c0 c1); have c0 := K0.out _ z; have c1 := K1.out _ z; (try replace q1 := Q1.out _ z); (try replace q2 := Q2.out _ z); (try replace hT := hd.rd hT); (try replace hU := hd.rd hU))
                | (go_at_call 15; refine (HH.out _ _ _ _ _ (KR.out _ z) (KT.out _ z)).mono ?_; rintro e wz ⟨rfl, hb⟩; replace z := z.trans (hb.mono z.size); (try clear c0 c1); have c0 := K0.out _ z; have c1 := K1.out _ z; (try replace q1 := Q1.out _ z); (try replace q2 := Q2.out _ z); (try replace hT := hT.below hb); (try replace hU := hU.below hb); (try replace y8 := y8.trans (hb.mono y8.size)); (try have k8 := (bx_cells (K8.out _ y8)).1))
                | (go_at_call 13; refine (lawPower_any _ _ (by omega) (by omega)).mono ?_; rintro e wz ⟨rfl, rfl⟩))
              go_ret
              exact ⟨by first | rfl | exact ret_bool (by simp), FIN.out _ z⟩
end Go.Proofs.YtjcambkjcagcoaaGreat
