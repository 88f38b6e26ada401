import Derived.Test.YtjcambkjcagcoaaGreatSL0
import Derived.Test.YtjcambkjcagcoaaGreatN12
import Derived.Test.YtjcambkjcagcoaaGreatLC
import Derived.Test.YtjcambkjcagcoaaGreatQR
import Derived.Test.YtjcambkjcagcoaaGreatKG4
import Derived.Test.YtjcambkjcagcoaaGreatPY
import Derived.Test.YtjcambkjcagcoaaGreatKM8
import Derived.Test.YtjcambkjcagcoaaGreatN7
namespace Go.Proofs.YtjcambkjcagcoaaGreat
open Go.RowKit

theorem enters_qof4 : Enters 14 := enters_of Tryz.func14 (by kernel_rfl) rfl
set_option maxRecDepth 100000 in
set_option maxHeartbeats 8000000 in
/-- laws.FnGreatestFilters -/
theorem lawPGreatestFilters (a0 : Option Addr) (len0 cap0 : Nat) (w : World) (hy : RdY w a0 len0 w.heap.size) (hc : len0 ≤ cap0) (hm : len0 ≤ maxLen) :
    Calls Tryz.prog 5 #[.slice a0 len0 cap0] w fun e w' => e = .returned (.bool true) ∧ Below w.heap.size w w' := by
  by_cases hbig : 1048576 < len0
  · have hbig2 : (1048576 : Int) < len0 := by omega
    go_enter Tryz.func5, Tryz.ntmps5
    go_wp2
    go_ret
    exact ⟨rfl, Below.refl _ _⟩
  · have hs : len0 ≤ 1048576 := by omega
    have hs2 : ¬ (1048576 : Int) < len0 := by omega
    go_enter Tryz.func5, Tryz.ntmps5
    go_wp2_with fail
    refine (drawGreatestFilters_any a0 len0 cap0 w hy hc hs).mono ?_
    rintro e w1 ⟨L, T, a, ca, b, cb, rfl, hP, hr, hT, hb⟩
    have _ := hm
    clear hs hs2 hbig hy hm hc
    obtain ⟨l1, l7, t6, r6⟩ := someP_len hP
    have hM : (L.length : Int) ≤ 9223372036854775807 := by omega
    obtain ⟨g, hg⟩ : ∃ g, g = w1.heap.size := ⟨_, rfl⟩
    obtain ⟨w2, hw2⟩ : ∃ w2, w2 = w1.alloc (.cells #[.slice a L.length ca, .slice b T.length cb] 26) := ⟨_, rfl⟩
    have hB : Below w.heap.size w w2 := by rw [hw2]; exact hb.alloc hb.size _
    have hB2 : Below w1.heap.size w1 w2 := by rw [hw2]; exact (Below.refl _ _).alloc (Nat.le_refl _) _
    have hx2 : w2.heap[g]? = some (.cells #[.slice a L.length ca, .slice b T.length cb] 26 (0, 0)) := by rw [hw2, hg]; exact heap_alloc_new w1 _
    have KX := Lib.hid (show ∀ wz, Below w2.heap.size w2 wz → wz.heap[g]? = some (.cells #[.slice a L.length ca, .slice b T.length cb] 26 (0, 0)) from fun wz h => (h.block _ (lt_of_block hx2)).trans hx2)
    have K0 := Lib.hid (show ∀ wz, Below w2.heap.size w2 wz → wz.cell? ⟨g, 0, none⟩ = some (.slice a L.length ca) from fun wz h => (bx_cells (KX.out _ h)).1)
    have K1 := Lib.hid (show ∀ wz, Below w2.heap.size w2 wz → wz.cell? ⟨g, 1, none⟩ = some (.slice b T.length cb) from fun wz h => (bx_cells (KX.out _ h)).2)
    have KR := Lib.hid (show ∀ wz, Below w2.heap.size w2 wz → Rd wz a L from fun wz h => (hr.below hB2).below h)
    have KT := Lib.hid (show ∀ wz, Below w2.heap.size w2 wz → RdT wz b T from fun wz h => (hT.below hB2).below h)
    have FIN := Lib.hid (show ∀ wz, Below w2.heap.size w2 wz → Below w.heap.size w wz from fun wz h => hB.trans (h.mono hB.size))
    have z : Below w2.heap.size w2 w2 := Below.refl _ _
    have HP := Lib.hid hP
    clear hP hr hT hb hB hB2 hx2 r6
    have c0 := K0.out _ z
    have c1 := K1.out _ z
    have HSP := Lib.hid HP.out
    cases ha : algB L T with
    | false =>
      obtain ⟨V, hV⟩ : ∃ V, V = algV L T (grs L T) := ⟨_, rfl⟩
      have hM2 : V.length ≤ 1073741824 := by rw [hV]; unfold algV; rw [ha]; simp
      have HI := Lib.hid (show ∀ (a b : Option Addr) (ca cb : Nat) (w : World), Rd w a L → RdT w b T → Calls Tryz.prog 26 #[.agg #[.slice a L.length ca, .slice b T.length cb]] w (RetSl w.heap.size V w) from fun a b ca cb w h1 h2 => by rw [hV]; exact implGreatestFilters_any a b ca cb L T w h1 h2)
      have HQ := Lib.hid (show ∀ (a b : Option Addr) (ca cb : Nat) (w : World), Rd w a L → RdT w b T → Calls Tryz.prog 27 #[.agg #[.slice a L.length ca, .slice b T.length cb]] w (RetSl w.heap.size V w) from fun a b ca cb w h1 h2 => by rw [hV]; exact specGreatestFilters_any a b ca cb L T w h1 h2)
      clear hV
      go_wp2_with (first
      | go_skip
      | (refine wpList_store_row rfl 26 _ _ rfl w1.heap.size #[.slice a L.length ca, .slice b T.length cb] rfl rfl _ _ (heap_alloc_new w1 (.cells #[.slice none 0 0, .slice none 0 0] 26)) (size_Alg _ _) rfl (one_sl2 _ _ _ _ _ _) ?_; rw [World.setRow_alloc_new]; rw [← hw2, ← hg]; clear hw2 hg)
      | (refine wpList_store_row rfl 26 _ _ rfl w1.heap.size #[.slice a L.length ca, .slice (some ⟨B, off, none⟩) T.length cb] rfl rfl _ _ (heap_alloc_new w1 (.cells #[.slice none 0 0, .slice none 0 0] 26)) (size_Alg _ _) rfl (one_sl2 _ _ _ _ _ _) ?_; rw [World.setRow_alloc_new]; rw [← hw2, ← hg]; clear hw2 hg)
      | (refine wpList_load_row_w rfl 26 _ rfl g rfl _ _ _ _ (KX.out _ z) Tryz.underlying26 rfl (size_Alg _ _) ?_)
      | (go_at_call 26; refine (HI.out _ _ _ _ _ (KR.out _ z) (KT.out _ z)).mono ?_; rintro e wz ⟨aT, cT, rfl, oT, hb⟩; replace z := z.trans (hb.mono z.size); (try clear c0 c1); have c0 := K0.out _ z; have c1 := K1.out _ z; (try replace q1 := Q1.out _ z); (try replace q2 := Q2.out _ z); (try replace hT := hT.below hb); (try replace hU := hU.below hb); have hT : Rd wz aT V := oT.rd; clear oT)
      | (go_at_call 27; refine (HQ.out _ _ _ _ _ (KR.out _ z) (KT.out _ z)).mono ?_; rintro e wz ⟨aU, cU, rfl, oU, hb⟩; replace z := z.trans (hb.mono z.size); (try clear c0 c1); have c0 := K0.out _ z; have c1 := K1.out _ z; (try replace q1 := Q1.out _ z); (try replace q2 := Q2.out _ z); (try replace hT := hT.below hb); (try replace hU := hU.below hb); have hU : Rd wz aU V := oU.rd; clear oU)
      | (go_at_call 10; refine (equalInts_same _ _ _ _ V _ hT hU hM2).mono ?_; rintro e wz ⟨rfl, hd⟩; replace z := z.trans (hd.below _); (try clear c0 c1); have c0 := K0.out _ z; have c1 := K1.out _ z; (try replace q1 := Q1.out _ z); (try replace q2 := Q2.out _ z); (try replace hT := hd.rd hT); (try replace hU := hd.rd hU))
      | (go_at_call 12; refine (implValidAlgebra_any _ _ _ _ L T _ (KR.out _ z) (KT.out _ z)).mono ?_; rintro e wz ⟨rfl, hb⟩; replace z := z.trans (hb.mono z.size); (try clear c0 c1); have c0 := K0.out _ z; have c1 := K1.out _ z; (try replace q1 := Q1.out _ z); (try replace q2 := Q2.out _ z); (try replace hT := hT.below hb); (try replace hU := hU.below hb)))
      go_ret
      exact ⟨rfl, FIN.out _ z⟩
    | true =>
      obtain ⟨V, hV⟩ : ∃ V, V = algV L T (grs L T) := ⟨_, rfl⟩
      obtain ⟨P, hPP⟩ : ∃ V, V = algV L T (pris L T) := ⟨_, rfl⟩
      have HI := Lib.hid (show ∀ (a b : Option Addr) (ca cb : Nat) (w : World), Rd w a L → RdT w b T → Calls Tryz.prog 26 #[.agg #[.slice a L.length ca, .slice b T.length cb]] w (RetSl w.heap.size V w) from fun a b ca cb w h1 h2 => by rw [hV]; exact implGreatestFilters_any a b ca cb L T w h1 h2)
      have HQ := Lib.hid (show ∀ (a b : Option Addr) (ca cb : Nat) (w : World), Rd w a L → RdT w b T → Calls Tryz.prog 27 #[.agg #[.slice a L.length ca, .slice b T.length cb]] w (RetSl w.heap.size V w) from fun a b ca cb w h1 h2 => by rw [hV]; exact specGreatestFilters_any a b ca cb L T w h1 h2)
      have HPF := Lib.hid (show ∀ (a b : Option Addr) (ca cb : Nat) (w : World), Rd w a L → RdT w b T → Calls Tryz.prog 9 #[.agg #[.slice a L.length ca, .slice b T.length cb]] w (RetSl w.heap.size P w) from fun a b ca cb w h1 h2 => by rw [hPP]; exact implPrimeFilters_any a b ca cb L T w h1 h2)
      replace hV : V = grs L T := by rw [hV]; unfold algV; rw [ha]; rfl
      replace hPP : P = pris L T := by rw [hPP]; unfold algV; rw [ha]; rfl
      have l6 := (latB_parts (alg_lat ha)).2.1
      have l1' := (latB_parts (alg_lat ha)).1
      have l6' : (L.length : Int) ≤ 6 := l6
      have l1'' : (1 : Int) ≤ L.length := l1'
      have hM3 : V.length ≤ 64 := by rw [hV]; exact Nat.le_trans (List.length_filter_le _ _) (fls_len L T l6)
      have hM2 : V.length ≤ 1073741824 := by omega
      have hM4 : P.length ≤ 1073741824 := by have : P.length ≤ 64 := by rw [hPP]; exact Nat.le_trans (List.length_filter_le _ _) (fls_len L T l6)
                                             omega
      have hq := sg_gr HSP.out ha
      unfold sgGr1 at hq
      rw [← hV, ← hPP, Bool.and_eq_true, List.all_eq_true] at hq
      obtain ⟨hq1, hq2⟩ := hq
      have HE := Lib.hid (show ∀ i : Int, 0 ≤ i → i < V.length → afB L T (nth V i) = true ∧ inL P (nth V i) = true ∧ (algB (quL L T (nth V i)) (quTb L T (nth V i)) && (((fls (quL L T (nth V i)) (quTb L T (nth V i))).length : Int) == 2)) = true from fun i i0 i1 => by
        have h1 := nth_mem' V i0 i1
        have h2 := hq1 _ h1
        rw [Bool.and_eq_true, Bool.and_eq_true] at h2
        exact h2)
      have HASC := Lib.hid (show Asc V by rw [hV]; exact grs_asc)
      have HN := Lib.hid (show ((V.length : Int) == 0) = ((L.length : Int) == 1) from beq_iff_eq.1 hq2)
      clear hV hPP l6 hq1 hq2
      go_wp2_with (first
      | go_skip
      | (refine wpList_store_row rfl 26 _ _ rfl w1.heap.size #[.slice a L.length ca, .slice b T.length cb] rfl rfl _ _ (heap_alloc_new w1 (.cells #[.slice none 0 0, .slice none 0 0] 26)) (size_Alg _ _) rfl (one_sl2 _ _ _ _ _ _) ?_; rw [World.setRow_alloc_new]; rw [← hw2, ← hg]; clear hw2 hg)
      | (refine wpList_store_row rfl 26 _ _ rfl w1.heap.size #[.slice a L.length ca, .slice (some ⟨B, off, none⟩) T.length cb] rfl rfl _ _ (heap_alloc_new w1 (.cells #[.slice none 0 0, .slice none 0 0] 26)) (size_Alg _ _) rfl (one_sl2 _ _ _ _ _ _) ?_; rw [World.setRow_alloc_new]; rw [← hw2, ← hg]; clear hw2 hg)
      | (refine wpList_load_row_w rfl 26 _ rfl g rfl _ _ _ _ (KX.out _ z) Tryz.underlying26 rfl (size_Alg _ _) ?_)
      | (go_at_call 26; refine (HI.out _ _ _ _ _ (KR.out _ z) (KT.out _ z)).mono ?_; rintro e wz ⟨aT, cT, rfl, oT, hb⟩; replace z := z.trans (hb.mono z.size); (try clear c0 c1); have c0 := K0.out _ z; have c1 := K1.out _ z; (try replace q1 := Q1.out _ z); (try replace q2 := Q2.out _ z); (try replace hT := hT.below hb); (try replace hU := hU.below hb); have hT : Rd wz aT V := oT.rd; clear oT)
      | (go_at_call 27; refine (HQ.out _ _ _ _ _ (KR.out _ z) (KT.out _ z)).mono ?_; rintro e wz ⟨aU, cU, rfl, oU, hb⟩; replace z := z.trans (hb.mono z.size); (try clear c0 c1); have c0 := K0.out _ z; have c1 := K1.out _ z; (try replace q1 := Q1.out _ z); (try replace q2 := Q2.out _ z); (try replace hT := hT.below hb); (try replace hU := hU.below hb); have hU : Rd wz aU V := oU.rd; clear oU)
      | (go_at_call 10; refine (equalInts_same _ _ _ _ V _ hT hU hM2).mono ?_; rintro e wz ⟨rfl, hd⟩; replace z := z.trans (hd.below _); (try clear c0 c1); have c0 := K0.out _ z; have c1 := K1.out _ z; (try replace q1 := Q1.out _ z); (try replace q2 := Q2.out _ z); (try replace hT := hd.rd hT); (try replace hU := hd.rd hU))
      | (go_at_call 12; refine (implValidAlgebra_any _ _ _ _ L T _ (KR.out _ z) (KT.out _ z)).mono ?_; rintro e wz ⟨rfl, hb⟩; replace z := z.trans (hb.mono z.size); (try clear c0 c1); have c0 := K0.out _ z; have c1 := K1.out _ z; (try replace q1 := Q1.out _ z); (try replace q2 := Q2.out _ z); (try replace hT := hT.below hb); (try replace hU := hU.below hb))
      | (go_at_call 9; refine (HPF.out _ _ _ _ _ (KR.out _ z) (KT.out _ z)).mono ?_; rintro e wz ⟨aU, cU, rfl, oU, hb⟩; replace z := z.trans (hb.mono z.size); (try clear c0 c1); have c0 := K0.out _ z; have c1 := K1.out _ z; (try replace q1 := Q1.out _ z); (try replace q2 := Q2.out _ z); (try replace hT := hT.below hb); (try replace hU := hU.below hb); have hU : Rd wz aU P := oU.rd; clear oU))
      clear c0 c1 ha HSP
      go_loopw [6, 7, 8, 9] (fun iv _ _ _ wr => ∃ i : Int, 0 ≤ i ∧ i ≤ V.length ∧ iv = .int .i64 i ∧ Below w2.heap.size w2 wr ∧ Rd wr aT V ∧ Rd wr aU P) (fun iv _ _ _ _ => ((V.length : Int) - intOf iv).toNat)
      case atStart => exact ⟨0, by omega, by omega, rfl, z, hT, hU⟩
      case round =>
        clear z hT hU
        obtain ⟨i, i0, i1, rfl, z, hT, hU⟩ := hrel
        by_cases hi : i < V.length
        · obtain ⟨hAF, hIN, hSI⟩ := HE.out i i0 hi
          have hT' := hT
          obtain ⟨b2, o2, rfl, hc2⟩ := hT' (by intro e; rw [e] at hi; simp at hi; omega)
          have d1 := hc2.at i i0 hi
          have KV := Lib.hid (show ∀ wz, Below wr.heap.size wr wz → wz.cell? ⟨b2, o2 + i.toNat, none⟩ = some (.int .i64 (nth V i)) from fun wz h => (h.cell (by exact block_lt_of_cell d1)).trans d1)
          obtain ⟨f, hf⟩ : ∃ f, f = nth V i := ⟨_, rfl⟩
          rw [← hf] at d1 hAF hIN hSI KV
          obtain ⟨QL, hQL⟩ : ∃ q, q = quL L T f := ⟨_, rfl⟩
          obtain ⟨QT, hQT⟩ : ∃ q, q = quTb L T f := ⟨_, rfl⟩
          rw [← hQL, ← hQT] at hSI
          have HQU := Lib.hid (show ∀ (w : World), Rd w a L → RdT w b T → Calls Tryz.prog 14 #[.agg #[.slice a L.length ca, .slice b T.length cb], .int .i64 f] w (RetGAsb QL QT (quTo L T f) true w) from fun w h1 h2 => by rw [hQL, hQT, ← hAF]; exact implQuotientOf_any _ _ _ _ L T f w h1 h2)
          obtain ⟨QW, hQW⟩ : ∃ q, q = quTo L T f := ⟨_, rfl⟩
          rw [← hQW] at HQU
          have HSI := Lib.hid hSI
          have HIN := Lib.hid hIN
          clear hc2 hQL hQT hQW hf hAF hSI hIN
          go_wp2
          go_cut [7, 9] (fun sg sb wx => ∃ (ra : Option Addr) (rn rc : Nat) (rb : Option Addr) (rm rd g8 : Nat), sg = .pointer (some ⟨g8, 0, none⟩) ∧ sb = .bool true ∧ wx.heap[g8]? = some (.cells #[.slice ra rn rc, .slice rb rm rd] 26 (0, 0)) ∧ RA wx (.slice ra rn rc) (.slice rb rm rd) QL QT ∧ Below wr.heap.size wr wx)
          case first =>
            clear d1
            refine wp_region_any (by kernel_rfl) ?_
            refine any_of_C (C := fun wz => Below wr.heap.size wr wz) _ _ _ _ ?_
            refine anyC_take (i := 0) (v := .agg #[.slice a L.length ca, .slice b T.length cb]) rfl (by kernel_rfl) (by kernel_rfl) (by kernel_rfl) (fun _ _ _ h => h) (.inl ⟨rfl, fun wz hz => runs_load (C := fun wz => Below wr.heap.size wr wz) 26 _ rfl g rfl _ _ _ _ (fun w hw => KX.out _ (z.trans (hw.mono z.size))) Tryz.underlying26 rfl (size_Alg _ _) wz hz⟩) ?_
            refine anyC_take (i := 1) (v := .slice (some ⟨b2, o2, none⟩) V.length cT) rfl (by kernel_rfl) (by kernel_rfl) (by kernel_rfl) (fun _ _ _ h => h) (.inl ⟨rfl, fun wz hz => by apply runs_move1 <;> rfl⟩) ?_
            refine anyC_take (i := 2) (v := .int .i64 i) rfl (by kernel_rfl) (by kernel_rfl) (by kernel_rfl) (fun _ _ _ h => h) (.inl ⟨rfl, fun wz hz => by apply runs_move1 <;> rfl⟩) ?_
            refine anyC_take (i := 3) (v := .pointer (some ⟨b2, o2 + i.toNat, none⟩)) rfl (by kernel_rfl) (by kernel_rfl) (by kernel_rfl) (fun _ _ _ h => h) (.inl ⟨rfl, fun wz hz => by go_simp⟩) ?_
            refine anyC_take (i := 4) (v := .int .i64 f) rfl (by kernel_rfl) (by kernel_rfl) (by kernel_rfl) (fun _ _ _ h => h) (.inl ⟨rfl, fun wz hz => by have c := KV.out _ hz; go_simp⟩) ?_
            have zd : Below wr.heap.size wr (wr.drewN 1) := Dr.below ⟨1, rfl⟩ _
            obtain ⟨wd, hwd⟩ : ∃ x : World, x = wr.drewN 1 := ⟨_, rfl⟩
            change wpAnyC _ _ _ _ _ _ _ _ (wr.drewN 1)
            rw [← hwd] at zd ⊢
            clear hwd
            try simp only [List.getElem_toArray, List.getElem_cons_zero, List.getElem_cons_succ, Act.put, List.setIfInBounds_toArray, List.set_cons_succ, List.set_cons_zero]
            have zs := z.size
            refine anyC_two (i := 5) (j := 10) (f := 14) (args := #[.agg #[.slice a L.length ca, .slice b T.length cb], .int .i64 f]) rfl rfl (by kernel_rfl) rfl (by apply runs_call2 (he := enters_qof4) <;> rfl) zd ?_ ?_
            · have zw := z.trans (zd.mono zs)
              refine (HQU.out wd (KR.out _ zw) (KT.out _ zw)).mono ?_
              rintro e w5 ⟨ra, rn, rc, rb, rm, rd, rs, rk, rq, rz, rfl, gr, _, rl1, rl2, hbr⟩
              refine ⟨_, rfl, ?_⟩
              try simp only [List.getElem_toArray, List.getElem_cons_zero, List.getElem_cons_succ, Act.put, List.setIfInBounds_toArray, List.set_cons_succ, List.set_cons_zero]
              have y5 := zd.trans (hbr.mono zd.size)
              refine anyC_take (i := 6) (v := .tuple #[.agg #[.slice ra rn rc, .slice rb rm rd], .slice rs rk rq, .bool true]) rfl (by kernel_rfl) (by kernel_rfl) (by kernel_rfl) (fun _ _ _ h => h) (.inl ⟨rfl, fun wz hz => by apply runs_move1 <;> rfl⟩) ?_
              try simp only [List.getElem_toArray, List.getElem_cons_zero, List.getElem_cons_succ, Act.put, List.setIfInBounds_toArray, List.set_cons_succ, List.set_cons_zero]
              refine anyC_take (i := 7) (v := .agg #[.slice ra rn rc, .slice rb rm rd]) rfl (by kernel_rfl) (by kernel_rfl) (by kernel_rfl) (fun _ _ _ h => h) (.inl ⟨rfl, fun wz hz => by apply runs_extract <;> rfl⟩) ?_
              try simp only [List.getElem_toArray, List.getElem_cons_zero, List.getElem_cons_succ, Act.put, List.setIfInBounds_toArray, List.set_cons_succ, List.set_cons_zero]
              refine anyC_take (i := 8) (v := .slice rs rk rq) rfl (by kernel_rfl) (by kernel_rfl) (by kernel_rfl) (fun _ _ _ h => h) (.inl ⟨rfl, fun wz hz => by apply runs_extract <;> rfl⟩) ?_
              try simp only [List.getElem_toArray, List.getElem_cons_zero, List.getElem_cons_succ, Act.put, List.setIfInBounds_toArray, List.set_cons_succ, List.set_cons_zero]
              refine anyC_take (i := 9) (v := .bool true) rfl (by kernel_rfl) (by kernel_rfl) (by kernel_rfl) (fun _ _ _ h => h) (.inl ⟨rfl, fun wz hz => by apply runs_extract <;> rfl⟩) ?_
              try simp only [List.getElem_toArray, List.getElem_cons_zero, List.getElem_cons_succ, Act.put, List.setIfInBounds_toArray, List.set_cons_succ, List.set_cons_zero]
              refine anyC_law (i := 10) rfl (by kernel_rfl) y5 ?_
              go_wp2_with fail
              obtain ⟨g8, hg8⟩ : ∃ x : Nat, x = w5.heap.size := ⟨_, rfl⟩
              obtain ⟨wA, hwA⟩ : ∃ x : World, x = w5.alloc (.cells #[.slice none 0 0, .slice none 0 0] 26) := ⟨_, rfl⟩
              rw [← hwA, ← hg8]
              have hzg : wA.heap[g8]? = some (.cells #[.slice none 0 0, .slice none 0 0] 26 (0, 0)) := by rw [hwA, hg8]; exact heap_alloc_new w5 _
              have lg : wr.heap.size ≤ g8 := by rw [hg8]; exact y5.size
              have lq : w5.heap.size ≤ g8 := Nat.le_of_eq hg8.symm
              have qA : Below w5.heap.size w5 wA := by rw [hwA]; exact (Below.refl _ _).alloc (Nat.le_refl _) _
              have yA := y5.trans (qA.mono y5.size)
              replace gr := gr.below qA
              clear hwA hg8
              try simp only [List.getElem_toArray, List.getElem_cons_zero, List.getElem_cons_succ, Act.put, List.setIfInBounds_toArray, List.set_cons_succ, List.set_cons_zero]
              refine anyC_law (i := 11) rfl (by kernel_rfl) yA ?_
              refine wpList_store_row rfl 26 _ _ rfl g8 #[.slice ra rn rc, .slice rb rm rd] rfl rfl _ _ hzg (size_Alg _ _) rfl (one_sl2 _ _ _ _ _ _) ?_
              unfold wpList
              have yB := below_setRow' yA (show wr.heap.size ≤ g8 from lg) #[.slice ra rn rc, .slice rb rm rd]
              have hra := (gr.keep (fun k k1 k2 _ => setRow_other _ g8 k #[.slice ra rn rc, .slice rb rm rd] (by omega))).rd
              refine anyC_law (i := 12) rfl (by kernel_rfl) yB ?_
              go_wp2_with fail
              try simp only [List.getElem_toArray, List.getElem_cons_zero, List.getElem_cons_succ, Act.put, List.setIfInBounds_toArray, List.set_cons_succ, List.set_cons_zero]
              refine anyC_law (i := 13) rfl (by kernel_rfl) yB ?_
              go_wp2_with fail
              try simp only [List.getElem_toArray, List.getElem_cons_zero, List.getElem_cons_succ, Act.put, List.setIfInBounds_toArray, List.set_cons_succ, List.set_cons_zero]
              refine anyC_done (by kernel_rfl) yB ?_ _
              try simp only [List.getElem_toArray, List.getElem_cons_zero, List.getElem_cons_succ, Act.put, List.setIfInBounds_toArray, List.set_cons_succ, List.set_cons_zero]
              go_wp2_with fail
              go_meet
              exact ⟨ra, rn, rc, rb, rm, rd, g8, rfl, rfl, setRow_heap _ _ _ _ _ _ hzg, hra, yB⟩
            · have zw := z.trans (zd.mono zs)
              go_wp2_with fail
              obtain ⟨g8, hg8⟩ : ∃ x : Nat, x = wd.heap.size := ⟨_, rfl⟩
              obtain ⟨wB, hwA⟩ : ∃ x : World, x = wd.alloc (.cells #[.slice none 0 0, .slice none 0 0] 26) := ⟨_, rfl⟩
              rw [← hwA, ← hg8]
              have hzB : wB.heap[g8]? = some (.cells #[.slice none 0 0, .slice none 0 0] 26 (0, 0)) := by rw [hwA, hg8]; exact heap_alloc_new wd _
              have lg : wr.heap.size ≤ g8 := by rw [hg8]; exact zd.size
              have lq : g8 < wB.heap.size := lt_of_block hzB
              have qA : Below wd.heap.size wd wB := by rw [hwA]; exact (Below.refl _ _).alloc (Nat.le_refl _) _
              have yb := zd.trans (qA.mono zd.size)
              have zb := z.trans (yb.mono zs)
              clear hwA hg8
              try simp only [List.getElem_toArray, List.getElem_cons_zero, List.getElem_cons_succ, Act.put, List.setIfInBounds_toArray, List.set_cons_succ, List.set_cons_zero]
              refine anyC_call (i := 5) (o := _) (f := 14) (args := #[.agg #[.slice a L.length ca, .slice b T.length cb], .int .i64 f]) rfl (by kernel_rfl) rfl (by apply runs_call2 (he := enters_qof4) <;> rfl) yb ?_
              refine (HQU.out wB (KR.out _ zb) (KT.out _ zb)).mono ?_
              rintro e wA ⟨ra, rn, rc, rb, rm, rd, rs, rk, rq, rz, rfl, gr, _, rl1, rl2, hbr⟩
              refine ⟨_, rfl, ?_⟩
              try simp only [List.getElem_toArray, List.getElem_cons_zero, List.getElem_cons_succ, Act.put, List.setIfInBounds_toArray, List.set_cons_succ, List.set_cons_zero]
              have yA := yb.trans (hbr.mono yb.size)
              have hzg := (hbr.block _ (lt_of_block hzB)).trans hzB
              refine anyC_take (i := 6) (v := .tuple #[.agg #[.slice ra rn rc, .slice rb rm rd], .slice rs rk rq, .bool true]) rfl (by kernel_rfl) (by kernel_rfl) (by kernel_rfl) (fun _ _ _ h => h) (.inl ⟨rfl, fun wz hz => by apply runs_move1 <;> rfl⟩) ?_
              try simp only [List.getElem_toArray, List.getElem_cons_zero, List.getElem_cons_succ, Act.put, List.setIfInBounds_toArray, List.set_cons_succ, List.set_cons_zero]
              refine anyC_take (i := 7) (v := .agg #[.slice ra rn rc, .slice rb rm rd]) rfl (by kernel_rfl) (by kernel_rfl) (by kernel_rfl) (fun _ _ _ h => h) (.inl ⟨rfl, fun wz hz => by apply runs_extract <;> rfl⟩) ?_
              try simp only [List.getElem_toArray, List.getElem_cons_zero, List.getElem_cons_succ, Act.put, List.setIfInBounds_toArray, List.set_cons_succ, List.set_cons_zero]
              refine anyC_take (i := 8) (v := .slice rs rk rq) rfl (by kernel_rfl) (by kernel_rfl) (by kernel_rfl) (fun _ _ _ h => h) (.inl ⟨rfl, fun wz hz => by apply runs_extract <;> rfl⟩) ?_
              try simp only [List.getElem_toArray, List.getElem_cons_zero, List.getElem_cons_succ, Act.put, List.setIfInBounds_toArray, List.set_cons_succ, List.set_cons_zero]
              refine anyC_take (i := 9) (v := .bool true) rfl (by kernel_rfl) (by kernel_rfl) (by kernel_rfl) (fun _ _ _ h => h) (.inl ⟨rfl, fun wz hz => by apply runs_extract <;> rfl⟩) ?_
              try simp only [List.getElem_toArray, List.getElem_cons_zero, List.getElem_cons_succ, Act.put, List.setIfInBounds_toArray, List.set_cons_succ, List.set_cons_zero]
              refine anyC_law (i := 11) rfl (by kernel_rfl) yA ?_
              refine wpList_store_row rfl 26 _ _ rfl g8 #[.slice ra rn rc, .slice rb rm rd] rfl rfl _ _ hzg (size_Alg _ _) rfl (one_sl2 _ _ _ _ _ _) ?_
              unfold wpList
              have yB := below_setRow' yA (show wr.heap.size ≤ g8 from lg) #[.slice ra rn rc, .slice rb rm rd]
              have hra := (gr.keep (fun k k1 k2 _ => setRow_other _ g8 k #[.slice ra rn rc, .slice rb rm rd] (by omega))).rd
              refine anyC_law (i := 12) rfl (by kernel_rfl) yB ?_
              go_wp2_with fail
              try simp only [List.getElem_toArray, List.getElem_cons_zero, List.getElem_cons_succ, Act.put, List.setIfInBounds_toArray, List.set_cons_succ, List.set_cons_zero]
              refine anyC_law (i := 13) rfl (by kernel_rfl) yB ?_
              go_wp2_with fail
              try simp only [List.getElem_toArray, List.getElem_cons_zero, List.getElem_cons_succ, Act.put, List.setIfInBounds_toArray, List.set_cons_succ, List.set_cons_zero]
              refine anyC_done (by kernel_rfl) yB ?_ _
              try simp only [List.getElem_toArray, List.getElem_cons_zero, List.getElem_cons_succ, Act.put, List.setIfInBounds_toArray, List.set_cons_succ, List.set_cons_zero]
              go_wp2_with fail
              go_meet
              exact ⟨ra, rn, rc, rb, rm, rd, g8, rfl, rfl, setRow_heap _ _ _ _ _ _ hzg, hra, yB⟩
          case rest =>
            obtain ⟨ra, rn, rc, rb, rm, rd, g8, rfl, rfl, hx8, hra8, yc⟩ := hcut
            obtain ⟨rfl, rfl, hR8, hT8⟩ := ra_parts hra8
            have K8 := Lib.hid (show ∀ wz, Below wc.heap.size wc wz → wz.heap[g8]? = some (.cells #[.slice ra QL.length rc, .slice rb QT.length rd] 26 (0, 0)) from fun wz h => (h.block _ (lt_of_block hx8)).trans hx8)
            have y8 : Below wc.heap.size wc wc := Below.refl _ _
            replace z := z.trans (yc.mono z.size)
            replace hT := hT.below yc
            replace hU := hU.below yc
            have hsi := HSI.out
            have hin := HIN.out
            have d2 := KV.out _ yc
            have ZD := Lib.hid (show ∀ wz, Below wc.heap.size wc wz → wz.cell? ⟨b2, o2 + i.toNat, none⟩ = some (.int .i64 f) from fun wz h => (h.cell (by exact block_lt_of_cell d2)).trans d2)
            clear hx8 hra8 yc d1
            go_wp2_with (first
              | go_skip
              | (refine wpList_store_row rfl 26 _ _ rfl w1.heap.size #[.slice a L.length ca, .slice b T.length cb] rfl rfl _ _ (heap_alloc_new w1 (.cells #[.slice none 0 0, .slice none 0 0] 26)) (size_Alg _ _) rfl (one_sl2 _ _ _ _ _ _) ?_; rw [World.setRow_alloc_new]; rw [← hw2, ← hg]; clear hw2 hg)
              | (refine wpList_store_row rfl 26 _ _ rfl w1.heap.size #[.slice a L.length ca, .slice (some ⟨B, off, none⟩) T.length cb] rfl rfl _ _ (heap_alloc_new w1 (.cells #[.slice none 0 0, .slice none 0 0] 26)) (size_Alg _ _) rfl (one_sl2 _ _ _ _ _ _) ?_; rw [World.setRow_alloc_new]; rw [← hw2, ← hg]; clear hw2 hg)
              | (refine wpList_load_row_w rfl 26 _ rfl g rfl _ _ _ _ (KX.out _ z) Tryz.underlying26 rfl (size_Alg _ _) ?_)
              | (refine wpList_load_row_w rfl 26 _ rfl g8 rfl _ _ _ _ (K8.out _ y8) Tryz.underlying26 rfl (size_Alg _ _) ?_)
              | (go_at_call 28; refine (ret_to (implIsSimple_any _ _ _ _ QL QT _ (hR8.below y8) (hT8.below y8)) (congrArg Value.bool hsi)).mono ?_; rintro e wz ⟨rfl, hb⟩; replace z := z.trans (hb.mono z.size); (try clear c0 c1); have c0 := K0.out _ z; have c1 := K1.out _ z; (try replace q1 := Q1.out _ z); (try replace q2 := Q2.out _ z); (try replace hT := hT.below hb); (try replace hU := hU.below hb); (try replace y8 := y8.trans (hb.mono y8.size)); (try have k8 := (bx_cells (K8.out _ y8)).1); (try replace d2 := ZD.out _ y8))
              | (go_at_call 29; refine (lawIsIn_any _ _ P _ _ hU hM4).mono ?_; rintro e wz ⟨rfl, hd⟩; replace z := z.trans (hd.below _); (try clear c0 c1); have c0 := K0.out _ z; have c1 := K1.out _ z; (try replace q1 := Q1.out _ z); (try replace q2 := Q2.out _ z); (try replace hT := hd.rd hT); (try replace hU := hd.rd hU); (try replace y8 := y8.trans (hd.below _))))
            go_roundw
            case rel => exact ⟨i + 1, by omega, by omega, rfl, z, hT, hU⟩
            case measure => simp [intOf]; omega
        · have c0 := K0.out _ z
          have c1 := K1.out _ z
          have hn := HN.out
          cases hv0 : ((V.length : Int) == 0)
          all_goals
            rw [hv0] at hn
            have hn2 := hn.symm
            clear hn
            go_wp2_with (first
              | go_skip
              | (refine wpList_store_row rfl 26 _ _ rfl w1.heap.size #[.slice a L.length ca, .slice b T.length cb] rfl rfl _ _ (heap_alloc_new w1 (.cells #[.slice none 0 0, .slice none 0 0] 26)) (size_Alg _ _) rfl (one_sl2 _ _ _ _ _ _) ?_; rw [World.setRow_alloc_new]; rw [← hw2, ← hg]; clear hw2 hg)
              | (refine wpList_store_row rfl 26 _ _ rfl w1.heap.size #[.slice a L.length ca, .slice (some ⟨B, off, none⟩) T.length cb] rfl rfl _ _ (heap_alloc_new w1 (.cells #[.slice none 0 0, .slice none 0 0] 26)) (size_Alg _ _) rfl (one_sl2 _ _ _ _ _ _) ?_; rw [World.setRow_alloc_new]; rw [← hw2, ← hg]; clear hw2 hg)
              | (refine wpList_load_row_w rfl 26 _ rfl g rfl _ _ _ _ (KX.out _ z) Tryz.underlying26 rfl (size_Alg _ _) ?_)
              | (go_at_call 17; refine (ascends_up _ _ V _ hT HASC.out hM2).mono ?_; rintro e wz ⟨rfl, hd⟩; replace z := z.trans (hd.below _); (try clear c0 c1); have c0 := K0.out _ z; have c1 := K1.out _ z; (try replace q1 := Q1.out _ z); (try replace q2 := Q2.out _ z); (try replace hT := hd.rd hT); (try replace hU := hd.rd hU)))
            go_ret
            exact ⟨by first | rfl | exact ret_bool (by simp [hn2]), FIN.out _ z⟩
end Go.Proofs.YtjcambkjcagcoaaGreat
