import Derived.Test.YtjcambkjcagcoaaGreatTD2
import Derived.Test.YtjcambkjcagcoaaGreatSL0
import Derived.Test.YtjcambkjcagcoaaGreatQR
import Derived.Test.YtjcambkjcagcoaaGreatKG5
import Derived.Test.YtjcambkjcagcoaaGreatPY
import Derived.Test.YtjcambkjcagcoaaGreatTM18
import Derived.Test.YtjcambkjcagcoaaGreatN7
namespace Go.Proofs.YtjcambkjcagcoaaGreat
open Go.RowKit

set_option linter.unusedVariables false
/-- an algebra and a term are drawn, in blocks of their types -/
def RetDAtY (w : World) (e : Ending) (w' : World) : Prop := ∃ (L : List Int) (T : List (List Int)) (a : Option Addr) (ca : Nat) (b : Option Addr) (cb : Nat) (t : List Int) (at_ : Option Addr) (ct : Nat), e = .returned (.tuple #[.agg #[.slice a L.length ca, .slice b T.length cb], .slice at_ t.length ct]) ∧ (SomeP L T ∧ RY w' a L ∧ TY w' b T ∧ Below w.heap.size w w') ∧ RY w' at_ t ∧ t.length ≤ ct ∧ t.length ≤ 40
set_option maxRecDepth 100000 in
set_option maxHeartbeats 2000000 in
/-- spec.DrawRefuteTerm, its lists in blocks of their types -/
theorem drawRefuteTermY_any (a : Option Addr) (n cap : Nat) (w : World) (hy : RdY w a n w.heap.size) (hc : n ≤ cap) (hm : n ≤ 1048576) :
    Calls Tryz.prog 62 #[.slice a n cap] w (RetDAtY w) := by
  obtain ⟨w0, hw0⟩ : ∃ w0, w0 = w.alloc (.cells #[.slice none 0 0, .slice none 0 0] 26) := ⟨_, rfl⟩
  have hB : Below w.heap.size w w0 := by rw [hw0]; exact (Below.refl _ _).alloc (Nat.le_refl _) _
  have hz0 : w0.heap[w.heap.size]? = some (.cells #[.slice none 0 0, .slice none 0 0] 26 (0, 0)) := by rw [hw0]; exact heap_alloc_new w _
  have lz := lt_of_block hz0
  have hy0 := hy.up hB hB.size
  clear hy
  go_enter Tryz.func62, Tryz.ntmps62
  go_wp2_with (rw [← hw0]; clear hw0)
  refine (newReader_any a n cap w0 hy0 hc hm).mono ?_
  rintro e w1 ⟨rfl, hb1, hr1⟩
  have hs1 := hb1.size
  obtain ⟨g, hg⟩ : ∃ g : Nat, g = w0.heap.size := ⟨_, rfl⟩
  rw [← hg] at hr1 ⊢
  have lg : w.heap.size < g := by omega
  have hz1 := (hb1.block _ lz).trans hz0
  have hB1 : Below w.heap.size w w1 := hB.trans (hb1.mono hB.size)
  clear hg hz0 hb1 hy0
  go_wp2_with fail
  refine (someAlgebra_any g g 0 w1 hr1 (by omega)).mono ?_
  rintro e w2 ⟨L, T, va, vca, vb, vcb, rfl, hP, hR2, hT2, hg2, hr2⟩
  have hz2 := box_drawn hz1 (by omega) hg2
  go_wp2_with fail
  refine (lawOrTerm_any g g (0 + 12) w2 (hr2.more (by omega)) (by omega)).mono ?_
  rintro e w3 ⟨t, ta, tc, rfl, hry, hcp, hl, hg3, hr3⟩
  have hz := box_drawn hz2 (by omega) hg3
  have hk3 := kp_drawn hr2 hg3
  have hgg := grown_trans hg2 hg3
  have hk := kp_row hz (w' := w3.setRow w.heap.size #[.slice va L.length vca, .slice vb T.length vcb]) (fun k hk => setRow_other w3 _ k _ hk)
  have HD := Lib.hid (show SomeP L T ∧ RY (w3.setRow w.heap.size #[.slice va L.length vca, .slice vb T.length vcb]) va L ∧ TY (w3.setRow w.heap.size #[.slice va L.length vca, .slice vb T.length vcb]) vb T ∧ Below w.heap.size w (w3.setRow w.heap.size #[.slice va L.length vca, .slice vb T.length vcb]) from ⟨hP, (hR2.kp hk3).kp hk, (hT2.kp hk3).kp hk, below_setRow' (hB1.trans (grown_below hgg (by omega) hB1.size)) (Nat.le_refl _) _⟩)
  have HT := Lib.hid (hry.kp hk)
  clear hP hR2 hT2 hk hry hk3
  go_wp2_with (refine wpList_store_row rfl 26 _ _ rfl w.heap.size #[.slice va L.length vca, .slice vb T.length vcb] rfl rfl _ _ hz (size_Alg _ _) rfl (one_sl2 _ _ _ _ _ _) ?_)
  refine bodyPost_ret (v := .tuple #[.agg #[.slice va L.length vca, .slice vb T.length vcb], .slice ta t.length tc]) (results_Alg_tmp rfl _ _ w.heap.size rfl _ _ (setRow_heap _ _ _ _ _ _ hz) rfl) rfl ?_
  exact ⟨L, T, va, vca, vb, vcb, t, ta, tc, rfl, HD.out, HT.out, hcp, by omega⟩
set_option maxRecDepth 100000 in
set_option maxHeartbeats 1000000 in
/-- spec.DrawIsTrue -/
theorem drawIsTrue_any (a : Option Addr) (n cap : Nat) (w : World) (hy : RdY w a n w.heap.size) (hc : n ≤ cap) (hm : n ≤ 1048576) :
    Calls Tryz.prog 18 #[.slice a n cap] w (RetDAt w) := by
  obtain ⟨w0, hw0⟩ : ∃ w0, w0 = w.alloc (.cells #[.slice none 0 0, .slice none 0 0] 26) := ⟨_, rfl⟩
  have hB : Below w.heap.size w w0 := by rw [hw0]; exact (Below.refl _ _).alloc (Nat.le_refl _) _
  have hz0 : w0.heap[w.heap.size]? = some (.cells #[.slice none 0 0, .slice none 0 0] 26 (0, 0)) := by rw [hw0]; exact heap_alloc_new w _
  have lz := lt_of_block hz0
  have hy0 := hy.up hB hB.size
  clear hy
  go_enter Tryz.func18, Tryz.ntmps18
  go_wp2_with (rw [← hw0]; clear hw0)
  refine (drawRefuteTermY_any a n cap w0 hy0 hc hm).mono ?_
  rintro e w1 ⟨L, T, va, vca, vb, vcb, t, ta, tc, rfl, ⟨hP, hR, hT, hb1⟩, hry, hcp, hl⟩
  have hz1 := (hb1.block _ lz).trans hz0
  have hB1 : Below w.heap.size w w1 := hB.trans (hb1.mono hB.size)
  have hk := kp_row hz1 (w' := w1.setRow w.heap.size #[.slice va L.length vca, .slice vb T.length vcb]) (fun k hk => setRow_other w1 _ k _ hk)
  have HD := Lib.hid (show DrA w L T va vb (w1.setRow w.heap.size #[.slice va L.length vca, .slice vb T.length vcb]) from ⟨hP, (hR.kp hk).rd, (hT.kp hk).rd, below_setRow' hB1 (Nat.le_refl _) _⟩)
  have HT := Lib.hid (hry.kp hk).rd
  clear hP hR hT hk hz0 hb1 hry
  go_wp2_with (refine wpList_store_row rfl 26 _ _ rfl w.heap.size #[.slice va L.length vca, .slice vb T.length vcb] rfl rfl _ _ hz1 (size_Alg _ _) rfl (one_sl2 _ _ _ _ _ _) ?_)
  refine bodyPost_ret (v := .tuple #[.agg #[.slice va L.length vca, .slice vb T.length vcb], .slice ta t.length tc]) (results_Alg_tmp rfl _ _ w.heap.size rfl _ _ (setRow_heap _ _ _ _ _ _ hz1) rfl) rfl ?_
  exact ⟨L, T, va, vca, vb, vcb, t, ta, tc, rfl, HD.out, HT.out, hcp, hl⟩
end Go.Proofs.YtjcambkjcagcoaaGreat

namespace Go.Proofs.YtjcambkjcagcoaaGreat
open Go.RowKit

theorem enters_qof5 : Enters 14 := enters_of Tryz.func14 (by kernel_rfl) rfl
set_option maxRecDepth 100000 in
set_option maxHeartbeats 8000000 in
/-- laws.FnIsTrue -/
theorem lawPIsTrue (a0 : Option Addr) (len0 cap0 : Nat) (w : World) (hy : RdY w a0 len0 w.heap.size) (hc : len0 ≤ cap0) (hm : len0 ≤ maxLen) :
    Calls Tryz.prog 4 #[.slice a0 len0 cap0] w fun e w' => e = .returned (.bool true) ∧ Below w.heap.size w w' := by
  by_cases hbig : 1048576 < len0
  · have hbig2 : (1048576 : Int) < len0 := by omega
    go_enter Tryz.func4, Tryz.ntmps4
    go_wp2
    go_ret
    exact ⟨rfl, Below.refl _ _⟩
  · have hs : len0 ≤ 1048576 := by omega
    have hs2 : ¬ (1048576 : Int) < len0 := by omega
    go_enter Tryz.func4, Tryz.ntmps4
    go_wp2_with fail
    refine (drawIsTrue_any a0 len0 cap0 w hy hc hs).mono ?_
    rintro e w1 ⟨L, T, a, ca, b, cb, t, ta, tc, rfl, ⟨hP, hr, hT, hb⟩, htm, hct, hlt⟩
    have _ := hm
    clear hs hs2 hbig hy hm hc
    obtain ⟨l1, l7, t6, r6⟩ := someP_len hP
    have hM : (L.length : Int) ≤ 9223372036854775807 := by omega
    obtain ⟨g, hg⟩ : ∃ g, g = w1.heap.size := ⟨_, rfl⟩
    obtain ⟨w2, hw2⟩ : ∃ w2, w2 = w1.alloc (.cells #[.slice a L.length ca, .slice b T.length cb] 26) := ⟨_, rfl⟩
    have hB : Below w.heap.size w w2 := by rw [hw2]; exact hb.alloc hb.size _
    have hB2 : Below w1.heap.size w1 w2 := by rw [hw2]; exact (Below.refl _ _).alloc (Nat.le_refl _) _
    have hx2 : w2.heap[g]? = some (.cells #[.slice a L.length ca, .slice b T.length cb] 26 (0, 0)) := by rw [hw2, hg]; exact heap_alloc_new w1 _
    have KX := Lib.hid (show ∀ wz, Below w2.heap.size w2 wz → wz.heap[g]? = some (.cells #[.slice a L.length ca, .slice b T.length cb] 26 (0, 0)) from fun wz h => (h.block _ (lt_of_block hx2)).trans hx2)
    have K0 := Lib.hid (show ∀ wz, Below w2.heap.size w2 wz → wz.cell? ⟨g, 0, none⟩ = some (.slice a L.length ca) from fun wz h => (bx_cells (KX.out _ h)).1)
    have K1 := Lib.hid (show ∀ wz, Below w2.heap.size w2 wz → wz.cell? ⟨g, 1, none⟩ = some (.slice b T.length cb) from fun wz h => (bx_cells (KX.out _ h)).2)
    have KR := Lib.hid (show ∀ wz, Below w2.heap.size w2 wz → Rd wz a L from fun wz h => (hr.below hB2).below h)
    have KT := Lib.hid (show ∀ wz, Below w2.heap.size w2 wz → RdT wz b T from fun wz h => (hT.below hB2).below h)
    have Kt := Lib.hid (show ∀ wz, Below w2.heap.size w2 wz → Rd wz ta t from fun wz h => (htm.below hB2).below h)
    have FIN := Lib.hid (show ∀ wz, Below w2.heap.size w2 wz → Below w.heap.size w wz from fun wz h => hB.trans (h.mono hB.size))
    have z : Below w2.heap.size w2 w2 := Below.refl _ _
    have HP := Lib.hid hP
    clear htm hP hr hT hb hB hB2 hx2 r6
    have c0 := K0.out _ z
    have c1 := K1.out _ z
    have HSP := Lib.hid HP.out
    cases hav : algB L T && vtB t with
    | false =>
      have v1 := Lib.hid (show itB L T t = false by unfold itB; rw [hav]; rfl)
      cases ha : algB L T
      · have va := Lib.hid ha
        clear ha hav
        cases hv : vtB t
        all_goals
          have vt := Lib.hid hv
          clear hv
          go_wp2_with (first
          | go_skip
          | (refine wpList_store_row rfl 26 _ _ rfl w1.heap.size #[.slice a L.length ca, .slice b T.length cb] rfl rfl _ _ (heap_alloc_new w1 (.cells #[.slice none 0 0, .slice none 0 0] 26)) (size_Alg _ _) rfl (one_sl2 _ _ _ _ _ _) ?_; rw [World.setRow_alloc_new]; rw [← hw2, ← hg]; clear hw2 hg)
          | (refine wpList_store_row rfl 26 _ _ rfl w1.heap.size #[.slice a L.length ca, .slice (some ⟨B, off, none⟩) T.length cb] rfl rfl _ _ (heap_alloc_new w1 (.cells #[.slice none 0 0, .slice none 0 0] 26)) (size_Alg _ _) rfl (one_sl2 _ _ _ _ _ _) ?_; rw [World.setRow_alloc_new]; rw [← hw2, ← hg]; clear hw2 hg)
          | (refine wpList_load_row_w rfl 26 _ rfl g rfl _ _ _ _ (KX.out _ z) Tryz.underlying26 rfl (size_Alg _ _) ?_)
          | (go_at_call 19; refine (ret_to (implIsTrue_any _ _ _ _ L T _ _ t _ (KR.out _ z) (KT.out _ z) (Kt.out _ z) (by omega) hct) (congrArg Value.bool v1.out)).mono ?_; rintro e wz ⟨rfl, hb⟩; replace z := z.trans (hb.mono z.size); (try clear c0 c1); have c0 := K0.out _ z; have c1 := K1.out _ z; (try replace q1 := Q1.out _ z); (try replace q2 := Q2.out _ z))
          | (go_at_call 20; refine (ret_to (specIsTrue_any _ _ _ _ L T _ _ t _ (KR.out _ z) (KT.out _ z) (Kt.out _ z) (by omega)) (congrArg Value.bool v1.out)).mono ?_; rintro e wz ⟨rfl, hb⟩; replace z := z.trans (hb.mono z.size); (try clear c0 c1); have c0 := K0.out _ z; have c1 := K1.out _ z; (try replace q1 := Q1.out _ z); (try replace q2 := Q2.out _ z))
          | (go_at_call 12; refine (ret_to (implValidAlgebra_any _ _ _ _ L T _ (KR.out _ z) (KT.out _ z)) (congrArg Value.bool va.out)).mono ?_; rintro e wz ⟨rfl, hb⟩; replace z := z.trans (hb.mono z.size); (try clear c0 c1); have c0 := K0.out _ z; have c1 := K1.out _ z; (try replace q1 := Q1.out _ z); (try replace q2 := Q2.out _ z))
          | (go_at_call 21; refine (ret_to (implValidTerm_any _ _ t _ (Kt.out _ z) (by omega) hct) (congrArg Value.bool vt.out)).mono ?_; rintro e wz ⟨rfl, hb⟩; replace z := z.trans (hb.mono z.size); (try clear c0 c1); have c0 := K0.out _ z; have c1 := K1.out _ z; (try replace q1 := Q1.out _ z); (try replace q2 := Q2.out _ z)))
          go_ret
          exact ⟨rfl, FIN.out _ z⟩
      · rw [ha, Bool.true_and] at hav
        have va := Lib.hid ha
        have vt := Lib.hid hav
        clear ha hav
        go_wp2_with (first
        | go_skip
        | (refine wpList_store_row rfl 26 _ _ rfl w1.heap.size #[.slice a L.length ca, .slice b T.length cb] rfl rfl _ _ (heap_alloc_new w1 (.cells #[.slice none 0 0, .slice none 0 0] 26)) (size_Alg _ _) rfl (one_sl2 _ _ _ _ _ _) ?_; rw [World.setRow_alloc_new]; rw [← hw2, ← hg]; clear hw2 hg)
        | (refine wpList_store_row rfl 26 _ _ rfl w1.heap.size #[.slice a L.length ca, .slice (some ⟨B, off, none⟩) T.length cb] rfl rfl _ _ (heap_alloc_new w1 (.cells #[.slice none 0 0, .slice none 0 0] 26)) (size_Alg _ _) rfl (one_sl2 _ _ _ _ _ _) ?_; rw [World.setRow_alloc_new]; rw [← hw2, ← hg]; clear hw2 hg)
        | (refine wpList_load_row_w rfl 26 _ rfl g rfl _ _ _ _ (KX.out _ z) Tryz.underlying26 rfl (size_Alg _ _) ?_)
        | (go_at_call 19; refine (ret_to (implIsTrue_any _ _ _ _ L T _ _ t _ (KR.out _ z) (KT.out _ z) (Kt.out _ z) (by omega) hct) (congrArg Value.bool v1.out)).mono ?_; rintro e wz ⟨rfl, hb⟩; replace z := z.trans (hb.mono z.size); (try clear c0 c1); have c0 := K0.out _ z; have c1 := K1.out _ z; (try replace q1 := Q1.out _ z); (try replace q2 := Q2.out _ z))
        | (go_at_call 20; refine (ret_to (specIsTrue_any _ _ _ _ L T _ _ t _ (KR.out _ z) (KT.out _ z) (Kt.out _ z) (by omega)) (congrArg Value.bool v1.out)).mono ?_; rintro e wz ⟨rfl, hb⟩; replace z := z.trans (hb.mono z.size); (try clear c0 c1); have c0 := K0.out _ z; have c1 := K1.out _ z; (try replace q1 := Q1.out _ z); (try replace q2 := Q2.out _ z))
        | (go_at_call 12; refine (ret_to (implValidAlgebra_any _ _ _ _ L T _ (KR.out _ z) (KT.out _ z)) (congrArg Value.bool va.out)).mono ?_; rintro e wz ⟨rfl, hb⟩; replace z := z.trans (hb.mono z.size); (try clear c0 c1); have c0 := K0.out _ z; have c1 := K1.out _ z; (try replace q1 := Q1.out _ z); (try replace q2 := Q2.out _ z))
        | (go_at_call 21; refine (ret_to (implValidTerm_any _ _ t _ (Kt.out _ z) (by omega) hct) (congrArg Value.bool vt.out)).mono ?_; rintro e wz ⟨rfl, hb⟩; replace z := z.trans (hb.mono z.size); (try clear c0 c1); have c0 := K0.out _ z; have c1 := K1.out _ z; (try replace q1 := Q1.out _ z); (try replace q2 := Q2.out _ z)))
        go_ret
        exact ⟨rfl, FIN.out _ z⟩
    | true =>
      have hrf := rf_it hav
      obtain ⟨ha, hv⟩ := Bool.and_eq_true_iff.1 hav
      obtain ⟨V, hV⟩ : ∃ V, V = algV L T (fls L T) := ⟨_, rfl⟩
      have HI := Lib.hid (show ∀ (a b : Option Addr) (ca cb : Nat) (w : World), Rd w a L → RdT w b T → Calls Tryz.prog 22 #[.agg #[.slice a L.length ca, .slice b T.length cb]] w (RetSl w.heap.size V w) from fun a b ca cb w h1 h2 => by rw [hV]; exact implFiltersOf_any a b ca cb L T w h1 h2)
      replace hV : V = fls L T := by rw [hV]; unfold algV; rw [ha]; rfl
      have l6 := (latB_parts (alg_lat ha)).2.1
      have hM3 : V.length ≤ 64 := by rw [hV]; exact fls_len L T l6
      have va := Lib.hid ha
      have vt := Lib.hid hv
      cases ho : itB L T t with
      | false =>
        have v1 := Lib.hid ho
        rw [ho] at hrf
        have HRF := Lib.hid (show ∀ (w : World), Rd w a L → RdT w b T → Rd w ta t → Calls Tryz.prog 23 #[.agg #[.slice a L.length ca, .slice b T.length cb], .slice ta t.length tc] w (RetGsb ((rfI L T t).getD []) true w) from fun w h1 h2 h3 => by rw [show true = (rfI L T t).isSome by rw [hrf]; rfl]; exact implRefuteTerm_any _ _ _ _ L T _ _ t w h1 h2 h3 (by omega) hct)
        have HFL := Lib.hid (fun (wz : World) (gx : Nat) (h1 : Below w2.heap.size w2 wz) (h2 : wz.heap[gx]? = some (.cells #[.int .i64 11] 3 (0, 0))) => show Calls Tryz.prog 24 #[.agg #[.slice a L.length ca, .slice b T.length cb], .slice (some ⟨gx, 0, none⟩) 1 1, .slice ta t.length tc] wz fun e w' => e = .returned (.bool false) ∧ Below wz.heap.size wz w' from ret_to (implFollows_any a b ca cb L T (some ⟨gx, 0, none⟩) 1 [11] ta tc t wz (KR.out _ h1) (KT.out _ h1) (Row.rd (show Row wz gx [11] from h2)) (Kt.out _ h1) (by simp) (by omega) (by simp) hct) (congrArg Value.bool ((fl_top L T t).trans ho)))
        clear ha hv hav hV l6 ho hrf
        go_wp2_with (first
        | go_skip
        | (refine wpList_store_row rfl 26 _ _ rfl w1.heap.size #[.slice a L.length ca, .slice b T.length cb] rfl rfl _ _ (heap_alloc_new w1 (.cells #[.slice none 0 0, .slice none 0 0] 26)) (size_Alg _ _) rfl (one_sl2 _ _ _ _ _ _) ?_; rw [World.setRow_alloc_new]; rw [← hw2, ← hg]; clear hw2 hg)
        | (refine wpList_store_row rfl 26 _ _ rfl w1.heap.size #[.slice a L.length ca, .slice (some ⟨B, off, none⟩) T.length cb] rfl rfl _ _ (heap_alloc_new w1 (.cells #[.slice none 0 0, .slice none 0 0] 26)) (size_Alg _ _) rfl (one_sl2 _ _ _ _ _ _) ?_; rw [World.setRow_alloc_new]; rw [← hw2, ← hg]; clear hw2 hg)
        | (refine wpList_load_row_w rfl 26 _ rfl g rfl _ _ _ _ (KX.out _ z) Tryz.underlying26 rfl (size_Alg _ _) ?_)
        | (go_at_call 19; refine (ret_to (implIsTrue_any _ _ _ _ L T _ _ t _ (KR.out _ z) (KT.out _ z) (Kt.out _ z) (by omega) hct) (congrArg Value.bool v1.out)).mono ?_; rintro e wz ⟨rfl, hb⟩; replace z := z.trans (hb.mono z.size); (try clear c0 c1); have c0 := K0.out _ z; have c1 := K1.out _ z; (try replace q1 := Q1.out _ z); (try replace q2 := Q2.out _ z))
        | (go_at_call 20; refine (ret_to (specIsTrue_any _ _ _ _ L T _ _ t _ (KR.out _ z) (KT.out _ z) (Kt.out _ z) (by omega)) (congrArg Value.bool v1.out)).mono ?_; rintro e wz ⟨rfl, hb⟩; replace z := z.trans (hb.mono z.size); (try clear c0 c1); have c0 := K0.out _ z; have c1 := K1.out _ z; (try replace q1 := Q1.out _ z); (try replace q2 := Q2.out _ z))
        | (go_at_call 12; refine (ret_to (implValidAlgebra_any _ _ _ _ L T _ (KR.out _ z) (KT.out _ z)) (congrArg Value.bool va.out)).mono ?_; rintro e wz ⟨rfl, hb⟩; replace z := z.trans (hb.mono z.size); (try clear c0 c1); have c0 := K0.out _ z; have c1 := K1.out _ z; (try replace q1 := Q1.out _ z); (try replace q2 := Q2.out _ z))
        | (go_at_call 21; refine (ret_to (implValidTerm_any _ _ t _ (Kt.out _ z) (by omega) hct) (congrArg Value.bool vt.out)).mono ?_; rintro e wz ⟨rfl, hb⟩; replace z := z.trans (hb.mono z.size); (try clear c0 c1); have c0 := K0.out _ z; have c1 := K1.out _ z; (try replace q1 := Q1.out _ z); (try replace q2 := Q2.out _ z))
        | (go_at_call 22; refine (HI.out _ _ _ _ _ (KR.out _ z) (KT.out _ z)).mono ?_; rintro e wz ⟨aT, cT, rfl, oT, hb⟩; replace z := z.trans (hb.mono z.size); (try clear c0 c1); have c0 := K0.out _ z; have c1 := K1.out _ z; (try replace q1 := Q1.out _ z); (try replace q2 := Q2.out _ z); (try replace hT := hT.below hb); (try replace hU := hU.below hb); have hT : Rd wz aT V := oT.rd; clear oT))
        clear c0 c1
        go_loopw [7, 8, 9, 10] (fun iv _ _ _ wr => iv = .int .i64 0 ∧ Below w2.heap.size w2 wr) (fun iv _ _ _ _ => 0)
        case atStart => exact ⟨rfl, z⟩
        case round =>
          clear z
          obtain ⟨rfl, z⟩ := hrel
          by_cases h00 : (0 : Int) < V.length
          all_goals
            have c0 := K0.out _ z
            have c1 := K1.out _ z
            go_wp2_with (first
              | go_skip
              | (refine wpList_store_row rfl 26 _ _ rfl w1.heap.size #[.slice a L.length ca, .slice b T.length cb] rfl rfl _ _ (heap_alloc_new w1 (.cells #[.slice none 0 0, .slice none 0 0] 26)) (size_Alg _ _) rfl (one_sl2 _ _ _ _ _ _) ?_; rw [World.setRow_alloc_new]; rw [← hw2, ← hg]; clear hw2 hg)
              | (refine wpList_store_row rfl 26 _ _ rfl w1.heap.size #[.slice a L.length ca, .slice (some ⟨B, off, none⟩) T.length cb] rfl rfl _ _ (heap_alloc_new w1 (.cells #[.slice none 0 0, .slice none 0 0] 26)) (size_Alg _ _) rfl (one_sl2 _ _ _ _ _ _) ?_; rw [World.setRow_alloc_new]; rw [← hw2, ← hg]; clear hw2 hg)
              | (refine wpList_load_row_w rfl 26 _ rfl g rfl _ _ _ _ (KX.out _ z) Tryz.underlying26 rfl (size_Alg _ _) ?_)
              | (go_at_call 23; refine (HRF.out _ (KR.out _ z) (KT.out _ z) (Kt.out _ z)).mono ?_; rintro e wG ⟨ga, gn, gc, rfl, gG, hb⟩; replace z := z.trans (hb.mono z.size); (try clear c0 c1); have c0 := K0.out _ z; have c1 := K1.out _ z; (try replace q1 := Q1.out _ z); (try replace q2 := Q2.out _ z))
              | (go_at_call 24; refine (HFL.out _ _ (z.alloc z.size _) (heap_alloc_new _ _)).mono ?_; rintro e wF ⟨rfl, hb⟩; replace z := (z.alloc z.size _).trans (hb.mono (z.alloc z.size _).size)))
            go_ret
            exact ⟨by first | rfl | exact ret_bool (by simp), FIN.out _ z⟩
      | true =>
        have v1 := Lib.hid ho
        rw [ho] at hrf
        have HRF := Lib.hid (show ∀ (w : World), Rd w a L → RdT w b T → Rd w ta t → Calls Tryz.prog 23 #[.agg #[.slice a L.length ca, .slice b T.length cb], .slice ta t.length tc] w (RetGsb ((rfI L T t).getD []) false w) from fun w h1 h2 h3 => by rw [show false = (rfI L T t).isSome by rw [hrf]; rfl]; exact implRefuteTerm_any _ _ _ _ L T _ _ t w h1 h2 h3 (by omega) hct)
        have HFL := Lib.hid (fun (wz : World) (gx : Nat) (h1 : Below w2.heap.size w2 wz) (h2 : wz.heap[gx]? = some (.cells #[.int .i64 11] 3 (0, 0))) => show Calls Tryz.prog 24 #[.agg #[.slice a L.length ca, .slice b T.length cb], .slice (some ⟨gx, 0, none⟩) 1 1, .slice ta t.length tc] wz fun e w' => e = .returned (.bool true) ∧ Below wz.heap.size wz w' from ret_to (implFollows_any a b ca cb L T (some ⟨gx, 0, none⟩) 1 [11] ta tc t wz (KR.out _ h1) (KT.out _ h1) (Row.rd (show Row wz gx [11] from h2)) (Kt.out _ h1) (by simp) (by omega) (by simp) hct) (congrArg Value.bool ((fl_top L T t).trans ho)))
        have HE := Lib.hid (show ∀ i : Int, 0 ≤ i → i < V.length → afB L T (nth V i) = true ∧ itB (quL L T (nth V i)) (quTb L T (nth V i)) t = true from fun i i0 i1 => it_hom (sg_hom HSP.out ha (by have := nth_mem' V i0 i1; rw [hV] at this ⊢; exact this)) ho)
        clear ha hv hav hV l6 ho hrf HSP
        go_wp2_with (first
        | go_skip
        | (refine wpList_store_row rfl 26 _ _ rfl w1.heap.size #[.slice a L.length ca, .slice b T.length cb] rfl rfl _ _ (heap_alloc_new w1 (.cells #[.slice none 0 0, .slice none 0 0] 26)) (size_Alg _ _) rfl (one_sl2 _ _ _ _ _ _) ?_; rw [World.setRow_alloc_new]; rw [← hw2, ← hg]; clear hw2 hg)
        | (refine wpList_store_row rfl 26 _ _ rfl w1.heap.size #[.slice a L.length ca, .slice (some ⟨B, off, none⟩) T.length cb] rfl rfl _ _ (heap_alloc_new w1 (.cells #[.slice none 0 0, .slice none 0 0] 26)) (size_Alg _ _) rfl (one_sl2 _ _ _ _ _ _) ?_; rw [World.setRow_alloc_new]; rw [← hw2, ← hg]; clear hw2 hg)
        | (refine wpList_load_row_w rfl 26 _ rfl g rfl _ _ _ _ (KX.out _ z) Tryz.underlying26 rfl (size_Alg _ _) ?_)
        | (go_at_call 19; refine (ret_to (implIsTrue_any _ _ _ _ L T _ _ t _ (KR.out _ z) (KT.out _ z) (Kt.out _ z) (by omega) hct) (congrArg Value.bool v1.out)).mono ?_; rintro e wz ⟨rfl, hb⟩; replace z := z.trans (hb.mono z.size); (try clear c0 c1); have c0 := K0.out _ z; have c1 := K1.out _ z; (try replace q1 := Q1.out _ z); (try replace q2 := Q2.out _ z))
        | (go_at_call 20; refine (ret_to (specIsTrue_any _ _ _ _ L T _ _ t _ (KR.out _ z) (KT.out _ z) (Kt.out _ z) (by omega)) (congrArg Value.bool v1.out)).mono ?_; rintro e wz ⟨rfl, hb⟩; replace z := z.trans (hb.mono z.size); (try clear c0 c1); have c0 := K0.out _ z; have c1 := K1.out _ z; (try replace q1 := Q1.out _ z); (try replace q2 := Q2.out _ z))
        | (go_at_call 12; refine (ret_to (implValidAlgebra_any _ _ _ _ L T _ (KR.out _ z) (KT.out _ z)) (congrArg Value.bool va.out)).mono ?_; rintro e wz ⟨rfl, hb⟩; replace z := z.trans (hb.mono z.size); (try clear c0 c1); have c0 := K0.out _ z; have c1 := K1.out _ z; (try replace q1 := Q1.out _ z); (try replace q2 := Q2.out _ z))
        | (go_at_call 21; refine (ret_to (implValidTerm_any _ _ t _ (Kt.out _ z) (by omega) hct) (congrArg Value.bool vt.out)).mono ?_; rintro e wz ⟨rfl, hb⟩; replace z := z.trans (hb.mono z.size); (try clear c0 c1); have c0 := K0.out _ z; have c1 := K1.out _ z; (try replace q1 := Q1.out _ z); (try replace q2 := Q2.out _ z))
        | (go_at_call 22; refine (HI.out _ _ _ _ _ (KR.out _ z) (KT.out _ z)).mono ?_; rintro e wz ⟨aT, cT, rfl, oT, hb⟩; replace z := z.trans (hb.mono z.size); (try clear c0 c1); have c0 := K0.out _ z; have c1 := K1.out _ z; (try replace q1 := Q1.out _ z); (try replace q2 := Q2.out _ z); (try replace hT := hT.below hb); (try replace hU := hU.below hb); have hT : Rd wz aT V := oT.rd; clear oT))
        clear c0 c1
        go_loopw [7, 8, 9, 10] (fun iv _ _ _ wr => ∃ i : Int, 0 ≤ i ∧ i ≤ V.length ∧ iv = .int .i64 i ∧ Below w2.heap.size w2 wr ∧ Rd wr aT V) (fun iv _ _ _ _ => ((V.length : Int) - intOf iv).toNat)
        case atStart => exact ⟨0, by omega, by omega, rfl, z, hT⟩
        case round =>
          clear z hT
          obtain ⟨i, i0, i1, rfl, z, hT⟩ := hrel
          by_cases hi : i < V.length
          · obtain ⟨hAF, hSI⟩ := HE.out i i0 hi
            have hT' := hT
            obtain ⟨b2, o2, rfl, hc2⟩ := hT' (by intro e; rw [e] at hi; simp at hi; omega)
            have d1 := hc2.at i i0 hi
            have KV := Lib.hid (show ∀ wz, Below wr.heap.size wr wz → wz.cell? ⟨b2, o2 + i.toNat, none⟩ = some (.int .i64 (nth V i)) from fun wz h => (h.cell (by exact block_lt_of_cell d1)).trans d1)
            obtain ⟨f, hf⟩ : ∃ f, f = nth V i := ⟨_, rfl⟩
            rw [← hf] at d1 hAF hSI KV
            obtain ⟨QL, hQL⟩ : ∃ q, q = quL L T f := ⟨_, rfl⟩
            obtain ⟨QT, hQT⟩ : ∃ q, q = quTb L T f := ⟨_, rfl⟩
            rw [← hQL, ← hQT] at hSI
            have HQU := Lib.hid (show ∀ (w : World), Rd w a L → RdT w b T → Calls Tryz.prog 14 #[.agg #[.slice a L.length ca, .slice b T.length cb], .int .i64 f] w (RetGAsb QL QT (quTo L T f) true w) from fun w h1 h2 => by rw [hQL, hQT, ← hAF]; exact implQuotientOf_any _ _ _ _ L T f w h1 h2)
            obtain ⟨QW, hQW⟩ : ∃ q, q = quTo L T f := ⟨_, rfl⟩
            rw [← hQW] at HQU
            have HSI := Lib.hid hSI
            clear hc2 hQL hQT hQW hf hAF hSI
            go_wp2
            go_cut [8, 10] (fun sg sb wx => ∃ (ra : Option Addr) (rn rc : Nat) (rb : Option Addr) (rm rd g8 : Nat), sg = .pointer (some ⟨g8, 0, none⟩) ∧ sb = .bool true ∧ wx.heap[g8]? = some (.cells #[.slice ra rn rc, .slice rb rm rd] 26 (0, 0)) ∧ RA wx (.slice ra rn rc) (.slice rb rm rd) QL QT ∧ Below wr.heap.size wr wx)
            case first =>
              clear d1
              refine wp_region_any (by kernel_rfl) ?_
              refine any_of_C (C := fun wz => Below wr.heap.size wr wz) _ _ _ _ ?_
              refine anyC_take (i := 0) (v := .agg #[.slice a L.length ca, .slice b T.length cb]) rfl (by kernel_rfl) (by kernel_rfl) (by kernel_rfl) (fun _ _ _ h => h) (.inl ⟨rfl, fun wz hz => runs_load (C := fun wz => Below wr.heap.size wr wz) 26 _ rfl g rfl _ _ _ _ (fun w hw => KX.out _ (z.trans (hw.mono z.size))) Tryz.underlying26 rfl (size_Alg _ _) wz hz⟩) ?_
              refine anyC_take (i := 1) (v := .slice (some ⟨b2, o2, none⟩) V.length cT) rfl (by kernel_rfl) (by kernel_rfl) (by kernel_rfl) (fun _ _ _ h => h) (.inl ⟨rfl, fun wz hz => by apply runs_move1 <;> rfl⟩) ?_
              refine anyC_take (i := 2) (v := .int .i64 i) rfl (by kernel_rfl) (by kernel_rfl) (by kernel_rfl) (fun _ _ _ h => h) (.inl ⟨rfl, fun wz hz => by apply runs_move1 <;> rfl⟩) ?_
              refine anyC_take (i := 3) (v := .pointer (some ⟨b2, o2 + i.toNat, none⟩)) rfl (by kernel_rfl) (by kernel_rfl) (by kernel_rfl) (fun _ _ _ h => h) (.inl ⟨rfl, fun wz hz => by go_simp⟩) ?_
              refine anyC_take (i := 4) (v := .int .i64 f) rfl (by kernel_rfl) (by kernel_rfl) (by kernel_rfl) (fun _ _ _ h => h) (.inl ⟨rfl, fun wz hz => by have c := KV.out _ hz; go_simp⟩) ?_
              have zd : Below wr.heap.size wr (wr.drewN 1) := Dr.below ⟨1, rfl⟩ _
              obtain ⟨wd, hwd⟩ : ∃ x : World, x = wr.drewN 1 := ⟨_, rfl⟩
              change wpAnyC _ _ _ _ _ _ _ _ (wr.drewN 1)
              rw [← hwd] at zd ⊢
              clear hwd
              try simp only [List.getElem_toArray, List.getElem_cons_zero, List.getElem_cons_succ, Act.put, List.setIfInBounds_toArray, List.set_cons_succ, List.set_cons_zero]
              have zs := z.size
              refine anyC_two (i := 5) (j := 10) (f := 14) (args := #[.agg #[.slice a L.length ca, .slice b T.length cb], .int .i64 f]) rfl rfl (by kernel_rfl) rfl (by apply runs_call2 (he := enters_qof5) <;> rfl) zd ?_ ?_
              · have zw := z.trans (zd.mono zs)
                refine (HQU.out wd (KR.out _ zw) (KT.out _ zw)).mono ?_
                rintro e w5 ⟨ra, rn, rc, rb, rm, rd, rs, rk, rq, rz, rfl, gr, _, rl1, rl2, hbr⟩
                refine ⟨_, rfl, ?_⟩
                try simp only [List.getElem_toArray, List.getElem_cons_zero, List.getElem_cons_succ, Act.put, List.setIfInBounds_toArray, List.set_cons_succ, List.set_cons_zero]
                have y5 := zd.trans (hbr.mono zd.size)
                refine anyC_take (i := 6) (v := .tuple #[.agg #[.slice ra rn rc, .slice rb rm rd], .slice rs rk rq, .bool true]) rfl (by kernel_rfl) (by kernel_rfl) (by kernel_rfl) (fun _ _ _ h => h) (.inl ⟨rfl, fun wz hz => by apply runs_move1 <;> rfl⟩) ?_
                try simp only [List.getElem_toArray, List.getElem_cons_zero, List.getElem_cons_succ, Act.put, List.setIfInBounds_toArray, List.set_cons_succ, List.set_cons_zero]
                refine anyC_take (i := 7) (v := .agg #[.slice ra rn rc, .slice rb rm rd]) rfl (by kernel_rfl) (by kernel_rfl) (by kernel_rfl) (fun _ _ _ h => h) (.inl ⟨rfl, fun wz hz => by apply runs_extract <;> rfl⟩) ?_
                try simp only [List.getElem_toArray, List.getElem_cons_zero, List.getElem_cons_succ, Act.put, List.setIfInBounds_toArray, List.set_cons_succ, List.set_cons_zero]
                refine anyC_take (i := 8) (v := .slice rs rk rq) rfl (by kernel_rfl) (by kernel_rfl) (by kernel_rfl) (fun _ _ _ h => h) (.inl ⟨rfl, fun wz hz => by apply runs_extract <;> rfl⟩) ?_
                try simp only [List.getElem_toArray, List.getElem_cons_zero, List.getElem_cons_succ, Act.put, List.setIfInBounds_toArray, List.set_cons_succ, List.set_cons_zero]
                refine anyC_take (i := 9) (v := .bool true) rfl (by kernel_rfl) (by kernel_rfl) (by kernel_rfl) (fun _ _ _ h => h) (.inl ⟨rfl, fun wz hz => by apply runs_extract <;> rfl⟩) ?_
                try simp only [List.getElem_toArray, List.getElem_cons_zero, List.getElem_cons_succ, Act.put, List.setIfInBounds_toArray, List.set_cons_succ, List.set_cons_zero]
                refine anyC_law (i := 10) rfl (by kernel_rfl) y5 ?_
                go_wp2_with fail
                obtain ⟨g8, hg8⟩ : ∃ x : Nat, x = w5.heap.size := ⟨_, rfl⟩
                obtain ⟨wA, hwA⟩ : ∃ x : World, x = w5.alloc (.cells #[.slice none 0 0, .slice none 0 0] 26) := ⟨_, rfl⟩
                rw [← hwA, ← hg8]
                have hzg : wA.heap[g8]? = some (.cells #[.slice none 0 0, .slice none 0 0] 26 (0, 0)) := by rw [hwA, hg8]; exact heap_alloc_new w5 _
                have lg : wr.heap.size ≤ g8 := by rw [hg8]; exact y5.size
                have lq : w5.heap.size ≤ g8 := Nat.le_of_eq hg8.symm
                have qA : Below w5.heap.size w5 wA := by rw [hwA]; exact (Below.refl _ _).alloc (Nat.le_refl _) _
                have yA := y5.trans (qA.mono y5.size)
                replace gr := gr.below qA
                clear hwA hg8
                try simp only [List.getElem_toArray, List.getElem_cons_zero, List.getElem_cons_succ, Act.put, List.setIfInBounds_toArray, List.set_cons_succ, List.set_cons_zero]
                refine anyC_law (i := 11) rfl (by kernel_rfl) yA ?_
                refine wpList_store_row rfl 26 _ _ rfl g8 #[.slice ra rn rc, .slice rb rm rd] rfl rfl _ _ hzg (size_Alg _ _) rfl (one_sl2 _ _ _ _ _ _) ?_
                unfold wpList
                have yB := below_setRow' yA (show wr.heap.size ≤ g8 from lg) #[.slice ra rn rc, .slice rb rm rd]
                have hra := (gr.keep (fun k k1 k2 _ => setRow_other _ g8 k #[.slice ra rn rc, .slice rb rm rd] (by omega))).rd
                refine anyC_law (i := 12) rfl (by kernel_rfl) yB ?_
                go_wp2_with fail
                try simp only [List.getElem_toArray, List.getElem_cons_zero, List.getElem_cons_succ, Act.put, List.setIfInBounds_toArray, List.set_cons_succ, List.set_cons_zero]
                refine anyC_law (i := 13) rfl (by kernel_rfl) yB ?_
                go_wp2_with fail
                try simp only [List.getElem_toArray, List.getElem_cons_zero, List.getElem_cons_succ, Act.put, List.setIfInBounds_toArray, List.set_cons_succ, List.set_cons_zero]
                refine anyC_done (by kernel_rfl) yB ?_ _
                try simp only [List.getElem_toArray, List.getElem_cons_zero, List.getElem_cons_succ, Act.put, List.setIfInBounds_toArray, List.set_cons_succ, List.set_cons_zero]
                go_wp2_with fail
                go_meet
                exact ⟨ra, rn, rc, rb, rm, rd, g8, rfl, rfl, setRow_heap _ _ _ _ _ _ hzg, hra, yB⟩
              · have zw := z.trans (zd.mono zs)
                go_wp2_with fail
                obtain ⟨g8, hg8⟩ : ∃ x : Nat, x = wd.heap.size := ⟨_, rfl⟩
                obtain ⟨wB, hwA⟩ : ∃ x : World, x = wd.alloc (.cells #[.slice none 0 0, .slice none 0 0] 26) := ⟨_, rfl⟩
                rw [← hwA, ← hg8]
                have hzB : wB.heap[g8]? = some (.cells #[.slice none 0 0, .slice none 0 0] 26 (0, 0)) := by rw [hwA, hg8]; exact heap_alloc_new wd _
                have lg : wr.heap.size ≤ g8 := by rw [hg8]; exact zd.size
                have lq : g8 < wB.heap.size := lt_of_block hzB
                have qA : Below wd.heap.size wd wB := by rw [hwA]; exact (Below.refl _ _).alloc (Nat.le_refl _) _
                have yb := zd.trans (qA.mono zd.size)
                have zb := z.trans (yb.mono zs)
                clear hwA hg8
                try simp only [List.getElem_toArray, List.getElem_cons_zero, List.getElem_cons_succ, Act.put, List.setIfInBounds_toArray, List.set_cons_succ, List.set_cons_zero]
                refine anyC_call (i := 5) (o := _) (f := 14) (args := #[.agg #[.slice a L.length ca, .slice b T.length cb], .int .i64 f]) rfl (by kernel_rfl) rfl (by apply runs_call2 (he := enters_qof5) <;> rfl) yb ?_
                refine (HQU.out wB (KR.out _ zb) (KT.out _ zb)).mono ?_
                rintro e wA ⟨ra, rn, rc, rb, rm, rd, rs, rk, rq, rz, rfl, gr, _, rl1, rl2, hbr⟩
                refine ⟨_, rfl, ?_⟩
                try simp only [List.getElem_toArray, List.getElem_cons_zero, List.getElem_cons_succ, Act.put, List.setIfInBounds_toArray, List.set_cons_succ, List.set_cons_zero]
                have yA := yb.trans (hbr.mono yb.size)
                have hzg := (hbr.block _ (lt_of_block hzB)).trans hzB
                refine anyC_take (i := 6) (v := .tuple #[.agg #[.slice ra rn rc, .slice rb rm rd], .slice rs rk rq, .bool true]) rfl (by kernel_rfl) (by kernel_rfl) (by kernel_rfl) (fun _ _ _ h => h) (.inl ⟨rfl, fun wz hz => by apply runs_move1 <;> rfl⟩) ?_
                try simp only [List.getElem_toArray, List.getElem_cons_zero, List.getElem_cons_succ, Act.put, List.setIfInBounds_toArray, List.set_cons_succ, List.set_cons_zero]
                refine anyC_take (i := 7) (v := .agg #[.slice ra rn rc, .slice rb rm rd]) rfl (by kernel_rfl) (by kernel_rfl) (by kernel_rfl) (fun _ _ _ h => h) (.inl ⟨rfl, fun wz hz => by apply runs_extract <;> rfl⟩) ?_
                try simp only [List.getElem_toArray, List.getElem_cons_zero, List.getElem_cons_succ, Act.put, List.setIfInBounds_toArray, List.set_cons_succ, List.set_cons_zero]
                refine anyC_take (i := 8) (v := .slice rs rk rq) rfl (by kernel_rfl) (by kernel_rfl) (by kernel_rfl) (fun _ _ _ h => h) (.inl ⟨rfl, fun wz hz => by apply runs_extract <;> rfl⟩) ?_
                try simp only [List.getElem_toArray, List.getElem_cons_zero, List.getElem_cons_succ, Act.put, List.setIfInBounds_toArray, List.set_cons_succ, List.set_cons_zero]
                refine anyC_take (i := 9) (v := .bool true) rfl (by kernel_rfl) (by kernel_rfl) (by kernel_rfl) (fun _ _ _ h => h) (.inl ⟨rfl, fun wz hz => by apply runs_extract <;> rfl⟩) ?_
                try simp only [List.getElem_toArray, List.getElem_cons_zero, List.getElem_cons_succ, Act.put, List.setIfInBounds_toArray, List.set_cons_succ, List.set_cons_zero]
                refine anyC_law (i := 11) rfl (by kernel_rfl) yA ?_
                refine wpList_store_row rfl 26 _ _ rfl g8 #[.slice ra rn rc, .slice rb rm rd] rfl rfl _ _ hzg (size_Alg _ _) rfl (one_sl2 _ _ _ _ _ _) ?_
                unfold wpList
                have yB := below_setRow' yA (show wr.heap.size ≤ g8 from lg) #[.slice ra rn rc, .slice rb rm rd]
                have hra := (gr.keep (fun k k1 k2 _ => setRow_other _ g8 k #[.slice ra rn rc, .slice rb rm rd] (by omega))).rd
                refine anyC_law (i := 12) rfl (by kernel_rfl) yB ?_
                go_wp2_with fail
                try simp only [List.getElem_toArray, List.getElem_cons_zero, List.getElem_cons_succ, Act.put, List.setIfInBounds_toArray, List.set_cons_succ, List.set_cons_zero]
                refine anyC_law (i := 13) rfl (by kernel_rfl) yB ?_
                go_wp2_with fail
                try simp only [List.getElem_toArray, List.getElem_cons_zero, List.getElem_cons_succ, Act.put, List.setIfInBounds_toArray, List.set_cons_succ, List.set_cons_zero]
                refine anyC_done (by kernel_rfl) yB ?_ _
                try simp only [List.getElem_toArray, List.getElem_cons_zero, List.getElem_cons_succ, Act.put, List.setIfInBounds_toArray, List.set_cons_succ, List.set_cons_zero]
                go_wp2_with fail
                go_meet
                exact ⟨ra, rn, rc, rb, rm, rd, g8, rfl, rfl, setRow_heap _ _ _ _ _ _ hzg, hra, yB⟩
            case rest =>
              obtain ⟨ra, rn, rc, rb, rm, rd, g8, rfl, rfl, hx8, hra8, yc⟩ := hcut
              obtain ⟨rfl, rfl, hR8, hT8⟩ := ra_parts hra8
              have K8 := Lib.hid (show ∀ wz, Below wc.heap.size wc wz → wz.heap[g8]? = some (.cells #[.slice ra QL.length rc, .slice rb QT.length rd] 26 (0, 0)) from fun wz h => (h.block _ (lt_of_block hx8)).trans hx8)
              have y8 : Below wc.heap.size wc wc := Below.refl _ _
              replace z := z.trans (yc.mono z.size)
              replace hT := hT.below yc
              clear hx8 hra8 yc d1
              go_wp2_with (first
                | go_skip
                | (refine wpList_store_row rfl 26 _ _ rfl w1.heap.size #[.slice a L.length ca, .slice b T.length cb] rfl rfl _ _ (heap_alloc_new w1 (.cells #[.slice none 0 0, .slice none 0 0] 26)) (size_Alg _ _) rfl (one_sl2 _ _ _ _ _ _) ?_; rw [World.setRow_alloc_new]; rw [← hw2, ← hg]; clear hw2 hg)
                | (refine wpList_store_row rfl 26 _ _ rfl w1.heap.size #[.slice a L.length ca, .slice (some ⟨B, off, none⟩) T.length cb] rfl rfl _ _ (heap_alloc_new w1 (.cells #[.slice none 0 0, .slice none 0 0] 26)) (size_Alg _ _) rfl (one_sl2 _ _ _ _ _ _) ?_; rw [World.setRow_alloc_new]; rw [← hw2, ← hg]; clear hw2 hg)
                | (refine wpList_load_row_w rfl 26 _ rfl g rfl _ _ _ _ (KX.out _ z) Tryz.underlying26 rfl (size_Alg _ _) ?_)
                | (refine wpList_load_row_w rfl 26 _ rfl g8 rfl _ _ _ _ (K8.out _ y8) Tryz.underlying26 rfl (size_Alg _ _) ?_)
                | (go_at_call 19; refine (ret_to (implIsTrue_any _ _ _ _ QL QT _ _ t _ (hR8.below y8) (hT8.below y8) (Kt.out _ z) (by omega) hct) (congrArg Value.bool HSI.out)).mono ?_; rintro e wz ⟨rfl, hb⟩; replace z := z.trans (hb.mono z.size); (try clear c0 c1); have c0 := K0.out _ z; have c1 := K1.out _ z; (try replace q1 := Q1.out _ z); (try replace q2 := Q2.out _ z); (try replace hT := hT.below hb); (try replace hU := hU.below hb); (try replace y8 := y8.trans (hb.mono y8.size)); (try have k8 := (bx_cells (K8.out _ y8)).1)))
              go_roundw
              case rel => exact ⟨i + 1, by omega, by omega, rfl, z, hT⟩
              case measure => simp [intOf]; omega
          · have e : i = V.length := by omega
            subst e
            have c0 := K0.out _ z
            have c1 := K1.out _ z
            go_wp2_with (first
              | go_skip
              | (refine wpList_store_row rfl 26 _ _ rfl w1.heap.size #[.slice a L.length ca, .slice b T.length cb] rfl rfl _ _ (heap_alloc_new w1 (.cells #[.slice none 0 0, .slice none 0 0] 26)) (size_Alg _ _) rfl (one_sl2 _ _ _ _ _ _) ?_; rw [World.setRow_alloc_new]; rw [← hw2, ← hg]; clear hw2 hg)
              | (refine wpList_store_row rfl 26 _ _ rfl w1.heap.size #[.slice a L.length ca, .slice (some ⟨B, off, none⟩) T.length cb] rfl rfl _ _ (heap_alloc_new w1 (.cells #[.slice none 0 0, .slice none 0 0] 26)) (size_Alg _ _) rfl (one_sl2 _ _ _ _ _ _) ?_; rw [World.setRow_alloc_new]; rw [← hw2, ← hg]; clear hw2 hg)
              | (refine wpList_load_row_w rfl 26 _ rfl g rfl _ _ _ _ (KX.out _ z) Tryz.underlying26 rfl (size_Alg _ _) ?_)
              | (go_at_call 23; refine (HRF.out _ (KR.out _ z) (KT.out _ z) (Kt.out _ z)).mono ?_; rintro e wG ⟨ga, gn, gc, rfl, gG, hb⟩; replace z := z.trans (hb.mono z.size); (try clear c0 c1); have c0 := K0.out _ z; have c1 := K1.out _ z; (try replace q1 := Q1.out _ z); (try replace q2 := Q2.out _ z))
              | (go_at_call 24; refine (HFL.out _ _ (z.alloc z.size _) (heap_alloc_new _ _)).mono ?_; rintro e wF ⟨rfl, hb⟩; replace z := (z.alloc z.size _).trans (hb.mono (z.alloc z.size _).size)))
            go_ret
            exact ⟨by first | rfl | exact ret_bool (by simp), FIN.out _ z⟩
end Go.Proofs.YtjcambkjcagcoaaGreat
