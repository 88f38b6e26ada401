import Derived.Test.YtbegkmbboebeaaaLC
import Derived.Test.YtbegkmbboebeaaaSG6
import Derived.Test.YtbegkmbboebeaaaB5
import Derived.Test.YtbegkmbboebeaaaPF4
import Derived.Test.YtbegkmbboebeaaaRIS
namespace Go.Proofs.Ytbegkmbboebeaaa
open Go.RowKit

set_option maxRecDepth 100000 in
set_option maxHeartbeats 8000000 in
/-- laws.FnTwiceNot -/
theorem lawPTwiceNot (a0 : Option Addr) (len0 cap0 : Nat) (w : World) (hy : RdY w a0 len0 w.heap.size) (hc : len0 ≤ cap0) (hm : len0 ≤ maxLen) :
    Calls Try.prog 4 #[.slice a0 len0 cap0] w fun e w' => e = .returned (.bool true) ∧ Below w.heap.size w w' := by
  by_cases hbig : 1048576 < len0
  · have hbig2 : (1048576 : Int) < len0 := by omega
    go_enter Try.func4, Try.ntmps4
    go_wp2
    go_ret
    exact ⟨rfl, Below.refl _ _⟩
  · have hs : len0 ≤ 1048576 := by omega
    have hs2 : ¬ (1048576 : Int) < len0 := by omega
    go_enter Try.func4, Try.ntmps4
    go_wp2_with fail
    refine (drawTwiceNot_any a0 len0 cap0 w hy hc hs).mono ?_
    rintro e w1 ⟨L, T, a, ca, b, cb, rfl, hP, hr, hT, hb⟩
    have _ := hm
    clear hs hs2 hbig hy hm hc
    obtain ⟨l1, l7, t6, r6⟩ := someP_len hP
    have hM : (L.length : Int) ≤ 9223372036854775807 := by omega
    obtain ⟨g, hg⟩ : ∃ g, g = w1.heap.size := ⟨_, rfl⟩
    obtain ⟨w2, hw2⟩ : ∃ w2, w2 = w1.alloc (.cells #[.slice a L.length ca, .slice b T.length cb] 26) := ⟨_, rfl⟩
    have hB : Below w.heap.size w w2 := by rw [hw2]; exact hb.alloc hb.size _
    have hB2 : Below w1.heap.size w1 w2 := by rw [hw2]; exact (Below.refl _ _).alloc (Nat.le_refl _) _
    have hx2 : w2.heap[g]? = some (.cells #[.slice a L.length ca, .slice b T.length cb] 26 (0, 0)) := by rw [hw2, hg]; exact heap_alloc_new w1 _
    have KX := Lib.hid (show ∀ wz, Below w2.heap.size w2 wz → wz.heap[g]? = some (.cells #[.slice a L.length ca, .slice b T.length cb] 26 (0, 0)) from fun wz h => (h.block _ (lt_of_block hx2)).trans hx2)
    have K0 := Lib.hid (show ∀ wz, Below w2.heap.size w2 wz → wz.cell? ⟨g, 0, none⟩ = some (.slice a L.length ca) from fun wz h => (bx_cells (KX.out _ h)).1)
    have K1 := Lib.hid (show ∀ wz, Below w2.heap.size w2 wz → wz.cell? ⟨g, 1, none⟩ = some (.slice b T.length cb) from fun wz h => (bx_cells (KX.out _ h)).2)
    have KR := Lib.hid (show ∀ wz, Below w2.heap.size w2 wz → Rd wz a L from fun wz h => (hr.below hB2).below h)
    have KT := Lib.hid (show ∀ wz, Below w2.heap.size w2 wz → RdT wz b T from fun wz h => (hT.below hB2).below h)
    have FIN := Lib.hid (show ∀ wz, Below w2.heap.size w2 wz → Below w.heap.size w wz from fun wz h => hB.trans (h.mono hB.size))
    have z : Below w2.heap.size w2 w2 := Below.refl _ _
    have HP := Lib.hid hP
    clear hP hr hT hb hB hB2 hx2 r6
    have c0 := K0.out _ z
    have c1 := K1.out _ z
    cases ha : algB L T with
    | false =>
      obtain ⟨V, hV⟩ : ∃ V, V = algV L T (lstTo (twiI L T) (num L)) := ⟨_, rfl⟩
      have hM2 : V.length ≤ 1073741824 := by rw [hV]; unfold algV; rw [ha]; simp
      have HI := Lib.hid (show ∀ (a b : Option Addr) (ca cb : Nat) (w : World), Rd w a L → RdT w b T → Calls Try.prog 10 #[.agg #[.slice a L.length ca, .slice b T.length cb]] w (RetSl w.heap.size V w) from fun a b ca cb w h1 h2 => by rw [hV]; exact implTwiceNot_any a b ca cb L T w h1 h2)
      have HP2 := Lib.hid (show ∀ (a b : Option Addr) (ca cb : Nat) (w : World), Rd w a L → RdT w b T → Calls Try.prog 12 #[.agg #[.slice a L.length ca, .slice b T.length cb]] w (RetSl w.heap.size V w) from fun a b ca cb w h1 h2 => by rw [hV]; exact specTwiceNot_any a b ca cb L T w h1 h2)
      clear hV
      go_wp2_with (first
      | go_skip
      | (refine wpList_store_row rfl 26 _ _ rfl w1.heap.size #[.slice a L.length ca, .slice b T.length cb] rfl rfl _ _ (heap_alloc_new w1 (.cells #[.slice none 0 0, .slice none 0 0] 26)) (size_Alg _ _) rfl (one_sl2 _ _ _ _ _ _) ?_; rw [World.setRow_alloc_new]; rw [← hw2, ← hg]; clear hw2 hg)
      | (refine wpList_store_row rfl 26 _ _ rfl w1.heap.size #[.slice a L.length ca, .slice (some ⟨B, off, none⟩) T.length cb] rfl rfl _ _ (heap_alloc_new w1 (.cells #[.slice none 0 0, .slice none 0 0] 26)) (size_Alg _ _) rfl (one_sl2 _ _ _ _ _ _) ?_; rw [World.setRow_alloc_new]; rw [← hw2, ← hg]; clear hw2 hg)
      | (refine wpList_load_row_w rfl 26 _ rfl g rfl _ _ _ _ (KX.out _ z) Try.underlying26 rfl (size_Alg _ _) ?_)
      | (go_at_call 10; refine (HI.out _ _ _ _ _ (KR.out _ z) (KT.out _ z)).mono ?_; rintro e wz ⟨aT, cT, rfl, oT, hb⟩; replace z := z.trans (hb.mono z.size); (try clear c0 c1); have c0 := K0.out _ z; have c1 := K1.out _ z; (try replace q1 := Q1.out _ z); (try replace q2 := Q2.out _ z); (try replace hT := hT.below hb); (try replace hU := hU.below hb); have hT : Rd wz aT V := oT.rd; clear oT)
      | (go_at_call 12; refine (HP2.out _ _ _ _ _ (KR.out _ z) (KT.out _ z)).mono ?_; rintro e wz ⟨aU, cU, rfl, oU, hb⟩; replace z := z.trans (hb.mono z.size); (try clear c0 c1); have c0 := K0.out _ z; have c1 := K1.out _ z; (try replace q1 := Q1.out _ z); (try replace q2 := Q2.out _ z); (try replace hT := hT.below hb); (try replace hU := hU.below hb); have hU : Rd wz aU V := oU.rd; clear oU)
      | (go_at_call 11; refine (equalInts_same _ _ _ _ V _ hT hU hM2).mono ?_; rintro e wz ⟨rfl, hd⟩; replace z := z.trans (hd.below _); (try clear c0 c1); have c0 := K0.out _ z; have c1 := K1.out _ z; (try replace q1 := Q1.out _ z); (try replace q2 := Q2.out _ z); (try replace hT := hd.rd hT); (try replace hU := hd.rd hU))
      | (go_at_call 13; refine (implValidAlgebra_any _ _ _ _ L T _ (KR.out _ z) (KT.out _ z)).mono ?_; rintro e wz ⟨rfl, hb⟩; replace z := z.trans (hb.mono z.size); (try clear c0 c1); have c0 := K0.out _ z; have c1 := K1.out _ z; (try replace q1 := Q1.out _ z); (try replace q2 := Q2.out _ z); (try replace hT := hT.below hb); (try replace hU := hU.below hb)))
      go_ret
      exact ⟨rfl, FIN.out _ z⟩
    | true =>
      obtain ⟨V, hV⟩ : ∃ V, V = algV L T (lstTo (twiI L T) (num L)) := ⟨_, rfl⟩
      have HI := Lib.hid (show ∀ (a b : Option Addr) (ca cb : Nat) (w : World), Rd w a L → RdT w b T → Calls Try.prog 10 #[.agg #[.slice a L.length ca, .slice b T.length cb]] w (RetSl w.heap.size V w) from fun a b ca cb w h1 h2 => by rw [hV]; exact implTwiceNot_any a b ca cb L T w h1 h2)
      have HP2 := Lib.hid (show ∀ (a b : Option Addr) (ca cb : Nat) (w : World), Rd w a L → RdT w b T → Calls Try.prog 12 #[.agg #[.slice a L.length ca, .slice b T.length cb]] w (RetSl w.heap.size V w) from fun a b ca cb w h1 h2 => by rw [hV]; exact specTwiceNot_any a b ca cb L T w h1 h2)
      replace hV : V = lstTo (twiI L T) (num L) := by rw [hV]; unfold algV; rw [ha]; rfl
      have l6 := (latB_parts (alg_lat ha)).2.1
      have l6' : (L.length : Int) ≤ 6 := l6
      have hM3 : V.length ≤ 64 := by rw [hV]; exact by have := lstTo_len (twiI L T) (num L) (by unfold num; omega); omega
      have hM2 : V.length ≤ 1073741824 := by omega
      have hsg := sg_twi HP.out ha
      unfold sg_twiP at hsg
      simp only [Bool.and_eq_true, beq_iff_eq] at hsg
      rw [← hV] at hsg
      obtain ⟨g1, g2, g3⟩ := hsg
      have hM7 : V.length ≤ 1048576 := by omega
      have q1 : asnB L T V = true := by unfold asnB; rw [ha, g1]; rfl
      have hiv : hpB ⟨#[105, 110, 118, 111, 108, 117, 116, 105, 118, 101]⟩ L T = hasB 2 L T := by unfold hpB; rw [ha, show prIx ⟨#[105, 110, 118, 111, 108, 117, 116, 105, 118, 101]⟩ = 2 by decide +kernel]; rfl
      obtain ⟨RL, hRL⟩ : ∃ RL, RL = lstTo (fun x => x) (L.length : Int) := ⟨_, rfl⟩
      have g2' : eqL V RL = hasB 2 L T := by rw [hRL]; exact g2
      obtain ⟨U, hU'⟩ : ∃ U, U = fbL L T V := ⟨_, rfl⟩
      obtain ⟨S, hS'⟩ : ∃ S, S = fbT L T V := ⟨_, rfl⟩
      rw [← hU', ← hS'] at g3
      obtain ⟨iv, eiv⟩ : ∃ q, q = hasB 2 L T := ⟨_, rfl⟩
      rw [← eiv] at g2' hiv
      have HFB := Lib.hid (show ∀ (a b : Option Addr) (ca cb : Nat) (aj : Option Addr) (cj : Nat) (w : World), Rd w a L → RdT w b T → Rd w aj V → Calls Try.prog 14 #[.agg #[.slice a L.length ca, .slice b T.length cb], .slice aj V.length cj] w (RetGAb U S (fbOk L T V) w) from fun a b ca cb aj cj w h1 h2 h3 => by rw [hU', hS']; exact implFixedBy_any a b ca cb L T aj cj V w h1 h2 h3 hM7)
      have HRS := Lib.hid (show ∀ w : World, Calls Try.prog 15 #[.int .i64 (L.length : Int)] w (RetOwn w.heap.size RL w) from fun w => by rw [hRL]; exact lawRising_any _ w (by omega) (by omega))
      have hpS : fbOk L T V = true → hpB ⟨#[105, 110, 118, 111, 108, 117, 116, 105, 118, 101]⟩ U S = true := fun h => by
        unfold hpB
        rw [g3.2.1, show prIx ⟨#[105, 110, 118, 111, 108, 117, 116, 105, 118, 101]⟩ = 2 by decide +kernel, g3.2.2]; rfl
      have hok := g3.1
      have G2 := Lib.hid g2'
      have HPS := Lib.hid hpS
      obtain ⟨ok, eok⟩ : ∃ ok, ok = fbOk L T V := ⟨_, rfl⟩
      rw [← eok] at HFB HPS hok
      have hps : ok = true → hpB ⟨#[105, 110, 118, 111, 108, 117, 116, 105, 118, 101]⟩ U S = true := HPS.out
      clear l6 hV g1 g2 g2' g3 hU' hS' eiv hRL hpS eok
      subst hok
      cases iv
      all_goals
        (try have hq := hps rfl)
        clear hps
        go_wp2_with (first
          | go_skip
          | (refine wpList_store_row rfl 26 _ _ rfl w1.heap.size #[.slice a L.length ca, .slice b T.length cb] rfl rfl _ _ (heap_alloc_new w1 (.cells #[.slice none 0 0, .slice none 0 0] 26)) (size_Alg _ _) rfl (one_sl2 _ _ _ _ _ _) ?_; rw [World.setRow_alloc_new]; rw [← hw2, ← hg]; clear hw2 hg)
          | (refine wpList_store_row rfl 26 _ _ rfl w1.heap.size #[.slice a L.length ca, .slice (some ⟨B, off, none⟩) T.length cb] rfl rfl _ _ (heap_alloc_new w1 (.cells #[.slice none 0 0, .slice none 0 0] 26)) (size_Alg _ _) rfl (one_sl2 _ _ _ _ _ _) ?_; rw [World.setRow_alloc_new]; rw [← hw2, ← hg]; clear hw2 hg)
          | (refine wpList_load_row_w rfl 26 _ rfl g rfl _ _ _ _ (KX.out _ z) Try.underlying26 rfl (size_Alg _ _) ?_)
          | (go_at_call 10; refine (HI.out _ _ _ _ _ (KR.out _ z) (KT.out _ z)).mono ?_; rintro e wz ⟨aT, cT, rfl, oT, hb⟩; replace z := z.trans (hb.mono z.size); (try clear c0 c1); have c0 := K0.out _ z; have c1 := K1.out _ z; (try replace q1 := Q1.out _ z); (try replace q2 := Q2.out _ z); (try replace hT := hT.below hb); (try replace hU := hU.below hb); have hT : Rd wz aT V := oT.rd; clear oT)
          | (go_at_call 12; refine (HP2.out _ _ _ _ _ (KR.out _ z) (KT.out _ z)).mono ?_; rintro e wz ⟨aU, cU, rfl, oU, hb⟩; replace z := z.trans (hb.mono z.size); (try clear c0 c1); have c0 := K0.out _ z; have c1 := K1.out _ z; (try replace q1 := Q1.out _ z); (try replace q2 := Q2.out _ z); (try replace hT := hT.below hb); (try replace hU := hU.below hb); have hU : Rd wz aU V := oU.rd; clear oU)
          | (go_at_call 11; refine (equalInts_same _ _ _ _ V _ hT hU hM2).mono ?_; rintro e wz ⟨rfl, hd⟩; replace z := z.trans (hd.below _); (try clear c0 c1); have c0 := K0.out _ z; have c1 := K1.out _ z; (try replace q1 := Q1.out _ z); (try replace q2 := Q2.out _ z); (try replace hT := hd.rd hT); (try replace hU := hd.rd hU))
          | (go_at_call 13; refine (implValidAlgebra_any _ _ _ _ L T _ (KR.out _ z) (KT.out _ z)).mono ?_; rintro e wz ⟨rfl, hb⟩; replace z := z.trans (hb.mono z.size); (try clear c0 c1); have c0 := K0.out _ z; have c1 := K1.out _ z; (try replace q1 := Q1.out _ z); (try replace q2 := Q2.out _ z); (try replace hT := hT.below hb); (try replace hU := hU.below hb))
          | (go_at_call 14; refine (HFB.out _ _ _ _ _ _ _ (KR.out _ z) (KT.out _ z) hT).mono ?_; rintro e wF ⟨ua, un, uc, sb, sm, sd, rfl, oG, hb⟩; replace z := z.trans (hb.mono z.size); (try clear c0 c1); replace hT := hT.below hb; obtain ⟨xa, xc, ya, yc, ex, ey, hUd, hSd⟩ := oG.rd; injection ex with ex1 ex2 ex3; injection ey with ey1 ey2 ey3; subst ex1 ex2 ex3 ey1 ey2 ey3; clear oG) | (refine wpList_store_row rfl 26 _ _ rfl wF.heap.size #[.slice ua U.length uc, .slice sb S.length sd] rfl rfl _ _ (heap_alloc_new wF (.cells #[.slice none 0 0, .slice none 0 0] 26)) (size_Alg _ _) rfl (one_sl2 _ _ _ _ _ _) ?_; rw [World.setRow_alloc_new]; obtain ⟨g2, hg2⟩ : ∃ g2, g2 = wF.heap.size := ⟨_, rfl⟩; obtain ⟨w5, hw5⟩ : ∃ w5, w5 = wF.alloc (.cells #[.slice ua U.length uc, .slice sb S.length sd] 26) := ⟨_, rfl⟩; rw [← hw5, ← hg2]; have q5 : Below wF.heap.size wF w5 := (by rw [hw5]; exact (Below.refl _ _).alloc (Nat.le_refl _) _); have hx5 : w5.heap[g2]? = some (.cells #[.slice ua U.length uc, .slice sb S.length sd] 26 (0, 0)) := (by rw [hw5, hg2]; exact heap_alloc_new wF _); have KB := Lib.hid (show ∀ wz, Below w5.heap.size w5 wz → wz.heap[g2]? = some (.cells #[.slice ua U.length uc, .slice sb S.length sd] 26 (0, 0)) from fun wz h => (h.block _ (lt_of_block hx5)).trans hx5); have KBR := Lib.hid (show ∀ wz, Below w5.heap.size w5 wz → Rd wz ua U ∧ RdT wz sb S from fun wz h => ⟨(hUd.below q5).below h, (hSd.below q5).below h⟩); replace z := z.trans (q5.mono z.size); replace hT := hT.below q5; have y : Below w5.heap.size w5 w5 := Below.refl _ _; have f0 := (bx_cells (KB.out _ y)).1; have f1 := (bx_cells (KB.out _ y)).2; clear hw5 hg2 hx5 hUd hSd q5))
        have e0 := K0.out _ z
        have e1 := K1.out _ z
        first
        | (go_region_held3 (fun w' => w'.cell? ⟨g, 0, none⟩ = some (.slice a L.length ca) ∧ w'.cell? ⟨g, 1, none⟩ = some (.slice b T.length cb) ∧ w'.cell? ⟨g2, 0, none⟩ = some (.slice ua U.length uc) ∧ w'.cell? ⟨g2, 1, none⟩ = some (.slice sb S.length sd))
            (first | go_keep | exact ⟨e0, e1, f0, f1⟩)
            (first
              | go_skip
              | (go_simp; go_at_call 6; refine (ret_to (implIsNucleus_any _ _ _ _ L T _ _ V _ (KR.out _ (by first | exact z | exact z.drew | exact z.drew.drew | exact z.drew.drew.drew)) (KT.out _ (by first | exact z | exact z.drew | exact z.drew.drew | exact z.drew.drew.drew)) (by first | exact hT | exact hT.below ((Below.refl _ _).drew) | exact hT.below (((Below.refl _ _).drew).drew) | exact hT.below ((((Below.refl _ _).drew).drew).drew)) hM7) (congrArg Value.bool q1)).mono ?_; rintro e wz ⟨rfl, hb⟩; replace z := (show Below w2.heap.size w2 wz from by first | exact z.trans (hb.mono z.size) | exact z.drew.trans (hb.mono z.drew.size) | exact z.drew.drew.trans (hb.mono z.drew.drew.size) | exact z.drew.drew.drew.trans (hb.mono z.drew.drew.drew.size)); have e0 := K0.out _ z; have e1 := K1.out _ z; (try replace hT := (show Rd wz aT V from by first | exact hT.below hb | exact (hT.below ((Below.refl _ _).drew)).below hb | exact (hT.below (((Below.refl _ _).drew).drew)).below hb | exact (hT.below ((((Below.refl _ _).drew).drew).drew)).below hb)); replace y := (show Below w5.heap.size w5 wz from by first | exact y.trans (hb.mono y.size) | exact y.drew.trans (hb.mono y.drew.size) | exact y.drew.drew.trans (hb.mono y.drew.drew.size) | exact y.drew.drew.drew.trans (hb.mono y.drew.drew.drew.size)); have f0 := (bx_cells (KB.out _ y)).1; have f1 := (bx_cells (KB.out _ y)).2)
              | (go_simp; go_at_call 15; refine (HRS.out _).mono ?_; rintro e wz ⟨vR, rfl, oR, hb⟩; obtain ⟨aR, cR, rfl, _⟩ := oR.slice; replace z := (show Below w2.heap.size w2 wz from by first | exact z.trans (hb.mono z.size) | exact z.drew.trans (hb.mono z.drew.size) | exact z.drew.drew.trans (hb.mono z.drew.drew.size) | exact z.drew.drew.drew.trans (hb.mono z.drew.drew.drew.size)); have e0 := K0.out _ z; have e1 := K1.out _ z; (try replace hT := (show Rd wz aT V from by first | exact hT.below hb | exact (hT.below ((Below.refl _ _).drew)).below hb | exact (hT.below (((Below.refl _ _).drew).drew)).below hb | exact (hT.below ((((Below.refl _ _).drew).drew).drew)).below hb)); replace y := (show Below w5.heap.size w5 wz from by first | exact y.trans (hb.mono y.size) | exact y.drew.trans (hb.mono y.drew.size) | exact y.drew.drew.trans (hb.mono y.drew.drew.size) | exact y.drew.drew.drew.trans (hb.mono y.drew.drew.drew.size)); have f0 := (bx_cells (KB.out _ y)).1; have f1 := (bx_cells (KB.out _ y)).2; have hRd : Rd wz aR RL := oR.rd; clear oR)
              | (go_simp; go_at_call 11; refine (ret_to (dr_to (equalInts_any _ _ _ _ V RL _ (by first | exact hT | exact hT.below ((Below.refl _ _).drew) | exact hT.below (((Below.refl _ _).drew).drew) | exact hT.below ((((Below.refl _ _).drew).drew).drew)) (by first | exact hRd | exact hRd.below ((Below.refl _ _).drew) | exact hRd.below (((Below.refl _ _).drew).drew) | exact hRd.below ((((Below.refl _ _).drew).drew).drew)) hM2)) (congrArg Value.bool G2.out)).mono ?_; rintro e wz ⟨rfl, hb⟩; replace z := (show Below w2.heap.size w2 wz from by first | exact z.trans (hb.mono z.size) | exact z.drew.trans (hb.mono z.drew.size) | exact z.drew.drew.trans (hb.mono z.drew.drew.size) | exact z.drew.drew.drew.trans (hb.mono z.drew.drew.drew.size)); have e0 := K0.out _ z; have e1 := K1.out _ z; replace y := (show Below w5.heap.size w5 wz from by first | exact y.trans (hb.mono y.size) | exact y.drew.trans (hb.mono y.drew.size) | exact y.drew.drew.trans (hb.mono y.drew.drew.size) | exact y.drew.drew.drew.trans (hb.mono y.drew.drew.drew.size)); have f0 := (bx_cells (KB.out _ y)).1; have f1 := (bx_cells (KB.out _ y)).2)
              | (go_simp; go_at_call_of 16 (Value.agg #[.slice a L.length ca, .slice b T.length cb]); refine (ret_to (implHasProperty_any ⟨#[105, 110, 118, 111, 108, 117, 116, 105, 118, 101]⟩ _ _ _ _ L T _ (KR.out _ (by first | exact z | exact z.drew | exact z.drew.drew | exact z.drew.drew.drew)) (KT.out _ (by first | exact z | exact z.drew | exact z.drew.drew | exact z.drew.drew.drew))) (congrArg Value.bool hiv)).mono ?_; rintro e wz ⟨rfl, hb⟩; replace z := (show Below w2.heap.size w2 wz from by first | exact z.trans (hb.mono z.size) | exact z.drew.trans (hb.mono z.drew.size) | exact z.drew.drew.trans (hb.mono z.drew.drew.size) | exact z.drew.drew.drew.trans (hb.mono z.drew.drew.drew.size)); have e0 := K0.out _ z; have e1 := K1.out _ z; replace y := (show Below w5.heap.size w5 wz from by first | exact y.trans (hb.mono y.size) | exact y.drew.trans (hb.mono y.drew.size) | exact y.drew.drew.trans (hb.mono y.drew.drew.size) | exact y.drew.drew.drew.trans (hb.mono y.drew.drew.drew.size)); have f0 := (bx_cells (KB.out _ y)).1; have f1 := (bx_cells (KB.out _ y)).2)
              | (go_simp; go_at_call_of 16 (Value.agg #[.slice ua U.length uc, .slice sb S.length sd]); refine (ret_to (implHasProperty_any ⟨#[105, 110, 118, 111, 108, 117, 116, 105, 118, 101]⟩ _ _ _ _ U S _ (KBR.out _ (by first | exact y | exact y.drew | exact y.drew.drew | exact y.drew.drew.drew)).1 (KBR.out _ (by first | exact y | exact y.drew | exact y.drew.drew | exact y.drew.drew.drew)).2) (congrArg Value.bool hq)).mono ?_; rintro e wz ⟨rfl, hb⟩; replace z := (show Below w2.heap.size w2 wz from by first | exact z.trans (hb.mono z.size) | exact z.drew.trans (hb.mono z.drew.size) | exact z.drew.drew.trans (hb.mono z.drew.drew.size) | exact z.drew.drew.drew.trans (hb.mono z.drew.drew.drew.size)); have e0 := K0.out _ z; have e1 := K1.out _ z; replace y := (show Below w5.heap.size w5 wz from by first | exact y.trans (hb.mono y.size) | exact y.drew.trans (hb.mono y.drew.size) | exact y.drew.drew.trans (hb.mono y.drew.drew.size) | exact y.drew.drew.drew.trans (hb.mono y.drew.drew.drew.size)); have f0 := (bx_cells (KB.out _ y)).1; have f1 := (bx_cells (KB.out _ y)).2)))
        | fail
        all_goals
          go_wp2
          go_ret
          exact ⟨by first | rfl | exact ret_bool (by rw [G2.out]; simp), FIN.out _ (by first | exact z | exact z.drew | exact z.drew.drew | exact z.drew.drew.drew)⟩
end Go.Proofs.Ytbegkmbboebeaaa
