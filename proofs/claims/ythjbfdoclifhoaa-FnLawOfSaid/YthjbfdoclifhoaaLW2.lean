import Derived.Test.YthjbfdoclifhoaaLW1
import Derived.Test.YthjbfdoclifhoaaLP
import Derived.Test.YthjbfdoclifhoaaFA
namespace Go.Proofs.Ythjbfdoclifhoaa
open Go.RowKit
set_option linter.unusedVariables false

set_option maxRecDepth 100000 in
set_option maxHeartbeats 1000000 in
/-- spec.DrawLawOf -/
theorem drawLawOf_any (a : Option Addr) (n cap : Nat) (w : World) (hy : RdY w a n w.heap.size) (hc : n ≤ cap) (hm : n ≤ 1048576) :
    Calls Try.prog 4 #[.slice a n cap] w fun e w' => ∃ s ∈ prNames, e = .returned (.string s) ∧ Below w.heap.size w w' := by
  go_enter Try.func4, Try.ntmps4
  go_wp2_with fail
  refine (newReader_any a n cap w hy hc hm).mono ?_
  rintro e w1 ⟨rfl, hb1, hr1⟩
  have hs1 := hb1.size
  go_wp2_with fail
  refine (aProperty_any w.heap.size w.heap.size 0 w1 hr1 (by omega)).mono ?_
  rintro e w2 ⟨s, hs, rfl, hg2, hr2⟩
  have HS := Lib.hid hs
  clear hs
  go_wp2
  go_ret
  exact ⟨s, HS.out, rfl, grown_below (grown_trans (grown_of_below hb1) hg2) (Nat.le_refl _) (Nat.le_refl _)⟩
/-- the list where the walk stands -/
structure PU (w : World) (G c : Nat) (Ps : List AP) (wc : World) : Prop where
  bel : Below w.heap.size w wc
  algs : AlgsP w.heap.size wc (.slice (some ⟨G, 0, none⟩) Ps.length c) Ps
theorem PU.next {w wc w' : World} {G c : Nat} {Ps : List AP} (h : PU w G c Ps wc) (hb : Below wc.heap.size wc w') : PU w G c Ps w' := ⟨h.bel.trans (hb.mono h.bel.size), h.algs.below hb⟩
theorem PU.lt {w wc : World} {G c : Nat} {Ps : List AP} (h : PU w G c Ps wc) : G < wc.heap.size := by
  obtain ⟨cs, h1, _⟩ := h.algs
  exact (World.ownsRow.lt h1 G rfl).2
/-- a list of numbers where the walk stands -/
structure OO (w : World) (a : Option Addr) (c : Nat) (L : List Int) (wc : World) : Prop where
  bel : Below w.heap.size w wc
  own : Own 0 wc (.slice a L.length c) L
theorem OO.next {w wc w' : World} {a : Option Addr} {c : Nat} {L : List Int} (h : OO w a c L wc) (hb : Below wc.heap.size wc w') : OO w a c L w' := ⟨h.bel.trans (hb.mono h.bel.size), h.own.below hb⟩
theorem own_capL {B : Nat} {w : World} {a : Option Addr} {n c : Nat} {L : List Int} (h : Own B w (.slice a n c) L) : L.length ≤ c := by
  rcases h.2 with ⟨e, hn⟩ | ⟨g, cap, cur, e, _, _, hc, _⟩
  · omega
  · injection e with _ _ e
    omega
theorem below_own {w wc w' : World} {B n : Nat} {v : Value} {cs : List Value} (h : Below w.heap.size w wc) (h1 : wc.ownsRow B 31 2 v n cs) (hB : w.heap.size ≤ B) (hg : wc.grownBy w' v.ownBlock) : Below w.heap.size w w' :=
  h.grown hg h.size (fun q hq => Nat.le_trans hB (World.ownsRow.lt h1 q hq).1)
theorem OO.grown {w wc w' : World} {a : Option Addr} {c : Nat} {L : List Int} {B n : Nat} {v : Value} {cs : List Value} (h : OO w a c L wc) (h1 : wc.ownsRow B 31 2 v n cs) (hB : w.heap.size ≤ B) (hg : wc.grownBy w' v.ownBlock) : OO w a c L w' :=
  ⟨below_own h.bel h1 hB hg, World.ownsRow.kept h.own hg (own_types h.own h1 (by decide))⟩
theorem cells4 {w : World} {s1 t1 s2 t2 s3 t3 s4 t4 : Value} {L1 L2 L3 L4 : List Int} {T1 T2 T3 T4 : List (List Int)} (o1 : Own 0 w s1 L1) (r1 : RowsAt 0 w t1 T1) (o2 : Own 0 w s2 L2) (r2 : RowsAt 0 w t2 T2) (o3 : Own 0 w s3 L3) (r3 : RowsAt 0 w t3 T3) (o4 : Own 0 w s4 L4) (r4 : RowsAt 0 w t4 T4) : CellsP w [s1, t1, s2, t2, s3, t3, s4, t4] [(L1, T1), (L2, T2), (L3, T3), (L4, T4)] := by
  refine ⟨rfl, fun j hj => ?_⟩
  have h : j = 0 ∨ j = 1 ∨ j = 2 ∨ j = 3 := by simp at hj; omega
  rcases h with rfl | rfl | rfl | rfl
  · exact ⟨_, _, rfl, rfl, o1, r1⟩
  · exact ⟨_, _, rfl, rfl, o2, r2⟩
  · exact ⟨_, _, rfl, rfl, o3, r3⟩
  · exact ⟨_, _, rfl, rfl, o4, r4⟩
theorem cells1 {w : World} {s1 t1 : Value} {L1 : List Int} {T1 : List (List Int)} (o1 : Own 0 w s1 L1) (r1 : RowsAt 0 w t1 T1) : CellsP w [s1, t1] [(L1, T1)] := by
  refine ⟨rfl, fun j hj => ?_⟩
  have h : j = 0 := by simp at hj; omega
  subst h
  exact ⟨_, _, rfl, rfl, o1, r1⟩
set_option maxRecDepth 100000 in
set_option maxHeartbeats 2000000 in
/-- laws.FnLawOf -/
theorem lawPLawOf (a0 : Option Addr) (len0 cap0 : Nat) (w : World) (hy : RdY w a0 len0 w.heap.size) (hc : len0 ≤ cap0) (hm : len0 ≤ maxLen) :
    Calls Try.prog 3 #[.slice a0 len0 cap0] w fun e w' => e = .returned (.bool true) ∧ Below w.heap.size w w' := by
  by_cases hbig : 1048576 < len0
  · have hbig2 : (1048576 : Int) < len0 := by omega
    go_enter Try.func3, Try.ntmps3
    go_wp2
    go_ret
    exact ⟨rfl, Below.refl _ _⟩
  · have hs : len0 ≤ 1048576 := by omega
    have hs2 : ¬ (1048576 : Int) < len0 := by omega
    go_enter Try.func3, Try.ntmps3
    go_wp2_with fail
    refine (drawLawOf_any a0 len0 cap0 w hy hc hs).mono ?_
    rintro e w1 ⟨s, hsn, rfl, hb⟩
    have _ := hm
    clear hs hs2 hbig hy hm hc
    have hS : St w none [] w1 := ⟨hb, fun h => absurd rfl h⟩
    have hfx := lw_facts hsn
    obtain ⟨O, hO⟩ : ∃ O, O = lwV s := ⟨_, rfl⟩
    have HI := Lib.hid (show ∀ w : World, Calls Try.prog 5 #[.string s] w (RetSl w.heap.size O w) from fun w => by rw [hO]; exact implLawOf_any s w)
    have HP := Lib.hid (show ∀ w : World, Calls Try.prog 7 #[.string s] w (RetSl w.heap.size O w) from fun w => by rw [hO]; exact specLawOf_any s w)
    rw [← hO] at hfx
    clear hb hsn hO
    rcases hfx with rfl | ⟨hf, hv, hl1, hl15⟩
    · have hO30 : ([] : List Int).length ≤ 1073741824 := by simp
      obtain ⟨O, hO⟩ : ∃ O, O = ([] : List Int) := ⟨_, rfl⟩
      rw [← hO] at HI HP hO30
      have hz : ((O.length : Int) == 0) = true := by rw [hO]; rfl
      clear hO
      go_wp2_with (first
        | go_skip
        | (go_at_call 5; refine (HI.out _).mono ?_; rintro e wz ⟨oa, oc, rfl, oo, hb⟩; (try replace hS := hS.next hb); (try replace hT := hT.next hb); (try replace hP := hP.next hb); (try replace h3 := h3.next hb); (try replace h2 := h2.next hb); (try replace hp := hp.next hb); (try replace hq := hq.next hb); (try replace ht := ht.next hb); have hT : OO w oa oc O wz := ⟨hS.1, oo.from (Nat.zero_le _)⟩; have hcap := own_capL oo; clear oo)
        | (go_at_call 7; refine (HP.out _).mono ?_; rintro e wz ⟨sa, sc, rfl, so, hb⟩; (try replace hS := hS.next hb); (try replace hT := hT.next hb); (try replace hP := hP.next hb); (try replace h3 := h3.next hb); (try replace h2 := h2.next hb); (try replace hp := hp.next hb); (try replace hq := hq.next hb); (try replace ht := ht.next hb); have hU : Rd wz sa O := so.rd; clear so)
        | (go_at_call 6; refine (dr_to (equalInts_same _ _ _ _ O _ hT.own.rd hU hO30)).mono ?_; rintro e wz ⟨rfl, hb⟩; (try replace hS := hS.next hb); (try replace hT := hT.next hb); (try replace hP := hP.next hb); (try replace h3 := h3.next hb); (try replace h2 := h2.next hb); (try replace hp := hp.next hb); (try replace hq := hq.next hb); (try replace ht := ht.next hb); clear hU))
      go_ret
      exact ⟨rfl, hT.bel⟩
    have hO30 : O.length ≤ 1073741824 := by omega
    have hz : ((O.length : Int) == 0) = false := by rw [beq_eq_false_iff_ne]; omega
    obtain ⟨L3, eL3⟩ : ∃ L, L = w3L := ⟨_, rfl⟩
    obtain ⟨T3, eT3⟩ : ∃ L, L = w3T := ⟨_, rfl⟩
    obtain ⟨L2, eL2⟩ : ∃ L, L = w2L := ⟨_, rfl⟩
    obtain ⟨T2, eT2⟩ : ∃ L, L = w2T := ⟨_, rfl⟩
    obtain ⟨Lp, eLp⟩ : ∃ L, L = wpL := ⟨_, rfl⟩
    obtain ⟨Tp, eTp⟩ : ∃ L, L = wpT := ⟨_, rfl⟩
    obtain ⟨Lq, eLq⟩ : ∃ L, L = wqL := ⟨_, rfl⟩
    obtain ⟨Tq, eTq⟩ : ∃ L, L = wqT := ⟨_, rfl⟩
    obtain ⟨Lt, eLt⟩ : ∃ L, L = wtL := ⟨_, rfl⟩
    obtain ⟨Tt, eTt⟩ : ∃ L, L = wtT := ⟨_, rfl⟩
    obtain ⟨P1, eP1⟩ : ∃ P, P = (chT 4).map fun T => (chainTo 4 4, T) := ⟨_, rfl⟩
    have hP6 : P1.length = 6 := by rw [eP1]; decide +kernel
    have HP6 := Lib.hid hP6
    obtain ⟨P2, eP2⟩ : ∃ P, P = (P1 ++ [(L3, T3), (L2, T2), (Lp, Tp), (Lq, Tq)] : List AP) := ⟨_, rfl⟩
    obtain ⟨P3, eP3⟩ : ∃ P, P = (P2 ++ [(Lt, Tt)] : List AP) := ⟨_, rfl⟩
    have hP10 : P2.length = 10 := by rw [eP2, List.length_append, hP6]; rfl
    have hP11 : P3.length = 11 := by rw [eP3, List.length_append, hP10]; rfl
    have HP10 := Lib.hid hP10
    have HP11 := Lib.hid hP11
    have HP2 := Lib.hid eP2
    have HP3 := Lib.hid eP3
    have HPs := Lib.hid (show ∀ P ∈ (P1 ++ [(L3, T3), (L2, T2), (Lp, Tp), (Lq, Tq)] ++ [(Lt, Tt)] : List AP), itB P.1 P.2 O = hpB s P.1 P.2 from by rw [eP1, eL3, eT3, eL2, eT2, eLp, eTp, eLq, eTq, eLt, eTt]; exact hf)
    rw [← eP2, ← eP3] at HPs
    clear eP2 eP3
    clear hP6 hP10 hP11
    have HC := Lib.hid (show ∀ w : World, Calls Try.prog 8 #[.int .i64 4] w fun e w' => ∃ G c, e = .returned (.slice (some ⟨G, 0, none⟩) P1.length c) ∧ AlgsP w.heap.size w' (.slice (some ⟨G, 0, none⟩) P1.length c) P1 ∧ Below w.heap.size w w' from fun w => by
      rw [eP1]
      refine (implChainsOf_any 4 w).mono fun e w' h => ?_
      obtain ⟨a, c, rfl, h1, h2⟩ := h
      have h3 := AlgsP.of (h1.at (chI_ti 4).1)
      have he : chI 4 = chT 4 := chI_nat (n := 4) (by omega) (by omega)
      rw [he] at h3 ⊢
      obtain ⟨G, c', e⟩ := h3.has (by decide +kernel)
      injection e with e _ _
      subst e
      rw [List.length_map]
      exact ⟨G, c, rfl, h3, h2⟩)
    have HS3 := Lib.hid (show ∀ w : World, Calls Try.prog 9 #[.int .i64 3] w (RetO L3 T3 w) from fun w => by rw [eL3, eT3]; exact lwSum3 w)
    have HS2 := Lib.hid (show ∀ w : World, Calls Try.prog 9 #[.int .i64 2] w (RetO L2 T2 w) from fun w => by rw [eL2, eT2]; exact lwSum2 w)
    have HX := Lib.hid (show ∀ (a b : Option Addr) (ca cb : Nat) (a2 b2 : Option Addr) (ca2 cb2 : Nat) (w : World), Rd w a L3 → RdT w b T3 → Rd w a2 L2 → RdT w b2 T2 → Calls Try.prog 10 #[.agg #[.slice a L3.length ca, .slice b T3.length cb], .agg #[.slice a2 L2.length ca2, .slice b2 T2.length cb2]] w (RetO Lp Tp w) from by rw [eL3, eT3, eL2, eT2, eLp, eTp]; exact lwCross32)
    have HY := Lib.hid (show ∀ (a b : Option Addr) (ca cb : Nat) (a2 b2 : Option Addr) (ca2 cb2 : Nat) (w : World), Rd w a L2 → RdT w b T2 → Rd w a2 L2 → RdT w b2 T2 → Calls Try.prog 10 #[.agg #[.slice a L2.length ca, .slice b T2.length cb], .agg #[.slice a2 L2.length ca2, .slice b2 T2.length cb2]] w (RetO Lq Tq w) from by rw [eL2, eT2, eLq, eTq]; exact lwCross22)
    have HZ := Lib.hid (show ∀ (a b : Option Addr) (ca cb : Nat) (a2 b2 : Option Addr) (ca2 cb2 : Nat) (w : World), Rd w a Lq → RdT w b Tq → Rd w a2 L3 → RdT w b2 T3 → Calls Try.prog 11 #[.agg #[.slice a Lq.length ca, .slice b Tq.length cb], .agg #[.slice a2 L3.length ca2, .slice b2 T3.length cb2]] w (RetO Lt Tt w) from by rw [eLq, eTq, eL3, eT3, eLt, eTt]; exact lwStack)
    have HIT := Lib.hid (fun (a b : Option Addr) (ca cb : Nat) (L : List Int) (T : List (List Int)) (oa : Option Addr) (oc : Nat) (w : World) (h1 : Rd w a L) (h2 : RdT w b T) (h3 : Rd w oa O) (hc : O.length ≤ oc) => implIsTrue_any a b ca cb L T oa oc O w h1 h2 h3 (by omega) hc)
    have HVT := Lib.hid (show ∀ (oa : Option Addr) (oc : Nat) (w : World), Rd w oa O → O.length ≤ oc → Calls Try.prog 14 #[.slice oa O.length oc] w fun e w' => e = .returned (.bool true) ∧ Below w.heap.size w w' from fun oa oc w h1 h2 => by have h := implValidTerm_any oa oc O w h1 (by omega) h2; rwa [hv] at h)
    clear hf hv hl1 hl15 eL3 eT3 eL2 eT2 eLp eTp eLq eTq eLt eTt eP1
    go_wp2_with (first
        | go_skip
        | (go_at_call 5; refine (HI.out _).mono ?_; rintro e wz ⟨oa, oc, rfl, oo, hb⟩; (try replace hS := hS.next hb); (try replace hT := hT.next hb); (try replace hP := hP.next hb); (try replace h3 := h3.next hb); (try replace h2 := h2.next hb); (try replace hp := hp.next hb); (try replace hq := hq.next hb); (try replace ht := ht.next hb); have hT : OO w oa oc O wz := ⟨hS.1, oo.from (Nat.zero_le _)⟩; have hcap := own_capL oo; clear oo)
        | (go_at_call 7; refine (HP.out _).mono ?_; rintro e wz ⟨sa, sc, rfl, so, hb⟩; (try replace hS := hS.next hb); (try replace hT := hT.next hb); (try replace hP := hP.next hb); (try replace h3 := h3.next hb); (try replace h2 := h2.next hb); (try replace hp := hp.next hb); (try replace hq := hq.next hb); (try replace ht := ht.next hb); have hU : Rd wz sa O := so.rd; clear so)
        | (go_at_call 6; refine (dr_to (equalInts_same _ _ _ _ O _ hT.own.rd hU hO30)).mono ?_; rintro e wz ⟨rfl, hb⟩; (try replace hS := hS.next hb); (try replace hT := hT.next hb); (try replace hP := hP.next hb); (try replace h3 := h3.next hb); (try replace h2 := h2.next hb); (try replace hp := hp.next hb); (try replace hq := hq.next hb); (try replace ht := ht.next hb); clear hU)
        | (go_at_call 8; refine (HC.out _).mono ?_; rintro e wz ⟨G, gc, rfl, hA0, hb⟩; have hsz := hS.1.size; (try replace hS := hS.next hb); (try replace hT := hT.next hb); have hP : PU w G gc P1 wz := ⟨hS.1, by obtain ⟨cs, q1, q2⟩ := hA0; exact ⟨cs, own_weak q1 hsz, q2⟩⟩; clear hA0 hsz)
        | (go_at_call_of 9 (Value.int IntKind.i64 3); refine (HS3.out _).mono ?_; rintro e wz ⟨a3, c3, b3, d3, rfl, o3, r3, hb⟩; (try replace hS := hS.next hb); (try replace hT := hT.next hb); (try replace hP := hP.next hb); (try replace h3 := h3.next hb); (try replace h2 := h2.next hb); (try replace hp := hp.next hb); (try replace hq := hq.next hb); (try replace ht := ht.next hb))
        | (go_at_call_of 9 (Value.int IntKind.i64 2); refine (HS2.out _).mono ?_; rintro e wz ⟨a2, c2, b2, d2, rfl, o2, r2, hb⟩; (try replace hS := hS.next hb); (try replace hT := hT.next hb); (try replace hP := hP.next hb); (try replace h3 := h3.next hb); (try replace h2 := h2.next hb); (try replace hp := hp.next hb); (try replace hq := hq.next hb); (try replace ht := ht.next hb))
        | (refine wpList_store_row rfl 31 _ _ rfl wz.heap.size #[.slice aq Lq.length cq, .slice bq Tq.length dq] rfl rfl _ _ (heap_alloc_new wz (.cells #[.slice none 0 0, .slice none 0 0] 31)) (size_Alg _ _) rfl (one_sl2 _ _ _ _ _ _) ?_; rw [World.setRow_alloc_new]; obtain ⟨gq, hgq⟩ : ∃ b, b = wz.heap.size := ⟨_, rfl⟩; obtain ⟨wy, hwy⟩ : ∃ wy, wy = wz.alloc (.cells #[.slice aq Lq.length cq, .slice bq Tq.length dq] 31) := ⟨_, rfl⟩; rw [← hwy, ← hgq]; have hb : Below wz.heap.size wz wy := (by rw [hwy]; exact (Below.refl _ _).alloc (Nat.le_refl _) _); have hlq := hP.lt; have hq : BO (G + 1) gq aq cq bq dq Lq Tq wy := ⟨(by first | exact Nat.zero_le _ | (rw [hgq]; exact hlq)), (by rw [hwy, hgq]; exact heap_alloc_new wz _), oq.below hb, rq.below hb⟩; (try replace hS := hS.next hb); (try replace hT := hT.next hb); (try replace hP := hP.next hb); (try replace h3 := h3.next hb); (try replace h2 := h2.next hb); (try replace hp := hp.next hb); (try replace ht := ht.next hb); clear hwy hgq hlq oq rq)
        | (refine wpList_store_row rfl 31 _ _ rfl wz.heap.size #[.slice ap Lp.length cp, .slice bp Tp.length dp] rfl rfl _ _ (heap_alloc_new wz (.cells #[.slice none 0 0, .slice none 0 0] 31)) (size_Alg _ _) rfl (one_sl2 _ _ _ _ _ _) ?_; rw [World.setRow_alloc_new]; obtain ⟨gp, hgp⟩ : ∃ b, b = wz.heap.size := ⟨_, rfl⟩; obtain ⟨wy, hwy⟩ : ∃ wy, wy = wz.alloc (.cells #[.slice ap Lp.length cp, .slice bp Tp.length dp] 31) := ⟨_, rfl⟩; rw [← hwy, ← hgp]; have hb : Below wz.heap.size wz wy := (by rw [hwy]; exact (Below.refl _ _).alloc (Nat.le_refl _) _); have hlp := hP.lt; have hp : BO (G + 1) gp ap cp bp dp Lp Tp wy := ⟨(by first | exact Nat.zero_le _ | (rw [hgp]; exact hlp)), (by rw [hwy, hgp]; exact heap_alloc_new wz _), op.below hb, rp.below hb⟩; (try replace hS := hS.next hb); (try replace hT := hT.next hb); (try replace hP := hP.next hb); (try replace h3 := h3.next hb); (try replace h2 := h2.next hb); (try replace hq := hq.next hb); (try replace ht := ht.next hb); clear hwy hgp hlp op rp)
        | (refine wpList_store_row rfl 31 _ _ rfl wz.heap.size #[.slice a2 L2.length c2, .slice b2 T2.length d2] rfl rfl _ _ (heap_alloc_new wz (.cells #[.slice none 0 0, .slice none 0 0] 31)) (size_Alg _ _) rfl (one_sl2 _ _ _ _ _ _) ?_; rw [World.setRow_alloc_new]; obtain ⟨g2, hg2⟩ : ∃ b, b = wz.heap.size := ⟨_, rfl⟩; obtain ⟨wy, hwy⟩ : ∃ wy, wy = wz.alloc (.cells #[.slice a2 L2.length c2, .slice b2 T2.length d2] 31) := ⟨_, rfl⟩; rw [← hwy, ← hg2]; have hb : Below wz.heap.size wz wy := (by rw [hwy]; exact (Below.refl _ _).alloc (Nat.le_refl _) _); have hl2 := hP.lt; have h2 : BO (G + 1) g2 a2 c2 b2 d2 L2 T2 wy := ⟨(by first | exact Nat.zero_le _ | (rw [hg2]; exact hl2)), (by rw [hwy, hg2]; exact heap_alloc_new wz _), o2.below hb, r2.below hb⟩; (try replace hS := hS.next hb); (try replace hT := hT.next hb); (try replace hP := hP.next hb); (try replace h3 := h3.next hb); (try replace hp := hp.next hb); (try replace hq := hq.next hb); (try replace ht := ht.next hb); clear hwy hg2 hl2 o2 r2)
        | (refine wpList_store_row rfl 31 _ _ rfl wz.heap.size #[.slice a3 L3.length c3, .slice b3 T3.length d3] rfl rfl _ _ (heap_alloc_new wz (.cells #[.slice none 0 0, .slice none 0 0] 31)) (size_Alg _ _) rfl (one_sl2 _ _ _ _ _ _) ?_; rw [World.setRow_alloc_new]; obtain ⟨g3, hg3⟩ : ∃ b, b = wz.heap.size := ⟨_, rfl⟩; obtain ⟨wy, hwy⟩ : ∃ wy, wy = wz.alloc (.cells #[.slice a3 L3.length c3, .slice b3 T3.length d3] 31) := ⟨_, rfl⟩; rw [← hwy, ← hg3]; have hb : Below wz.heap.size wz wy := (by rw [hwy]; exact (Below.refl _ _).alloc (Nat.le_refl _) _); have hl3 := hP.lt; have h3 : BO (G + 1) g3 a3 c3 b3 d3 L3 T3 wy := ⟨(by first | exact Nat.zero_le _ | (rw [hg3]; exact hl3)), (by rw [hwy, hg3]; exact heap_alloc_new wz _), o3.below hb, r3.below hb⟩; (try replace hS := hS.next hb); (try replace hT := hT.next hb); (try replace hP := hP.next hb); (try replace h2 := h2.next hb); (try replace hp := hp.next hb); (try replace hq := hq.next hb); (try replace ht := ht.next hb); clear hwy hg3 hl3 o3 r3)
        | (refine wpList_load_row_w rfl 31 _ rfl g3 rfl _ _ _ _ h3.box Try.underlying31 rfl (size_Alg _ _) ?_)
        | (refine wpList_load_row_w rfl 31 _ rfl g2 rfl _ _ _ _ h2.box Try.underlying31 rfl (size_Alg _ _) ?_)
        | (refine wpList_load_row_w rfl 31 _ rfl gp rfl _ _ _ _ hp.box Try.underlying31 rfl (size_Alg _ _) ?_)
        | (refine wpList_load_row_w rfl 31 _ rfl gq rfl _ _ _ _ hq.box Try.underlying31 rfl (size_Alg _ _) ?_)
        | (go_at_call_of 10 (Value.agg #[.slice a3 L3.length c3, .slice b3 T3.length d3]); refine (HX.out _ _ _ _ _ _ _ _ _ h3.rd.1 h3.rd.2 h2.rd.1 h2.rd.2).mono ?_; rintro e wz ⟨ap, cp, bp, dp, rfl, op, rp, hb⟩; (try replace hS := hS.next hb); (try replace hT := hT.next hb); (try replace hP := hP.next hb); (try replace h3 := h3.next hb); (try replace h2 := h2.next hb); (try replace hp := hp.next hb); (try replace hq := hq.next hb); (try replace ht := ht.next hb))
        | (go_at_call_of 10 (Value.agg #[.slice a2 L2.length c2, .slice b2 T2.length d2]); refine (HY.out _ _ _ _ _ _ _ _ _ h2.rd.1 h2.rd.2 h2.rd.1 h2.rd.2).mono ?_; rintro e wz ⟨aq, cq, bq, dq, rfl, oq, rq, hb⟩; (try replace hS := hS.next hb); (try replace hT := hT.next hb); (try replace hP := hP.next hb); (try replace h3 := h3.next hb); (try replace h2 := h2.next hb); (try replace hp := hp.next hb); (try replace hq := hq.next hb); (try replace ht := ht.next hb))
        | (at_builtin; refine wpList_append_algP rfl _ _ rfl w.heap.size (.slice (some ⟨G, 0, none⟩) P1.length gc) P1 [(L3, T3), (L2, T2), (Lp, Tp), (Lq, Tq)] _ rfl (hP.algs.below ((Below.refl _ _).alloc (Nat.le_refl _) _)) wy.heap.size 4 rfl [.slice a3 L3.length c3, .slice b3 T3.length d3, .slice a2 L2.length c2, .slice b2 T2.length d2, .slice ap Lp.length cp, .slice bp Tp.length dp, .slice aq Lq.length cq, .slice bq Tq.length dq] rfl (heap_alloc_new wy _) (by simp [Value.oneCell']) (cells4 (h3.own.alloc _) (h3.rows.alloc _) (h2.own.alloc _) (h2.rows.alloc _) (hp.own.alloc _) (hp.rows.alloc _) (hq.own.alloc _) (hq.rows.alloc _)) (by have := HP6.out; omega) (by omega) (by have := hS.1.size; simp; omega) ?_; intro v6 w6 hA6 hg6; have hba : Below wy.heap.size wy (wy.alloc (.cells #[.slice a3 L3.length c3, .slice b3 T3.length d3, .slice a2 L2.length c2, .slice b2 T2.length d2, .slice ap Lp.length cp, .slice bp Tp.length dp, .slice aq Lq.length cq, .slice bq Tq.length dq] 31)) := (Below.refl _ _).alloc (Nat.le_refl _) _; obtain ⟨cs0, hq0, _⟩ := hP.algs.below hba; have hT6 := (hT.next hba).grown hq0 (Nat.le_refl _) hg6; have h36 := (h3.next hba).grown hq0 hg6 (fun q hq e => by simp only [Value.ownBlock, Option.some.injEq] at hq; have := h3.old; omega); have hq6 := (hq.next hba).grown hq0 hg6 (fun q hq' e => by simp only [Value.ownBlock, Option.some.injEq] at hq'; have := hq.old; omega); rw [← HP2.out] at hA6; obtain ⟨G6, c6, rfl⟩ := hA6.has (by have := HP10.out; omega); clear hg6 hq0 hba hS hT hP h3 h2 hp hq; have hP : PU w G6 c6 P2 w6 := ⟨hT6.bel, hA6⟩; have hT := hT6; have h3 := h36; have hq := hq6; have hS : St w none [] w6 := ⟨hT6.bel, fun h => absurd rfl h⟩; clear hA6 hT6 h36 hq6)
        | (at_builtin; refine wpList_append_algP rfl _ _ rfl w.heap.size (.slice (some ⟨G6, 0, none⟩) P2.length c6) P2 [(Lt, Tt)] _ rfl (hP.algs.below ((Below.refl _ _).alloc (Nat.le_refl _) _)) wy.heap.size 1 rfl [.slice at_ Lt.length ct, .slice bt Tt.length dt] rfl (heap_alloc_new wy _) (by simp [Value.oneCell']) (cells1 (ht.own.alloc _) (ht.rows.alloc _)) (by have := HP10.out; omega) (by omega) (by have := hS.1.size; simp; omega) ?_; intro v7 w7 hA7 hg7; have hba : Below wy.heap.size wy (wy.alloc (.cells #[.slice at_ Lt.length ct, .slice bt Tt.length dt] 31)) := (Below.refl _ _).alloc (Nat.le_refl _) _; obtain ⟨cs0, hq0, _⟩ := hP.algs.below hba; have hT7 := (hT.next hba).grown hq0 (Nat.le_refl _) hg7; rw [← HP3.out] at hA7; obtain ⟨G7, c7, rfl⟩ := hA7.has (by have := HP11.out; omega); clear hg7 hq0 hba hS hT hP h3 hq ht)
        | (refine wpList_store_row rfl 31 _ _ rfl wz.heap.size #[.slice at_ Lt.length ct, .slice bt Tt.length dt] rfl rfl _ _ (heap_alloc_new wz (.cells #[.slice none 0 0, .slice none 0 0] 31)) (size_Alg _ _) rfl (one_sl2 _ _ _ _ _ _) ?_; rw [World.setRow_alloc_new]; obtain ⟨gt, hgt⟩ : ∃ b, b = wz.heap.size := ⟨_, rfl⟩; obtain ⟨wy, hwy⟩ : ∃ wy, wy = wz.alloc (.cells #[.slice at_ Lt.length ct, .slice bt Tt.length dt] 31) := ⟨_, rfl⟩; rw [← hwy, ← hgt]; have hb : Below wz.heap.size wz wy := (by rw [hwy]; exact (Below.refl _ _).alloc (Nat.le_refl _) _); have hlt := hP.lt; have ht : BO 0 gt at_ ct bt dt Lt Tt wy := ⟨(by first | exact Nat.zero_le _ | (rw [hgt]; exact hlt)), (by rw [hwy, hgt]; exact heap_alloc_new wz _), ot.below hb, rt.below hb⟩; (try replace hS := hS.next hb); (try replace hT := hT.next hb); (try replace hP := hP.next hb); (try replace h3 := h3.next hb); (try replace h2 := h2.next hb); (try replace hp := hp.next hb); (try replace hq := hq.next hb); clear hwy hgt hlt ot rt)
        | (refine wpList_load_row_w rfl 31 _ rfl gt rfl _ _ _ _ ht.box Try.underlying31 rfl (size_Alg _ _) ?_)
        | (go_at_call 11; refine (HZ.out _ _ _ _ _ _ _ _ _ hq.rd.1 hq.rd.2 h3.rd.1 h3.rd.2).mono ?_; rintro e wz ⟨at_, ct, bt, dt, rfl, ot, rt, hb⟩; (try replace hS := hS.next hb); (try replace hT := hT.next hb); (try replace hP := hP.next hb); (try replace h3 := h3.next hb); (try replace h2 := h2.next hb); (try replace hp := hp.next hb); (try replace hq := hq.next hb); (try replace ht := ht.next hb)))
    have KU := Lib.hid (show ∀ wz, Below w7.heap.size w7 wz → AlgsP w.heap.size wz (.slice (some ⟨G7, 0, none⟩) P3.length c7) P3 from fun wz hz => hA7.below hz)
    have KO := Lib.hid (show ∀ wz, Below w7.heap.size w7 wz → Rd wz oa O from fun wz hz => (hT7.next hz).own.rd)
    have FIN := Lib.hid (show ∀ wz, Below w7.heap.size w7 wz → Below w.heap.size w wz from fun wz hz => (hT7.next hz).bel)
    clear hA7 hT7 HC HS3 HS2 HX HY HZ HI HP HP2 HP3 HP6 HP10 hb
    go_loopw [16] (fun iv wr => ∃ i : Nat, i ≤ P3.length ∧ iv = .int .i64 (i : Int) ∧ Below w7.heap.size w7 wr) (fun iv _ => (1100 - intOf iv).toNat)
    case atStart => exact ⟨0, by omega, rfl, Below.refl _ _⟩
    case round =>
      obtain ⟨i, iR, rfl, hbr⟩ := hrel
      by_cases hi : (i : Int) < P3.length
      · have ki : IntKind.i64.wrap ((i : Int) + 1) = (i : Int) + 1 := IntWalk.i64_in _ (by have := HP11.out; omega)
        obtain ⟨a, ca, b, cb, hc0, r1, r2⟩ := (KU.out _ hbr).at (k := i) (by omega)
        have hV := HPs.out _ (apAt_mem (Ps := P3) (j := i) (by omega))
        obtain ⟨L, hL⟩ : ∃ L, L = (apAt P3 i).1 := ⟨_, rfl⟩
        obtain ⟨T, hT⟩ : ∃ T, T = (apAt P3 i).2 := ⟨_, rfl⟩
        rw [← hL, ← hT] at hc0 hV
        rw [← hL] at r1
        rw [← hT] at r2
        obtain ⟨V, hVe⟩ : ∃ V, V = itB L T O := ⟨_, rfl⟩
        have M1 := Lib.hid (show ∀ wz, Below wr.heap.size wr wz → wz.rangeAt G7 (i * 2) [.slice a L.length ca, .slice b T.length cb] from fun wz hz j v hv => by rw [hz.cell (block_lt_of_cell (hc0 j v hv))]; exact hc0 j v hv)
        have C1 := Lib.hid (show ∀ wz, Below wr.heap.size wr wz → Calls Try.prog 12 #[.agg #[.slice a L.length ca, .slice b T.length cb], .slice oa O.length oc] wz fun e w' => e = .returned (.bool V) ∧ Below wz.heap.size wz w' from fun wz hz => by rw [hVe]; exact HIT.out a b ca cb L T oa oc wz (r1.below hz) (r2.below hz) (KO.out _ (hbr.trans (hz.mono hbr.size))) hcap)
        have C2 := Lib.hid (show ∀ wz, Below wr.heap.size wr wz → Calls Try.prog 13 #[.string s, .agg #[.slice a L.length ca, .slice b T.length cb]] wz fun e w' => e = .returned (.bool V) ∧ Below wz.heap.size wz w' from fun wz hz => by rw [hVe, hV]; exact implHasProperty_any s a b ca cb L T wz (r1.below hz) (r2.below hz))
        clear hc0 hV hL hT hVe r1 r2
        cases V <;>
        · go_wp2
          refine region_in (Below wr.heap.size wr) (by kernel_rfl) (by kernel_rfl) (Dr.below ⟨1, rfl⟩ _) fun hne => ?_
          repeat (first
            | (go_big_quiet_want; refine quiet_load_mid 31 _ rfl G7 (i * 2) rfl #[.slice a L.length ca, .slice b T.length cb] _ (fun w' ⟨s, hs⟩ => by rw [hs]; exact M1.out _ s.h) Try.underlying31 rfl (size_Alg _ _) ?_; simp only [Act.put, List.setIfInBounds_toArray, List.set_cons_succ, List.set_cons_zero]; go_big_quiet_on)
            | go_big_quiet_step ((first | (go_at_call 12; exact in_below _ (Nat.le_refl _) (C1.out _ (In.h _))) | (go_at_call 13; exact in_below _ (Nat.le_refl _) (C2.out _ (In.h _))))))
          refine wpQuiet_nil ?_
          intro s'
          have hw2 := s'.h
          obtain ⟨w8, hw2'⟩ : ∃ x : World, x = s'.w := ⟨_, rfl⟩
          rw [← hw2'] at hw2 ⊢
          clear hw2'
          go_wp2
          go_roundw
          case rel => exact ⟨i + 1, by omega, by simp, hbr.trans (hw2.mono hbr.size)⟩
          case measure => have := HP11.out; simp [intOf]; omega
      · go_wp2_with (go_at_call 14; refine (HVT.out oa oc _ (KO.out _ hbr) hcap).mono ?_; rintro e w9 ⟨rfl, h9⟩)
        go_ret
        exact ⟨rfl, FIN.out _ (hbr.trans (h9.mono hbr.size))⟩
end Go.Proofs.Ythjbfdoclifhoaa
