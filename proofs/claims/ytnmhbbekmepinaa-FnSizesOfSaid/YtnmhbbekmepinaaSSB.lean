import Derived.Test.YtnmhbbekmepinaaSSA
import Derived.Test.YtnmhbbekmepinaaSG
namespace Go.Proofs.Ytnmhbbekmepinaa
open Go.RowKit
set_option linter.unusedVariables false

/-- a drawn algebra or a stack of sums -/
def SomeS (L : List Int) (T : List (List Int)) : Prop := SomeP L T ∨ ∃ S, szB 5 S = true ∧ (L, T) = skA S
def sgSz (p : List Int × List (List Int)) : Bool := sqB p.1 p.2 == (eqL p.1 (chainTo (p.1.length : Int) (p.1.length : Int)) && hasB 1 p.1 p.2)
theorem sg_szP0 : ((goods).take 12).all sgSz = true := by decide +kernel
theorem sg_szP1 : ((goods.drop 12).take 13).all sgSz = true := by decide +kernel
theorem sg_szP2 : (((goods.drop 12).drop 13).take 13).all sgSz = true := by decide +kernel
theorem sg_szP3 : (((goods.drop 12).drop 13).drop 13).all sgSz = true := by decide +kernel
theorem sg_szP_all {p : List Int × List (List Int)} (hm : p ∈ goods) : sgSz p = true := by
  rw [← List.take_append_drop 12 (goods), List.mem_append] at hm
  rcases hm with hm | hm
  · exact (List.all_eq_true.1 sg_szP0) _ hm
  rw [← List.take_append_drop 13 (goods.drop 12), List.mem_append] at hm
  rcases hm with hm | hm
  · exact (List.all_eq_true.1 sg_szP1) _ hm
  rw [← List.take_append_drop 13 ((goods.drop 12).drop 13), List.mem_append] at hm
  rcases hm with hm | hm
  · exact (List.all_eq_true.1 sg_szP2) _ hm
  exact (List.all_eq_true.1 sg_szP3) _ hm
theorem sq_iff {L : List Int} {T : List (List Int)} (h : SomeS L T) (ha : algB L T = true) : sqB L T = (eqL L (chainTo (L.length : Int) (L.length : Int)) && hasB 1 L T) := by
  rcases h with h | ⟨S, hS, e⟩
  · have := sg_szP_all (p := (L, T)) (someP_good h ha)
    unfold sgSz at this
    exact beq_iff_eq.1 this
  · have f := skF S hS
    have q := sq_sk hS
    rw [(sk_yes hS).1, (sk_yes hS).2] at q
    have e1 : L = (skA S).1 := by rw [← e]
    have e2 : T = (skA S).2 := by rw [← e]
    rw [← e1, ← e2] at q f
    rw [q.2.2.1, f.div, Bool.and_true]
    have hu := f.up
    rw [← f.len] at hu
    have : eqL L (chainTo (L.length : Int) (L.length : Int)) = eqL L L := congrArg (eqL L) hu.symm
    rw [this, eqL_same]
/-- an algebra of which the law speaks is drawn -/
def RetDAz (w : World) (e : Ending) (w' : World) : Prop := ∃ (L : List Int) (T : List (List Int)) (a : Option Addr) (ca : Nat) (b : Option Addr) (cb : Nat), e = .returned (.agg #[.slice a L.length ca, .slice b T.length cb]) ∧ SomeS L T ∧ Rd w' a L ∧ RdT w' b T ∧ Below w.heap.size w w'
theorem someS_len {L : List Int} {T : List (List Int)} (h : SomeS L T) : L.length ≤ 7 ∧ T.length ≤ 6 ∧ ∀ j : Nat, j < T.length → (rowAt T j).length ≤ 6 := by
  rcases h with h | ⟨S, hS, e⟩
  · exact ⟨(someP_len h).2.1, (someP_len h).2.2.1, (someP_len h).2.2.2⟩
  · have t := sk_ti S
    have e1 : (skA S).1 = L := by rw [← e]
    have e2 : (skA S).2 = T := by rw [← e]
    rw [(sk_yes hS).1, (sk_yes hS).2, e1, e2] at t
    exact ⟨by have := t.1; omega, t.2.1, t.2.2⟩
set_option maxRecDepth 100000 in
set_option maxHeartbeats 4000000 in
/-- spec.DrawSizesOf -/
theorem drawSizesOf_any (a : Option Addr) (n cap : Nat) (w : World) (hy : RdY w a n w.heap.size) (hc : n ≤ cap) (hm : n ≤ 1048576) :
    Calls Try.prog 54 #[.slice a n cap] w (RetDAz w) := by
  obtain ⟨w0, hw0⟩ : ∃ w0, w0 = w.alloc (.cells #[.slice none 0 0, .slice none 0 0] 27) := ⟨_, rfl⟩
  have hB : Below w.heap.size w w0 := by rw [hw0]; exact (Below.refl _ _).alloc (Nat.le_refl _) _
  have hz0 : w0.heap[w.heap.size]? = some (.cells #[.slice none 0 0, .slice none 0 0] 27 (0, 0)) := by rw [hw0]; exact heap_alloc_new w _
  have lz := lt_of_block hz0
  have hy0 := hy.up hB hB.size
  clear hy
  go_enter Try.func54, Try.ntmps54
  go_wp2_with (rw [← hw0]; clear hw0)
  refine (newReader_any a n cap w0 hy0 hc hm).mono ?_
  rintro e w1 ⟨rfl, hb1, hr1⟩
  have hs1 := hb1.size
  obtain ⟨g, hg⟩ : ∃ g : Nat, g = w0.heap.size := ⟨_, rfl⟩
  have hy1 := hy0.up hb1 hs1
  rw [← hg] at hr1 ⊢
  have lg : w.heap.size < g := by omega
  have hz1 := (hb1.block _ lz).trans hz0
  have hB1 : Below w.heap.size w w1 := hB.trans (hb1.mono hB.size)
  clear hg hz0 hb1 hy0
  go_wp2_with fail
  refine (drawStackOfSums_any a n cap w1 hy1 hc hm).mono ?_
  rintro e w2 ⟨S, sa, sc, rfl, hSr, hScap, hS3, _, hb2⟩
  have hr2 := hr1.below hb2
  have hz2 := (hb2.block _ (lt_of_block hz1)).trans hz1
  have hB2 := hB1.trans (hb2.mono hB1.size)
  have hg2 : w1.grownBy w2 (some g) := grown_of_below hb2
  clear hr1 hz1 hy1
  have hrS := hSr.rd
  have HV := Lib.hid (validSizes_any sa sc S w2 hrS (by omega))
  cases h : szB 5 S with
  | false =>
    rw [h] at HV
    go_wp2_with (first | go_skip | (go_at_call 108; refine HV.out.mono ?_; rintro e w3 ⟨rfl, rfl⟩))
    refine (someAlgebra_any g g 0 w2 hr2 (by omega)).mono ?_
    rintro e w4 ⟨L, T, va, vca, vb, vcb, rfl, hP, hR, hT, hg4, hr4⟩
    have hz4 := box_drawn hz2 (by omega) hg4
    have hk := kp_row hz4 (w' := w4.setRow w.heap.size #[.slice va L.length vca, .slice vb T.length vcb]) (fun k hk => setRow_other w4 _ k _ hk)
    go_wp2_with (refine wpList_store_row rfl 27 _ _ rfl w.heap.size #[.slice va L.length vca, .slice vb T.length vcb] rfl rfl _ _ hz4 (size_Alg _ _) rfl (one_sl2 _ _ _ _ _ _) ?_)
    refine bodyPost_ret (results_cell_row rfl _ _ w.heap.size _ _ _ _ rfl (setRow_heap _ _ _ _ _ _ hz4) Try.underlying27 rfl (size_Alg _ _)) rfl ?_
    exact ⟨L, T, va, vca, vb, vcb, rfl, .inl hP, (hR.kp hk).rd, (hT.kp hk).rd, below_setRow' (hB2.trans (grown_below hg4 (by omega) hB2.size)) (Nat.le_refl _) _⟩
  | true =>
    have HST := Lib.hid (fun (w : World) (h1 : Rd w sa S) => specStackOfL_any sa sc S w h1 h)
    have HSS := Lib.hid h
    rw [h] at HV
    clear h
    go_wp2_with (first | go_skip | (go_at_call 108; refine HV.out.mono ?_; rintro e w3 ⟨rfl, rfl⟩) | (go_at_call 115; refine (pick_any g g 0 3 w2 hr2 (by omega) (by omega) (by omega)).mono ?_; rintro e w4 ⟨p, rfl, p0, p1, hg4, hr4⟩; have hz4 := box_drawn hz2 (by omega) hg4; have hB4 := hB2.trans (grown_below hg4 (by omega) hB2.size); have hS4 := (hSr.kp (kp_drawn hr2 hg4)).rd; clear hr2 hz2 hg2 hSr hrS))
    all_goals first
      | (go_at_call 121
         refine (someAlgebra_any g g 1 w4 hr4 (by omega)).mono ?_
         rintro e w5 ⟨L, T, va, vca, vb, vcb, rfl, hP, hR, hT, hg5, hr5⟩
         have hz5 := box_drawn hz4 (by omega) hg5
         have hk := kp_row hz5 (w' := w5.setRow w.heap.size #[.slice va L.length vca, .slice vb T.length vcb]) (fun k hk => setRow_other w5 _ k _ hk)
         go_wp2_with (refine wpList_store_row rfl 27 _ _ rfl w.heap.size #[.slice va L.length vca, .slice vb T.length vcb] rfl rfl _ _ hz5 (size_Alg _ _) rfl (one_sl2 _ _ _ _ _ _) ?_)
         refine bodyPost_ret (results_cell_row rfl _ _ w.heap.size _ _ _ _ rfl (setRow_heap _ _ _ _ _ _ hz5) Try.underlying27 rfl (size_Alg _ _)) rfl ?_
         exact ⟨L, T, va, vca, vb, vcb, rfl, .inl hP, (hR.kp hk).rd, (hT.kp hk).rd, below_setRow' (hB4.trans (grown_below hg5 (by omega) hB4.size)) (Nat.le_refl _) _⟩)
      | (go_at_call 109
         refine (HST.out _ hS4).mono ?_
         rintro e w5 ⟨va, vca, vb, vcb, rfl, hR, hT, hb5⟩
         have hRy := ry_of hR
         have hTy := ty_of hT
         have hz5 := (hb5.block _ (lt_of_block hz4)).trans hz4
         have hB5 := hB4.trans (hb5.mono hB4.size)
         have hk := kp_row hz5 (w' := w5.setRow w.heap.size #[.slice va (skA S).1.length vca, .slice vb (skA S).2.length vcb]) (fun k hk => setRow_other w5 _ k _ hk)
         go_wp2_with (refine wpList_store_row rfl 27 _ _ rfl w.heap.size #[.slice va (skA S).1.length vca, .slice vb (skA S).2.length vcb] rfl rfl _ _ hz5 (size_Alg _ _) rfl (one_sl2 _ _ _ _ _ _) ?_)
         refine bodyPost_ret (results_cell_row rfl _ _ w.heap.size _ _ _ _ rfl (setRow_heap _ _ _ _ _ _ hz5) Try.underlying27 rfl (size_Alg _ _)) rfl ?_
         exact ⟨(skA S).1, (skA S).2, va, vca, vb, vcb, rfl, .inr ⟨S, HSS.out, rfl⟩, (hRy.kp hk).rd, (hTy.kp hk).rd, below_setRow' hB5 (Nat.le_refl _) _⟩)
end Go.Proofs.Ytnmhbbekmepinaa
