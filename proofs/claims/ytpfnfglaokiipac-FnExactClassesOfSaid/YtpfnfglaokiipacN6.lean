import Derived.Test.YtpfnfglaokiipacN5
import Derived.RangeFuncNested
import Derived.RangeFuncBound
import Derived.RangeFuncCalls
import Derived.RangeFuncBox
import Derived.RangeFuncLeaves
import Derived.Shelf.Abstract
import Derived.OwnWalkIn
import Derived.TacticsInMore
import Derived.LoopNIn
import Derived.LoopIn
import Derived.Maps.AppendAt
namespace Go.Proofs.Ytpfnfglaokiipac
open Go.RowKit Go.Shelf

attribute [local go_sem] Oper.semAt_some
set_option maxRecDepth 100000 in
set_option maxHeartbeats 4000000 in
/-- impl.algebra.filtersThat at whatever method value -/
theorem filtersThat_m (f : Nat) (r : Value) (L : List Int) (T : List (List Int)) (p : Int → Bool) (w : World) (h : algB L T = true) (he : Enters f)
    (H : ∀ (x : Int) (wr : World), x ∈ fls L T → Below w.heap.size w wr → Calls Try.prog f (#[r, .int .i64 x]) wr fun e w' => e = .returned (.bool (p x)) ∧ Below wr.heap.size wr w') :
    Calls Try.prog 72 #[.agg (algOf L T), .func (.func f) #[r] #[]] w (RetSl w.heap.size ((fls L T).filter p) w) := by
  obtain ⟨i0, hi, hz0, hz1, hz2⟩ := info_parts info_int
  have n6 := (lat_len (alg_lat h)).2
  obtain ⟨w3, hw3⟩ : ∃ w3, w3 = ((w.alloc (.cells (algOf L T) 60)).alloc (.cells #[.func (.func f) #[r] #[]] 81)).alloc (.cells #[.slice none 0 0] 22) := ⟨_, rfl⟩
  have z3 : w3.heap.size = w.heap.size + 1 + 1 + 1 := by rw [hw3]; simp
  have B3 : Below w.heap.size w w3 := by rw [hw3]; exact (((Below.refl _ _).alloc (Nat.le_refl _) _).alloc (by simp) _).alloc (by simp; omega) _
  have P3 : Boxed w3 (w.heap.size + 1) 81 (.func (.func f) #[r] #[]) := by rw [hw3]; exact Boxed.alloc (heap_alloc2_new _ _ _) _
  have L3 : Boxed w3 (w.heap.size + 1 + 1) 22 (.slice none 0 0) := by
    rw [hw3]
    have := Boxed.new ((w.alloc (.cells (algOf L T) 60)).alloc (.cells #[.func (.func f) #[r] #[]] 81)) 22 (.slice none 0 0)
    simpa using this
  have A3 : AlgAt w3 w.heap.size L T := by rw [hw3]; exact ((AlgAt.new w L T).alloc _).alloc _
  obtain ⟨w4, hw4⟩ : ∃ w4, w4 = w3.alloc (.cells (algOf L T) 60) := ⟨_, rfl⟩
  have z4 : w4.heap.size = w.heap.size + 1 + 1 + 1 + 1 := by rw [hw4]; simp; omega
  have F4 : FT L T (.func (.func f) #[r] #[]) w w4 := by
    rw [hw4]
    exact ⟨B3.alloc (by omega) _, P3.alloc _, by rw [← z3]; exact AlgAt.new w3 L T⟩
  have L4 : Boxed w4 (w.heap.size + 1 + 1) 22 (.slice none 0 0) := by rw [hw4]; exact L3.alloc _
  refine (callsIn_wide (n := 8)).1 ?_
  refine callsIn_of_wp_marks Try.func72 rfl trivial ?_ rfl
  simp only [Try.ntmps72, List.size_toArray, List.length_cons, List.length_nil, Nat.reduceAdd, Nat.reduceSub, Array.replicate_succ, Array.replicate_zero, List.push_toArray, List.append_toArray, List.nil_append, List.cons_append]
  gi_wp2_with (first
    | (rw [← hw3]; clear hw3)
    | (refine wpListIn_load_row_w rfl 60 _ rfl w.heap.size rfl _ _ _ _ A3 Try.underlying60 rfl (size_alg _ _ _ _ _ _) ?_)
    | (refine ⟨trivial, ?_⟩; gi_at_call 66; refine (callsIn_wide.2 (filtersM_any L T _)).mono ?_; rintro e w' ⟨rfl, rfl⟩))
  rw [← hw4]
  clear hw4
  have HH := Lib.hid H
  have HE := Lib.hid (show ∀ (args : Array Value) (w : World), (callFunc f args).run Try.prog w = .ok (.enter f args) w from he)
  clear H he
  refine wpIn_rangeFunc_ownG rfl (by omega) (gf := 104) (lb := #[.pointer (some ⟨w.heap.size + 1 + 1 + 1, 0, none⟩)]) rfl trivial enters_filt
    (filt_stops 7 (by omega) (w.heap.size + 1 + 1 + 1) L T h w4 F4.alg) keepsA_t keepsA_b (Below.refl _ _) (fun _ => rfl)
    (fun pre W => (∃ v, Boxed W (w.heap.size + 1 + 1) 22 v ∧ W.ownsRow (w.heap.size + 1 + 1 + 1 + 1) 3 1 v ((vals pre).filter p).length (((vals pre).filter p).map (Value.int .i64)) ∧ True) ∧ FT L T (.func (.func f) #[r] #[]) w W)
    (fun _ _ _ => False)
    (OwnFrom.and (Go.Own.from (holdsRow_own (w.heap.size + 1 + 1 + 1 + 1) (w.heap.size + 1 + 1) 22 3 1 (fun pre => ((vals pre).filter p).length) (fun pre => ((vals pre).filter p).map (Value.int .i64)) (fun _ _ => True)) _) (ft_own (by omega)))
    (fun _ _ _ _ _ hs _ _ => hs)
    ⟨⟨_, L4, World.ownsRow_nil _ _ _ _, trivial⟩, F4⟩
    (fun x => { tmps := #[.agg (algOf L T), .func (.func f) #[r] #[], .pointer (some ⟨w.heap.size, 0, none⟩), .pointer (some ⟨w.heap.size + 1, 0, none⟩), .slice none 0 0, .pointer (some ⟨w.heap.size + 1 + 1, 0, none⟩), .int .i64 x.1, .agg (algOf L T), .func (.func 104) #[] #[.pointer (some ⟨w.heap.size + 1 + 1 + 1, 0, none⟩)], .int .i64 x.1, undef, undef, undef, undef, undef, undef, undef, undef], defers := [] }) ?assign ?body ?done ?stop
  case assign =>
    intro l x W K hK
    gi_wp2
    exact hK
  case body =>
    rintro l pre x W ⟨⟨v, hv, hrow, _⟩, hF⟩ hlt
    have hc := hv.cell
    have hpc := hF.pass.cell
    have hC := HH.out x.1 W x.2 hF.bel
    have hpl : ((vals pre).filter p).length ≤ 64 := by
      have h1 := List.length_filter_le p (vals pre)
      rw [vals_len] at h1; omega
    have hsn := Lib.hid (filt_snoc p pre x)
    cases hq : p x.1 with
    | true =>
      rw [hq] at hC
      have hsu := Lib.hid (show (vals (pre ++ [x])).filter p = (vals pre).filter p ++ [x.1] by rw [hsn.out, hq]; rfl)
      have HC := Lib.hid hC; clear hq hC
      gi_wp2_with (first
        | (refine ⟨trivial, ?_⟩; rw [HE.out]; refine ⟨fun h => (by cases h), (CallsIn.inRound l (callsIn_wide.2 HC.out)).mono ?_⟩; rintro e w2 ⟨rfl, h2⟩; have hF2 := ft_below hF h2; have hv2 := hv.kept (below_grown h2) (by simp); have hrow2 : Own _ w2 v _ := Own.below (show Own _ W v _ from hrow) h2; have hc2 := hv2.cell)
        | (gi_at_builtin; refine wpListIn_append_own _ rfl _ _ 22 rfl (w.heap.size + 1 + 1 + 1 + 1) 3 i0 (.int .i64 0) 1 8 Try.underlying22 hi hz0 hz1 hz2 rfl (by decide) _ _ _ rfl (Own.alloc hrow2 _) ⟨w2.heap.size, 0, none⟩ 1 1 [.int .i64 x.1] rfl rfl (cell_one_new _ _ _) (by simp [Value.oneCell']) (by unfold maxLen; omega) (by omega) (by have := hF2.alg.lt; simp; omega) ?_; intro v' w8 hown' hgrow _; obtain ⟨g', cap', rfl⟩ := ownsRow_succ hown'; obtain ⟨hv3, hv4, hr4, hk4, hF4⟩ := ft_appended hF2 hv2 hrow2 hown' hgrow; have hc3 := hv3.cell; have hf3 := hv3.frozen))
      exact ⟨(KeepsFrom.of_grownBy (below_grown h2) (fun j e => by cases e)).trans (hk4.from _), fun _ => hF4.alg, ⟨_, hv4, by rw [hsu.out]; simpa using hr4, trivial⟩, hF4⟩
    | false =>
      rw [hq] at hC
      have hsu := Lib.hid (show (vals (pre ++ [x])).filter p = (vals pre).filter p by rw [hsn.out, hq]; rfl)
      have HC := Lib.hid hC; clear hq hC
      gi_wp2_with (first
        | (refine ⟨trivial, ?_⟩; rw [HE.out]; refine ⟨fun h => (by cases h), (CallsIn.inRound l (callsIn_wide.2 HC.out)).mono ?_⟩; rintro e w2 ⟨rfl, h2⟩; have hF2 := ft_below hF h2; have hv2 := hv.kept (below_grown h2) (by simp); have hrow2 : Own _ w2 v _ := Own.below (show Own _ W v _ from hrow) h2; have hc2 := hv2.cell))
      exact ⟨KeepsFrom.of_grownBy (below_grown h2) (fun j e => by cases e), fun _ => hF2.alg, ⟨v, hv2, by rw [hsu.out]; exact hrow2, trivial⟩, hF2⟩
  case done =>
    rintro D ys W hD hys ⟨⟨v, hv, hrow, _⟩, hF⟩ hK
    have hc := hv.cell
    gi_wp2
    refine ⟨by simp, .inl ⟨_, _, rfl, run_takeDeferred hK, ?_⟩⟩
    refine ⟨_, results_tmp rfl _ _ _, RetOwn.sl (B := w.heap.size) ⟨v, rfl, ?_, ?_⟩⟩
    · rw [hys] at hrow
      exact ownsRow_putObj (ownsRow_from hrow (by omega)) _ hK rfl
    · exact hF.bel.trans (belowK_b (w := w) (Nat.le_refl _) W D _ _ (by omega) hK rfl rfl)
  case stop =>
    rintro D c pre W _ _ h _
    exact h.elim
/-- what lies round the loop of AppendSeq -/
structure FS (L : List Int) (T : List (List Int)) (ba : Nat) (w W : World) : Prop where
  bel : Below w.heap.size w W
  alg : AlgAt W ba L T
theorem fs_own {β : Type} {L : List Int} {T : List (List Int)} {ba : Nat} {w : World} {B : Nat} (hB : w.heap.size ≤ B) : OwnFrom B (fun (_ : β) W => FS L T ba w W) := by
  intro s W W' row hs hg hr
  refine ⟨hs.bel.grown hg hs.bel.size (fun k e => Nat.le_trans hB (hr k e).1), hs.alg.kept hg fun e => ?_⟩
  obtain ⟨_, o, ho, hc⟩ := hr _ e.symm
  rw [show W.heap[ba]? = _ from hs.alg] at ho; cases ho; cases hc
/-- 's = append(s, v)' in the round -/
theorem fs_appended {L : List Int} {T : List (List Int)} {ba : Nat} {w W w1 : World} {v v' : Value} {k m : Nat} {xs ys : List Value} {tmp : Obj} (hba : ba < w.heap.size) (hF : FS L T ba w W) (hv : Boxed W w.heap.size 22 v) (hrow : W.ownsRow (w.heap.size + 1) 3 1 v k xs)
    (hown' : w1.ownsRow (w.heap.size + 1) 3 1 v' m ys) (hgrow : (W.alloc tmp).grownBy w1 v.ownBlock) :
    Boxed w1 w.heap.size 22 v ∧ Boxed (w1.setCell ⟨w.heap.size, 0, none⟩ v') w.heap.size 22 v' ∧ (w1.setCell ⟨w.heap.size, 0, none⟩ v').ownsRow (w.heap.size + 1) 3 1 v' m ys ∧ KeepsOthers W (w1.setCell ⟨w.heap.size, 0, none⟩ v') ∧ FS L T ba w (w1.setCell ⟨w.heap.size, 0, none⟩ v') := by
  obtain ⟨hv1, hv2, hr2, hk2, hb2⟩ := hv.appended (n₀ := w.heap.size) (by decide) (ownsRow_from hrow (by omega)) hF.bel.size (by omega) (ownsRow_from hown' (by omega)) hgrow
  refine ⟨hv1, hv2, hown'.kept (grownBy_setCell' w1 _ v') (.inr (hv1.not_row (by decide) hown').symm), hk2, hF.bel.trans hb2, ?_⟩
  refine ((hF.alg.kept (World.grownBy_alloc W tmp none) (by simp)).kept hgrow (ownsRow_ge hrow (by omega))).kept (grownBy_setCell' w1 _ v') (fun e => ?_)
  injection e with e; omega
set_option maxRecDepth 100000 in
set_option maxHeartbeats 4000000 in
/-- slices.AppendSeq(nil, the filters) -/
theorem appendSeq_any (ba : Nat) (L : List Int) (T : List (List Int)) (w : World) (h : algB L T = true) (hA : AlgAt w ba L T) :
    Calls Try.prog 103 #[.slice none 0 0, .func (.func 104) #[] #[.pointer (some ⟨ba, 0, none⟩)]] w (RetSl w.heap.size (fls L T) w) := by
  obtain ⟨i0, hi, hz0, hz1, hz2⟩ := info_parts info_int
  have hba := hA.lt
  obtain ⟨w4, hw4⟩ : ∃ w4, w4 = w.alloc (.cells #[.slice none 0 0] 22) := ⟨_, rfl⟩
  have z4 : w4.heap.size = w.heap.size + 1 := by rw [hw4]; simp
  have F4 : FS L T ba w w4 := by rw [hw4]; exact ⟨(Below.refl _ _).alloc (Nat.le_refl _) _, hA.alloc _⟩
  have L4 : Boxed w4 w.heap.size 22 (.slice none 0 0) := by rw [hw4]; exact Boxed.new w _ _
  refine (callsIn_wide (n := 8)).1 ?_
  refine callsIn_of_wp_marks Try.func103 rfl trivial ?_ rfl
  simp only [Try.ntmps103, List.size_toArray, List.length_cons, List.length_nil, Nat.reduceAdd, Nat.reduceSub, Array.replicate_succ, Array.replicate_zero, List.push_toArray, List.append_toArray, List.nil_append, List.cons_append]
  gi_wp2
  rw [← hw4]
  clear hw4
  refine wpIn_rangeFunc_ownG rfl (by omega) (gf := 104) (lb := #[.pointer (some ⟨ba, 0, none⟩)]) rfl trivial enters_filt
    (filt_stops 7 (by omega) ba L T h w4 F4.alg) keepsA_t keepsA_b (Below.refl _ _) (fun _ => rfl)
    (fun pre W => (∃ v, Boxed W w.heap.size 22 v ∧ W.ownsRow (w.heap.size + 1) 3 1 v (vals pre).length ((vals pre).map (Value.int .i64)) ∧ True) ∧ FS L T ba w W)
    (fun _ _ _ => False)
    (OwnFrom.and (Go.Own.from (holdsRow_own (w.heap.size + 1) w.heap.size 22 3 1 (fun pre => (vals pre).length) (fun pre => (vals pre).map (Value.int .i64)) (fun _ _ => True)) _) (fs_own (by omega)))
    (fun _ _ _ _ _ hs _ _ => hs)
    ⟨⟨_, L4, World.ownsRow_nil _ _ _ _, trivial⟩, F4⟩
    (fun x => { tmps := #[.slice none 0 0, .func (.func 104) #[] #[.pointer (some ⟨ba, 0, none⟩)], .pointer (some ⟨w.heap.size, 0, none⟩), undef, .slice none 0 0, .int .i64 x.1, .func (.func 104) #[] #[.pointer (some ⟨ba, 0, none⟩)], .int .i64 x.1, undef, undef, undef, undef, undef], defers := [] }) ?assign ?body ?done ?stop
  case assign =>
    intro l x W K hK
    gi_wp2
    exact hK
  case body =>
    rintro l pre x W ⟨⟨v, hv, hrow, _⟩, hF⟩ hlt
    have hc := hv.cell
    have hpl : (vals pre).length ≤ 64 := by rw [vals_len]; omega
    have hsu := Lib.hid (vals_snoc pre x)
    gi_wp2_with (gi_at_builtin; refine wpListIn_append_own _ rfl _ _ 22 rfl (w.heap.size + 1) 3 i0 (.int .i64 0) 1 8 Try.underlying22 hi hz0 hz1 hz2 rfl (by decide) _ _ _ rfl (World.ownsRow.alloc hrow _) ⟨W.heap.size, 0, none⟩ 1 1 [.int .i64 x.1] rfl rfl (cell_one_new _ _ _) (by simp [Value.oneCell']) (by unfold maxLen; omega) (by omega) (by have := hv.lt; simp; omega) ?_; intro v' w8 hown' hgrow _; obtain ⟨g', cap', rfl⟩ := ownsRow_succ hown'; obtain ⟨hv3, hv4, hr4, hk4, hF4⟩ := fs_appended hba hF hv hrow hown' hgrow; have hc3 := hv3.cell; have hf3 := hv3.frozen)
    exact ⟨hk4.from _, fun _ => hF4.alg, ⟨_, hv4, by rw [hsu.out]; simpa using hr4, trivial⟩, hF4⟩
  case done =>
    rintro D ys W hD hys ⟨⟨v, hv, hrow, _⟩, hF⟩ hK
    have hc := hv.cell
    gi_wp2
    refine ⟨by simp, .inl ⟨_, _, rfl, run_takeDeferred hK, ?_⟩⟩
    refine ⟨_, results_tmp rfl _ _ _, RetOwn.sl (B := w.heap.size) ⟨v, rfl, ?_, ?_⟩⟩
    · rw [hys] at hrow
      exact ownsRow_putObj (ownsRow_from hrow (by omega)) _ hK rfl
    · exact hF.bel.trans (belowK_b (w := w) (Nat.le_refl _) W D _ _ (by omega) hK rfl rfl)
  case stop =>
    rintro D c pre W _ _ h _
    exact h.elim
set_option maxRecDepth 100000 in
set_option maxHeartbeats 1000000 in
/-- slices.Collect of the filters -/
theorem collect_any (ba : Nat) (L : List Int) (T : List (List Int)) (w : World) (h : algB L T = true) (hA : AlgAt w ba L T) :
    Calls Try.prog 65 #[.func (.func 104) #[] #[.pointer (some ⟨ba, 0, none⟩)]] w (RetSl w.heap.size (fls L T) w) := by
  go_enter Try.func65, Try.ntmps65
  go_wp2_with (go_at_call 103; refine (appendSeq_any ba L T w h hA).mono ?_; rintro e w3 ⟨a3, c3, rfl, o3, h3⟩)
  go_ret
  exact ⟨a3, c3, rfl, o3, h3⟩
set_option maxRecDepth 100000 in
set_option maxHeartbeats 1000000 in
/-- impl.hasAll -/
theorem hasAll_any (f g : Int) (w : World) (f0 : 0 ≤ f) (f6 : f ≤ 63) (g0 : 0 ≤ g) (g6 : g ≤ 63) :
    Calls Try.prog 74 #[.int .i64 f, .int .i64 g] w fun e w' => e = .returned (.bool (hasA f g)) ∧ w = w' := by
  have hb := bits_and_i64 f g f0 (by omega) g0 (by omega)
  have hv := Lib.hid (show hasA f g = (an f g == g) from rfl)
  go_enter Try.func74, Try.ntmps74
  go_wp2
  go_ret
  exact ⟨ret_bool (by rw [hv.out]), rfl⟩
set_option maxRecDepth 100000 in
set_option maxHeartbeats 2000000 in
/-- impl.algebra.common -/
theorem common_any (a : Option Addr) (c : Nat) (L : List Int) (T : List (List Int)) (V : List Int) (w : World) (hr : Rd w a V) (h : algB L T = true) (hl : V.length ≤ 64) (hm : ∀ s ∈ V, 0 ≤ s ∧ s ≤ 63) :
    Calls Try.prog 71 #[.agg (algOf L T), .slice a V.length c] w fun e w' => e = .returned (.int .i64 (com (num L) V)) ∧ Below w.heap.size w w' := by
  have n6 := (lat_len (alg_lat h)).2
  have n6' : (L.length : Int) ≤ 6 := n6
  have hw := wrap_pw L.length (by omega)
  have p1 : 1 ≤ pw (L.length : Int) := (pw_6 n6).1
  have l64 : pw (L.length : Int) ≤ 64 := (pw_6 n6).2
  have k1 : IntKind.i64.wrap (pw (L.length : Int) - 1) = pw (L.length : Int) - 1 := IntWalk.i64_in _ (by omega)
  obtain ⟨w1, hw1⟩ : ∃ w1, w1 = w.alloc (.cells (algOf L T) 60) := ⟨_, rfl⟩
  have hB : Below w.heap.size w w1 := by rw [hw1]; exact (Below.refl _ _).alloc (Nat.le_refl _) _
  have hA : AlgAt w1 w.heap.size L T := by rw [hw1]; exact AlgAt.new w L T
  have c0 := hA.size
  have hr1 := hr.below hB
  have HM := Lib.hid (show ∀ i : Int, 0 ≤ i → i < V.length → 0 ≤ nth V i ∧ nth V i ≤ 63 from fun i i0 i1 => hm _ (nth_mem V i0 i1))
  clear hr hm hA h
  go_enter Try.func71, Try.ntmps71
  go_wp2_with (rw [← hw1]; clear hw1)
  clear hw k1 c0
  go_loopw [5, 7, 15] (fun o _ c wr => ∃ i : Int, 0 ≤ i ∧ i ≤ V.length ∧ c = .int .i64 i ∧ o = .int .i64 (com (L.length : Int) (V.take i.toNat)) ∧ w1 = wr) (fun _ _ c _ => (64 - intOf c).toNat)
  case atStart => exact ⟨0, by omega, by omega, rfl, rfl, rfl⟩
  case round =>
    obtain ⟨i, i0, i1, rfl, rfl, rfl⟩ := hrel
    by_cases hi : i < V.length
    · obtain ⟨vb, vo, rfl, hcl⟩ := hr1 (by intro e; rw [e] at hi; simp at hi; omega)
      have d0 := hcl.at i i0 hi
      obtain ⟨m0, m1⟩ := HM.out i i0 hi
      obtain ⟨q0, q1⟩ := com_range (L.length : Int) (V.take i.toNat)
      have hb2 := bits_and_i64 (com (L.length : Int) (V.take i.toNat)) (nth V i) q0 (by omega) m0 (by omega)
      have hsu := Lib.hid (show com (L.length : Int) (V.take (i + 1).toNat) = an (com (L.length : Int) (V.take i.toNat)) (nth V i) by rw [take_next V i0 hi, com_succ])
      clear hcl
      go_wp2
      go_roundw
      case rel => exact ⟨i + 1, by omega, by omega, rfl, by rw [hsu.out], by trivial⟩
      case measure => simp [intOf]; omega
    · have ht := Lib.hid (take_end V (show (V.length : Int) ≤ i by omega))
      go_wp2
      go_ret
      exact ⟨ret_int (by rw [ht.out]; rfl), hB⟩
end Go.Proofs.Ytpfnfglaokiipac
