import Derived.Test.YtjcambkjcagcoaaGreatKM3
namespace Go.Proofs.YtjcambkjcagcoaaGreat
open Go.RowKit Go.Shelf Go.Maps
set_option linter.unusedVariables false

attribute [local go_sem] Oper.semAt_some
theorem fk_own {β : Type} {w : World} {B : Nat} (hB : w.heap.size ≤ B) : OwnFrom B (fun (_ : β) W => Below w.heap.size w W) := by
  intro s W W' row hs hg hr
  exact hs.grown hg hs.size (fun k e => Nat.le_trans hB (hr k e).1)
/-- 's = append(s, v)' in the round -/
theorem fk_appended {w W w1 : World} {v v' : Value} {k m : Nat} {xs ys : List Value} {tmp : Obj} (hF : Below w.heap.size w W) (hv : Boxed W w.heap.size 23 v) (hrow : W.ownsRow (w.heap.size + 1) 3 1 v k xs)
    (hown' : w1.ownsRow (w.heap.size + 1) 3 1 v' m ys) (hgrow : (W.alloc tmp).grownBy w1 v.ownBlock) :
    Boxed w1 w.heap.size 23 v ∧ Boxed (w1.setCell ⟨w.heap.size, 0, none⟩ v') w.heap.size 23 v' ∧ (w1.setCell ⟨w.heap.size, 0, none⟩ v').ownsRow (w.heap.size + 1) 3 1 v' m ys ∧ KeepsOthers W (w1.setCell ⟨w.heap.size, 0, none⟩ v') ∧ Below w.heap.size w (w1.setCell ⟨w.heap.size, 0, none⟩ v') ∧ KeepsWalks W (w1.setCell ⟨w.heap.size, 0, none⟩ v') := by
  obtain ⟨hv1, hv2, hr2, hk2, hb2⟩ := hv.appended (n₀ := w.heap.size) (by decide) (ownsRow_frm hrow (by omega)) hF.size (by omega) (ownsRow_frm hown' (by omega)) hgrow
  refine ⟨hv1, hv2, hown'.kept (grownBy_setCell' w1 _ v') (.inr (hv1.not_row (by decide) hown').symm), hk2, hF.trans hb2, ?_⟩
  refine ((KeepsWalks.alloc W tmp).trans (KeepsWalks.of_grownBy hgrow fun j o hj ho => ?_)).trans (KeepsWalks.setCell w1 _ v')
  have hrow2 := World.ownsRow.alloc hrow tmp
  rcases hrow2.2 with ⟨e, _⟩ | ⟨g, cap, cur, e, _, hg, _⟩
  · rw [e] at hj; simp [Value.ownBlock] at hj
  · rw [e] at hj
    simp only [Value.ownBlock, Option.some.injEq] at hj
    subst hj
    rw [hg] at ho
    cases ho
    rfl
/-- a slice of numbers of a set -/
def RetKeys (p : Int → Prop) (w : World) (e : Ending) (w' : World) : Prop := ∃ xs, KeySet p xs ∧ RetSl w.heap.size xs w e w'
set_option maxRecDepth 100000 in
set_option maxHeartbeats 4000000 in
/-- slices.AppendSeq(nil, the keys) -/
theorem appendKeys_any (Bm b n : Nat) (D : DataW Unit) (p : Int → Prop) (w : World) (hbx : w.heap[Bm]? = some (.cells #[.map (some b)] 128 (0, 0))) (hK : KeysAt w b n D p) (hwf : ∀ x, p x → (Lit.int .i64 x).wf = true) (hn : n ≤ 64) :
    Calls Tryz.prog 125 #[.slice none 0 0, .func (.func 164) #[] #[.pointer (some ⟨Bm, 0, none⟩)]] w (RetKeys p w) := by
  obtain ⟨i0, hi, hz0, hz1, hz2⟩ := info_parts info_int
  obtain ⟨w4, hw4⟩ : ∃ w4, w4 = w.alloc (.cells #[.slice none 0 0] 23) := ⟨_, rfl⟩
  have z4 : w4.heap.size = w.heap.size + 1 := by rw [hw4]; simp
  have F4 : Below w.heap.size w w4 := by rw [hw4]; exact (Below.refl _ _).alloc (Nat.le_refl _) _
  have L4 : Boxed w4 w.heap.size 23 (.slice none 0 0) := by rw [hw4]; exact Boxed.new w _ _
  have hbx4 := (F4.block _ (lt_of_block hbx)).trans hbx
  have hK4 := hK.below F4
  refine (callsIn_wide (n := 8)).1 ?_
  refine callsIn_of_wp_marks Tryz.func125 rfl trivial ?_ rfl
  simp only [Tryz.ntmps125, List.size_toArray, List.length_cons, List.length_nil, Nat.reduceAdd, Nat.reduceSub, Array.replicate_succ, Array.replicate_zero, List.push_toArray, List.append_toArray, List.nil_append, List.cons_append]
  clear hbx hK
  gi_wp2
  rw [← hw4]
  clear hw4
  refine wpIn_rangeFunc_ownG rfl (by omega) (gf := 164) (lb := #[.pointer (some ⟨Bm, 0, none⟩)]) rfl trivial enters_keys1
    (keys_stops 7 (by omega) Bm b n D p w4 hbx4 hK4 hwf) walksK_t walksK_b (Below.refl _ _) (fun _ => rfl)
    (fun pre W => (∃ v, Boxed W w.heap.size 23 v ∧ W.ownsRow (w.heap.size + 1) 3 1 v pre.length (pre.map (Value.int .i64)) ∧ True) ∧ Below w.heap.size w W)
    (fun _ _ _ => False)
    (OwnFrom.and (Go.Own.from (holdsRow_own (w.heap.size + 1) w.heap.size 23 3 1 (fun pre : List Int => pre.length) (fun pre : List Int => pre.map (Value.int .i64)) (fun _ _ => True)) _) (fk_own (by omega)))
    (fun _ _ _ _ _ hs _ _ => hs)
    ⟨⟨_, L4, World.ownsRow_nil _ _ _ _, trivial⟩, F4⟩
    (fun x => { tmps := #[.slice none 0 0, .func (.func 164) #[] #[.pointer (some ⟨Bm, 0, none⟩)], .pointer (some ⟨w.heap.size, 0, none⟩), undef, .slice none 0 0, .int .i64 x, .func (.func 164) #[] #[.pointer (some ⟨Bm, 0, none⟩)], .int .i64 x, undef, undef, undef, undef, undef], defers := [] }) ?assign ?body ?done ?stop
  case assign =>
    intro l x W K hK
    gi_wp2
    exact hK
  case body =>
    rintro l pre x W ⟨⟨v, hv, hrow, _⟩, hF⟩ hlt
    have hc := hv.cell
    have hlt' : pre.length < 64 := by omega
    gi_wp2_with (gi_at_builtin; refine wpListIn_append_own _ rfl _ _ 23 rfl (w.heap.size + 1) 3 i0 (.int .i64 0) 1 8 Tryz.underlying23 hi hz0 hz1 hz2 rfl (by decide) _ _ _ rfl (World.ownsRow.alloc hrow _) ⟨W.heap.size, 0, none⟩ 1 1 [.int .i64 x] rfl rfl (cell_one_new _ _ _) (by simp [Value.oneCell']) (by unfold maxLen; omega) (by omega) (by have := hv.lt; simp; omega) ?_; intro v' w8 hown' hgrow _; obtain ⟨g', cap', rfl⟩ := ownsRow_succ hown'; obtain ⟨hv3, hv4, hr4, hk4, hF4, hW4⟩ := fk_appended hF hv hrow hown' hgrow; have hc3 := hv3.cell; have hf3 := hv3.frozen)
    exact ⟨hk4.from _, hW4, ⟨_, hv4, by rw [List.map_append, List.length_append]; simpa using hr4, trivial⟩, hF4⟩
  case done =>
    rintro D ys W hD hys ⟨⟨v, hv, hrow, _⟩, hF⟩ hK
    have hc := hv.cell
    gi_wp2
    refine ⟨by simp, .inl ⟨_, _, rfl, run_takeDeferred hK, ?_⟩⟩
    refine ⟨_, results_tmp rfl _ _ _, ys, hys, RetOwn.sl (B := w.heap.size) ⟨v, rfl, ?_, ?_⟩⟩
    · exact ownsRow_putObj (ownsRow_frm hrow (by omega)) _ hK rfl
    · exact hF.trans (belowK_b (w := w) (Nat.le_refl _) W D _ _ (by omega) hK rfl rfl)
  case stop =>
    rintro D c pre W _ _ h _
    exact h.elim
set_option maxRecDepth 100000 in
set_option maxHeartbeats 1000000 in
/-- slices.Collect of the keys -/
theorem collectKeys_any (Bm b n : Nat) (D : DataW Unit) (p : Int → Prop) (w : World) (hbx : w.heap[Bm]? = some (.cells #[.map (some b)] 128 (0, 0))) (hK : KeysAt w b n D p) (hwf : ∀ x, p x → (Lit.int .i64 x).wf = true) (hn : n ≤ 64) :
    Calls Tryz.prog 70 #[.func (.func 164) #[] #[.pointer (some ⟨Bm, 0, none⟩)]] w (RetKeys p w) := by
  go_enter Tryz.func70, Tryz.ntmps70
  go_wp2_with (go_at_call 125; refine (appendKeys_any Bm b n D p w hbx hK hwf hn).mono ?_; rintro e w3 ⟨xs, hs, a3, c3, rfl, o3, h3⟩)
  go_ret
  exact ⟨xs, hs, a3, c3, rfl, o3, h3⟩
set_option maxRecDepth 100000 in
set_option maxHeartbeats 1000000 in
/-- slices.Sorted of the keys -/
theorem sortedKeys_any (Bm b n : Nat) (D : DataW Unit) (G : List Int) (w : World) (hbx : w.heap[Bm]? = some (.cells #[.map (some b)] 128 (0, 0))) (hK : KeysAt w b n D (fun x => x ∈ G)) (hwf : ∀ x, x ∈ G → (Lit.int .i64 x).wf = true) (hn : n ≤ 64) (hG : Asc G) (h6 : G.length ≤ 6) :
    Calls Tryz.prog 130 #[.func (.func 164) #[] #[.pointer (some ⟨Bm, 0, none⟩)]] w (RetSl w.heap.size G w) := by
  have HK := Lib.hid hK
  have HB := Lib.hid hbx
  clear hK hbx
  go_enter Tryz.func130, Tryz.ntmps130
  go_wp2_with (first
    | (go_at_call 70; refine (collectKeys_any Bm b n D _ w HB.out HK.out hwf hn).mono ?_; rintro e w3 ⟨xs, hs, a3, c3, rfl, o3, h3⟩; have hx6 := Nat.le_trans (nodup_le xs G hs.1 (fun x hx => (hs.2 x).1 hx)) h6)
    | (go_at_call 163; refine (sort_any xs a3 c3 w3 w.heap.size o3 (by omega) h3.size).mono ?_; rintro e w5 ⟨rfl, Y, hS, hU, hO, hb⟩))
  go_ret
  have hi := hS.inj (fun a b a0 ab b1 e => by
    have hn := hs.1
    unfold List.Nodup at hn
    rw [List.pairwise_iff_getElem] at hn
    refine hn a.toNat b.toNat (by omega) (by omega) (by omega) ?_
    unfold nth at e
    rw [List.getD_eq_getElem?_getD, List.getD_eq_getElem?_getD, List.getElem?_eq_getElem (show a.toNat < xs.length by omega), List.getElem?_eq_getElem (show b.toNat < xs.length by omega)] at e
    simpa using e)
  have hlen := hS.len
  have e : Y = G := asc_eq Y G (fun a b a0 ab b1 => by
      have h1 := hU a b a0 ab (by omega)
      have h2 := hi a b a0 ab b1
      omega) (fun a b a0 ab b1 => asc_lt hG a0 ab b1) (fun v => (hS.mem v).trans (hs.2 v))
  subst e
  refine ⟨a3, c3, by rw [hlen]; rfl, by rw [hlen]; exact hO, h3.trans hb⟩
end Go.Proofs.YtjcambkjcagcoaaGreat
