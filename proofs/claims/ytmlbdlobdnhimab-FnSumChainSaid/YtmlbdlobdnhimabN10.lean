import Derived.Test.YtmlbdlobdnhimabN4
import Derived.RangeFuncNested
import Derived.RangeFuncBound
import Derived.RangeFuncCalls
import Derived.RangeFuncBox
import Derived.RangeFuncLeaves
import Derived.Shelf.Abstract
import Derived.OwnWalkIn
import Derived.TacticsInMore
import Derived.LoopNIn
import Derived.LoopIn
import Derived.Maps.AppendAt
import Derived.Test.YtmlbdlobdnhimabG11
namespace Go.Proofs.Ytmlbdlobdnhimab
open Go.RowKit Go.Shelf

attribute [local go_sem] Oper.semAt_some
/-- a load of a whole array or struct, inside a fence -/
theorem wpListIn_load_row_w {F : Fence} {n : Nat} {P : Program} {ops : Array Oper} {rest : List Oper} {o : Oper} {a : Act} {w : World} {Q : Exit → Act → World → Prop} (hw : Region.wanted o (yielded ops a.tmps) = true) (ty : TypeId) (x : Operand) (ho : o.op = .load ty x)
    (g : Nat) (hx : a.eval x = .pointer (some ⟨g, 0, none⟩)) (t : TypeId) (cs : Array Value) (fr : Nat × Nat) (d : TypeDesc) (hg : w.heap[g]? = some (.cells cs t fr))
    (hu : P.underlying ty = some d) (hd : (match d with | .struct _ | .array _ _ => true | _ => false) = true) (hi : (P.info? ty).map (·.size) = some cs.size)
    (h : wpListIn F n P ops Q rest (a.put o.dst (.agg cs)) w) : wpListIn F n P ops Q (o :: rest) a w := by
  unfold wpListIn
  rw [if_pos hw]
  unfold Oper.wpIn
  refine ⟨?_, ?_⟩
  · simp [Oper.about, ho]
  · rw [Oper.semAt_plain F _ _ (by rw [ho]; intro c hc'; cases hc')]
    simp only [execOp, ho, hx, Instr.loadAt, Instr.sureAddr, Sem.run_bind, Sem.run_pure, Result.andThen_ok, run_loadVar_row w g t ty cs fr d hg hu hd hi]
    exact h
/-- a filter of the algebra -/
abbrev Fl (L : List Int) (T : List (List Int)) : Type := { x : Int // x ∈ fls L T }
def vals {L : List Int} {T : List (List Int)} (xs : List (Fl L T)) : List Int := xs.map (·.1)
theorem vals_snoc {L : List Int} {T : List (List Int)} (xs : List (Fl L T)) (x : Fl L T) : vals (xs ++ [x]) = vals xs ++ [x.1] := by simp [vals]
theorem vals_len {L : List Int} {T : List (List Int)} (xs : List (Fl L T)) : (vals xs).length = xs.length := by simp [vals]
theorem below_grown {w w' : World} (h : Below w.heap.size w w') : w.grownBy w' none :=
  ⟨h.os, h.tape, h.output, h.size, fun k hk _ => h.block k hk⟩
/-- the iterator's algebra lies as it lay -/
def KeepsA (ba : Nat) (L : List Int) (T : List (List Int)) (A B : World) : Prop := AlgAt A ba L T → AlgAt B ba L T
theorem keepsA_t {ba : Nat} {L : List Int} {T : List (List Int)} {A B C : World} (h : KeepsA ba L T A B) (k : KeepsA ba L T B C) : KeepsA ba L T A C := fun x => k (h x)
theorem keepsA_b {ba : Nat} {L : List Int} {T : List (List Int)} {n : Nat} (W : World) (l : Nat) (o o' : Obj) (_ : n ≤ l) (hl : W.heap[l]? = some o) (ho : o.isCells = false) (_ : o.isWalk = false) : KeepsA ba L T W (W.putObj l o') := fun h => by
  refine ((grownBy_putObj' W l o').block ba h.lt fun e => ?_).trans h
  cases e
  have h' : W.heap[ba]? = some (.cells (algOf L T) 73 (0, 0)) := h
  rw [h'] at hl; cases hl; cases ho
theorem enters_filt : Enters 187 := enters_of Try.func187 (by kernel_rfl) rfl

set_option maxRecDepth 100000 in
set_option maxHeartbeats 1000000 in
/-- impl.algebra.filters: the algebra is boxed; the function value captures the box -/
theorem filtersM_any (L : List Int) (T : List (List Int)) (w : World) :
    Calls Try.prog 167 #[.agg (algOf L T)] w fun e w' => e = .returned (.func (.func 187) #[] #[.pointer (some ⟨w.heap.size, 0, none⟩)]) ∧ w' = w.alloc (.cells (algOf L T) 73) := by
  go_enter Try.func167, Try.ntmps167
  go_wp2
  go_ret
  exact ⟨rfl, rfl⟩

set_option maxRecDepth 100000 in
set_option maxHeartbeats 2000000 in
/-- the iterator over the filters, at whatever body -/
theorem filters1_in (n : Nat) (hn : 1 ≤ n) (l ba : Nat) (L : List Int) (T : List (List Int)) (h : algB L T = true) (J Jx : List (Fl L T) → World → Prop) (W : World)
    (hJ : AbidesFrom W.heap.size J)
    (hY : ∀ pre (x : Fl L T) W1, J pre W1 → pre.length < 64 → YieldAt Fence.wide (n - 1) Try.prog l #[.int .i64 x.1] W1 fun e W' =>
      (e = .returned (.bool true) ∧ J (pre ++ [x]) W' ∧ KeepsA ba L T W1 W') ∨ (e = .returned (.bool false) ∧ Jx (pre ++ [x]) W'))
    (hA : AlgAt W ba L T) (h0 : J [] W) :
    CallsIn Fence.wide n Try.prog 187 #[.func (.yield l) #[] #[], .pointer (some ⟨ba, 0, none⟩)] W fun e W' => (∃ v, e = .returned v) ∧
      ((∃ xs, vals xs = fls L T ∧ J xs W') ∨ (∃ pre, True ∧ Jx pre W')) := by
  obtain ⟨n1, n6⟩ := lat_len (alg_lat h)
  have n6' : (L.length : Int) ≤ 6 := n6
  have l64 : pw (L.length : Int) ≤ 64 := (pw_6 n6).2
  have hw := wrap_pw L.length (by omega)
  have p1 : 1 ≤ pw (L.length : Int) := (pw_6 n6).1
  have c0 := hA.size
  have HA := Lib.hid h
  have HY := Lib.hid hY
  have HJ := Lib.hid (show ∀ pre A B, J pre A → Below A.heap.size A B → J pre B from fun pre A B hs hb => hJ pre A B none hs (below_grown hb) (fun r e => by cases e))
  clear h hY hJ
  refine callsIn_of_wp Try.func187 rfl trivial ?_ rfl
  simp only [Try.ntmps187, List.size_toArray, List.length_cons, List.length_nil, Nat.reduceAdd, Nat.reduceSub, Array.replicate_succ, Array.replicate_zero, List.push_toArray, List.append_toArray, List.nil_append, List.cons_append]
  gi_wp2
  rw [hw]
  clear hw
  gi_loopw [3, 8] (fun _ i wr => ∃ (k : Int) (pre : List (Fl L T)), 0 ≤ k ∧ k ≤ pw (num L) ∧ i = .int .i64 k ∧ vals pre = filtTo (filB L T) k ∧ J pre wr ∧ AlgAt wr ba L T)
    (fun _ i _ => (64 - intOf i).toNat)
  case atStart => exact ⟨0, [], by omega, show (0 : Int) ≤ pw (L.length : Int) by omega, rfl, rfl, h0, hA⟩
  case round =>
    obtain ⟨k, pre, k0, k1, rfl, hp, hJs, hnx⟩ := hrel
    have k1' : k ≤ pw (L.length : Int) := k1
    clear k1
    by_cases hk : k < pw (L.length : Int)
    · have hlen : pre.length < 64 := by
        have h1 := filtTo_len (filB L T) k
        rw [← hp, vals_len] at h1; omega
      have hsu := Lib.hid (filtTo_succ (filB L T) k k0)
      have hal := Lib.hid hnx
      cases hC : filB L T k with
      | true =>
        have hmem : k ∈ fls L T := fls_mem.2 ⟨k0, hk, hC⟩
        have hsu2 := Lib.hid (show vals (pre ++ [(⟨k, hmem⟩ : Fl L T)]) = filtTo (filB L T) (k + 1) by rw [vals_snoc, hp, hsu.out, hC]; rfl)
        have HC := Lib.hid hC
        clear hC
        gi_wp2_with (first
          | (refine wpListIn_load_row_w rfl 73 _ rfl ba rfl _ _ _ _ hal.out Try.underlying73 rfl (size_alg _ _ _ _ _ _) ?_)
          | (refine ⟨trivial, ?_⟩; gi_at_call 130; refine (callsIn_wide.2 (isFilterM_is L T k _ HA.out k0 (by omega) HC.out)).mono ?_; rintro e w2 ⟨rfl, h2⟩; obtain ⟨fn, tmps, asg, bdy, hy, hR⟩ := HY.out pre ⟨k, hmem⟩ w2 (HJ.out _ _ _ hJs h2) hlen; dsimp only at hy; have hnx2 : AlgAt w2 ba L T := hal.out.below h2 hal.out.lt))
        refine hR.mono ?_
        rintro e W3 (⟨rfl, hJ3, hk3⟩ | ⟨rfl, hJx3⟩)
        · gi_wp2
          go_roundw
          case rel => exact ⟨k + 1, _, by omega, show k + 1 ≤ pw (L.length : Int) by omega, rfl, hsu2.out, hJ3, hk3 hnx2⟩
          case measure => simp [intOf]; omega
        · gi_wp2
          refine bodyPost_ret (results_none rfl _ _ _) rfl ?_
          exact ⟨⟨_, rfl⟩, .inr ⟨_, trivial, hJx3⟩⟩
      | false =>
        have hsu2 := Lib.hid (show vals pre = filtTo (filB L T) (k + 1) by rw [hp, hsu.out, hC]; rfl)
        have HC := Lib.hid hC
        clear hC
        gi_wp2_with (first
          | (refine wpListIn_load_row_w rfl 73 _ rfl ba rfl _ _ _ _ hal.out Try.underlying73 rfl (size_alg _ _ _ _ _ _) ?_)
          | (refine ⟨trivial, ?_⟩; gi_at_call 130; refine (callsIn_wide.2 (isFilterM_is L T k _ HA.out k0 (by omega) HC.out)).mono ?_; rintro e w2 ⟨rfl, h2⟩; have hnx2 : AlgAt w2 ba L T := hal.out.below h2 hal.out.lt; have hJ2 := HJ.out _ _ _ hJs h2))
        refine ⟨fun _ h => (by cases h), ?_⟩
        gi_wp2
        go_roundw
        case rel => exact ⟨k + 1, pre, by omega, show k + 1 ≤ pw (L.length : Int) by omega, rfl, hsu2.out, hJ2, hnx2⟩
        case measure => simp [intOf]; omega
    · have e : k = pw (L.length : Int) := by omega
      subst e
      gi_wp2
      go_end0
      exact ⟨⟨_, rfl⟩, .inl ⟨pre, hp, hJs⟩⟩
/-- the filters are handed to whatever body, each once, ascending -/
theorem filt_stops (n : Nat) (hn : 1 ≤ n) (ba : Nat) (L : List Int) (T : List (List Int)) (h : algB L T = true) (w : World) (hA : AlgAt w ba L T) :
    SeqStopsK Fence.wide n Try.prog 187 #[.pointer (some ⟨ba, 0, none⟩)] (fun x : Fl L T => #[Value.int .i64 x.1]) (KeepsA ba L T) (fun xs => vals xs = fls L T) (fun _ => True) 64 w :=
  fun l J Jx W hW hJ _ hY h0 => filters1_in n hn l ba L T h J Jx W hJ hY (hA.below hW hA.lt) h0
/-- what lies round the loop of filtersThat: the predicate's box, the iterator's algebra -/
structure FT (L : List Int) (T : List (List Int)) (pv : Value) (w W : World) : Prop where
  bel : Below w.heap.size w W
  pass : Boxed W (w.heap.size + 1) 43 pv
  alg : AlgAt W (w.heap.size + 1 + 1 + 1) L T
theorem AlgAt.kept {W W' : World} {row : Option Nat} {b : Nat} {L : List Int} {T : List (List Int)} (h : AlgAt W b L T) (hg : W.grownBy W' row) (hne : some b ≠ row) : AlgAt W' b L T := (hg.block b h.lt hne).trans h
theorem ft_own {β : Type} {L : List Int} {T : List (List Int)} {pv : Value} {w : World} {B : Nat} (hB : w.heap.size ≤ B) : OwnFrom B (fun (_ : β) W => FT L T pv w W) := by
  intro s W W' row hs hg hr
  refine ⟨hs.bel.grown hg hs.bel.size (fun k e => Nat.le_trans hB (hr k e).1), hs.pass.kept hg fun e => ?_, hs.alg.kept hg fun e => ?_⟩
  · obtain ⟨_, o, ho, hc⟩ := hr _ e.symm
    rw [show W.heap[w.heap.size + 1]? = _ from hs.pass] at ho; cases ho; cases hc
  · obtain ⟨_, o, ho, hc⟩ := hr _ e.symm
    rw [show W.heap[w.heap.size + 1 + 1 + 1]? = _ from hs.alg] at ho; cases ho; cases hc
theorem ownsRow_from {w : World} {B B' : Nat} {e : TypeId} {s : Nat} {v : Value} {k : Nat} {xs : List Value} (h : w.ownsRow B e s v k xs) (hB : B' ≤ B) : w.ownsRow B' e s v k xs := by
  obtain ⟨h1, h⟩ := h
  refine ⟨h1, ?_⟩
  rcases h with h | ⟨g, cap, cur, e1, e2, r⟩
  · exact .inl h
  · exact .inr ⟨g, cap, cur, e1, by omega, r⟩
theorem ownsRow_ge {w : World} {B : Nat} {e : TypeId} {s : Nat} {v : Value} {k : Nat} {xs : List Value} (h : w.ownsRow B e s v k xs) {b : Nat} (hb : b < B) : some b ≠ v.ownBlock := by
  rcases h.2 with ⟨rfl, _⟩ | ⟨g, cap, cur, rfl, h1, _⟩
  · simp [Value.ownBlock]
  · intro e'
    obtain rfl : b = g := by simpa [Value.ownBlock] using e'
    omega
theorem ft_below {L : List Int} {T : List (List Int)} {pv : Value} {w W W' : World} (h : FT L T pv w W) (hb : Below W.heap.size W W') : FT L T pv w W' :=
  ⟨h.bel.trans (hb.mono h.bel.size), h.pass.kept (below_grown hb) (by simp), h.alg.kept (below_grown hb) (by simp)⟩
/-- 'list = append(list, f)' in the round -/
theorem ft_appended {L : List Int} {T : List (List Int)} {pv : Value} {w W w1 : World} {v v' : Value} {k m : Nat} {xs ys : List Value} {tmp : Obj} (hF : FT L T pv w W) (hv : Boxed W (w.heap.size + 1 + 1) 22 v) (hrow : W.ownsRow (w.heap.size + 1 + 1 + 1 + 1) 3 1 v k xs)
    (hown' : w1.ownsRow (w.heap.size + 1 + 1 + 1 + 1) 3 1 v' m ys) (hgrow : (W.alloc tmp).grownBy w1 v.ownBlock) :
    Boxed w1 (w.heap.size + 1 + 1) 22 v ∧ Boxed (w1.setCell ⟨w.heap.size + 1 + 1, 0, none⟩ v') (w.heap.size + 1 + 1) 22 v' ∧ (w1.setCell ⟨w.heap.size + 1 + 1, 0, none⟩ v').ownsRow (w.heap.size + 1 + 1 + 1 + 1) 3 1 v' m ys ∧ KeepsOthers W (w1.setCell ⟨w.heap.size + 1 + 1, 0, none⟩ v') ∧ FT L T pv w (w1.setCell ⟨w.heap.size + 1 + 1, 0, none⟩ v') := by
  obtain ⟨hv1, hv2, hr2, hk2, hb2⟩ := hv.appended (n₀ := w.heap.size) (by decide) (ownsRow_from hrow (by omega)) hF.bel.size (by omega) (ownsRow_from hown' (by omega)) hgrow
  refine ⟨hv1, hv2, hown'.kept (grownBy_setCell' w1 _ v') (.inr (hv1.not_row (by decide) hown').symm), hk2, hF.bel.trans hb2, ?_, ?_⟩
  · exact Boxed.other (Boxed.kept (hF.pass.alloc tmp) hgrow (ownsRow_ge hrow (by omega))) (by omega) _
  · refine ((hF.alg.kept (World.grownBy_alloc W tmp none) (by simp)).kept hgrow (ownsRow_ge hrow (by omega))).kept (grownBy_setCell' w1 _ v') (fun e => ?_)
    injection e with e; omega
theorem filt_snoc {L : List Int} {T : List (List Int)} (p : Int → Bool) (pre : List (Fl L T)) (x : Fl L T) : (vals (pre ++ [x])).filter p = if p x.1 then (vals pre).filter p ++ [x.1] else (vals pre).filter p := by
  rw [vals_snoc, List.filter_append]
  cases hp : p x.1 <;> simp [hp]
end Go.Proofs.Ytmlbdlobdnhimab

namespace Go.Proofs.Ytmlbdlobdnhimab
open Go.RowKit Go.Shelf

attribute [local go_sem] Oper.semAt_some
/-- what lies round the loop of AppendSeq -/
structure FS (L : List Int) (T : List (List Int)) (ba : Nat) (w W : World) : Prop where
  bel : Below w.heap.size w W
  alg : AlgAt W ba L T
theorem fs_own {β : Type} {L : List Int} {T : List (List Int)} {ba : Nat} {w : World} {B : Nat} (hB : w.heap.size ≤ B) : OwnFrom B (fun (_ : β) W => FS L T ba w W) := by
  intro s W W' row hs hg hr
  refine ⟨hs.bel.grown hg hs.bel.size (fun k e => Nat.le_trans hB (hr k e).1), hs.alg.kept hg fun e => ?_⟩
  obtain ⟨_, o, ho, hc⟩ := hr _ e.symm
  rw [show W.heap[ba]? = _ from hs.alg] at ho; cases ho; cases hc
/-- 's = append(s, v)' in the round -/
theorem fs_appended {L : List Int} {T : List (List Int)} {ba : Nat} {w W w1 : World} {v v' : Value} {k m : Nat} {xs ys : List Value} {tmp : Obj} (hba : ba < w.heap.size) (hF : FS L T ba w W) (hv : Boxed W w.heap.size 22 v) (hrow : W.ownsRow (w.heap.size + 1) 3 1 v k xs)
    (hown' : w1.ownsRow (w.heap.size + 1) 3 1 v' m ys) (hgrow : (W.alloc tmp).grownBy w1 v.ownBlock) :
    Boxed w1 w.heap.size 22 v ∧ Boxed (w1.setCell ⟨w.heap.size, 0, none⟩ v') w.heap.size 22 v' ∧ (w1.setCell ⟨w.heap.size, 0, none⟩ v').ownsRow (w.heap.size + 1) 3 1 v' m ys ∧ KeepsOthers W (w1.setCell ⟨w.heap.size, 0, none⟩ v') ∧ FS L T ba w (w1.setCell ⟨w.heap.size, 0, none⟩ v') := by
  obtain ⟨hv1, hv2, hr2, hk2, hb2⟩ := hv.appended (n₀ := w.heap.size) (by decide) (ownsRow_from hrow (by omega)) hF.bel.size (by omega) (ownsRow_from hown' (by omega)) hgrow
  refine ⟨hv1, hv2, hown'.kept (grownBy_setCell' w1 _ v') (.inr (hv1.not_row (by decide) hown').symm), hk2, hF.bel.trans hb2, ?_⟩
  refine ((hF.alg.kept (World.grownBy_alloc W tmp none) (by simp)).kept hgrow (ownsRow_ge hrow (by omega))).kept (grownBy_setCell' w1 _ v') (fun e => ?_)
  injection e with e; omega
set_option maxRecDepth 100000 in
set_option maxHeartbeats 4000000 in
/-- slices.AppendSeq(nil, the filters) -/
theorem appendSeq_any (ba : Nat) (L : List Int) (T : List (List Int)) (w : World) (h : algB L T = true) (hA : AlgAt w ba L T) :
    Calls Try.prog 186 #[.slice none 0 0, .func (.func 187) #[] #[.pointer (some ⟨ba, 0, none⟩)]] w (RetSl w.heap.size (fls L T) w) := by
  obtain ⟨i0, hi, hz0, hz1, hz2⟩ := info_parts info_int
  have hba := hA.lt
  obtain ⟨w4, hw4⟩ : ∃ w4, w4 = w.alloc (.cells #[.slice none 0 0] 22) := ⟨_, rfl⟩
  have z4 : w4.heap.size = w.heap.size + 1 := by rw [hw4]; simp
  have F4 : FS L T ba w w4 := by rw [hw4]; exact ⟨(Below.refl _ _).alloc (Nat.le_refl _) _, hA.alloc _⟩
  have L4 : Boxed w4 w.heap.size 22 (.slice none 0 0) := by rw [hw4]; exact Boxed.new w _ _
  refine (callsIn_wide (n := 8)).1 ?_
  refine callsIn_of_wp_marks Try.func186 rfl trivial ?_ rfl
  simp only [Try.ntmps186, List.size_toArray, List.length_cons, List.length_nil, Nat.reduceAdd, Nat.reduceSub, Array.replicate_succ, Array.replicate_zero, List.push_toArray, List.append_toArray, List.nil_append, List.cons_append]
  gi_wp2
  rw [← hw4]
  clear hw4
  refine wpIn_rangeFunc_ownG rfl (by omega) (gf := 187) (lb := #[.pointer (some ⟨ba, 0, none⟩)]) rfl trivial enters_filt
    (filt_stops 7 (by omega) ba L T h w4 F4.alg) keepsA_t keepsA_b (Below.refl _ _) (fun _ => rfl)
    (fun pre W => (∃ v, Boxed W w.heap.size 22 v ∧ W.ownsRow (w.heap.size + 1) 3 1 v (vals pre).length ((vals pre).map (Value.int .i64)) ∧ True) ∧ FS L T ba w W)
    (fun _ _ _ => False)
    (OwnFrom.and (Go.Own.from (holdsRow_own (w.heap.size + 1) w.heap.size 22 3 1 (fun pre => (vals pre).length) (fun pre => (vals pre).map (Value.int .i64)) (fun _ _ => True)) _) (fs_own (by omega)))
    (fun _ _ _ _ _ hs _ _ => hs)
    ⟨⟨_, L4, World.ownsRow_nil _ _ _ _, trivial⟩, F4⟩
    (fun x => { tmps := #[.slice none 0 0, .func (.func 187) #[] #[.pointer (some ⟨ba, 0, none⟩)], .pointer (some ⟨w.heap.size, 0, none⟩), undef, .slice none 0 0, .int .i64 x.1, .func (.func 187) #[] #[.pointer (some ⟨ba, 0, none⟩)], .int .i64 x.1, undef, undef, undef, undef, undef], defers := [] }) ?assign ?body ?done ?stop
  case assign =>
    intro l x W K hK
    gi_wp2
    exact hK
  case body =>
    rintro l pre x W ⟨⟨v, hv, hrow, _⟩, hF⟩ hlt
    have hc := hv.cell
    have hpl : (vals pre).length ≤ 64 := by rw [vals_len]; omega
    have hsu := Lib.hid (vals_snoc pre x)
    gi_wp2_with (gi_at_builtin; refine wpListIn_append_own _ rfl _ _ 22 rfl (w.heap.size + 1) 3 i0 (.int .i64 0) 1 8 Try.underlying22 hi hz0 hz1 hz2 rfl (by decide) _ _ _ rfl (World.ownsRow.alloc hrow _) ⟨W.heap.size, 0, none⟩ 1 1 [.int .i64 x.1] rfl rfl (cell_one_new _ _ _) (by simp [Value.oneCell']) (by unfold maxLen; omega) (by omega) (by have := hv.lt; simp; omega) ?_; intro v' w8 hown' hgrow _; obtain ⟨g', cap', rfl⟩ := ownsRow_succ hown'; obtain ⟨hv3, hv4, hr4, hk4, hF4⟩ := fs_appended hba hF hv hrow hown' hgrow; have hc3 := hv3.cell; have hf3 := hv3.frozen)
    exact ⟨hk4.from _, fun _ => hF4.alg, ⟨_, hv4, by rw [hsu.out]; simpa using hr4, trivial⟩, hF4⟩
  case done =>
    rintro D ys W hD hys ⟨⟨v, hv, hrow, _⟩, hF⟩ hK
    have hc := hv.cell
    gi_wp2
    refine ⟨by simp, .inl ⟨_, _, rfl, run_takeDeferred hK, ?_⟩⟩
    refine ⟨_, results_tmp rfl _ _ _, RetOwn.sl (B := w.heap.size) ⟨v, rfl, ?_, ?_⟩⟩
    · rw [hys] at hrow
      exact ownsRow_putObj (ownsRow_from hrow (by omega)) _ hK rfl
    · exact hF.bel.trans (belowK_b (w := w) (Nat.le_refl _) W D _ _ (by omega) hK rfl rfl)
  case stop =>
    rintro D c pre W _ _ h _
    exact h.elim
set_option maxRecDepth 100000 in
set_option maxHeartbeats 1000000 in
/-- slices.Collect of the filters -/
theorem collect_any (ba : Nat) (L : List Int) (T : List (List Int)) (w : World) (h : algB L T = true) (hA : AlgAt w ba L T) :
    Calls Try.prog 166 #[.func (.func 187) #[] #[.pointer (some ⟨ba, 0, none⟩)]] w (RetSl w.heap.size (fls L T) w) := by
  go_enter Try.func166, Try.ntmps166
  go_wp2_with (go_at_call 186; refine (appendSeq_any ba L T w h hA).mono ?_; rintro e w3 ⟨a3, c3, rfl, o3, h3⟩)
  go_ret
  exact ⟨a3, c3, rfl, o3, h3⟩
end Go.Proofs.Ytmlbdlobdnhimab

namespace Go.Proofs.Ytmlbdlobdnhimab
open Go.RowKit

theorem AlgAt.run {w : World} {b : Nat} {L : List Int} {T : List (List Int)} (h : AlgAt w b L T) : (loadVar 73 ⟨b, 0, none⟩).run Try.prog w = .ok (.agg (algOf L T)) w :=
  run_loadVar_row w b _ _ _ _ _ h Try.underlying73 rfl (size_alg _ _ _ _ _ _)
set_option maxRecDepth 100000 in
set_option maxHeartbeats 2000000 in
theorem implFiltersOf_no (a b : Option Addr) (ca cb : Nat) (L : List Int) (T : List (List Int))  (w : World) (hr : Rd w a L) (hT : RdT w b T) (h : algB L T = false) :
    Calls Try.prog 102 #[.agg #[.slice a L.length ca, .slice b T.length cb]] w (RetSl w.heap.size (algV L T (fls L T)) w) := by
  obtain ⟨w1, hw1⟩ : ∃ w1, w1 = w.alloc (.cells #[.slice a L.length ca, .slice b T.length cb] 27) := ⟨_, rfl⟩
  have hB : Below w.heap.size w w1 := by rw [hw1]; exact (Below.refl _ _).alloc (Nat.le_refl _) _
  have hx : w1.heap[w.heap.size]? = some (.cells #[.slice a L.length ca, .slice b T.length cb] 27 (0, 0)) := by rw [hw1]; exact heap_alloc_new w _
  have Kx := Lib.hid (show ∀ wz, Below w1.heap.size w1 wz → wz.heap[w.heap.size]? = some (.cells #[.slice a L.length ca, .slice b T.length cb] 27 (0, 0)) from fun wz h => (h.block _ (lt_of_block hx)).trans hx)
  have KR := Lib.hid (show ∀ wz, Below w1.heap.size w1 wz → Rd wz a L from fun wz h => (hr.below hB).below h)
  have KT := Lib.hid (show ∀ wz, Below w1.heap.size w1 wz → RdT wz b T from fun wz h => (hT.below hB).below h)
  have z1 : Below w1.heap.size w1 w1 := Below.refl _ _
  clear hr hT hx
  have hv := Lib.hid (show algV L T (fls L T) = [] by exact algV_f h)
  have HA := Lib.hid h
  clear h
  go_enter Try.func102, Try.ntmps102
  go_wp2_with (first
    | go_skip
    | (rw [← hw1]; clear hw1)
    | (refine wpList_load_row_w rfl 27 _ rfl w.heap.size rfl _ _ _ _ (Kx.out _ (by assumption)) Try.underlying27 rfl (size_Alg _ _) ?_)
    | (go_at_call 62; refine (readAlgebra_no _ _ _ _ L T _ (KR.out _ z1) (KT.out _ z1) HA.out).mono ?_; rintro e w2 ⟨rfl, h2⟩; have z2 : Below w1.heap.size w1 w2 := h2)
    | (refine wpList_store_row rfl 73 _ _ rfl w2.heap.size zeroAlg rfl rfl _ _ (heap_alloc_new w2 (.cells zeroAlg 73)) size_zeroAlg rfl one_zeroAlg ?_; rw [World.setRow_alloc_new]; obtain ⟨bl, hbl⟩ : ∃ bl, bl = w2.heap.size := ⟨_, rfl⟩; obtain ⟨w9, hw9⟩ : ∃ w9, w9 = w2.alloc (.cells zeroAlg 73) := ⟨_, rfl⟩; rw [← hw9, ← hbl]; have B9 : Below w1.heap.size w1 w9 := (by rw [hw9]; exact z2.alloc z2.size _); clear hw9 hbl))
  go_ret
  rw [hv.out]
  exact ⟨none, 0, rfl, Own.nothing _ _, hB.trans (B9.mono hB.size)⟩
set_option maxRecDepth 100000 in
set_option maxHeartbeats 2000000 in
theorem implFiltersOf_yes (a b : Option Addr) (ca cb : Nat) (L : List Int) (T : List (List Int))  (w : World) (hr : Rd w a L) (hT : RdT w b T) (h : algB L T = true) :
    Calls Try.prog 102 #[.agg #[.slice a L.length ca, .slice b T.length cb]] w (RetSl w.heap.size (algV L T (fls L T)) w) := by
  obtain ⟨w1, hw1⟩ : ∃ w1, w1 = w.alloc (.cells #[.slice a L.length ca, .slice b T.length cb] 27) := ⟨_, rfl⟩
  have hB : Below w.heap.size w w1 := by rw [hw1]; exact (Below.refl _ _).alloc (Nat.le_refl _) _
  have hx : w1.heap[w.heap.size]? = some (.cells #[.slice a L.length ca, .slice b T.length cb] 27 (0, 0)) := by rw [hw1]; exact heap_alloc_new w _
  have Kx := Lib.hid (show ∀ wz, Below w1.heap.size w1 wz → wz.heap[w.heap.size]? = some (.cells #[.slice a L.length ca, .slice b T.length cb] 27 (0, 0)) from fun wz h => (h.block _ (lt_of_block hx)).trans hx)
  have KR := Lib.hid (show ∀ wz, Below w1.heap.size w1 wz → Rd wz a L from fun wz h => (hr.below hB).below h)
  have KT := Lib.hid (show ∀ wz, Below w1.heap.size w1 wz → RdT wz b T from fun wz h => (hT.below hB).below h)
  have z1 : Below w1.heap.size w1 w1 := Below.refl _ _
  clear hr hT hx
  have hv := Lib.hid (algV_t (V := fls L T) h)
  have HALG := Lib.hid h
  have HA := Lib.hid h
  clear h
  go_enter Try.func102, Try.ntmps102
  go_wp2_with (first
    | go_skip
    | (rw [← hw1]; clear hw1)
    | (refine wpList_load_row_w rfl 27 _ rfl w.heap.size rfl _ _ _ _ (Kx.out _ (by assumption)) Try.underlying27 rfl (size_Alg _ _) ?_)
    | (go_at_call 62; refine (readAlgebra_yes _ _ _ _ L T _ (KR.out _ z1) (KT.out _ z1) HA.out).mono ?_; rintro e w2 ⟨rfl, h2⟩; have z2 : Below w1.heap.size w1 w2 := h2)
    | (refine wpList_store_row rfl 73 _ _ rfl w2.heap.size (algOf L T) rfl rfl _ _ (heap_alloc_new w2 (.cells zeroAlg 73)) (size_alg _ _ _ _ _ _) rfl (one_alg _ _ _ _ _ _) ?_; rw [World.setRow_alloc_new]; obtain ⟨bl, hbl⟩ : ∃ bl, bl = w2.heap.size := ⟨_, rfl⟩; obtain ⟨w9, hw9⟩ : ∃ w9, w9 = w2.alloc (.cells (algOf L T) 73) := ⟨_, rfl⟩; rw [← hw9, ← hbl]; have hA : AlgAt w9 bl L T := (by rw [hw9, hbl]; exact AlgAt.new w2 L T); have B9 : Below w1.heap.size w1 w9 := (by rw [hw9]; exact z2.alloc z2.size _); clear hw9 hbl)
    | (refine wpList_load_row_w rfl 73 _ rfl bl rfl _ _ _ _ hA Try.underlying73 rfl (size_alg _ _ _ _ _ _) ?_)
    | (go_at_call 167; refine (filtersM_any L T _).mono ?_; rintro e w10 ⟨rfl, hw10⟩; have hA10 : AlgAt w10 w9.heap.size L T := (by rw [hw10]; exact AlgAt.new _ _ _); have B10 : Below w1.heap.size w1 w10 := (by rw [hw10]; exact B9.alloc B9.size _); clear hw10)
    | (go_at_call 166; refine (collect_any _ L T _ HALG.out hA10).mono ?_; rintro e w11 ⟨a3, c3, rfl, o3, h3⟩; have B11 : Below w1.heap.size w1 w11 := B10.trans (h3.mono B10.size)))
  go_ret
  rw [hv.out]
  exact ⟨a3, c3, rfl, o3.from (by have := hB.size; have := B10.size; omega), hB.trans (B11.mono hB.size)⟩
theorem implFiltersOf_any (a b : Option Addr) (ca cb : Nat) (L : List Int) (T : List (List Int))  (w : World) (hr : Rd w a L) (hT : RdT w b T) :
    Calls Try.prog 102 #[.agg #[.slice a L.length ca, .slice b T.length cb]] w (RetSl w.heap.size (algV L T (fls L T)) w) := by
  by_cases h : algB L T = true
  · exact implFiltersOf_yes a b ca cb L T  w hr hT h
  · exact implFiltersOf_no a b ca cb L T  w hr hT (by simpa using h)
set_option maxRecDepth 100000 in
set_option maxHeartbeats 2000000 in
/-- impl.IsSimple -/
theorem implIsSimple_any (a b : Option Addr) (ca cb : Nat) (L : List Int) (T : List (List Int)) (w : World) (hr : Rd w a L) (hT : RdT w b T) :
    Calls Try.prog 44 #[.agg #[.slice a L.length ca, .slice b T.length cb]] w fun e w' => e = .returned (.bool (algB L T && (((fls L T).length : Int) == 2))) ∧ Below w.heap.size w w' := by
  obtain ⟨w1, hw1⟩ : ∃ w1, w1 = w.alloc (.cells #[.slice a L.length ca, .slice b T.length cb] 27) := ⟨_, rfl⟩
  have hB : Below w.heap.size w w1 := by rw [hw1]; exact (Below.refl _ _).alloc (Nat.le_refl _) _
  have hx : w1.heap[w.heap.size]? = some (.cells #[.slice a L.length ca, .slice b T.length cb] 27 (0, 0)) := by rw [hw1]; exact heap_alloc_new w _
  have Kx := Lib.hid (show ∀ wz, Below w1.heap.size w1 wz → wz.heap[w.heap.size]? = some (.cells #[.slice a L.length ca, .slice b T.length cb] 27 (0, 0)) from fun wz h => (h.block _ (lt_of_block hx)).trans hx)
  have KR := Lib.hid (show ∀ wz, Below w1.heap.size w1 wz → Rd wz a L from fun wz h => (hr.below hB).below h)
  have KT := Lib.hid (show ∀ wz, Below w1.heap.size w1 wz → RdT wz b T from fun wz h => (hT.below hB).below h)
  have z1 : Below w1.heap.size w1 w1 := Below.refl _ _
  clear hr hT hx
  have hv := Lib.hid (show (((algV L T (fls L T)).length : Int) == 2) = (algB L T && (((fls L T).length : Int) == 2)) by
    cases hA : algB L T with
    | false => rw [algV_f hA]; rfl
    | true => rw [algV_t hA]; rfl)
  go_enter Try.func44, Try.ntmps44
  go_wp2_with (first
    | go_skip
    | (rw [← hw1]; clear hw1)
    | (refine wpList_load_row_w rfl 27 _ rfl w.heap.size rfl _ _ _ _ (Kx.out _ (by assumption)) Try.underlying27 rfl (size_Alg _ _) ?_)
    | (go_at_call 102; refine (implFiltersOf_any _ _ _ _ L T _ (KR.out _ z1) (KT.out _ z1)).mono ?_; rintro e w3 ⟨a3, c3, rfl, o3, h3⟩))
  go_ret
  exact ⟨ret_bool (by rw [← hv.out]), hB.trans (h3.mono hB.size)⟩
end Go.Proofs.Ytmlbdlobdnhimab

namespace Go.Proofs.Ytmlbdlobdnhimab
open Go.RowKit

theorem fls_63 {L : List Int} {T : List (List Int)} (h : latB L = true) {x : Int} (hx : x ∈ fls L T) : 0 ≤ x ∧ x ≤ 63 := by
  have := fls_parts hx
  have := pw_6 (lat_len h).2
  omega
theorem filt_63 {L : List Int} {T : List (List Int)} (h : latB L = true) (p : Int → Bool) : ∀ s ∈ (fls L T).filter p, 0 ≤ s ∧ s ≤ 63 := fun _ hs => fls_63 h (List.mem_filter.1 hs).1
theorem filt_64 {L : List Int} {T : List (List Int)} (h : latB L = true) (p : Int → Bool) : ((fls L T).filter p).length ≤ 64 := by
  have := List.length_filter_le p (fls L T)
  have := fls_len L T (lat_len h).2
  omega
end Go.Proofs.Ytmlbdlobdnhimab

namespace Go.Proofs.Ytmlbdlobdnhimab
open Go.RowKit

theorem hrt_out {L : List Int} {T : List (List Int)} (h : algB L T = false) : hrtI L T = 0 ∧ hrtB L T = false := by
  have hb : hrtB L T = false := by unfold hrtB; rw [h]; rfl
  exact ⟨by unfold hrtI; rw [hb]; rfl, hb⟩
theorem hrt_no {L : List Int} {T : List (List Int)} (h : (hrtC L T == pw (num L - 1)) = true) : hrtI L T = 0 ∧ hrtB L T = false := by
  have hb : hrtB L T = false := by unfold hrtB; rw [beq_iff_eq] at h; rw [h]; simp
  exact ⟨by unfold hrtI; rw [hb]; rfl, hb⟩
theorem hrt_yes {L : List Int} {T : List (List Int)} (ha : algB L T = true) (h : (hrtC L T == pw (num L - 1)) = false) : hrtI L T = hrtC L T ∧ hrtB L T = true := by
  have hb : hrtB L T = true := by unfold hrtB; rw [ha, Bool.true_and, bne, h]; rfl
  exact ⟨by unfold hrtI; rw [hb]; rfl, hb⟩
end Go.Proofs.Ytmlbdlobdnhimab

namespace Go.Proofs.Ytmlbdlobdnhimab
open Go.RowKit

theorem apart_new {u v v' : Value} {n : Nat} (h : ∀ q, u.ownBlock = some q → v.ownBlock ≠ some q) (hl : v'.ownBlock = v.ownBlock ∨ v'.ownBlock = some n) (hn : ∀ q, u.ownBlock = some q → q < n) : ∀ q, u.ownBlock = some q → v'.ownBlock ≠ some q := fun q hq e => by
  rcases hl with hl | hl
  · exact h q hq (hl ▸ e)
  · have := hn q hq
    rw [hl] at e
    injection e with e
    omega
theorem apart_kept {u v : Value} (h : ∀ q, u.ownBlock = some q → v.ownBlock ≠ some q) : u.ownBlock = none ∨ u.ownBlock ≠ v.ownBlock := by
  cases hu : u.ownBlock with
  | none => exact .inl rfl
  | some q => exact .inr fun e => h q hu e.symm
end Go.Proofs.Ytmlbdlobdnhimab
