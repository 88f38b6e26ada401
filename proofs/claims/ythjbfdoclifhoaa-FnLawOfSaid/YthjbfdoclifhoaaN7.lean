import Derived.Test.YthjbfdoclifhoaaH10
import Derived.Test.YthjbfdoclifhoaaM5
import Derived.Test.YthjbfdoclifhoaaK1
import Derived.Test.YthjbfdoclifhoaaG9
import Derived.RangeFuncNested
import Derived.RangeFuncBound
import Derived.RangeFuncCalls
import Derived.RangeFuncBox
import Derived.RangeFuncLeaves
import Derived.Shelf.Abstract
import Derived.OwnWalkIn
import Derived.TacticsInMore
import Derived.LoopNIn
import Derived.LoopIn
import Derived.Maps.AppendAt
namespace Go.Proofs.Ythjbfdoclifhoaa
open Go.RowKit

theorem ib_t {f x : Int} (h : ib f x = true) : bt f x = 1 := by unfold ib at h; exact beq_iff_eq.1 h
theorem ib_f {f x : Int} (h : ib f x = false) : bt f x = 0 := by
  have := bt_range f x
  have h2 : bt f x ≠ 1 := fun e => by unfold ib at h; rw [e] at h; cases h
  omega
end Go.Proofs.Ythjbfdoclifhoaa

namespace Go.Proofs.Ythjbfdoclifhoaa
open Go.RowKit

theorem take_next (V : List Int) {i : Int} (i0 : 0 ≤ i) (h : i < V.length) : V.take (i + 1).toNat = V.take i.toNat ++ [nth V i] := by
  have h' : i.toNat < V.length := by omega
  rw [show (i + 1).toNat = i.toNat + 1 by omega, List.take_succ_eq_append_getElem h']
  unfold nth; simp [List.getD, h']
theorem take_end (V : List Int) {i : Int} (h : (V.length : Int) ≤ i) : V.take i.toNat = V := List.take_of_length_le (by omega)
theorem take_flen (V : List Int) (p : Int → Bool) (i : Int) : ((V.take i.toNat).filter p).length ≤ V.length := by
  have h1 := List.length_filter_le p (V.take i.toNat)
  have h2 : (V.take i.toNat).length ≤ V.length := by rw [List.length_take]; omega
  omega
theorem nth_mem (V : List Int) {i : Int} (i0 : 0 ≤ i) (h : i < V.length) : nth V i ∈ V := by
  have h' : i.toNat < V.length := by omega
  unfold nth; simp [List.getD, h']
theorem fils_is (L : List Int) (T : List (List Int)) {f : Int} (f0 : 0 ≤ f) (f1 : f < pw (num L)) : isFilB L T f = filB L T f := by
  unfold isFilB setB
  rw [decide_eq_true f0, decide_eq_true (show f ≤ pw (num L) - 1 by omega)]; rfl

end Go.Proofs.Ythjbfdoclifhoaa

namespace Go.Proofs.Ythjbfdoclifhoaa
open Go.RowKit

theorem append11 (a b : Value) : (#[a] ++ #[b] : Array Value) = #[a, b] := rfl
theorem isIn_dr (x set : Int) (w : World) (x0 : 0 ≤ x) (x6 : x ≤ 6) (s0 : 0 ≤ set) (s6 : set ≤ 64) {r : Bool} (h : ib set x = r) :
    Calls Try.prog 90 #[.int .i64 x, .int .i64 set] w fun e w' => e = .returned (.bool r) ∧ Dr w w' :=
  (isIn_is x set w x0 x6 s0 s6 h).mono fun _ _ h => ⟨h.1, h.2 ▸ Dr.refl _⟩
theorem in_trans2 {w1 wr : World} (s : In (Below w1.heap.size w1)) (hb : Below s.w.heap.size s.w wr) : Below w1.heap.size w1 wr := s.h.trans (hb.mono s.h.size)
/-- an algebra and a set of its elements; an algebra and a filter of it -/
def asB (L : List Int) (T : List (List Int)) (f : Int) : Bool := algB L T && setB L f
def afB (L : List Int) (T : List (List Int)) (f : Int) : Bool := algB L T && isFilB L T f
theorem setB_so (L : List Int) (f : Int) : soB (L.length : Int) f = setB L f := rfl
theorem setB_63 {L : List Int} {f : Int} (h : setB L f = true) (n6 : num L ≤ 6) : 0 ≤ f ∧ f ≤ 63 := by
  unfold setB at h; rw [Bool.and_eq_true, decide_eq_true_eq, decide_eq_true_eq] at h
  have := pw_6 n6; omega
theorem afB_as {L : List Int} {T : List (List Int)} {f : Int} : afB L T f = (asB L T f && filB L T f) := by
  unfold afB asB isFilB; rw [Bool.and_assoc]
end Go.Proofs.Ythjbfdoclifhoaa

namespace Go.Proofs.Ythjbfdoclifhoaa
open Go.RowKit

/-- the list, of an algebra alone -/
def algV (L : List Int) (T : List (List Int)) (V : List Int) : List Int := if algB L T then V else []
theorem algV_t {L : List Int} {T : List (List Int)} {V : List Int} (h : algB L T = true) : algV L T V = V := if_pos h
theorem algV_f {L : List Int} {T : List (List Int)} {V : List Int} (h : algB L T = false) : algV L T V = [] := if_neg (by rw [h]; decide)
theorem algV_len {L : List Int} {T : List (List Int)} {V : List Int} {n : Nat} (h : algB L T = true → V.length ≤ n) : (algV L T V).length ≤ n := by
  cases hA : algB L T with
  | false => rw [algV_f hA]; simp
  | true => rw [algV_t hA]; exact h hA
end Go.Proofs.Ythjbfdoclifhoaa

namespace Go.Proofs.Ythjbfdoclifhoaa
open Go.RowKit Go.Shelf

attribute [local go_sem] Oper.semAt_some
/-- a load of a whole array or struct, inside a fence -/
theorem wpListIn_load_row_w {F : Fence} {n : Nat} {P : Program} {ops : Array Oper} {rest : List Oper} {o : Oper} {a : Act} {w : World} {Q : Exit → Act → World → Prop} (hw : Region.wanted o (yielded ops a.tmps) = true) (ty : TypeId) (x : Operand) (ho : o.op = .load ty x)
    (g : Nat) (hx : a.eval x = .pointer (some ⟨g, 0, none⟩)) (t : TypeId) (cs : Array Value) (fr : Nat × Nat) (d : TypeDesc) (hg : w.heap[g]? = some (.cells cs t fr))
    (hu : P.underlying ty = some d) (hd : (match d with | .struct _ | .array _ _ => true | _ => false) = true) (hi : (P.info? ty).map (·.size) = some cs.size)
    (h : wpListIn F n P ops Q rest (a.put o.dst (.agg cs)) w) : wpListIn F n P ops Q (o :: rest) a w := by
  unfold wpListIn
  rw [if_pos hw]
  unfold Oper.wpIn
  refine ⟨?_, ?_⟩
  · simp [Oper.about, ho]
  · rw [Oper.semAt_plain F _ _ (by rw [ho]; intro c hc'; cases hc')]
    simp only [execOp, ho, hx, Instr.loadAt, Instr.sureAddr, Sem.run_bind, Sem.run_pure, Result.andThen_ok, run_loadVar_row w g t ty cs fr d hg hu hd hi]
    exact h
/-- a filter of the algebra -/
abbrev Fl (L : List Int) (T : List (List Int)) : Type := { x : Int // x ∈ fls L T }
def vals {L : List Int} {T : List (List Int)} (xs : List (Fl L T)) : List Int := xs.map (·.1)
theorem vals_snoc {L : List Int} {T : List (List Int)} (xs : List (Fl L T)) (x : Fl L T) : vals (xs ++ [x]) = vals xs ++ [x.1] := by simp [vals]
theorem vals_len {L : List Int} {T : List (List Int)} (xs : List (Fl L T)) : (vals xs).length = xs.length := by simp [vals]
theorem below_grown {w w' : World} (h : Below w.heap.size w w') : w.grownBy w' none :=
  ⟨h.os, h.tape, h.output, h.size, fun k hk _ => h.block k hk⟩
/-- the iterator's algebra lies as it lay -/
def KeepsA (ba : Nat) (L : List Int) (T : List (List Int)) (A B : World) : Prop := AlgAt A ba L T → AlgAt B ba L T
theorem keepsA_t {ba : Nat} {L : List Int} {T : List (List Int)} {A B C : World} (h : KeepsA ba L T A B) (k : KeepsA ba L T B C) : KeepsA ba L T A C := fun x => k (h x)
theorem keepsA_b {ba : Nat} {L : List Int} {T : List (List Int)} {n : Nat} (W : World) (l : Nat) (o o' : Obj) (_ : n ≤ l) (hl : W.heap[l]? = some o) (ho : o.isCells = false) (_ : o.isWalk = false) : KeepsA ba L T W (W.putObj l o') := fun h => by
  refine ((grownBy_putObj' W l o').block ba h.lt fun e => ?_).trans h
  cases e
  have h' : W.heap[ba]? = some (.cells (algOf L T) 58 (0, 0)) := h
  rw [h'] at hl; cases hl; cases ho
/-- what lies round the loop of filtersThat: the predicate's box, the iterator's algebra -/
structure FT (L : List Int) (T : List (List Int)) (pv : Value) (w W : World) : Prop where
  bel : Below w.heap.size w W
  pass : Boxed W (w.heap.size + 1) 95 pv
  alg : AlgAt W (w.heap.size + 1 + 1 + 1) L T
theorem AlgAt.kept {W W' : World} {row : Option Nat} {b : Nat} {L : List Int} {T : List (List Int)} (h : AlgAt W b L T) (hg : W.grownBy W' row) (hne : some b ≠ row) : AlgAt W' b L T := (hg.block b h.lt hne).trans h
theorem ft_own {β : Type} {L : List Int} {T : List (List Int)} {pv : Value} {w : World} {B : Nat} (hB : w.heap.size ≤ B) : OwnFrom B (fun (_ : β) W => FT L T pv w W) := by
  intro s W W' row hs hg hr
  refine ⟨hs.bel.grown hg hs.bel.size (fun k e => Nat.le_trans hB (hr k e).1), hs.pass.kept hg fun e => ?_, hs.alg.kept hg fun e => ?_⟩
  · obtain ⟨_, o, ho, hc⟩ := hr _ e.symm
    rw [show W.heap[w.heap.size + 1]? = _ from hs.pass] at ho; cases ho; cases hc
  · obtain ⟨_, o, ho, hc⟩ := hr _ e.symm
    rw [show W.heap[w.heap.size + 1 + 1 + 1]? = _ from hs.alg] at ho; cases ho; cases hc
theorem ownsRow_frm {w : World} {B B' : Nat} {e : TypeId} {s : Nat} {v : Value} {k : Nat} {xs : List Value} (h : w.ownsRow B e s v k xs) (hB : B' ≤ B) : w.ownsRow B' e s v k xs := by
  obtain ⟨h1, h⟩ := h
  refine ⟨h1, ?_⟩
  rcases h with h | ⟨g, cap, cur, e1, e2, r⟩
  · exact .inl h
  · exact .inr ⟨g, cap, cur, e1, by omega, r⟩
theorem ownsRow_ge {w : World} {B : Nat} {e : TypeId} {s : Nat} {v : Value} {k : Nat} {xs : List Value} (h : w.ownsRow B e s v k xs) {b : Nat} (hb : b < B) : some b ≠ v.ownBlock := by
  rcases h.2 with ⟨rfl, _⟩ | ⟨g, cap, cur, rfl, h1, _⟩
  · simp [Value.ownBlock]
  · intro e'
    obtain rfl : b = g := by simpa [Value.ownBlock] using e'
    omega
theorem ft_below {L : List Int} {T : List (List Int)} {pv : Value} {w W W' : World} (h : FT L T pv w W) (hb : Below W.heap.size W W') : FT L T pv w W' :=
  ⟨h.bel.trans (hb.mono h.bel.size), h.pass.kept (below_grown hb) (by simp), h.alg.kept (below_grown hb) (by simp)⟩
/-- 'list = append(list, f)' in the round -/
theorem ft_appended {L : List Int} {T : List (List Int)} {pv : Value} {w W w1 : World} {v v' : Value} {k m : Nat} {xs ys : List Value} {tmp : Obj} (hF : FT L T pv w W) (hv : Boxed W (w.heap.size + 1 + 1) 24 v) (hrow : W.ownsRow (w.heap.size + 1 + 1 + 1 + 1) 3 1 v k xs)
    (hown' : w1.ownsRow (w.heap.size + 1 + 1 + 1 + 1) 3 1 v' m ys) (hgrow : (W.alloc tmp).grownBy w1 v.ownBlock) :
    Boxed w1 (w.heap.size + 1 + 1) 24 v ∧ Boxed (w1.setCell ⟨w.heap.size + 1 + 1, 0, none⟩ v') (w.heap.size + 1 + 1) 24 v' ∧ (w1.setCell ⟨w.heap.size + 1 + 1, 0, none⟩ v').ownsRow (w.heap.size + 1 + 1 + 1 + 1) 3 1 v' m ys ∧ KeepsOthers W (w1.setCell ⟨w.heap.size + 1 + 1, 0, none⟩ v') ∧ FT L T pv w (w1.setCell ⟨w.heap.size + 1 + 1, 0, none⟩ v') := by
  obtain ⟨hv1, hv2, hr2, hk2, hb2⟩ := hv.appended (n₀ := w.heap.size) (by decide) (ownsRow_frm hrow (by omega)) hF.bel.size (by omega) (ownsRow_frm hown' (by omega)) hgrow
  refine ⟨hv1, hv2, hown'.kept (grownBy_setCell' w1 _ v') (.inr (hv1.not_row (by decide) hown').symm), hk2, hF.bel.trans hb2, ?_, ?_⟩
  · exact Boxed.other (Boxed.kept (hF.pass.alloc tmp) hgrow (ownsRow_ge hrow (by omega))) (by omega) _
  · refine ((hF.alg.kept (World.grownBy_alloc W tmp none) (by simp)).kept hgrow (ownsRow_ge hrow (by omega))).kept (grownBy_setCell' w1 _ v') (fun e => ?_)
    injection e with e; omega
theorem filt_snoc {L : List Int} {T : List (List Int)} (p : Int → Bool) (pre : List (Fl L T)) (x : Fl L T) : (vals (pre ++ [x])).filter p = if p x.1 then (vals pre).filter p ++ [x.1] else (vals pre).filter p := by
  rw [vals_snoc, List.filter_append]
  cases hp : p x.1 <;> simp [hp]
end Go.Proofs.Ythjbfdoclifhoaa

namespace Go.Proofs.Ythjbfdoclifhoaa
open Go.RowKit Go.Shelf

attribute [local go_sem] Oper.semAt_some
/-- what lies round the loop of AppendSeq -/
structure FS (L : List Int) (T : List (List Int)) (ba : Nat) (w W : World) : Prop where
  bel : Below w.heap.size w W
  alg : AlgAt W ba L T
theorem fs_own {β : Type} {L : List Int} {T : List (List Int)} {ba : Nat} {w : World} {B : Nat} (hB : w.heap.size ≤ B) : OwnFrom B (fun (_ : β) W => FS L T ba w W) := by
  intro s W W' row hs hg hr
  refine ⟨hs.bel.grown hg hs.bel.size (fun k e => Nat.le_trans hB (hr k e).1), hs.alg.kept hg fun e => ?_⟩
  obtain ⟨_, o, ho, hc⟩ := hr _ e.symm
  rw [show W.heap[ba]? = _ from hs.alg] at ho; cases ho; cases hc
/-- 's = append(s, v)' in the round -/
theorem fs_appended {L : List Int} {T : List (List Int)} {ba : Nat} {w W w1 : World} {v v' : Value} {k m : Nat} {xs ys : List Value} {tmp : Obj} (hba : ba < w.heap.size) (hF : FS L T ba w W) (hv : Boxed W w.heap.size 24 v) (hrow : W.ownsRow (w.heap.size + 1) 3 1 v k xs)
    (hown' : w1.ownsRow (w.heap.size + 1) 3 1 v' m ys) (hgrow : (W.alloc tmp).grownBy w1 v.ownBlock) :
    Boxed w1 w.heap.size 24 v ∧ Boxed (w1.setCell ⟨w.heap.size, 0, none⟩ v') w.heap.size 24 v' ∧ (w1.setCell ⟨w.heap.size, 0, none⟩ v').ownsRow (w.heap.size + 1) 3 1 v' m ys ∧ KeepsOthers W (w1.setCell ⟨w.heap.size, 0, none⟩ v') ∧ FS L T ba w (w1.setCell ⟨w.heap.size, 0, none⟩ v') := by
  obtain ⟨hv1, hv2, hr2, hk2, hb2⟩ := hv.appended (n₀ := w.heap.size) (by decide) (ownsRow_frm hrow (by omega)) hF.bel.size (by omega) (ownsRow_frm hown' (by omega)) hgrow
  refine ⟨hv1, hv2, hown'.kept (grownBy_setCell' w1 _ v') (.inr (hv1.not_row (by decide) hown').symm), hk2, hF.bel.trans hb2, ?_⟩
  refine ((hF.alg.kept (World.grownBy_alloc W tmp none) (by simp)).kept hgrow (ownsRow_ge hrow (by omega))).kept (grownBy_setCell' w1 _ v') (fun e => ?_)
  injection e with e; omega
end Go.Proofs.Ythjbfdoclifhoaa

namespace Go.Proofs.Ythjbfdoclifhoaa
open Go.RowKit

theorem AlgAt.run {w : World} {b : Nat} {L : List Int} {T : List (List Int)} (h : AlgAt w b L T) : (loadVar 58 ⟨b, 0, none⟩).run Try.prog w = .ok (.agg (algOf L T)) w :=
  run_loadVar_row w b _ _ _ _ _ h Try.underlying58 rfl (size_alg _ _ _ _ _ _)
end Go.Proofs.Ythjbfdoclifhoaa
