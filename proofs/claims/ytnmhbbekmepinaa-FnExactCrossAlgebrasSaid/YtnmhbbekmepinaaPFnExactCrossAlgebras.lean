/- FnExactCrossAlgebras: the law answers true whatever its arguments, and each argument reads behind the call as it read before. No condition. -/
import Derived.Test.YtnmhbbekmepinaaRows
import Derived.WalkKit
import Derived.Test.YtnmhbbekmepinaaCC4
import Derived.ProofKit
import Derived.OpenShut
import Derived.ShutString
import Derived.ChangeOld
import Derived.Below
namespace Go.Proofs.Ytnmhbbekmepinaa.fnExactCrossAlgebras
open Go.ChangeShapes Go.WideShapes Go.ChangeAt Go.RowKit
open Go.ChangeMaps (open_string shut_string)
set_option linter.unusedVariables false

theorem own : ownKnob Try.prog.godebug = none := by kernel_rfl
theorem laidOut : laidOutB Try.prog = true := by kernel_rfl

def IsRow (k : IntKind) (w : World) (a : Option Addr) (len cap : Nat) (zs : List Int) : Prop :=
  (a = none ∧ len = 0 ∧ cap = 0 ∧ zs = []) ∨
  ∃ x, a = some x ∧ len ≤ cap ∧ cap ≤ maxLen ∧ zs.length = cap ∧ (∀ i, i < zs.length → w.cell? (x.add i) = some (.int k (zs.getD i 0))) ∧ ∀ n ∈ zs, (Lit.int k n).wf = true

theorem walk (a0 : Option Addr) (n0 ca0 : Nat) (b0 : Option Addr) (m0 cb0 : Nat) (L0 : List Int) (T0 : List (List Int)) (a1 : Option Addr) (n1 ca1 : Nat) (b1 : Option Addr) (m1 cb1 : Nat) (L1 : List Int) (T1 : List (List Int)) (w : World) (hr0 : Rd w a0 L0) (hl0 : L0.length = n0) (hx0 : n0 ≤ maxLen) (ht0 : RdT w b0 T0) (hy0 : T0.length = m0) (hz0 : m0 ≤ maxLen) (hu0 : ∀ j : Nat, j < T0.length → (rowAt T0 j).length ≤ maxLen) (hr1 : Rd w a1 L1) (hl1 : L1.length = n1) (hx1 : n1 ≤ maxLen) (ht1 : RdT w b1 T1) (hy1 : T1.length = m1) (hz1 : m1 ≤ maxLen) (hu1 : ∀ j : Nat, j < T1.length → (rowAt T1 j).length ≤ maxLen) :
    Calls Try.prog 3 #[.agg #[.slice a0 n0 ca0, .slice b0 m0 cb0], .agg #[.slice a1 n1 ca1, .slice b1 m1 cb1]] w fun e w' => e = .returned (.bool true) ∧ Below w.heap.size w w' := by
  subst hl0 hy0
  subst hl1 hy1
  exact lawCrossAlgebras a0 b0 ca0 cb0 L0 T0 a1 b1 ca1 cb1 L1 T1 w hr0 ht0 hx0 hz0 hu0 hr1 ht1 hx1 hz1 hu1

set_option maxRecDepth 100000 in
theorem lifted (os : Os) (started : os.Started) (H : Type) (enc : TypeId × Value → H) :
    ReturnsInHanded {} Try.checked os 3 .any (Rows.fnExactCrossAlgebrasSpec.pre6 enc Try.prog Try.f3 Rows.fnExactCrossAlgebrasRow.domain false) (Rows.fnExactCrossAlgebrasSpec.post enc Try.prog Try.f3 false true false false) := by
  refine returnsInHanded_of_change (C := Try.checked) own started (by kernel_rfl) Try.func3
    (ChangeSpec.witness6 (enc := enc) (C := Try.checked) false ⟨#[], #[.agg #[.slice none 0 0, .slice none 0 0], .agg #[.slice none 0 0, .slice none 0 0]], []⟩ 8 (by kernel_rfl) (by kernel_rfl) (by kernel_rfl) (by kernel_rfl)) ?_
  intro W base args ds gs before hval0 hW hcnd _
  have hval : ∀ (j : Nat) t v, Try.f3.params[j]? = some t → args[j]? = some v → Value.okWide Try.prog W .any base t v := hval0
  have hW' := hW
  obtain ⟨p, q, hA0, hV, rfl, hfz, hnd⟩ := hW
  have hA : DataW.TrodAll enc Try.prog W 0 (fun _ => true) true Try.f3.params.toList args.toList ds p := hA0
  rw [Try.params3] at hA hval
  obtain ⟨v0, vs0, d0, ds0, p0, q0, hargs, rfl, rfl, h0, r0⟩ := trodAll_cons hA
  obtain ⟨v1, vs1, d1, ds1, p1, q1, rfl, rfl, rfl, h1, r1⟩ := trodAll_cons r0
  obtain ⟨rfl, rfl, rfl⟩ := trodAll_nil r1
  obtain rfl : args = #[v0, v1] := by cases args; simp_all
  obtain ⟨rfl, rfl⟩ := trodVars_none hV
  have k0 := h0
  have lt0 : ∀ x ∈ p0, x.block < W.heap.size := by obtain ⟨m, hm⟩ := k0; exact DataW.trod_lt m _ _ _ hm
  obtain ⟨a0, n0, ca0, b0, m0, cb0, L0, T0, rfl, hr0, hl0, hx0, ht0, hy0, hz0, hu0⟩ := open_alg (hval 0 25 v0 rfl rfl) h0
  have k1 := h1
  have lt1 : ∀ x ∈ p1, x.block < W.heap.size := by obtain ⟨m, hm⟩ := k1; exact DataW.trod_lt m _ _ _ hm
  obtain ⟨a1, n1, ca1, b1, m1, cb1, L1, T1, rfl, hr1, hl1, hx1, ht1, hy1, hz1, hu1⟩ := open_alg (hval 1 25 v1 rfl rfl) h1
  clear hA0 hval0
  refine (walk a0 n0 ca0 b0 m0 cb0 L0 T0 a1 n1 ca1 b1 m1 cb1 L1 T1 W hr0 hl0 hx0 ht0 hy0 hz0 hu0 hr1 hl1 hx1 ht1 hy1 hz1 hu1).mono fun e W' ⟨he, bel⟩ => ?_
  subst he
  exact ⟨_, rfl, _, _, _, [], _, [], hW', trodAll_mk1 (shut_bool Try.underlying4 _), (trodAll_cons_mk (Below.trod laidOut (by kernel_rfl) (of_decide_eq_true (by kernel_rfl)) k0 bel lt0) (trodAll_cons_mk (Below.trod laidOut (by kernel_rfl) (of_decide_eq_true (by kernel_rfl)) k1 bel lt1) trodAll_mk0)), rfl, bel.frame _, fun h => by cases h⟩

set_option maxRecDepth 100000 in
set_option maxHeartbeats 40000000 in
theorem closed : joinedFacts Try.pinned.checked.prog 3 Try.f3 Rows.fnExactCrossAlgebrasSpec Rows.fnExactCrossAlgebrasRow = true := by
  simp only [joinedFacts, Bool.and_eq_true]
  repeat' apply And.intro
  all_goals (as_aux_lemma => kernel_rfl)

theorem over : Rows.fnExactCrossAlgebrasRow.holds Try.pinned (OpenSpec.ofChange Rows.fnExactCrossAlgebrasSpec) :=
  OpenClaim.holds_of_wide 3 Try.f3 rfl rfl rfl rfl rfl rfl rfl ⟨rfl, rfl, rfl, rfl, rfl⟩ rfl rfl rfl rfl rfl (by kernel_rfl) Try.func3 closed
    (of_decide_eq_true (by kernel_rfl)) (by unfold Func.isWrapper; first | (rw [if_pos (by decide +kernel)]; kernel_rfl) | (rw [if_neg (by decide +kernel)]; exact ⟨rfl, rfl⟩))
    (fun os started H enc _ => lifted os started H enc)

theorem proved : Rows.FnExactCrossAlgebrasSaid := over
end Go.Proofs.Ytnmhbbekmepinaa.fnExactCrossAlgebras
