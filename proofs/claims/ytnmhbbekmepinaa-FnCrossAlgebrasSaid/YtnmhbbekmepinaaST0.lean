import Derived.Test.YtnmhbbekmepinaaSA7
namespace Go.Proofs.Ytnmhbbekmepinaa
open Go.RowKit
set_option linter.unusedVariables false

/-- two algebras are drawn -/
def RetDAA (w : World) (e : Ending) (w' : World) : Prop := ∃ (L : List Int) (T : List (List Int)) (a : Option Addr) (ca : Nat) (b : Option Addr) (cb : Nat) (M : List Int) (U : List (List Int)) (a2 : Option Addr) (ca2 : Nat) (b2 : Option Addr) (cb2 : Nat), e = .returned (.tuple #[.agg #[.slice a L.length ca, .slice b T.length cb], .agg #[.slice a2 M.length ca2, .slice b2 U.length cb2]]) ∧ SomeP L T ∧ SomeP M U ∧ Rd w' a L ∧ RdT w' b T ∧ Rd w' a2 M ∧ RdT w' b2 U ∧ Below w.heap.size w w'
theorem results_Alg_two {fn : Func} {p q : Tmp} (h : fn.results = #[.cell p 27, .cell q 27]) (tmps : Array Value) (w : World) (g g2 : Nat) (hp : tmps.getD p undef = .pointer (some ⟨g, 0, none⟩)) (hq : tmps.getD q undef = .pointer (some ⟨g2, 0, none⟩))
    (s t s2 t2 : Value) (hg : w.heap[g]? = some (.cells #[s, t] 27 (0, 0))) (hg2 : w.heap[g2]? = some (.cells #[s2, t2] 27 (0, 0))) :
    (results fn tmps).run Try.prog w = .ok (.tuple #[.agg #[s, t], .agg #[s2, t2]]) w := by
  have hp' : tmps[p]?.getD undef = .pointer (some ⟨g, 0, none⟩) := by simpa using hp
  have hq' : tmps[q]?.getD undef = .pointer (some ⟨g2, 0, none⟩) := by simpa using hq
  have hl := run_loadVar_row (P := Try.prog) w g _ 27 _ _ _ hg Try.underlying27 rfl (size_Alg _ _)
  have hl2 := run_loadVar_row (P := Try.prog) w g2 _ 27 _ _ _ hg2 Try.underlying27 rfl (size_Alg _ _)
  simp [results, h, hp', hq', asAddr, hl, hl2]
theorem gd_some {L : List Int} {T : List (List Int)} (h : Gd L T) : SomeP L T := ⟨L, T, h, .inl ⟨rfl, rfl⟩⟩
end Go.Proofs.Ytnmhbbekmepinaa
