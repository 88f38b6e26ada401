import Derived.Test.YtjcambkjcagcoaaGreatQU2
import Derived.Test.YtjcambkjcagcoaaGreatSL0
namespace Go.Proofs.YtjcambkjcagcoaaGreat
open Go.RowKit

theorem dr_toQ {f : FuncId} {args : Array Value} {w : World} {v : Value} (h : Calls Tryz.prog f args w fun e w' => e = .returned v ∧ Dr w w') : Calls Tryz.prog f args w fun e w' => e = .returned v ∧ Below w.heap.size w w' := h.mono fun _ _ h => ⟨h.1, h.2.below _⟩
/-- an algebra, a list and a Boolean are handed back -/
def RetRs (L : List Int) (T : List (List Int)) (W : List Int) (V : Bool) (w : World) (e : Ending) (w' : World) : Prop := ∃ a ca b cb s q, e = .returned (.tuple #[.agg #[.slice a L.length ca, .slice b T.length cb], .slice s W.length q, .bool V]) ∧ Rd w' a L ∧ RdT w' b T ∧ Rd w' s W ∧ Below w.heap.size w w'
theorem rs_parts {w : World} {s : Option Addr} {k q : Nat} {W : List Int} (h : RS w (.slice s k q) W) : k = W.length ∧ Rd w s W := by
  obtain ⟨a, c, e, r⟩ := h
  injection e with x1 x2 _
  subst x1
  exact ⟨x2, r⟩
theorem RetGAsb.r {L : List Int} {T : List (List Int)} {W : List Int} {V : Bool} {w w' : World} {e : Ending} (h : RetGAsb L T W V w e w') : RetRs L T W V w e w' := by
  obtain ⟨a, n, c, b, m, d, s, k, q, z, rfl, ho, hs, _, _, hb⟩ := h
  obtain ⟨rfl, rfl, r1, r2⟩ := ra_parts ho.rd
  obtain ⟨rfl, r3⟩ := rs_parts hs.rd
  exact ⟨a, c, b, d, s, q, rfl, r1, r2, r3, hb⟩
end Go.Proofs.YtjcambkjcagcoaaGreat
