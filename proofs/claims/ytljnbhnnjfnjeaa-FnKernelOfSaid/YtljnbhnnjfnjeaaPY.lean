import Derived.Test.YtljnbhnnjfnjeaaP2
import Derived.Test.YtljnbhnnjfnjeaaG11
/- A call and a making of memory that are both ready. -/
namespace Go.Proofs.Ytljnbhnnjfnjeaa
open Go.RowKit

section
variable {P : Program} {ops : Array Oper} {md : Region.Mode} {Q : Exit → Act → World → Prop} {C : World → Prop}
theorem anyC_two {i j : Nat} {oi oj : Oper} {f : FuncId} {args : Array Value} {fuel : Nat} {listed : Array Bool} {a : Act} {w : World} (hi : ops[i]? = some oi) (hj : ops[j]? = some oj)
    (hr : Region.ready md ops listed = [i, j]) (hw : Region.wanted oi (yielded ops a.tmps) = true) (hx : (execOp a.eval oi).run P w = .ok (.enter f args) w) (hC : C w)
    (h1 : Calls P f args w fun e w' => ∃ v, e = .returned v ∧ wpAnyC P md ops Q C fuel (listed.setIfInBounds i true) (a.put oi.dst v) w')
    (h2 : wpList P ops (fun e a' w' => match e with | .normal => wpAnyC P md ops Q C fuel (listed.setIfInBounds j true) a' w' | e => Q e a' w') [oj] a w) : wpAnyC P md ops Q C (fuel + 1) listed a w := by
  refine ⟨hC, fun h0 => (by rw [hr] at h0; cases h0), fun k hk => ?_⟩
  rw [hr, List.mem_cons, List.mem_singleton] at hk
  rcases hk with rfl | rfl
  · unfold wpOp
    simp only [hi, hw, if_true, Oper.wp, hx, Oper.upon]
    refine .inl (h1.mono fun e w' ⟨v, he, h'⟩ => ?_)
    subst he
    exact h'
  · unfold wpOp
    simp only [hj]
    unfold wpList at h2
    split at h2
    · rename_i hw2
      rw [if_pos hw2]
      rcases h2 with h | ⟨ha, hl⟩
      · refine .inl ?_
        unfold Oper.wp at *
        generalize (execOp a.eval oj).run P w = r at *
        cases r with
        | ok n w' => cases n <;> exact h
        | halt x w' => cases x <;> exact h
      · exact .inr ⟨ha, hl⟩
    · rename_i hw2
      rw [if_neg hw2]
      exact h2
end
end Go.Proofs.Ytljnbhnnjfnjeaa
