import Derived.Test.YtljnbhnnjfnjeaaSL0
import Derived.Test.YtljnbhnnjfnjeaaQU2
/- What is left by a filter of a good algebra is an algebra: by the kernel. -/
namespace Go.Proofs.Ytljnbhnnjfnjeaa
set_option linter.unusedVariables false

def mgQ (p : List Int × List (List Int)) : Bool := decide (1 ≤ (fls p.1 p.2).length) && (fls p.1 p.2).all fun f => afB p.1 p.2 f && algB (quL p.1 p.2 f) (quTb p.1 p.2 f)
theorem mg_q0 : ((goods).take 8).all mgQ = true := by decide +kernel
theorem mg_q1 : (((goods).drop 8).take 8).all mgQ = true := by decide +kernel
theorem mg_q2 : ((((goods).drop 8).drop 8).take 8).all mgQ = true := by decide +kernel
theorem mg_q3 : (((((goods).drop 8).drop 8).drop 8).take 8).all mgQ = true := by decide +kernel
theorem mg_q4 : ((((((goods).drop 8).drop 8).drop 8).drop 8).take 8).all mgQ = true := by decide +kernel
theorem mg_q5 : (((((((goods).drop 8).drop 8).drop 8).drop 8).drop 8).take 8).all mgQ = true := by decide +kernel
theorem mg_q6 : (((((((goods).drop 8).drop 8).drop 8).drop 8).drop 8).drop 8).all mgQ = true := by decide +kernel
theorem mg_q_all {p : List Int × List (List Int)} (hm : p ∈ goods) : mgQ p = true := by
  rw [← List.take_append_drop 8 (goods), List.mem_append] at hm
  rcases hm with hm | hm
  · exact (List.all_eq_true.1 mg_q0) _ hm
  rw [← List.take_append_drop 8 ((goods).drop 8), List.mem_append] at hm
  rcases hm with hm | hm
  · exact (List.all_eq_true.1 mg_q1) _ hm
  rw [← List.take_append_drop 8 (((goods).drop 8).drop 8), List.mem_append] at hm
  rcases hm with hm | hm
  · exact (List.all_eq_true.1 mg_q2) _ hm
  rw [← List.take_append_drop 8 ((((goods).drop 8).drop 8).drop 8), List.mem_append] at hm
  rcases hm with hm | hm
  · exact (List.all_eq_true.1 mg_q3) _ hm
  rw [← List.take_append_drop 8 (((((goods).drop 8).drop 8).drop 8).drop 8), List.mem_append] at hm
  rcases hm with hm | hm
  · exact (List.all_eq_true.1 mg_q4) _ hm
  rw [← List.take_append_drop 8 ((((((goods).drop 8).drop 8).drop 8).drop 8).drop 8), List.mem_append] at hm
  rcases hm with hm | hm
  · exact (List.all_eq_true.1 mg_q5) _ hm
  exact (List.all_eq_true.1 mg_q6) _ hm
theorem mg_fact {L : List Int} {T : List (List Int)} (h : Gd L T) : 1 ≤ (fls L T).length ∧ ∀ f ∈ fls L T, afB L T f = true ∧ algB (upL (quG L T f) ((quW L T f).length : Int)) (tabL (quM L T f) ((quW L T f).length : Int)) = true ∧ (quT L T f).length = L.length := by
  have := mg_q_all h.mem
  unfold mgQ at this
  rw [Bool.and_eq_true, decide_eq_true_eq, List.all_eq_true] at this
  refine ⟨this.1, fun f hf => ?_⟩
  have h1 := this.2 f hf
  rw [Bool.and_eq_true] at h1
  obtain ⟨_, e1, e2, _⟩ := qu_yes h1.1
  refine ⟨h1.1, by have := h1.2; rwa [e1, e2] at this, quT_len (by unfold num; omega)⟩
end Go.Proofs.Ytljnbhnnjfnjeaa
