import Derived.Test.YthjbfdoclifhoaaCE4
import Derived.Test.YthjbfdoclifhoaaTM15
import Derived.Test.YthjbfdoclifhoaaTM6
import Derived.Test.YthjbfdoclifhoaaCC3
import Derived.Test.YthjbfdoclifhoaaP5
import Derived.Test.YthjbfdoclifhoaaOF
namespace Go.Proofs.Ythjbfdoclifhoaa
set_option linter.unusedVariables false

abbrev AP := List Int × List (List Int)
/-- the algebras of the law -/
def w3L : List Int := chainTo 3 3
def w3T : List (List Int) := tabL (sumP 3) 3
def w2L : List Int := chainTo 2 2
def w2T : List (List Int) := tabL (sumP 2) 2
def wpL : List Int := caL w3L w3T w2L w2T
def wpT : List (List Int) := caT w3L w3T w2L w2T
def wqL : List Int := caL w2L w2T w2L w2T
def wqT : List (List Int) := caT w2L w2T w2L w2T
def wtL : List Int := stL wqL wqT w3L w3T
def wtT : List (List Int) := stT wqL wqT w3L w3T
def lwPs : List AP := ((chT 4).map fun T => (chainTo 4 4, T)) ++ [(w3L, w3T), (w2L, w2T), (wpL, wpT), (wqL, wqT)] ++ [(wtL, wtT)]
theorem lw_len : lwPs.length = 11 := by decide +kernel
theorem lw_oks : caOk w3L w3T w2L w2T = true ∧ caOk w2L w2T w2L w2T = true ∧ stOk wqL wqT w3L w3T = true := by decide +kernel
theorem lw_small : w3L.length = 3 ∧ w3T.length = 3 ∧ w2L.length = 2 ∧ w2T.length = 2 ∧ (∀ r ∈ w3T, r.length ≤ 6) ∧ (∀ r ∈ w2T, r.length ≤ 6) := by decide +kernel
theorem lw_fact0 : ∀ P ∈ lwPs, itB P.1 P.2 (lwV ⟨#[112, 114, 101, 108, 105, 110, 101, 97, 114]⟩) = hpB ⟨#[112, 114, 101, 108, 105, 110, 101, 97, 114]⟩ P.1 P.2 := by decide +kernel
theorem lw_fact1 : ∀ P ∈ lwPs, itB P.1 P.2 (lwV ⟨#[100, 105, 118, 105, 115, 105, 98, 108, 101]⟩) = hpB ⟨#[100, 105, 118, 105, 115, 105, 98, 108, 101]⟩ P.1 P.2 := by decide +kernel
theorem lw_fact2 : ∀ P ∈ lwPs, itB P.1 P.2 (lwV ⟨#[105, 110, 118, 111, 108, 117, 116, 105, 118, 101]⟩) = hpB ⟨#[105, 110, 118, 111, 108, 117, 116, 105, 118, 101]⟩ P.1 P.2 := by decide +kernel
theorem lw_fact3 : ∀ P ∈ lwPs, itB P.1 P.2 (lwV ⟨#[105, 100, 101, 109, 112, 111, 116, 101, 110, 116]⟩) = hpB ⟨#[105, 100, 101, 109, 112, 111, 116, 101, 110, 116]⟩ P.1 P.2 := by decide +kernel
theorem lw_fact4 : ∀ P ∈ lwPs, itB P.1 P.2 (lwV ⟨#[98, 111, 111, 108, 101, 97, 110]⟩) = hpB ⟨#[98, 111, 111, 108, 101, 97, 110]⟩ P.1 P.2 := by decide +kernel
theorem prNames_6 {s : ByteArray} (h : s ∈ prNames) : s = ⟨#[112, 114, 101, 108, 105, 110, 101, 97, 114]⟩ ∨ s = ⟨#[100, 105, 118, 105, 115, 105, 98, 108, 101]⟩ ∨ s = ⟨#[105, 110, 118, 111, 108, 117, 116, 105, 118, 101]⟩ ∨ s = ⟨#[105, 100, 101, 109, 112, 111, 116, 101, 110, 116]⟩ ∨ s = ⟨#[98, 111, 111, 108, 101, 97, 110]⟩ ∨ s = ⟨#[]⟩ := by
  unfold prNames at h
  simp only [List.mem_cons, List.not_mem_nil, or_false] at h
  rcases h with h | h | h | h | h | h | h | h <;> simp [h]
theorem lw_facts {s : ByteArray} (h : s ∈ prNames) : lwV s = [] ∨ ((∀ P ∈ lwPs, itB P.1 P.2 (lwV s) = hpB s P.1 P.2) ∧ vtB (lwV s) = true ∧ 1 ≤ (lwV s).length ∧ (lwV s).length ≤ 15) := by
  rcases prNames_6 h with rfl | rfl | rfl | rfl | rfl | rfl
  · exact .inr ⟨lw_fact0, by decide +kernel, by decide +kernel, by decide +kernel⟩
  · exact .inr ⟨lw_fact1, by decide +kernel, by decide +kernel, by decide +kernel⟩
  · exact .inr ⟨lw_fact2, by decide +kernel, by decide +kernel, by decide +kernel⟩
  · exact .inr ⟨lw_fact3, by decide +kernel, by decide +kernel, by decide +kernel⟩
  · exact .inr ⟨lw_fact4, by decide +kernel, by decide +kernel, by decide +kernel⟩
  · exact .inl (by decide +kernel)
end Go.Proofs.Ythjbfdoclifhoaa
