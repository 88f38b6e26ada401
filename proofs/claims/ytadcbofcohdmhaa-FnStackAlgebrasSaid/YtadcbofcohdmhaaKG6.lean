import Derived.Test.YtadcbofcohdmhaaSG
import Derived.Test.YtadcbofcohdmhaaP7
import Derived.Test.YtadcbofcohdmhaaPR3
/- Stacks of the fifty algebras: by the kernel. -/
namespace Go.Proofs.Ytadcbofcohdmhaa

def sgSt1 (L : List Int) (T : List (List Int)) (M : List Int) (U : List (List Int)) (A : List Int) (B : List (List Int)) : Bool :=
  (algB A B && ((A.length : Int) == L.length + M.length - 1)) && ((((L.length : Int) == 1) || (hasB 1 A B == (hasB 1 L T && hasB 1 M U))) && ((hasB 3 A B == (hasB 3 L T && hasB 3 M U)) && ((chainB L && chainB M) == chainB A)))
def sgSt2 (p q : List Int × List (List Int)) : Bool := sgSt1 p.1 p.2 q.1 q.2 (upL (stG p.1 q.1 ((p.1.length : Int) - 1)) ((p.1.length : Int) - 1 + q.1.length)) (tabL (stP p.2 q.2 ((p.1.length : Int) - 1)) ((p.1.length : Int) - 1 + q.1.length))
def sgSt (p : List Int × List (List Int)) : Bool := goods.all fun q => !decide ((p.1.length : Int) - 1 + q.1.length ≤ 6) || sgSt2 p q
theorem sg_stP0 : ((goods).take 1).all sgSt = true := by decide +kernel
theorem sg_stP1 : ((goods.drop 1).take 1).all sgSt = true := by decide +kernel
theorem sg_stP2 : (((goods.drop 1).drop 1).take 2).all sgSt = true := by decide +kernel
theorem sg_stP3 : ((((goods.drop 1).drop 1).drop 2).take 4).all sgSt = true := by decide +kernel
theorem sg_stP4 : (((((goods.drop 1).drop 1).drop 2).drop 4).take 8).all sgSt = true := by decide +kernel
theorem sg_stP5 : ((((((goods.drop 1).drop 1).drop 2).drop 4).drop 8).take 8).all sgSt = true := by decide +kernel
theorem sg_stP6 : (((((((goods.drop 1).drop 1).drop 2).drop 4).drop 8).drop 8).take 8).all sgSt = true := by decide +kernel
theorem sg_stP7 : ((((((((goods.drop 1).drop 1).drop 2).drop 4).drop 8).drop 8).drop 8).take 8).all sgSt = true := by decide +kernel
theorem sg_stP8 : ((((((((goods.drop 1).drop 1).drop 2).drop 4).drop 8).drop 8).drop 8).drop 8).all sgSt = true := by decide +kernel
theorem sg_stP_all {p : List Int × List (List Int)} (hm : p ∈ goods) : sgSt p = true := by
  rw [← List.take_append_drop 1 (goods), List.mem_append] at hm
  rcases hm with hm | hm
  · exact (List.all_eq_true.1 sg_stP0) _ hm
  rw [← List.take_append_drop 1 (goods.drop 1), List.mem_append] at hm
  rcases hm with hm | hm
  · exact (List.all_eq_true.1 sg_stP1) _ hm
  rw [← List.take_append_drop 2 ((goods.drop 1).drop 1), List.mem_append] at hm
  rcases hm with hm | hm
  · exact (List.all_eq_true.1 sg_stP2) _ hm
  rw [← List.take_append_drop 4 (((goods.drop 1).drop 1).drop 2), List.mem_append] at hm
  rcases hm with hm | hm
  · exact (List.all_eq_true.1 sg_stP3) _ hm
  rw [← List.take_append_drop 8 ((((goods.drop 1).drop 1).drop 2).drop 4), List.mem_append] at hm
  rcases hm with hm | hm
  · exact (List.all_eq_true.1 sg_stP4) _ hm
  rw [← List.take_append_drop 8 (((((goods.drop 1).drop 1).drop 2).drop 4).drop 8), List.mem_append] at hm
  rcases hm with hm | hm
  · exact (List.all_eq_true.1 sg_stP5) _ hm
  rw [← List.take_append_drop 8 ((((((goods.drop 1).drop 1).drop 2).drop 4).drop 8).drop 8), List.mem_append] at hm
  rcases hm with hm | hm
  · exact (List.all_eq_true.1 sg_stP6) _ hm
  rw [← List.take_append_drop 8 (((((((goods.drop 1).drop 1).drop 2).drop 4).drop 8).drop 8).drop 8), List.mem_append] at hm
  rcases hm with hm | hm
  · exact (List.all_eq_true.1 sg_stP7) _ hm
  exact (List.all_eq_true.1 sg_stP8) _ hm
theorem sg_st {L M : List Int} {T U : List (List Int)} (h : SomeP L T) (h2 : SomeP M U) (hok : stOk L T M U = true) : sgSt1 L T M U (stL L T M U) (stT L T M U) = true := by
  have hk := hok
  unfold stOk at hk
  rw [Bool.and_eq_true, Bool.and_eq_true, decide_eq_true_iff] at hk
  obtain ⟨ha, hb, hl⟩ := hk
  have h1 := sg_stP_all (p := (L, T)) (someP_good h ha)
  unfold sgSt at h1
  have h3 := (List.all_eq_true.1 h1) _ (someP_good h2 hb)
  have h4 : sgSt2 (L, T) (M, U) = true := by
    rw [Bool.or_eq_true] at h3
    rcases h3 with h3 | h3
    · rw [Bool.not_eq_true'] at h3
      exact absurd hl (of_decide_eq_false h3)
    · exact h3
  unfold sgSt2 at h4
  obtain ⟨_, e1, e2⟩ := st_yes ha hb hl
  rw [e1, e2]
  exact h4
end Go.Proofs.Ytadcbofcohdmhaa
