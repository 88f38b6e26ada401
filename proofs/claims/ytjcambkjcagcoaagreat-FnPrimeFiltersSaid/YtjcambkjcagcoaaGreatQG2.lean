import Derived.Test.YtjcambkjcagcoaaGreatSG
import Derived.Test.YtjcambkjcagcoaaGreatQU2
import Derived.Test.YtjcambkjcagcoaaGreatPR3
/- The prime filters of the fifty algebras: by the kernel. -/
namespace Go.Proofs.YtjcambkjcagcoaaGreat

def sgPr1 (L : List Int) (T : List (List Int)) (h0 : Bool) (P : List Int) : Bool :=
  (P.all fun f => afB L T f && (!h0 || (latB (quL L T f) && chainB (quL L T f)))) && ((num L == 1 || (!h0 || com (num L) P == pw (num L - 1))) && allI (P.length : Int) fun i => decide (i < 1) || decide (nth P (i - 1) < nth P i))
def sgPr (p : List Int × List (List Int)) : Bool := sgPr1 p.1 p.2 (hasB 0 p.1 p.2) (pris p.1 p.2)
theorem sg_prP0 : ((goods).take 8).all sgPr = true := by decide +kernel
theorem sg_prP1 : ((goods.drop 8).take 8).all sgPr = true := by decide +kernel
theorem sg_prP2 : (((goods.drop 8).drop 8).take 8).all sgPr = true := by decide +kernel
theorem sg_prP3 : ((((goods.drop 8).drop 8).drop 8).take 8).all sgPr = true := by decide +kernel
theorem sg_prP4 : (((((goods.drop 8).drop 8).drop 8).drop 8).take 8).all sgPr = true := by decide +kernel
theorem sg_prP5 : ((((((goods.drop 8).drop 8).drop 8).drop 8).drop 8).take 8).all sgPr = true := by decide +kernel
theorem sg_prP6 : ((((((goods.drop 8).drop 8).drop 8).drop 8).drop 8).drop 8).all sgPr = true := by decide +kernel
theorem sg_prP_all {p : List Int × List (List Int)} (hm : p ∈ goods) : sgPr p = true := by
  rw [← List.take_append_drop 8 (goods), List.mem_append] at hm
  rcases hm with hm | hm
  · exact (List.all_eq_true.1 sg_prP0) _ hm
  rw [← List.take_append_drop 8 (goods.drop 8), List.mem_append] at hm
  rcases hm with hm | hm
  · exact (List.all_eq_true.1 sg_prP1) _ hm
  rw [← List.take_append_drop 8 ((goods.drop 8).drop 8), List.mem_append] at hm
  rcases hm with hm | hm
  · exact (List.all_eq_true.1 sg_prP2) _ hm
  rw [← List.take_append_drop 8 (((goods.drop 8).drop 8).drop 8), List.mem_append] at hm
  rcases hm with hm | hm
  · exact (List.all_eq_true.1 sg_prP3) _ hm
  rw [← List.take_append_drop 8 ((((goods.drop 8).drop 8).drop 8).drop 8), List.mem_append] at hm
  rcases hm with hm | hm
  · exact (List.all_eq_true.1 sg_prP4) _ hm
  rw [← List.take_append_drop 8 (((((goods.drop 8).drop 8).drop 8).drop 8).drop 8), List.mem_append] at hm
  rcases hm with hm | hm
  · exact (List.all_eq_true.1 sg_prP5) _ hm
  exact (List.all_eq_true.1 sg_prP6) _ hm
theorem sg_pr {L : List Int} {T : List (List Int)} (h : SomeP L T) (ha : algB L T = true) : sgPr1 L T (hasB 0 L T) (pris L T) = true := sg_prP_all (someP_good h ha)
end Go.Proofs.YtjcambkjcagcoaaGreat
