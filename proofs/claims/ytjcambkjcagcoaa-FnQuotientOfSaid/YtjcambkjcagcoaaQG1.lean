import Derived.Test.YtjcambkjcagcoaaSG
import Derived.Test.YtjcambkjcagcoaaQU2
import Derived.Test.YtjcambkjcagcoaaB15
/- What is left by a filter of one of the fifty algebras: by the kernel. -/
namespace Go.Proofs.Ytjcambkjcagcoaa

def sgQu1 (L : List Int) (T : List (List Int)) (f : Int) (A : List Int) (B : List (List Int)) (C : List Int) : Bool :=
  algB A B && (isMapB L T A B C && (kerI L T A B C == f && imgI L T A B C == pw (num A) - 1))
def sgQu (p : List Int × List (List Int)) : Bool := (fls p.1 p.2).all fun f => sgQu1 p.1 p.2 f (quL p.1 p.2 f) (quTb p.1 p.2 f) (quTo p.1 p.2 f)
theorem sg_quP0 : ((goods).take 8).all sgQu = true := by decide +kernel
theorem sg_quP1 : ((goods.drop 8).take 8).all sgQu = true := by decide +kernel
theorem sg_quP2 : (((goods.drop 8).drop 8).take 8).all sgQu = true := by decide +kernel
theorem sg_quP3 : ((((goods.drop 8).drop 8).drop 8).take 8).all sgQu = true := by decide +kernel
theorem sg_quP4 : (((((goods.drop 8).drop 8).drop 8).drop 8).take 8).all sgQu = true := by decide +kernel
theorem sg_quP5 : ((((((goods.drop 8).drop 8).drop 8).drop 8).drop 8).take 8).all sgQu = true := by decide +kernel
theorem sg_quP6 : ((((((goods.drop 8).drop 8).drop 8).drop 8).drop 8).drop 8).all sgQu = true := by decide +kernel
theorem sg_quP_all {p : List Int × List (List Int)} (hm : p ∈ goods) : sgQu p = true := by
  rw [← List.take_append_drop 8 (goods), List.mem_append] at hm
  rcases hm with hm | hm
  · exact (List.all_eq_true.1 sg_quP0) _ hm
  rw [← List.take_append_drop 8 (goods.drop 8), List.mem_append] at hm
  rcases hm with hm | hm
  · exact (List.all_eq_true.1 sg_quP1) _ hm
  rw [← List.take_append_drop 8 ((goods.drop 8).drop 8), List.mem_append] at hm
  rcases hm with hm | hm
  · exact (List.all_eq_true.1 sg_quP2) _ hm
  rw [← List.take_append_drop 8 (((goods.drop 8).drop 8).drop 8), List.mem_append] at hm
  rcases hm with hm | hm
  · exact (List.all_eq_true.1 sg_quP3) _ hm
  rw [← List.take_append_drop 8 ((((goods.drop 8).drop 8).drop 8).drop 8), List.mem_append] at hm
  rcases hm with hm | hm
  · exact (List.all_eq_true.1 sg_quP4) _ hm
  rw [← List.take_append_drop 8 (((((goods.drop 8).drop 8).drop 8).drop 8).drop 8), List.mem_append] at hm
  rcases hm with hm | hm
  · exact (List.all_eq_true.1 sg_quP5) _ hm
  exact (List.all_eq_true.1 sg_quP6) _ hm
theorem sg_qu {L : List Int} {T : List (List Int)} (h : SomeP L T) (ha : algB L T = true) {f : Int} (hf : f ∈ fls L T) : sgQu1 L T f (quL L T f) (quTb L T f) (quTo L T f) = true := (List.all_eq_true.1 (sg_quP_all (someP_good h ha))) f hf
end Go.Proofs.Ytjcambkjcagcoaa
