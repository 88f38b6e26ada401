import Derived.Test.YtjcambkjcagcoaaGreatSG
import Derived.Test.YtjcambkjcagcoaaGreatQU2
import Derived.Test.YtjcambkjcagcoaaGreatM5
import Derived.Test.YtjcambkjcagcoaaGreatSL0
/- The greatest filters of the fifty algebras: by the kernel. -/
namespace Go.Proofs.YtjcambkjcagcoaaGreat

def sgGr1 (L : List Int) (T : List (List Int)) (P G : List Int) : Bool :=
  (G.all fun f => afB L T f && (inL P f && (algB (quL L T f) (quTb L T f) && (((fls (quL L T f) (quTb L T f)).length : Int) == 2)))) && (((G.length : Int) == 0) == (num L == 1))
def sgGr (p : List Int × List (List Int)) : Bool := sgGr1 p.1 p.2 (pris p.1 p.2) (grs p.1 p.2)
theorem sg_grP0 : ((goods).take 8).all sgGr = true := by decide +kernel
theorem sg_grP1 : ((goods.drop 8).take 8).all sgGr = true := by decide +kernel
theorem sg_grP2 : (((goods.drop 8).drop 8).take 8).all sgGr = true := by decide +kernel
theorem sg_grP3 : ((((goods.drop 8).drop 8).drop 8).take 8).all sgGr = true := by decide +kernel
theorem sg_grP4 : (((((goods.drop 8).drop 8).drop 8).drop 8).take 8).all sgGr = true := by decide +kernel
theorem sg_grP5 : ((((((goods.drop 8).drop 8).drop 8).drop 8).drop 8).take 8).all sgGr = true := by decide +kernel
theorem sg_grP6 : ((((((goods.drop 8).drop 8).drop 8).drop 8).drop 8).drop 8).all sgGr = true := by decide +kernel
theorem sg_grP_all {p : List Int × List (List Int)} (hm : p ∈ goods) : sgGr p = true := by
  rw [← List.take_append_drop 8 (goods), List.mem_append] at hm
  rcases hm with hm | hm
  · exact (List.all_eq_true.1 sg_grP0) _ hm
  rw [← List.take_append_drop 8 (goods.drop 8), List.mem_append] at hm
  rcases hm with hm | hm
  · exact (List.all_eq_true.1 sg_grP1) _ hm
  rw [← List.take_append_drop 8 ((goods.drop 8).drop 8), List.mem_append] at hm
  rcases hm with hm | hm
  · exact (List.all_eq_true.1 sg_grP2) _ hm
  rw [← List.take_append_drop 8 (((goods.drop 8).drop 8).drop 8), List.mem_append] at hm
  rcases hm with hm | hm
  · exact (List.all_eq_true.1 sg_grP3) _ hm
  rw [← List.take_append_drop 8 ((((goods.drop 8).drop 8).drop 8).drop 8), List.mem_append] at hm
  rcases hm with hm | hm
  · exact (List.all_eq_true.1 sg_grP4) _ hm
  rw [← List.take_append_drop 8 (((((goods.drop 8).drop 8).drop 8).drop 8).drop 8), List.mem_append] at hm
  rcases hm with hm | hm
  · exact (List.all_eq_true.1 sg_grP5) _ hm
  exact (List.all_eq_true.1 sg_grP6) _ hm
theorem sg_gr {L : List Int} {T : List (List Int)} (h : SomeP L T) (ha : algB L T = true) : sgGr1 L T (pris L T) (grs L T) = true := by
  have h1 := sg_grP_all (p := (L, T)) (someP_good h ha)
  unfold sgGr at h1
  exact h1
end Go.Proofs.YtjcambkjcagcoaaGreat
