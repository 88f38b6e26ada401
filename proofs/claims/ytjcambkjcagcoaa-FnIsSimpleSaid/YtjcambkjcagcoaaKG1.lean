import Derived.Test.YtjcambkjcagcoaaSG
import Derived.Test.YtjcambkjcagcoaaKG0
import Derived.Test.YtjcambkjcagcoaaM5
namespace Go.Proofs.Ytjcambkjcagcoaa

def sgSim1 (L : List Int) (T : List (List Int)) (F G : List Int) : Bool := (((F.length : Int) == 2) == (allI (num L - 1) (dpF L T) && decide (1 < num L))) && (!((F.length : Int) == 2) || ((G.length : Int) == 1))
def sgSim (p : List Int × List (List Int)) : Bool := sgSim1 p.1 p.2 (fls p.1 p.2) (grs p.1 p.2)
theorem sgSimP0 : ((goods).take 8).all sgSim = true := by decide +kernel
theorem sgSimP1 : ((goods.drop 8).take 8).all sgSim = true := by decide +kernel
theorem sgSimP2 : (((goods.drop 8).drop 8).take 8).all sgSim = true := by decide +kernel
theorem sgSimP3 : ((((goods.drop 8).drop 8).drop 8).take 8).all sgSim = true := by decide +kernel
theorem sgSimP4 : (((((goods.drop 8).drop 8).drop 8).drop 8).take 8).all sgSim = true := by decide +kernel
theorem sgSimP5 : ((((((goods.drop 8).drop 8).drop 8).drop 8).drop 8).take 8).all sgSim = true := by decide +kernel
theorem sgSimP6 : ((((((goods.drop 8).drop 8).drop 8).drop 8).drop 8).drop 8).all sgSim = true := by decide +kernel
theorem sgSimP_all {p : List Int × List (List Int)} (hm : p ∈ goods) : sgSim p = true := by
  rw [← List.take_append_drop 8 (goods), List.mem_append] at hm
  rcases hm with hm | hm
  · exact (List.all_eq_true.1 sgSimP0) _ hm
  rw [← List.take_append_drop 8 (goods.drop 8), List.mem_append] at hm
  rcases hm with hm | hm
  · exact (List.all_eq_true.1 sgSimP1) _ hm
  rw [← List.take_append_drop 8 ((goods.drop 8).drop 8), List.mem_append] at hm
  rcases hm with hm | hm
  · exact (List.all_eq_true.1 sgSimP2) _ hm
  rw [← List.take_append_drop 8 (((goods.drop 8).drop 8).drop 8), List.mem_append] at hm
  rcases hm with hm | hm
  · exact (List.all_eq_true.1 sgSimP3) _ hm
  rw [← List.take_append_drop 8 ((((goods.drop 8).drop 8).drop 8).drop 8), List.mem_append] at hm
  rcases hm with hm | hm
  · exact (List.all_eq_true.1 sgSimP4) _ hm
  rw [← List.take_append_drop 8 (((((goods.drop 8).drop 8).drop 8).drop 8).drop 8), List.mem_append] at hm
  rcases hm with hm | hm
  · exact (List.all_eq_true.1 sgSimP5) _ hm
  exact (List.all_eq_true.1 sgSimP6) _ hm
theorem sg_sim {L : List Int} {T : List (List Int)} (h : SomeP L T) (ha : algB L T = true) : sgSim1 L T (fls L T) (grs L T) = true := by
  have h1 := sgSimP_all (p := (L, T)) (someP_good h ha)
  unfold sgSim at h1
  exact h1
end Go.Proofs.Ytjcambkjcagcoaa
