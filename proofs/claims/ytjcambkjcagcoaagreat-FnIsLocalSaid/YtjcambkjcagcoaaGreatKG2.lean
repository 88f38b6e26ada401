import Derived.Test.YtjcambkjcagcoaaGreatSG
import Derived.Test.YtjcambkjcagcoaaGreatKG0
import Derived.Test.YtjcambkjcagcoaaGreatM5
namespace Go.Proofs.YtjcambkjcagcoaaGreat

def locQ (L : List Int) (T : List (List Int)) (x : Int) : Bool := dpF L T x || dpF L T (imp L T x 0)
def sgLoc1 (L : List Int) (T : List (List Int)) (G : List Int) : Bool := ((G.length : Int) == 1) == (allI (num L) (locQ L T) && decide (1 < num L))
def sgLoc (p : List Int × List (List Int)) : Bool := sgLoc1 p.1 p.2 (grs p.1 p.2)
theorem sgLocP0 : ((goods).take 8).all sgLoc = true := by decide +kernel
theorem sgLocP1 : ((goods.drop 8).take 8).all sgLoc = true := by decide +kernel
theorem sgLocP2 : (((goods.drop 8).drop 8).take 8).all sgLoc = true := by decide +kernel
theorem sgLocP3 : ((((goods.drop 8).drop 8).drop 8).take 8).all sgLoc = true := by decide +kernel
theorem sgLocP4 : (((((goods.drop 8).drop 8).drop 8).drop 8).take 8).all sgLoc = true := by decide +kernel
theorem sgLocP5 : ((((((goods.drop 8).drop 8).drop 8).drop 8).drop 8).take 8).all sgLoc = true := by decide +kernel
theorem sgLocP6 : ((((((goods.drop 8).drop 8).drop 8).drop 8).drop 8).drop 8).all sgLoc = true := by decide +kernel
theorem sgLocP_all {p : List Int × List (List Int)} (hm : p ∈ goods) : sgLoc p = true := by
  rw [← List.take_append_drop 8 (goods), List.mem_append] at hm
  rcases hm with hm | hm
  · exact (List.all_eq_true.1 sgLocP0) _ hm
  rw [← List.take_append_drop 8 (goods.drop 8), List.mem_append] at hm
  rcases hm with hm | hm
  · exact (List.all_eq_true.1 sgLocP1) _ hm
  rw [← List.take_append_drop 8 ((goods.drop 8).drop 8), List.mem_append] at hm
  rcases hm with hm | hm
  · exact (List.all_eq_true.1 sgLocP2) _ hm
  rw [← List.take_append_drop 8 (((goods.drop 8).drop 8).drop 8), List.mem_append] at hm
  rcases hm with hm | hm
  · exact (List.all_eq_true.1 sgLocP3) _ hm
  rw [← List.take_append_drop 8 ((((goods.drop 8).drop 8).drop 8).drop 8), List.mem_append] at hm
  rcases hm with hm | hm
  · exact (List.all_eq_true.1 sgLocP4) _ hm
  rw [← List.take_append_drop 8 (((((goods.drop 8).drop 8).drop 8).drop 8).drop 8), List.mem_append] at hm
  rcases hm with hm | hm
  · exact (List.all_eq_true.1 sgLocP5) _ hm
  exact (List.all_eq_true.1 sgLocP6) _ hm
theorem sg_loc {L : List Int} {T : List (List Int)} (h : SomeP L T) (ha : algB L T = true) : sgLoc1 L T (grs L T) = true := by
  have h1 := sgLocP_all (p := (L, T)) (someP_good h ha)
  unfold sgLoc at h1
  exact h1
end Go.Proofs.YtjcambkjcagcoaaGreat
