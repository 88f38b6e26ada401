import Derived.Test.YtjcambkjcagcoaaGreatSG
import Derived.Test.YtjcambkjcagcoaaGreatKG0
import Derived.Test.YtjcambkjcagcoaaGreatM5
namespace Go.Proofs.YtjcambkjcagcoaaGreat

def radQ (L : List Int) (T : List (List Int)) (x k : Int) : Bool := dpF L T (imp L T (powr L T x k) 0)
def sgRad1 (L : List Int) (T : List (List Int)) (R : Int) : Bool := isFilB L T R && allI (num L) fun x => allI (num L + 1) (radQ L T x) == ib R x
def sgRad (p : List Int × List (List Int)) : Bool := sgRad1 p.1 p.2 (radC p.1 p.2)
theorem sgRadP0 : ((goods).take 8).all sgRad = true := by decide +kernel
theorem sgRadP1 : ((goods.drop 8).take 8).all sgRad = true := by decide +kernel
theorem sgRadP2 : (((goods.drop 8).drop 8).take 8).all sgRad = true := by decide +kernel
theorem sgRadP3 : ((((goods.drop 8).drop 8).drop 8).take 8).all sgRad = true := by decide +kernel
theorem sgRadP4 : (((((goods.drop 8).drop 8).drop 8).drop 8).take 8).all sgRad = true := by decide +kernel
theorem sgRadP5 : ((((((goods.drop 8).drop 8).drop 8).drop 8).drop 8).take 8).all sgRad = true := by decide +kernel
theorem sgRadP6 : ((((((goods.drop 8).drop 8).drop 8).drop 8).drop 8).drop 8).all sgRad = true := by decide +kernel
theorem sgRadP_all {p : List Int × List (List Int)} (hm : p ∈ goods) : sgRad p = true := by
  rw [← List.take_append_drop 8 (goods), List.mem_append] at hm
  rcases hm with hm | hm
  · exact (List.all_eq_true.1 sgRadP0) _ hm
  rw [← List.take_append_drop 8 (goods.drop 8), List.mem_append] at hm
  rcases hm with hm | hm
  · exact (List.all_eq_true.1 sgRadP1) _ hm
  rw [← List.take_append_drop 8 ((goods.drop 8).drop 8), List.mem_append] at hm
  rcases hm with hm | hm
  · exact (List.all_eq_true.1 sgRadP2) _ hm
  rw [← List.take_append_drop 8 (((goods.drop 8).drop 8).drop 8), List.mem_append] at hm
  rcases hm with hm | hm
  · exact (List.all_eq_true.1 sgRadP3) _ hm
  rw [← List.take_append_drop 8 ((((goods.drop 8).drop 8).drop 8).drop 8), List.mem_append] at hm
  rcases hm with hm | hm
  · exact (List.all_eq_true.1 sgRadP4) _ hm
  rw [← List.take_append_drop 8 (((((goods.drop 8).drop 8).drop 8).drop 8).drop 8), List.mem_append] at hm
  rcases hm with hm | hm
  · exact (List.all_eq_true.1 sgRadP5) _ hm
  exact (List.all_eq_true.1 sgRadP6) _ hm
theorem sg_rad {L : List Int} {T : List (List Int)} (h : SomeP L T) (ha : algB L T = true) : sgRad1 L T (radC L T) = true := by
  have h1 := sgRadP_all (p := (L, T)) (someP_good h ha)
  unfold sgRad at h1
  exact h1
end Go.Proofs.YtjcambkjcagcoaaGreat
