import Derived.Test.YtaflhjjnkejcoaaSG
namespace Go.Proofs.Ytaflhjjnkejcoaa
open Go.RowKit

theorem sg_has0 : (goods.take 25).all sgHas = true := by decide +kernel
theorem sg_has1 : (goods.drop 25).all sgHas = true := by decide +kernel
theorem sg_has {L : List Int} {T : List (List Int)} (h : SomeP L T) (ha : algB L T = true) : sgHas (L, T) = true := by
  have hm := someP_good h ha
  rw [← List.take_append_drop 25 goods, List.mem_append] at hm
  rcases hm with hm | hm
  · exact (List.all_eq_true.1 sg_has0) _ hm
  · exact (List.all_eq_true.1 sg_has1) _ hm
end Go.Proofs.Ytaflhjjnkejcoaa
