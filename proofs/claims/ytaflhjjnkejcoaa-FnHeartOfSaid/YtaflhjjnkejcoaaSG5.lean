import Derived.Test.YtaflhjjnkejcoaaSG
import Derived.Test.YtaflhjjnkejcoaaM5
namespace Go.Proofs.Ytaflhjjnkejcoaa
open Go.RowKit

def sg_hrtP (p : List Int × List (List Int)) : Bool :=
  let F := fls p.1 p.2
  let c := hrtC p.1 p.2
  let ok := c != pw (num p.1 - 1)
  let ch := chainB p.1
  (!ok || ((F.all fun f => !decide (1 < wt f) || an f c == c) && (isFilB p.1 p.2 c && decide (1 < wt c)))) && ((!ch || ok == decide (1 < num p.1)) && (!(ok && hasB 0 p.1 p.2) || ch))
theorem sg_hrt0 : (goods.take 12).all sg_hrtP = true := by decide +kernel
theorem sg_hrt1 : ((goods.drop 12).take 13).all sg_hrtP = true := by decide +kernel
theorem sg_hrt2 : (((goods.drop 12).drop 13).take 13).all sg_hrtP = true := by decide +kernel
theorem sg_hrt3 : (((goods.drop 12).drop 13).drop 13).all sg_hrtP = true := by decide +kernel
theorem sg_hrt {L : List Int} {T : List (List Int)} (h : SomeP L T) (ha : algB L T = true) : sg_hrtP (L, T) = true := by
  have hm := someP_good h ha
  rw [← List.take_append_drop 12 goods, List.mem_append] at hm
  rcases hm with hm | hm
  · exact (List.all_eq_true.1 sg_hrt0) _ hm
  rw [← List.take_append_drop 13 (goods.drop 12), List.mem_append] at hm
  rcases hm with hm | hm
  · exact (List.all_eq_true.1 sg_hrt1) _ hm
  rw [← List.take_append_drop 13 ((goods.drop 12).drop 13), List.mem_append] at hm
  rcases hm with hm | hm
  · exact (List.all_eq_true.1 sg_hrt2) _ hm
  · exact (List.all_eq_true.1 sg_hrt3) _ hm
end Go.Proofs.Ytaflhjjnkejcoaa
