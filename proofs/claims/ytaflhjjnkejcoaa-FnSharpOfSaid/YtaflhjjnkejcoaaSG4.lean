import Derived.Test.YtaflhjjnkejcoaaSG
import Derived.Test.YtaflhjjnkejcoaaB14
import Derived.Test.YtaflhjjnkejcoaaSL0
import Derived.Test.YtaflhjjnkejcoaaG9
import Derived.Test.YtaflhjjnkejcoaaB5
namespace Go.Proofs.Ytaflhjjnkejcoaa
open Go.RowKit

def sgShp (p : List Int × List (List Int)) : Bool :=
  let V := filtTo (sharpQ p.1 p.2) (num p.1)
  let W := filtTo (fixQ p.2) (num p.1)
  V.all (fun x => inL W x && inL V (imp p.1 p.2 x 0)) && (inL (prts p.1 p.2) (setL V) && (((V.length : Int) == (p.1.length : Int)) == hasB 4 p.1 p.2))
theorem sg_shp0 : (goods.take 12).all sgShp = true := by decide +kernel
theorem sg_shp1 : ((goods.drop 12).take 13).all sgShp = true := by decide +kernel
theorem sg_shp2 : (((goods.drop 12).drop 13).take 13).all sgShp = true := by decide +kernel
theorem sg_shp3 : (((goods.drop 12).drop 13).drop 13).all sgShp = true := by decide +kernel
theorem sg_shp {L : List Int} {T : List (List Int)} (h : SomeP L T) (ha : algB L T = true) : sgShp (L, T) = true := by
  have hm := someP_good h ha
  rw [← List.take_append_drop 12 goods, List.mem_append] at hm
  rcases hm with hm | hm
  · exact (List.all_eq_true.1 sg_shp0) _ hm
  rw [← List.take_append_drop 13 (goods.drop 12), List.mem_append] at hm
  rcases hm with hm | hm
  · exact (List.all_eq_true.1 sg_shp1) _ hm
  rw [← List.take_append_drop 13 ((goods.drop 12).drop 13), List.mem_append] at hm
  rcases hm with hm | hm
  · exact (List.all_eq_true.1 sg_shp2) _ hm
  · exact (List.all_eq_true.1 sg_shp3) _ hm
end Go.Proofs.Ytaflhjjnkejcoaa
