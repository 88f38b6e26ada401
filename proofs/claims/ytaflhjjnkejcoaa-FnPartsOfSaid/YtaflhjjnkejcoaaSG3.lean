import Derived.Test.YtaflhjjnkejcoaaSG
import Derived.Test.YtaflhjjnkejcoaaB5
import Derived.Test.YtaflhjjnkejcoaaSL0
import Derived.Test.YtaflhjjnkejcoaaB14
namespace Go.Proofs.Ytaflhjjnkejcoaa
open Go.RowKit

def sgPrt (p : List Int × List (List Int)) : Bool := inL (prts p.1 p.2) (orI 1 (pw (num p.1 - 1))) && inL (prts p.1 p.2) (pw (num p.1) - 1)
theorem sg_prt0 : (goods.take 25).all sgPrt = true := by decide +kernel
theorem sg_prt1 : (goods.drop 25).all sgPrt = true := by decide +kernel
theorem sg_prt {L : List Int} {T : List (List Int)} (h : SomeP L T) (ha : algB L T = true) : sgPrt (L, T) = true := by
  have hm := someP_good h ha
  rw [← List.take_append_drop 25 goods, List.mem_append] at hm
  rcases hm with hm | hm
  · exact (List.all_eq_true.1 sg_prt0) _ hm
  · exact (List.all_eq_true.1 sg_prt1) _ hm
end Go.Proofs.Ytaflhjjnkejcoaa
