import Derived.Test.YtbegkmbboebeaaaSG
import Derived.Test.YtbegkmbboebeaaaPF4
import Derived.Test.YtbegkmbboebeaaaSL0
namespace Go.Proofs.Ytbegkmbboebeaaa
open Go.RowKit

def sg_twiP (p : List Int × List (List Int)) : Bool :=
  let J := lstTo (twiI p.1 p.2) (num p.1)
  snB p.1 p.2 J && ((eqL J (lstTo (fun x => x) (num p.1)) == hasB 2 p.1 p.2) && (fbOk p.1 p.2 J && (algB (fbL p.1 p.2 J) (fbT p.1 p.2 J) && hasB 2 (fbL p.1 p.2 J) (fbT p.1 p.2 J))))
theorem sg_twi0 : (goods.take 12).all sg_twiP = true := by decide +kernel
theorem sg_twi1 : ((goods.drop 12).take 13).all sg_twiP = true := by decide +kernel
theorem sg_twi2 : (((goods.drop 12).drop 13).take 13).all sg_twiP = true := by decide +kernel
theorem sg_twi3 : (((goods.drop 12).drop 13).drop 13).all sg_twiP = true := by decide +kernel
theorem sg_twi {L : List Int} {T : List (List Int)} (h : SomeP L T) (ha : algB L T = true) : sg_twiP (L, T) = true := by
  have hm := someP_good h ha
  rw [← List.take_append_drop 12 goods, List.mem_append] at hm
  rcases hm with hm | hm
  · exact (List.all_eq_true.1 sg_twi0) _ hm
  rw [← List.take_append_drop 13 (goods.drop 12), List.mem_append] at hm
  rcases hm with hm | hm
  · exact (List.all_eq_true.1 sg_twi1) _ hm
  rw [← List.take_append_drop 13 ((goods.drop 12).drop 13), List.mem_append] at hm
  rcases hm with hm | hm
  · exact (List.all_eq_true.1 sg_twi2) _ hm
  · exact (List.all_eq_true.1 sg_twi3) _ hm
end Go.Proofs.Ytbegkmbboebeaaa
