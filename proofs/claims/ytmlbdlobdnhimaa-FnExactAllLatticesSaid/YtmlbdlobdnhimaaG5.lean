import Derived.Test.YtmlbdlobdnhimaaG4
import Derived.Test.YtmlbdlobdnhimaaM5
namespace Go.Proofs.Ytmlbdlobdnhimaa
open Go.RowKit

def implyI (L : List Int) (T : List (List Int)) (x y : Int) : Int := if algIn L T x y then imp L T x y else -1
def notI (L : List Int) (T : List (List Int)) (x : Int) : Int := if algIn L T x x then imp L T x 0 else -1
def nearO (L : List Int) (T : List (List Int)) (x y : Int) : Int := if algIn L T x y then nearI L T x y else -1
end Go.Proofs.Ytmlbdlobdnhimaa
