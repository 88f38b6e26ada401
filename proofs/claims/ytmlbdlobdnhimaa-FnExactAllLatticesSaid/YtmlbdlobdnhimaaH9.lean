import Derived.Test.YtmlbdlobdnhimaaH8
namespace Go.Proofs.Ytmlbdlobdnhimaa
open Go.RowKit

section
variable {w : World} {b : Nat} {L : List Int} {T : List (List Int)}
end
theorem size_latOf (L : List Int) : (Try.prog.info? 58).map (·.size) = some (latOf L).size := size_lat _ _ _ _
/-- what impl.readAlgebraWith hands back -/
def awA (L : List Int) (T : List (List Int)) (r : Bool) : Array Value := if r then algOf L T else zeroAlg
def awB (L : List Int) (T : List (List Int)) (E : List Int) : Bool := algB L T && withB L E
end Go.Proofs.Ytmlbdlobdnhimaa
