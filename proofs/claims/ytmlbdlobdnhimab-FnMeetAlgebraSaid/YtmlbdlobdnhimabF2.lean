import Derived.Test.YtmlbdlobdnhimabT4
import Derived.Test.YtmlbdlobdnhimabM5
namespace Go.Proofs.Ytmlbdlobdnhimab
open Go.RowKit

end Go.Proofs.Ytmlbdlobdnhimab

namespace Go.Proofs.Ytmlbdlobdnhimab
open Go.RowKit

def compQ (L : List Int) (x y : Int) : Bool := mt L x y == 0 && jn L x y == L.length - 1
def compI (L : List Int) (x : Int) : List Int := if goodB L x x then filtTo (compQ L x) (num L) else []
theorem compI_t {L : List Int} {x : Int} (h : goodB L x x = true) : compI L x = filtTo (compQ L x) (num L) := if_pos h
theorem compI_f {L : List Int} {x : Int} (h : goodB L x x = false) : compI L x = [] := if_neg (by rw [h]; decide)
theorem compI_len (L : List Int) (x : Int) : (compI L x).length ≤ 6 := by
  cases h : goodB L x x with
  | false => rw [compI_f h]; simp
  | true => rw [compI_t h]; have := filtTo_len (compQ L x) (num L); have := (goodB_parts h).2.2.1; omega

end Go.Proofs.Ytmlbdlobdnhimab

namespace Go.Proofs.Ytmlbdlobdnhimab
open Go.RowKit

end Go.Proofs.Ytmlbdlobdnhimab

namespace Go.Proofs.Ytmlbdlobdnhimab
open Go.RowKit

def covR (L : List Int) (x y z : Int) : Bool := z == x || z == y || !bl L x z || !bl L z y
def covQ (L : List Int) (x y : Int) : Bool := (y != x && bl L x y) && allI (num L) (covR L x y)
def covI (L : List Int) (x : Int) : List Int := if goodB L x x then filtTo (covQ L x) (num L) else []
theorem covI_t {L : List Int} {x : Int} (h : goodB L x x = true) : covI L x = filtTo (covQ L x) (num L) := if_pos h
theorem covI_f {L : List Int} {x : Int} (h : goodB L x x = false) : covI L x = [] := if_neg (by rw [h]; decide)
theorem covI_len (L : List Int) (x : Int) : (covI L x).length ≤ 6 := by
  cases h : goodB L x x with
  | false => rw [covI_f h]; simp
  | true => rw [covI_t h]; have := filtTo_len (covQ L x) (num L); have := (goodB_parts h).2.2.1; omega

end Go.Proofs.Ytmlbdlobdnhimab

namespace Go.Proofs.Ytmlbdlobdnhimab
open Go.RowKit

def abQ (L : List Int) (x y : Int) : Bool := x != y && bl L x y
def covS (L : List Int) (x y z : Int) : Bool := !(abQ L x z && abQ L z y)
theorem covQ_eq (L : List Int) (x y : Int) : covQ L x y = (allI (num L) (covS L x y) && abQ L x y) := by
  unfold covQ abQ
  rw [Bool.and_comm]
  have e : (y != x) = (x != y) := by rw [Bool.eq_iff_iff, bne_iff_ne, bne_iff_ne]; exact ⟨Ne.symm, Ne.symm⟩
  rw [e]
  congr 1
  refine allI_congr fun z _ _ => ?_
  unfold covR covS abQ
  have e1 : (x != z) = !(z == x) := by rw [bne, Bool.not_inj_iff, Bool.eq_iff_iff, beq_iff_eq, beq_iff_eq]; exact ⟨Eq.symm, Eq.symm⟩
  rw [e1, bne]
  cases z == x <;> cases z == y <;> cases bl L x z <;> cases bl L z y <;> rfl

end Go.Proofs.Ytmlbdlobdnhimab
