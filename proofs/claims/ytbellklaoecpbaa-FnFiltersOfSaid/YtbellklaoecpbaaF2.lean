import Derived.Test.YtbellklaoecpbaaT4
import Derived.Test.YtbellklaoecpbaaM5
namespace Go.Proofs.Ytbellklaoecpbaa
open Go.RowKit

theorem readOne_no (a : Option Addr) (cap : Nat) (L : List Int) (x : Int) (w : World) (hr : Rd w a L) (h : goodB L x x = false) :
    Calls Try.prog 68 #[.slice a L.length cap, .slice (some ⟨w.heap.size, 0, none⟩) 1 1] (w.alloc (.cells #[.int .i64 x] 3)) fun e w' => e = .returned (.tuple #[.agg zeroLat, .bool false]) ∧ Below w.heap.size w w' := by
  have hb : Below w.heap.size w (w.alloc (.cells #[.int .i64 x] 3)) := (Below.refl _ _).alloc (Nat.le_refl _) _
  have hrow : Row (w.alloc (.cells #[.int .i64 x] 3)) w.heap.size [x] := heap_alloc_new w _
  cases hl : latB L with
  | false => exact (readWith_bad a (some ⟨w.heap.size, 0, none⟩) cap 1 L [x] _ (hr.below hb) hl).mono fun _ _ h => ⟨h.1, hb.trans (h.2.mono (by simp))⟩
  | true =>
    have h2 : withB L [x] = false := by
      rw [good_two, hl, Bool.true_and, withB_two] at h
      unfold withB
      rw [show ((List.length [x] : Nat) : Int) = 0 + 1 from rfl, allI_succ _ (by omega), allI_zero]
      simpa [inE, nth] using h
    have := readWith_lat a (some ⟨w.heap.size, 0, none⟩) cap 1 L [x] _ (hr.below hb) hrow.rd (by simp) hl
    rw [withA_f h2, h2] at this
    exact this.mono fun _ _ h => ⟨h.1, hb.trans (h.2.mono (by simp))⟩
theorem readOne_yes (a : Option Addr) (cap : Nat) (L : List Int) (x : Int) (w : World) (hr : Rd w a L) (h : goodB L x x = true) :
    Calls Try.prog 68 #[.slice a L.length cap, .slice (some ⟨w.heap.size, 0, none⟩) 1 1] (w.alloc (.cells #[.int .i64 x] 3)) fun e w' => e = .returned (.tuple #[.agg (latOf L), .bool true]) ∧ Below w.heap.size w w' := by
  have hb : Below w.heap.size w (w.alloc (.cells #[.int .i64 x] 3)) := (Below.refl _ _).alloc (Nat.le_refl _) _
  have hrow : Row (w.alloc (.cells #[.int .i64 x] 3)) w.heap.size [x] := heap_alloc_new w _
  obtain ⟨hl, _, _, _, x0, x1, _⟩ := goodB_parts h
  have h2 : withB L [x] = true := by
    unfold withB
    rw [show ((List.length [x] : Nat) : Int) = 0 + 1 from rfl, allI_succ _ (by omega), allI_zero]
    unfold num at x1
    simp [inE, nth, x0, x1]
  have := readWith_lat a (some ⟨w.heap.size, 0, none⟩) cap 1 L [x] _ (hr.below hb) hrow.rd (by simp) hl
  rw [withA_t h2, h2] at this
  exact this.mono fun _ _ h => ⟨h.1, hb.trans (h.2.mono (by simp))⟩
end Go.Proofs.Ytbellklaoecpbaa

namespace Go.Proofs.Ytbellklaoecpbaa
open Go.RowKit

def compQ (L : List Int) (x y : Int) : Bool := mt L x y == 0 && jn L x y == L.length - 1
def compI (L : List Int) (x : Int) : List Int := if goodB L x x then filtTo (compQ L x) (num L) else []
theorem compI_t {L : List Int} {x : Int} (h : goodB L x x = true) : compI L x = filtTo (compQ L x) (num L) := if_pos h
theorem compI_f {L : List Int} {x : Int} (h : goodB L x x = false) : compI L x = [] := if_neg (by rw [h]; decide)
theorem compI_len (L : List Int) (x : Int) : (compI L x).length ≤ 6 := by
  cases h : goodB L x x with
  | false => rw [compI_f h]; simp
  | true => rw [compI_t h]; have := filtTo_len (compQ L x) (num L); have := (goodB_parts h).2.2.1; omega

end Go.Proofs.Ytbellklaoecpbaa

namespace Go.Proofs.Ytbellklaoecpbaa
open Go.RowKit

theorem readOne_no' (a : Option Addr) (cap m : Nat) (L : List Int) (x : Int) (w : World) (hm : m = w.heap.size) (hr : Rd w a L) (h : goodB L x x = false) :
    Calls Try.prog 68 #[.slice a L.length cap, .slice (some ⟨m, 0, none⟩) 1 1] (w.alloc (.cells #[.int .i64 x] 3)) fun e w' => e = .returned (.tuple #[.agg zeroLat, .bool false]) ∧ Below w.heap.size w w' := by
  subst hm; exact readOne_no a cap L x w hr h
theorem readOne_yes' (a : Option Addr) (cap m : Nat) (L : List Int) (x : Int) (w : World) (hm : m = w.heap.size) (hr : Rd w a L) (h : goodB L x x = true) :
    Calls Try.prog 68 #[.slice a L.length cap, .slice (some ⟨m, 0, none⟩) 1 1] (w.alloc (.cells #[.int .i64 x] 3)) fun e w' => e = .returned (.tuple #[.agg (latOf L), .bool true]) ∧ Below w.heap.size w w' := by
  subst hm; exact readOne_yes a cap L x w hr h

end Go.Proofs.Ytbellklaoecpbaa

namespace Go.Proofs.Ytbellklaoecpbaa
open Go.RowKit

def covR (L : List Int) (x y z : Int) : Bool := z == x || z == y || !bl L x z || !bl L z y
def covQ (L : List Int) (x y : Int) : Bool := (y != x && bl L x y) && allI (num L) (covR L x y)
def covI (L : List Int) (x : Int) : List Int := if goodB L x x then filtTo (covQ L x) (num L) else []
theorem covI_t {L : List Int} {x : Int} (h : goodB L x x = true) : covI L x = filtTo (covQ L x) (num L) := if_pos h
theorem covI_f {L : List Int} {x : Int} (h : goodB L x x = false) : covI L x = [] := if_neg (by rw [h]; decide)
theorem covI_len (L : List Int) (x : Int) : (covI L x).length ≤ 6 := by
  cases h : goodB L x x with
  | false => rw [covI_f h]; simp
  | true => rw [covI_t h]; have := filtTo_len (covQ L x) (num L); have := (goodB_parts h).2.2.1; omega

end Go.Proofs.Ytbellklaoecpbaa

namespace Go.Proofs.Ytbellklaoecpbaa
open Go.RowKit

def abQ (L : List Int) (x y : Int) : Bool := x != y && bl L x y
def covS (L : List Int) (x y z : Int) : Bool := !(abQ L x z && abQ L z y)
theorem covQ_eq (L : List Int) (x y : Int) : covQ L x y = (allI (num L) (covS L x y) && abQ L x y) := by
  unfold covQ abQ
  rw [Bool.and_comm]
  have e : (y != x) = (x != y) := by rw [Bool.eq_iff_iff, bne_iff_ne, bne_iff_ne]; exact ⟨Ne.symm, Ne.symm⟩
  rw [e]
  congr 1
  refine allI_congr fun z _ _ => ?_
  unfold covR covS abQ
  have e1 : (x != z) = !(z == x) := by rw [bne, Bool.not_inj_iff, Bool.eq_iff_iff, beq_iff_eq, beq_iff_eq]; exact ⟨Eq.symm, Eq.symm⟩
  rw [e1, bne]
  cases z == x <;> cases z == y <;> cases bl L x z <;> cases bl L z y <;> rfl

end Go.Proofs.Ytbellklaoecpbaa
