import Derived.Test.YtbellklaoecpbaaL4
import Derived.Test.YtbellklaoecpbaaW4
import Derived.StillTailTactics
import Derived.Deep.RegionWith
import Derived.Test.YtbellklaoecpbaaL5
import Derived.Test.YtbellklaoecpbaaC3
import Derived.Test.YtbellklaoecpbaaR3
namespace Go.Proofs.Ytbellklaoecpbaa
open Go.RowKit

/-- the order upside down -/
def turnG (L : List Int) (x y : Int) : Bool := bl L (num L - 1 - y) (num L - 1 - x)
def turnL (L : List Int) : List Int := upL (turnG L) (num L)
/-- the sum of pw (n - 1 - j) over the j below k that q lets by -/
def dnTo (q : Int → Bool) (n k : Int) : Int := (List.range k.toNat).foldl (fun s (j : Nat) => if q j then s + pw (n - 1 - j) else s) 0
theorem dnTo_zero (q : Int → Bool) (n : Int) : dnTo q n 0 = 0 := rfl
theorem dnTo_succ (q : Int → Bool) (n k : Int) (h : 0 ≤ k) : dnTo q n (k + 1) = if q k then dnTo q n k + pw (n - 1 - k) else dnTo q n k := by
  unfold dnTo
  rw [show (k + 1).toNat = k.toNat + 1 by omega, List.range_succ, List.foldl_append]
  simp [Int.toNat_of_nonneg h]
theorem dn_up (q : Int → Bool) (n : Int) : ∀ k : Nat, (k : Int) ≤ n → dnTo q n k + rowTo (fun y => q (n - 1 - y)) (n - k) = rowTo (fun y => q (n - 1 - y)) n
  | 0, _ => by
    have e : ((0 : Nat) : Int) = 0 := rfl
    rw [e, dnTo_zero, Int.sub_zero, Int.zero_add]
  | k + 1, h => by
    have e : ((k + 1 : Nat) : Int) = (k : Int) + 1 := rfl
    rw [e] at h ⊢
    have ih := dn_up q n k (by omega)
    have h1 : n - (k : Int) = (n - ((k : Int) + 1)) + 1 := by omega
    rw [h1, rowTo_succ _ _ (by omega)] at ih
    rw [dnTo_succ q n k (by omega), ← ih]
    have h2 : n - 1 - (n - ((k : Int) + 1)) = k := by omega
    have h3 : n - ((k : Int) + 1) = n - 1 - k := by omega
    simp only [h2]
    rw [h3]
    split <;> omega
theorem dn_all (q : Int → Bool) {n : Int} (n0 : 0 ≤ n) : dnTo q n n = rowTo (fun y => q (n - 1 - y)) n := by
  have := dn_up q n n.toNat (by omega)
  rw [Int.toNat_of_nonneg n0, Int.sub_self, rowTo_zero, Int.add_zero] at this
  exact this
theorem dnTo_bound (q : Int → Bool) {n k : Int} (k0 : 0 ≤ k) (h : k ≤ n) : 0 ≤ dnTo q n k ∧ dnTo q n k ≤ pw n := by
  have h1 := dn_up q n k.toNat (by omega)
  rw [Int.toNat_of_nonneg k0] at h1
  have h2 := rowTo_bound (fun y => q (n - 1 - y)) (show 0 ≤ n - k by omega)
  have h3 := rowTo_bound (fun y => q (n - 1 - y)) (show 0 ≤ n by omega)
  refine ⟨?_, by omega⟩
  have : ∀ j : Nat, 0 ≤ dnTo q n j := by
    intro j
    induction j with
    | zero => exact Int.le_refl _
    | succ j ih =>
      have e : ((j + 1 : Nat) : Int) = (j : Int) + 1 := rfl
      rw [e, dnTo_succ q n j (by omega)]
      have := pw_pos (n - 1 - j)
      split <;> omega
  have := this k.toNat
  rwa [Int.toNat_of_nonneg k0] at this
/-- what spec.turned has written when it is at x and y -/
def tnTo (L : List Int) (x y : Int) : List Int := (List.range L.length).map fun (i : Nat) => dnTo (fun a => bl L a (num L - 1 - i)) (num L) (if num L - 1 - i < y then x + 1 else x)
theorem tnTo_len (L : List Int) (x y : Int) : (tnTo L x y).length = L.length := by simp [tnTo]
theorem tnTo_zero (L : List Int) : tnTo L 0 0 = List.replicate L.length 0 := by
  apply List.ext_getElem
  · simp [tnTo]
  · intro i h1 h2
    simp only [tnTo, List.getElem_map, List.getElem_range, List.getElem_replicate]
    rw [tnTo_len] at h1
    rw [if_neg (by unfold num; omega)]
    rfl
theorem tnTo_nth {L : List Int} {x y : Int} (y0 : 0 ≤ y) (y1 : y < num L) : nth (tnTo L x y) (num L - 1 - y) = dnTo (fun a => bl L a y) (num L) x := by
  have h : (num L - 1 - y).toNat < L.length := by unfold num at *; omega
  have e : (((num L - 1 - y).toNat : Nat) : Int) = num L - 1 - y := by omega
  unfold nth tnTo
  simp only [List.getD_eq_getElem?_getD, List.getElem?_map, List.getElem?_range h, Option.map_some, Option.getD_some, e]
  rw [show num L - 1 - (num L - 1 - y) = y by omega, if_neg (by omega)]
theorem tnTo_next {L : List Int} {x y : Int} (x0 : 0 ≤ x) (y1 : y < num L) (h : bl L x y = true) : (tnTo L x y).set (num L - 1 - y).toNat (dnTo (fun a => bl L a y) (num L) x + pw (num L - 1 - x)) = tnTo L x (y + 1) := by
  apply List.ext_getElem
  · simp [tnTo]
  · intro i h1 h2
    rw [tnTo_len] at h2
    rw [List.getElem_set]
    simp only [tnTo, List.getElem_map, List.getElem_range]
    by_cases e : (num L - 1 - y).toNat = i
    · have e2 : num L - 1 - (i : Int) = y := by omega
      rw [if_pos e, e2, if_pos (by omega), dnTo_succ _ _ _ x0, h]; rfl
    · rw [if_neg e]
      have : (num L - 1 - (i : Int) < y) ↔ (num L - 1 - (i : Int) < y + 1) := by unfold num at *; omega
      simp only [this]
theorem tnTo_skip {L : List Int} {x y : Int} (x0 : 0 ≤ x) (h : bl L x y = false) : tnTo L x (y + 1) = tnTo L x y := by
  unfold tnTo
  refine List.map_congr_left fun i _ => ?_
  by_cases e : num L - 1 - (i : Int) = y
  · rw [e, if_pos (by omega), if_neg (by omega), dnTo_succ _ _ _ x0, h]; rfl
  · have : (num L - 1 - (i : Int) < y + 1) ↔ (num L - 1 - (i : Int) < y) := by omega
    simp only [this]
theorem tnTo_row (L : List Int) (x : Int) : tnTo L x (num L) = tnTo L (x + 1) 0 := by
  unfold tnTo
  refine List.map_congr_left fun i hi => ?_
  have := List.mem_range.1 hi
  rw [if_pos (by unfold num; omega), if_neg (by unfold num; omega)]
theorem tnTo_all (L : List Int) : tnTo L (num L) 0 = turnL L := by
  unfold tnTo turnL upL
  have e : (num L).toNat = L.length := by unfold num; omega
  rw [e]
  refine List.map_congr_left fun i hi => ?_
  have := List.mem_range.1 hi
  rw [if_neg (by unfold num; omega), dn_all _ (by unfold num; omega)]
  rfl
end Go.Proofs.Ytbellklaoecpbaa

namespace Go.Proofs.Ytbellklaoecpbaa
open Go.RowKit

end Go.Proofs.Ytbellklaoecpbaa

namespace Go.Proofs.Ytbellklaoecpbaa
open Go.RowKit

end Go.Proofs.Ytbellklaoecpbaa

namespace Go.Proofs.Ytbellklaoecpbaa
open Go.RowKit

def turnedI (L : List Int) : List Int := if latB L then turnL L else []
theorem turnedI_t {L : List Int} (h : latB L = true) : turnedI L = turnL L := if_pos h
theorem turnedI_f {L : List Int} (h : latB L = false) : turnedI L = [] := if_neg (by rw [h]; decide)
theorem turnL_len (L : List Int) : (turnL L).length = L.length := by simp [turnL, upL, num]
theorem turnedI_len (L : List Int) : (turnedI L).length ≤ 6 := by
  cases h : latB L with
  | false => rw [turnedI_f h]; simp
  | true => rw [turnedI_t h, turnL_len]; have := (latB_parts h).2.1; unfold num at this; omega

end Go.Proofs.Ytbellklaoecpbaa
