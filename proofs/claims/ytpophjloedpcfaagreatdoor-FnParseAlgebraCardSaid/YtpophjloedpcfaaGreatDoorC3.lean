import Derived.Test.YtpophjloedpcfaaGreatDoorL5
import Derived.RegionTactic
import Derived.BigRegion
namespace Go.Proofs.YtpophjloedpcfaaGreatDoor
open Go.RowKit

/-- the sum of 2 to each j below k that p lets by -/
def rowTo (p : Int → Bool) (k : Int) : Int := (List.range k.toNat).foldl (fun s (j : Nat) => if p j then s + pw j else s) 0
theorem rowTo_zero (p : Int → Bool) : rowTo p 0 = 0 := rfl
theorem rowTo_succ (p : Int → Bool) (k : Int) (h : 0 ≤ k) : rowTo p (k + 1) = if p k then rowTo p k + pw k else rowTo p k := by
  unfold rowTo
  rw [show (k + 1).toNat = k.toNat + 1 by omega, List.range_succ, List.foldl_append]
  simp [Int.toNat_of_nonneg h]
theorem rowTo_range (p : Int → Bool) : ∀ k : Nat, 0 ≤ rowTo p k ∧ rowTo p k < pw k
  | 0 => ⟨Int.le_refl _, by show (0 : Int) < pw 0; decide⟩
  | k + 1 => by
    have ih := rowTo_range p k
    have h2 := pw_succ (k : Int) (by omega)
    have h1 := pw_pos (k : Int)
    have e : ((k + 1 : Nat) : Int) = (k : Int) + 1 := rfl
    rw [e, rowTo_succ p k (by omega), h2]
    split <;> omega
theorem rowTo_bound (p : Int → Bool) {k : Int} (h : 0 ≤ k) : 0 ≤ rowTo p k ∧ rowTo p k < pw k := by
  have := rowTo_range p k.toNat
  rwa [Int.toNat_of_nonneg h] at this
theorem rowTo_congr {p q : Int → Bool} {k : Int} (h : ∀ j, 0 ≤ j → j < k → p j = q j) : rowTo p k = rowTo q k := by
  unfold rowTo
  have : ∀ (l : List Nat) (s : Int), (∀ j ∈ l, (j : Int) < k) → l.foldl (fun s (j : Nat) => if p j then s + pw j else s) s = l.foldl (fun s (j : Nat) => if q j then s + pw j else s) s := by
    intro l
    induction l with
    | nil => intro s _; rfl
    | cons a l ih =>
      intro s hl
      rw [List.foldl_cons, List.foldl_cons, h a (by omega) (hl a (List.mem_cons_self ..))]
      exact ih _ fun j hj => hl j (List.mem_cons_of_mem _ hj)
  exact this _ _ fun j hj => by have := List.mem_range.1 hj; omega
theorem bits_or_i64 (a b : Nat) (ha : a < 1073741824) (hb : b < 1073741824) : bits .or .i64 (a : Int) (b : Int) = ((a ||| b : Nat) : Int) := by
  have hx : a ||| b < 2 ^ 30 := Nat.or_lt_two_pow (by omega) (by omega)
  have h1 : (BitVec.ofInt 64 (a : Int)).toNat = a := by
    rw [BitVec.ofInt_natCast, BitVec.toNat_ofNat]; exact Nat.mod_eq_of_lt (by omega)
  have h2 : (BitVec.ofInt 64 (b : Int)).toNat = b := by
    rw [BitVec.ofInt_natCast, BitVec.toNat_ofNat]; exact Nat.mod_eq_of_lt (by omega)
  show IntKind.i64.wrap ((BitVec.ofInt 64 (a : Int) ||| BitVec.ofInt 64 (b : Int)).toNat : Int) = _
  rw [BitVec.toNat_or, h1, h2, IntKind.wrap_i64]
  omega
theorem or_pw {v k : Int} (k0 : 0 ≤ k) (k6 : k < 30) (v0 : 0 ≤ v) (v1 : v < pw k) : bits .or .i64 v (pw k) = v + pw k := by
  obtain ⟨a, rfl⟩ := Int.eq_ofNat_of_zero_le v0
  have hk : pw k = ((2 ^ k.toNat : Nat) : Int) := by unfold pw; simp
  rw [hk] at v1 ⊢
  have hlt : a < 2 ^ k.toNat := by exact_mod_cast v1
  have h30 : 2 ^ k.toNat < 1073741824 := by
    have := Nat.pow_lt_pow_right (a := 2) (by decide) (show k.toNat < 30 by omega)
    simpa using this
  rw [bits_or_i64 a _ (by omega) h30]
  have := Nat.two_pow_add_eq_or_of_lt hlt 1
  rw [Nat.mul_one] at this
  rw [Nat.or_comm, ← this]
  omega
/-- the numbers of an order, as upOf writes them: the rows up to x whole, of the next one the sum up to y -/
def upTo (g : Int → Int → Bool) (n x y : Int) : List Int := (List.range n.toNat).map fun (i : Nat) => if (i : Int) < x then rowTo (g i) n else if (i : Int) = x then rowTo (g i) y else 0
def upL (g : Int → Int → Bool) (n : Int) : List Int := (List.range n.toNat).map fun (i : Nat) => rowTo (g i) n
theorem upTo_len (g : Int → Int → Bool) (n x y : Int) : (upTo g n x y).length = n.toNat := by simp [upTo]
theorem upTo_zero (g : Int → Int → Bool) (n : Int) : upTo g n 0 0 = List.replicate n.toNat 0 := by
  apply List.ext_getElem
  · simp [upTo]
  · intro i h1 h2
    simp only [upTo, List.getElem_map, List.getElem_range, List.getElem_replicate]
    rw [if_neg (by omega)]
    split <;> rfl
theorem upTo_nth (g : Int → Int → Bool) {n x y : Int} (x0 : 0 ≤ x) (x1 : x < n) : nth (upTo g n x y) x = rowTo (g x) y := by
  have h : x.toNat < n.toNat := by omega
  unfold nth upTo
  simp [List.getD, h, Int.toNat_of_nonneg x0]
theorem upTo_next (g : Int → Int → Bool) {n x y : Int} (x0 : 0 ≤ x) : (upTo g n x y).set x.toNat (rowTo (g x) (y + 1)) = upTo g n x (y + 1) := by
  apply List.ext_getElem
  · simp [upTo]
  · intro i h1 h2
    rw [List.getElem_set]
    simp only [upTo, List.getElem_map, List.getElem_range]
    by_cases e : x.toNat = i
    · have e2 : (i : Int) = x := by omega
      rw [if_pos e, if_neg (by omega), if_pos e2, e2]
    · rw [if_neg e]
      by_cases h3 : (i : Int) < x
      · rw [if_pos h3, if_pos h3]
      · rw [if_neg h3, if_neg h3, if_neg (by omega), if_neg (by omega)]
theorem upTo_skip (g : Int → Int → Bool) {n x y : Int} (y0 : 0 ≤ y) (h : g x y = false) : upTo g n x (y + 1) = upTo g n x y := by
  unfold upTo
  refine List.map_congr_left fun i _ => ?_
  by_cases e : (i : Int) = x
  · rw [e, rowTo_succ _ _ y0, h]; rfl
  · rw [if_neg e, if_neg e]
theorem upTo_row (g : Int → Int → Bool) (n x : Int) : upTo g n x n = upTo g n (x + 1) 0 := by
  unfold upTo
  refine List.map_congr_left fun i _ => ?_
  by_cases h : (i : Int) < x
  · rw [if_pos h, if_pos (by omega)]
  · rw [if_neg h]
    by_cases e : (i : Int) = x
    · rw [if_pos e, if_pos (by omega)]
    · rw [if_neg e, if_neg (by omega)]
      split <;> rfl
theorem upTo_all (g : Int → Int → Bool) (n : Int) : upTo g n n 0 = upL g n := by
  unfold upTo upL
  refine List.map_congr_left fun i hi => ?_
  have := List.mem_range.1 hi
  rw [if_pos (by omega)]
theorem wrap_pwI (y : Int) (h : y ≤ 30) : wrap64 (2 ^ y.toNat) = pw y := by
  have p1 := pw_30 y h
  have p2 := pw_pos y
  show wrap64 (pw y) = pw y
  exact IntWalk.wrap64_in _ ⟨by omega, by omega⟩
theorem rowTo_or (p : Int → Bool) {k : Int} (k0 : 0 ≤ k) (k6 : k < 30) (h : p k = true) : bits .or .i64 (rowTo p k) (pw k) = rowTo p (k + 1) := by
  obtain ⟨a, b⟩ := rowTo_bound p k0
  rw [or_pw k0 k6 a b, rowTo_succ p k k0, h]; rfl
end Go.Proofs.YtpophjloedpcfaaGreatDoor

namespace Go.Proofs.YtpophjloedpcfaaGreatDoor
open Go.RowKit

def leG (x y : Int) : Bool := decide (x ≤ y)
end Go.Proofs.YtpophjloedpcfaaGreatDoor

namespace Go.Proofs.YtpophjloedpcfaaGreatDoor
open Go.RowKit

def chainI (n : Int) : List Int := if 1 ≤ n ∧ n ≤ 6 then chainTo n n else []
theorem chainI_in {n : Int} (h : 1 ≤ n ∧ n ≤ 6) : chainI n = chainTo n n := if_pos h
theorem chainI_out {n : Int} (h : ¬ (1 ≤ n ∧ n ≤ 6)) : chainI n = [] := if_neg h
theorem rowTo_le (x : Int) (x0 : 0 ≤ x) : ∀ k : Nat, rowTo (leG x) k = if (k : Int) ≤ x then 0 else pw k - pw x
  | 0 => by rw [if_pos (by omega)]; rfl
  | k + 1 => by
    have e : ((k + 1 : Nat) : Int) = (k : Int) + 1 := rfl
    rw [e, rowTo_succ _ _ (by omega), rowTo_le x x0 k, pw_succ _ (by omega)]
    unfold leG
    by_cases h1 : (k : Int) + 1 ≤ x
    · rw [if_pos h1, decide_eq_false (by omega), if_neg (by decide), if_pos (by omega)]
    · rw [if_neg h1, decide_eq_true (by omega), if_pos rfl]
      by_cases h2 : (k : Int) ≤ x
      · rw [if_pos h2]
        have : x = k := by omega
        rw [this]; omega
      · rw [if_neg h2]; omega
theorem upL_chain (n : Int) (n0 : 0 ≤ n) : upL leG n = chainTo n n := by
  unfold upL chainTo
  refine List.map_congr_left fun i hi => ?_
  have hi := List.mem_range.1 hi
  have := rowTo_le i (by omega) n.toNat
  rw [Int.toNat_of_nonneg n0, if_neg (by omega)] at this
  exact this
theorem chainI_len (n : Int) : (chainI n).length ≤ 6 := by
  by_cases h : 1 ≤ n ∧ n ≤ 6
  · rw [chainI_in h]; have := chainTo_len n n (by omega); omega
  · rw [chainI_out h]; simp

end Go.Proofs.YtpophjloedpcfaaGreatDoor

namespace Go.Proofs.YtpophjloedpcfaaGreatDoor
open Go.RowKit

theorem own_apart {B C : Nat} {w w1 : World} {v1 v2 : Value} {L1 L2 : List Int} (h1 : ∀ k, v1.ownBlock = some k → B ≤ k ∧ k < C) (h2 : Own C w v2 L2) (o1 : Own B w v1 L1) (hg : w.grownBy w1 v2.ownBlock) : Own B w1 v1 L1 :=
  World.ownsRow.kept o1 hg (by
    cases h : v1.ownBlock with
    | none => exact .inl rfl
    | some q =>
      right
      intro e
      have a := h1 q h
      have b := World.ownsRow.lt h2 q e.symm
      omega)

end Go.Proofs.YtpophjloedpcfaaGreatDoor
