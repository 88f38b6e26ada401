import Derived.Test.YtpfnfglaokiipabM3
/- Plain facts on sets of elements, filters and classes; nothing of the program. -/
namespace Go.Proofs.Ytpfnfglaokiipab
/-- the k below a number that p lets by -/
def filtTo (p : Int → Bool) (k : Int) : List Int := ((List.range k.toNat).filter fun (j : Nat) => p j).map fun (j : Nat) => (j : Int)
theorem filtTo_succ (p : Int → Bool) (k : Int) (h : 0 ≤ k) : filtTo p (k + 1) = if p k then filtTo p k ++ [k] else filtTo p k := by
  unfold filtTo
  rw [show (k + 1).toNat = k.toNat + 1 by omega, List.range_succ, List.filter_append, List.map_append]
  cases hp : p k with
  | true => simp [Int.toNat_of_nonneg h, hp]
  | false => simp [Int.toNat_of_nonneg h, hp]
theorem filtTo_len (p : Int → Bool) (k : Int) : (filtTo p k).length ≤ k.toNat := by
  unfold filtTo
  rw [List.length_map]
  have := List.length_filter_le (fun (j : Nat) => p j) (List.range k.toNat)
  simpa using this
theorem filtTo_congr {p q : Int → Bool} {k : Int} (h : ∀ j, 0 ≤ j → j < k → p j = q j) : filtTo p k = filtTo q k := by
  unfold filtTo
  congr 1
  exact List.filter_congr fun j hj => h j (by omega) (by have := List.mem_range.1 hj; omega)

theorem filtTo_nat (p : Int → Bool) (k : Nat) : filtTo p ((k : Int) + 1) = if p k then filtTo p k ++ [(k : Int)] else filtTo p k := filtTo_succ p k (by omega)
theorem filtTo_zero (p : Int → Bool) : filtTo p 0 = [] := rfl
theorem filtTo_and (p q : Int → Bool) : ∀ k : Nat, filtTo (fun j => p j && q j) k = (filtTo p k).filter q
  | 0 => rfl
  | k + 1 => by
    have ih := filtTo_and p q k
    rw [show ((k + 1 : Nat) : Int) = (k : Int) + 1 by omega, filtTo_nat, filtTo_nat, ih]
    cases hp : p k <;> cases hq : q k <;> simp [hq]
theorem filtTo_mem (p : Int → Bool) (k : Int) (x : Int) : x ∈ filtTo p k ↔ 0 ≤ x ∧ x < k ∧ p x = true := by
  unfold filtTo
  simp only [List.mem_map, List.mem_filter, List.mem_range]
  constructor
  · rintro ⟨j, ⟨h1, h2⟩, rfl⟩; exact ⟨by omega, by omega, h2⟩
  · rintro ⟨h0, h1, h2⟩; exact ⟨x.toNat, ⟨by omega, by rw [Int.toNat_of_nonneg h0]; exact h2⟩, Int.toNat_of_nonneg h0⟩
/-- x is of the set -/
def ib (f x : Int) : Bool := bt f x == 1
/-- f is a sum of 2 to each of some elements -/
def setB (L : List Int) (f : Int) : Bool := decide (0 ≤ f) && decide (f ≤ pw (num L) - 1)
def filXY (L : List Int) (T : List (List Int)) (f x y : Int) : Bool := !ib f x || (if ib f y then ib f (tv T x y) else !bl L x y)
def filB (L : List Int) (T : List (List Int)) (f : Int) : Bool := ib f (num L - 1) && all2 (num L) (filXY L T f)
def isFilB (L : List Int) (T : List (List Int)) (f : Int) : Bool := setB L f && filB L T f
/-- all filters -/
def fls (L : List Int) (T : List (List Int)) : List Int := filtTo (filB L T) (pw (num L))
theorem fls_mem {L : List Int} {T : List (List Int)} {f : Int} : f ∈ fls L T ↔ 0 ≤ f ∧ f < pw (num L) ∧ filB L T f = true := filtTo_mem _ _ _
theorem fls_len (L : List Int) (T : List (List Int)) (h : num L ≤ 6) : (fls L T).length ≤ 64 := by
  have := filtTo_len (filB L T) (pw (num L))
  have p := pw_mono (num L) 6 h
  have e : pw 6 = 64 := rfl
  unfold fls; omega
theorem pw_6 {L : List Int} (h : num L ≤ 6) : 1 ≤ pw (num L) ∧ pw (num L) ≤ 64 := by
  have p := pw_mono (num L) 6 h
  have e : pw 6 = 64 := rfl
  have q := pw_pos (num L)
  omega
/-- near -/
def nearI (L : List Int) (T : List (List Int)) (x y : Int) : Int := tv T (imp L T x y) (imp L T y x)
theorem nearI_el {L : List Int} {T : List (List Int)} (h : algB L T = true) (x y : Int) : El L (nearI L T x y) := tv_el h (imp_el h x y) (imp_el h y x)
theorem nearI_self {L : List Int} {T : List (List Int)} (h : algB L T = true) {x : Int} (hx : El L x) : nearI L T x x = num L - 1 := by
  unfold nearI; rw [imp_self h hx]; exact tv_top h (el_t (alg_lat h))
def clsQ (L : List Int) (T : List (List Int)) (f x y : Int) : Bool := ib f (nearI L T x y)
def clsI (L : List Int) (T : List (List Int)) (f x : Int) : Int := firstI (num L) (clsQ L T f x)
theorem cls_is {L : List Int} {T : List (List Int)} {f x k : Int} (k0 : 0 ≤ k) (kx : k ≤ x) (hx : El L x) (hk : clsQ L T f x k = true) (hn : ∀ j, 0 ≤ j → j < k → clsQ L T f x j = false) : clsI L T f x = k :=
  firstI_some k0 (by have := hx.2; omega) hn hk
theorem cls_ok {L : List Int} {T : List (List Int)} (h : algB L T = true) {f x : Int} (hf : filB L T f = true) (hx : El L x) : 0 ≤ clsI L T f x ∧ clsI L T f x ≤ x ∧ clsQ L T f x (clsI L T f x) = true ∧ ∀ j, 0 ≤ j → j < clsI L T f x → clsQ L T f x j = false := by
  have hs : clsQ L T f x x = true := by
    unfold clsQ; rw [nearI_self h hx]
    unfold filB at hf; rw [Bool.and_eq_true] at hf; exact hf.1
  unfold clsI
  rcases firstI_cases (num L) (clsQ L T f x) with ⟨_, e⟩ | ⟨a, b, c, d⟩
  · rw [e x hx.1 hx.2] at hs; cases hs
  · refine ⟨a, ?_, c, d⟩
    refine Classical.byContradiction fun hgt => ?_
    rw [d x hx.1 (by omega)] at hs; cases hs
/-- the list of what a function says of all elements -/
def lstTo (g : Int → Int) (k : Int) : List Int := (List.range k.toNat).map fun (i : Nat) => g i
theorem lstTo_succ (g : Int → Int) (k : Int) (h : 0 ≤ k) : lstTo g (k + 1) = lstTo g k ++ [g k] := by
  unfold lstTo
  rw [show (k + 1).toNat = k.toNat + 1 by omega, List.range_succ, List.map_append]
  simp [Int.toNat_of_nonneg h]
theorem lstTo_len (g : Int → Int) (k : Int) (h : 0 ≤ k) : ((lstTo g k).length : Int) = k := by simp [lstTo, Int.toNat_of_nonneg h]
theorem lstTo_nth (g : Int → Int) {k x : Int} (x0 : 0 ≤ x) (x1 : x < k) : nth (lstTo g k) x = g x := by
  unfold nth lstTo
  have : x.toNat < k.toNat := by omega
  simp [List.getD, this, Int.toNat_of_nonneg x0]
/-- prime -/
def priXY (L : List Int) (f x y : Int) : Bool := ib f x || ib f y || !ib f (jn L x y)
def priB (L : List Int) (f : Int) : Bool := !ib f 0 && all2 (num L) (priXY L f)
def pris (L : List Int) (T : List (List Int)) : List Int := (fls L T).filter (priB L)
end Go.Proofs.Ytpfnfglaokiipab
