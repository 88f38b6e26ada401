
/- Plain facts on numbers and lists; nothing of the program. -/
namespace Go.Proofs.Ytpfnfglaokiipab
/-- 2 to the number. -/
def pw (k : Int) : Int := 2 ^ k.toNat
theorem pw_zero : pw 0 = 1 := rfl
theorem pw_succ (k : Int) (h : 0 ≤ k) : pw (k + 1) = 2 * pw k := by
  unfold pw; rw [show (k + 1).toNat = k.toNat + 1 by omega, Int.pow_succ]; omega
theorem pw_pos (k : Int) : 1 ≤ pw k := by
  unfold pw
  have : (0 : Int) < 2 ^ k.toNat := Int.pow_pos (by decide)
  omega
theorem pw_mono (a b : Int) (h : a ≤ b) : pw a ≤ pw b := by
  unfold pw
  have := Nat.pow_le_pow_right (n := 2) (by decide) (show a.toNat ≤ b.toNat by omega)
  exact_mod_cast this
theorem pw_nat (n : Nat) : pw n = 2 ^ n := by unfold pw; rfl
theorem pw_30 (k : Int) (h : k ≤ 30) : pw k ≤ 1073741824 := pw_mono k 30 h
/-- the y-th bit of a number -/
def bt (v y : Int) : Int := v / pw y % 2
/-- the number at the place -/
def nth (L : List Int) (x : Int) : Int := L.getD x.toNat 0
/-- y is at least x, as the numbers say -/
def bl (L : List Int) (x y : Int) : Bool := bt (nth L x) y == 1
theorem bt_range (v y : Int) : 0 ≤ bt v y ∧ bt v y ≤ 1 := by unfold bt; omega
/-- for all k in 0..n-1 -/
def allI (n : Int) (p : Int → Bool) : Bool := (List.range n.toNat).all fun (j : Nat) => p (j : Int)
theorem allI_iff (n : Int) (p : Int → Bool) : allI n p = true ↔ ∀ j, 0 ≤ j → j < n → p j = true := by
  unfold allI
  rw [List.all_eq_true]
  constructor
  · intro h j h0 h1
    have := h j.toNat (List.mem_range.2 (by omega))
    rwa [Int.toNat_of_nonneg h0] at this
  · intro h j hj
    exact h j (by omega) (by have := List.mem_range.1 hj; omega)
theorem allI_zero (p : Int → Bool) : allI 0 p = true := rfl
theorem allI_succ (k : Int) (h : 0 ≤ k) (p : Int → Bool) : allI (k + 1) p = (allI k p && p k) := by
  unfold allI
  rw [show (k + 1).toNat = k.toNat + 1 by omega, List.range_succ, List.all_append]
  simp [Int.toNat_of_nonneg h]
theorem allI_mono {k n : Int} (h : k ≤ n) {p : Int → Bool} (hf : allI k p = false) : allI n p = false := by
  rw [Bool.eq_false_iff] at hf ⊢
  intro hn
  exact hf ((allI_iff _ _).2 fun j h0 h1 => (allI_iff _ _).1 hn j h0 (by omega))
theorem allI_false {n : Int} {p : Int → Bool} (j : Int) (h0 : 0 ≤ j) (h1 : j < n) (hf : p j = false) : allI n p = false := by
  rw [Bool.eq_false_iff]
  intro hn
  rw [(allI_iff _ _).1 hn j h0 h1] at hf
  cases hf
theorem allI_congr {n : Int} {p q : Int → Bool} (h : ∀ j, 0 ≤ j → j < n → p j = q j) : allI n p = allI n q := by
  rw [Bool.eq_iff_iff, allI_iff, allI_iff]
  exact ⟨fun hp j h0 h1 => by rw [← h j h0 h1]; exact hp j h0 h1, fun hp j h0 h1 => by rw [h j h0 h1]; exact hp j h0 h1⟩
/-- the first k in 0..n-1 that p lets by; -1 if there is none -/
def firstI (n : Int) (p : Int → Bool) : Int := match (List.range n.toNat).find? fun (j : Nat) => p (j : Int) with | some j => j | none => -1
theorem firstI_some {n : Int} {p : Int → Bool} {k : Int} (h0 : 0 ≤ k) (h1 : k < n) (hf : ∀ j, 0 ≤ j → j < k → p j = false) (hp : p k = true) : firstI n p = k := by
  have : (List.range n.toNat).find? (fun (j : Nat) => p (j : Int)) = some k.toNat := by
    rw [List.find?_range_eq_some]
    refine ⟨by rw [Int.toNat_of_nonneg h0]; exact hp, by simp; omega, fun j hj => ?_⟩
    rw [hf j (by omega) (by omega)]; rfl
  unfold firstI; rw [this]; simp [Int.toNat_of_nonneg h0]
theorem firstI_none {n : Int} {p : Int → Bool} (hf : ∀ j, 0 ≤ j → j < n → p j = false) : firstI n p = -1 := by
  have : (List.range n.toNat).find? (fun (j : Nat) => p (j : Int)) = none := by
    rw [List.find?_eq_none]
    intro j hj
    rw [hf j (by omega) (by have := List.mem_range.1 hj; omega)]; simp
  unfold firstI; rw [this]
theorem firstI_cases (n : Int) (p : Int → Bool) : (firstI n p = -1 ∧ ∀ j, 0 ≤ j → j < n → p j = false) ∨ (0 ≤ firstI n p ∧ firstI n p < n ∧ p (firstI n p) = true ∧ ∀ j, 0 ≤ j → j < firstI n p → p j = false) := by
  cases h : (List.range n.toNat).find? (fun (j : Nat) => p (j : Int)) with
  | none =>
    left
    refine ⟨by unfold firstI; rw [h], fun j h0 h1 => ?_⟩
    rw [List.find?_eq_none] at h
    have := h j.toNat (List.mem_range.2 (by omega))
    rw [Int.toNat_of_nonneg h0] at this
    simpa using this
  | some k =>
    right
    have e : firstI n p = (k : Int) := by unfold firstI; rw [h]
    rw [List.find?_range_eq_some] at h
    obtain ⟨a, b, c⟩ := h
    have hb := List.mem_range.1 b
    rw [e]
    refine ⟨by omega, by omega, a, fun j h0 h1 => ?_⟩
    have := c j.toNat (by omega)
    rw [Int.toNat_of_nonneg h0] at this
    simpa using this
/-- no k below this one is let by -/
def NoneTo (k : Int) (p : Int → Bool) : Prop := ∀ j, 0 ≤ j → j < k → p j = false
theorem NoneTo.zero (p : Int → Bool) : NoneTo 0 p := fun _ _ _ => by omega
theorem NoneTo.succ {k : Int} {p : Int → Bool} (h : NoneTo k p) (hk : p k = false) : NoneTo (k + 1) p := fun j h0 h1 => by
  by_cases e : j = k
  · rw [e]; exact hk
  · exact h j h0 (by omega)
/-- all up to this one are let by -/
def AllTo (k : Int) (p : Int → Bool) : Prop := ∀ j, 0 ≤ j → j < k → p j = true
theorem AllTo.zero (p : Int → Bool) : AllTo 0 p := fun _ _ _ => by omega
theorem AllTo.succ {k : Int} {p : Int → Bool} (h : AllTo k p) (hk : p k = true) : AllTo (k + 1) p := fun j h0 h1 => by
  by_cases e : j = k
  · rw [e]; exact hk
  · exact h j h0 (by omega)
theorem AllTo.all {n k : Int} {p : Int → Bool} (h : AllTo k p) (hk : n ≤ k) : allI n p = true := (allI_iff _ _).2 fun j h0 h1 => h j h0 (by omega)
/-- the numbers of the list, as an order -/
def num (L : List Int) : Int := L.length
def isMeetB (L : List Int) (x y z : Int) : Bool := bl L z x && bl L z y && allI (num L) fun w => !bl L w x || !bl L w y || bl L w z
def isJoinB (L : List Int) (x y z : Int) : Bool := bl L x z && bl L y z && allI (num L) fun w => !bl L x w || !bl L y w || bl L z w
def mt (L : List Int) (x y : Int) : Int := firstI (num L) (isMeetB L x y)
def jn (L : List Int) (x y : Int) : Int := firstI (num L) (isJoinB L x y)
def inR (L : List Int) (x : Int) : Bool := decide (0 ≤ nth L x) && decide (nth L x ≤ pw (num L) - 1)
def ordXYZ (L : List Int) (x y z : Int) : Bool := !(bl L x y && bl L y z && !bl L x z)
def ordXY (L : List Int) (x y : Int) : Bool := !(x != y && bl L x y && bl L y x) && allI (num L) (ordXYZ L x y)
def ordX (L : List Int) (x : Int) : Bool := bl L x x && bl L 0 x && bl L x (num L - 1) && allI (num L) (ordXY L x)
def voB (L : List Int) : Bool := decide (1 ≤ num L) && decide (num L ≤ 6) && allI (num L) (inR L) && allI (num L) (ordX L)
def latXY (L : List Int) (x y : Int) : Bool := !(decide (mt L x y < 0) || decide (jn L x y < 0))
def latB (L : List Int) : Bool := voB L && allI (num L) fun x => allI (num L) (latXY L x)
/-- a test with another one for all up to a number: the variable ok of a loop -/
def okTo (A : Bool) (q : Int → Bool) (j : Int) : Bool := A && allI j q
theorem okTo_zero (A : Bool) (q : Int → Bool) : okTo A q 0 = A := by simp [okTo, allI_zero]
theorem okTo_succ (A : Bool) (q : Int → Bool) (j : Int) (h : 0 ≤ j) : okTo A q (j + 1) = (okTo A q j && q j) := by simp [okTo, allI_succ j h, Bool.and_assoc]
theorem okTo_end {A : Bool} {q : Int → Bool} {j n : Int} (h : j ≤ n) (h2 : n ≤ j ∨ okTo A q j = false) : (A && allI n q) = okTo A q j := by
  rcases h2 with h2 | h2
  · rw [show n = j by omega]; rfl
  · rw [h2]
    unfold okTo at h2
    cases hA : A
    · rfl
    · rw [hA] at h2
      simp only [Bool.true_and] at h2 ⊢
      exact allI_mono h h2
def meetQ (L : List Int) (x y z : Int) (w : Int) : Bool := !bl L w x || !bl L w y || bl L w z
def joinQ (L : List Int) (x y z : Int) (w : Int) : Bool := !bl L x w || !bl L y w || bl L z w
theorem isMeetB_eq (L : List Int) (x y z : Int) : isMeetB L x y z = ((bl L z x && bl L z y) && allI (num L) (meetQ L x y z)) := rfl
theorem isJoinB_eq (L : List Int) (x y z : Int) : isJoinB L x y z = ((bl L x z && bl L y z) && allI (num L) (joinQ L x y z)) := rfl
/-- at most six numbers, each of them a set of at most six -/
structure Small (L : List Int) : Prop where
  len : num L ≤ 6
  rng : ∀ x, 0 ≤ x → x < num L → 0 ≤ nth L x ∧ nth L x ≤ 63
theorem small_of {L : List Int} (h6 : num L ≤ 6) (h : AllTo (num L) (inR L)) : Small L := by
  refine ⟨h6, fun x h0 h1 => ?_⟩
  have := h x h0 h1
  unfold inR at this
  rw [Bool.and_eq_true, decide_eq_true_eq, decide_eq_true_eq] at this
  have p := pw_mono (num L) 6 h6
  have e : pw 6 = 64 := rfl
  omega
theorem voB_len {L : List Int} (h : num L < 1 ∨ 6 < num L) : voB L = false := by
  unfold voB
  rcases h with h | h
  · rw [decide_eq_false (by omega : ¬ 1 ≤ num L)]; rfl
  · rw [decide_eq_false (by omega : ¬ num L ≤ 6)]; simp
theorem voB_rng {L : List Int} {k : Int} (h0 : 0 ≤ k) (h1 : k < num L) (h : inR L k = false) : voB L = false := by
  unfold voB; rw [allI_false k h0 h1 h]; simp
theorem voB_ord {L : List Int} {k : Int} (h0 : 0 ≤ k) (h1 : k < num L) (h : ordX L k = false) : voB L = false := by
  unfold voB; rw [allI_false k h0 h1 h]; simp
theorem ordX_f1 {L : List Int} {k : Int} (h : (bl L k k && bl L 0 k && bl L k (num L - 1)) = false) : ordX L k = false := by unfold ordX; rw [h]; rfl
theorem ordX_f2 {L : List Int} {k j : Int} (h0 : 0 ≤ j) (h1 : j < num L) (h : ordXY L k j = false) : ordX L k = false := by unfold ordX; rw [allI_false j h0 h1 h]; simp
theorem ordXY_f1 {L : List Int} {k j : Int} (h : (k != j && bl L k j && bl L j k) = true) : ordXY L k j = false := by unfold ordXY; rw [h]; rfl
theorem ordXY_f2 {L : List Int} {k j m : Int} (h0 : 0 ≤ m) (h1 : m < num L) (h : ordXYZ L k j m = false) : ordXY L k j = false := by unfold ordXY; rw [allI_false m h0 h1 h]; simp
theorem ordXY_t {L : List Int} {k j m : Int} (h : (k != j && bl L k j && bl L j k) = false) (hm : num L ≤ m) (ha : AllTo m (ordXYZ L k j)) : ordXY L k j = true := by
  unfold ordXY; rw [h, ha.all hm]; rfl
theorem ordX_t {L : List Int} {k m : Int} (h : (bl L k k && bl L 0 k && bl L k (num L - 1)) = true) (hm : num L ≤ m) (ha : AllTo m (ordXY L k)) : ordX L k = true := by
  unfold ordX; rw [h, ha.all hm]; rfl
theorem voB_t {L : List Int} {m : Int} (h1 : 1 ≤ num L) (h6 : num L ≤ 6) (hr : AllTo (num L) (inR L)) (hm : num L ≤ m) (ha : AllTo m (ordX L)) : voB L = true := by
  unfold voB; rw [decide_eq_true h1, decide_eq_true h6, hr.all (Int.le_refl _), ha.all hm]; rfl
end Go.Proofs.Ytpfnfglaokiipab
