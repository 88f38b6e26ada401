
/- Plain facts on numbers and lists; nothing of the program. -/
namespace Go.Proofs.YtpophjloedpcfaaGreatDoor
/-- 2 to the number. -/
def pw (k : Int) : Int := 2 ^ k.toNat
theorem pw_zero : pw 0 = 1 := rfl
theorem pw_succ (k : Int) (h : 0 ≤ k) : pw (k + 1) = 2 * pw k := by
  unfold pw; rw [show (k + 1).toNat = k.toNat + 1 by omega, Int.pow_succ]; omega
theorem pw_pos (k : Int) : 1 ≤ pw k := by
  unfold pw
  have : (0 : Int) < 2 ^ k.toNat := Int.pow_pos (by decide)
  omega
theorem pw_mono (a b : Int) (h : a ≤ b) : pw a ≤ pw b := by
  unfold pw
  have := Nat.pow_le_pow_right (n := 2) (by decide) (show a.toNat ≤ b.toNat by omega)
  exact_mod_cast this
theorem pw_nat (n : Nat) : pw n = 2 ^ n := by unfold pw; rfl
theorem pw_30 (k : Int) (h : k ≤ 30) : pw k ≤ 1073741824 := pw_mono k 30 h
/-- the y-th bit of a number -/
def bt (v y : Int) : Int := v / pw y % 2
/-- the number at the place -/
def nth (L : List Int) (x : Int) : Int := L.getD x.toNat 0
/-- y is at least x, as the numbers say -/
def bl (L : List Int) (x y : Int) : Bool := bt (nth L x) y == 1
theorem bt_range (v y : Int) : 0 ≤ bt v y ∧ bt v y ≤ 1 := by unfold bt; omega
/-- for all k in 0..n-1 -/
def allI (n : Int) (p : Int → Bool) : Bool := (List.range n.toNat).all fun (j : Nat) => p (j : Int)
theorem allI_iff (n : Int) (p : Int → Bool) : allI n p = true ↔ ∀ j, 0 ≤ j → j < n → p j = true := by
  unfold allI
  rw [List.all_eq_true]
  constructor
  · intro h j h0 h1
    have := h j.toNat (List.mem_range.2 (by omega))
    rwa [Int.toNat_of_nonneg h0] at this
  · intro h j hj
    exact h j (by omega) (by have := List.mem_range.1 hj; omega)
theorem allI_zero (p : Int → Bool) : allI 0 p = true := rfl
theorem allI_succ (k : Int) (h : 0 ≤ k) (p : Int → Bool) : allI (k + 1) p = (allI k p && p k) := by
  unfold allI
  rw [show (k + 1).toNat = k.toNat + 1 by omega, List.range_succ, List.all_append]
  simp [Int.toNat_of_nonneg h]
theorem allI_mono {k n : Int} (h : k ≤ n) {p : Int → Bool} (hf : allI k p = false) : allI n p = false := by
  rw [Bool.eq_false_iff] at hf ⊢
  intro hn
  exact hf ((allI_iff _ _).2 fun j h0 h1 => (allI_iff _ _).1 hn j h0 (by omega))
theorem allI_false {n : Int} {p : Int → Bool} (j : Int) (h0 : 0 ≤ j) (h1 : j < n) (hf : p j = false) : allI n p = false := by
  rw [Bool.eq_false_iff]
  intro hn
  rw [(allI_iff _ _).1 hn j h0 h1] at hf
  cases hf
theorem allI_congr {n : Int} {p q : Int → Bool} (h : ∀ j, 0 ≤ j → j < n → p j = q j) : allI n p = allI n q := by
  rw [Bool.eq_iff_iff, allI_iff, allI_iff]
  exact ⟨fun hp j h0 h1 => by rw [← h j h0 h1]; exact hp j h0 h1, fun hp j h0 h1 => by rw [h j h0 h1]; exact hp j h0 h1⟩
/-- the first k in 0..n-1 that p lets by; -1 if there is none -/
def firstI (n : Int) (p : Int → Bool) : Int := match (List.range n.toNat).find? fun (j : Nat) => p (j : Int) with | some j => j | none => -1
theorem firstI_some {n : Int} {p : Int → Bool} {k : Int} (h0 : 0 ≤ k) (h1 : k < n) (hf : ∀ j, 0 ≤ j → j < k → p j = false) (hp : p k = true) : firstI n p = k := by
  have : (List.range n.toNat).find? (fun (j : Nat) => p (j : Int)) = some k.toNat := by
    rw [List.find?_range_eq_some]
    refine ⟨by rw [Int.toNat_of_nonneg h0]; exact hp, by simp; omega, fun j hj => ?_⟩
    rw [hf j (by omega) (by omega)]; rfl
  unfold firstI; rw [this]; simp [Int.toNat_of_nonneg h0]
theorem firstI_none {n : Int} {p : Int → Bool} (hf : ∀ j, 0 ≤ j → j < n → p j = false) : firstI n p = -1 := by
  have : (List.range n.toNat).find? (fun (j : Nat) => p (j : Int)) = none := by
    rw [List.find?_eq_none]
    intro j hj
    rw [hf j (by omega) (by have := List.mem_range.1 hj; omega)]; simp
  unfold firstI; rw [this]
theorem firstI_cases (n : Int) (p : Int → Bool) : (firstI n p = -1 ∧ ∀ j, 0 ≤ j → j < n → p j = false) ∨ (0 ≤ firstI n p ∧ firstI n p < n ∧ p (firstI n p) = true ∧ ∀ j, 0 ≤ j → j < firstI n p → p j = false) := by
  cases h : (List.range n.toNat).find? (fun (j : Nat) => p (j : Int)) with
  | none =>
    left
    refine ⟨by unfold firstI; rw [h], fun j h0 h1 => ?_⟩
    rw [List.find?_eq_none] at h
    have := h j.toNat (List.mem_range.2 (by omega))
    rw [Int.toNat_of_nonneg h0] at this
    simpa using this
  | some k =>
    right
    have e : firstI n p = (k : Int) := by unfold firstI; rw [h]
    rw [List.find?_range_eq_some] at h
    obtain ⟨a, b, c⟩ := h
    have hb := List.mem_range.1 b
    rw [e]
    refine ⟨by omega, by omega, a, fun j h0 h1 => ?_⟩
    have := c j.toNat (by omega)
    rw [Int.toNat_of_nonneg h0] at this
    simpa using this
/-- no k below this one is let by -/
def NoneTo (k : Int) (p : Int → Bool) : Prop := ∀ j, 0 ≤ j → j < k → p j = false
theorem NoneTo.zero (p : Int → Bool) : NoneTo 0 p := fun _ _ _ => by omega
theorem NoneTo.succ {k : Int} {p : Int → Bool} (h : NoneTo k p) (hk : p k = false) : NoneTo (k + 1) p := fun j h0 h1 => by
  by_cases e : j = k
  · rw [e]; exact hk
  · exact h j h0 (by omega)
/-- all up to this one are let by -/
def AllTo (k : Int) (p : Int → Bool) : Prop := ∀ j, 0 ≤ j → j < k → p j = true
theorem AllTo.zero (p : Int → Bool) : AllTo 0 p := fun _ _ _ => by omega
theorem AllTo.succ {k : Int} {p : Int → Bool} (h : AllTo k p) (hk : p k = true) : AllTo (k + 1) p := fun j h0 h1 => by
  by_cases e : j = k
  · rw [e]; exact hk
  · exact h j h0 (by omega)
theorem AllTo.all {n k : Int} {p : Int → Bool} (h : AllTo k p) (hk : n ≤ k) : allI n p = true := (allI_iff _ _).2 fun j h0 h1 => h j h0 (by omega)
/-- the numbers of the list, as an order -/
def num (L : List Int) : Int := L.length
def isMeetB (L : List Int) (x y z : Int) : Bool := bl L z x && bl L z y && allI (num L) fun w => !bl L w x || !bl L w y || bl L w z
def isJoinB (L : List Int) (x y z : Int) : Bool := bl L x z && bl L y z && allI (num L) fun w => !bl L x w || !bl L y w || bl L z w
def mt (L : List Int) (x y : Int) : Int := firstI (num L) (isMeetB L x y)
def jn (L : List Int) (x y : Int) : Int := firstI (num L) (isJoinB L x y)
def inR (L : List Int) (x : Int) : Bool := decide (0 ≤ nth L x) && decide (nth L x ≤ pw (num L) - 1)
def ordXYZ (L : List Int) (x y z : Int) : Bool := !(bl L x y && bl L y z && !bl L x z)
def ordXY (L : List Int) (x y : Int) : Bool := !(x != y && bl L x y && bl L y x) && allI (num L) (ordXYZ L x y)
def ordX (L : List Int) (x : Int) : Bool := bl L x x && bl L 0 x && bl L x (num L - 1) && allI (num L) (ordXY L x)
def voB (L : List Int) : Bool := decide (1 ≤ num L) && decide (num L ≤ 6) && allI (num L) (inR L) && allI (num L) (ordX L)
def latXY (L : List Int) (x y : Int) : Bool := !(decide (mt L x y < 0) || decide (jn L x y < 0))
def latB (L : List Int) : Bool := voB L && allI (num L) fun x => allI (num L) (latXY L x)
/-- a test with another one for all up to a number: the variable ok of a loop -/
def okTo (A : Bool) (q : Int → Bool) (j : Int) : Bool := A && allI j q
theorem okTo_zero (A : Bool) (q : Int → Bool) : okTo A q 0 = A := by simp [okTo, allI_zero]
theorem okTo_succ (A : Bool) (q : Int → Bool) (j : Int) (h : 0 ≤ j) : okTo A q (j + 1) = (okTo A q j && q j) := by simp [okTo, allI_succ j h, Bool.and_assoc]
theorem okTo_end {A : Bool} {q : Int → Bool} {j n : Int} (h : j ≤ n) (h2 : n ≤ j ∨ okTo A q j = false) : (A && allI n q) = okTo A q j := by
  rcases h2 with h2 | h2
  · rw [show n = j by omega]; rfl
  · rw [h2]
    unfold okTo at h2
    cases hA : A
    · rfl
    · rw [hA] at h2
      simp only [Bool.true_and] at h2 ⊢
      exact allI_mono h h2
def meetQ (L : List Int) (x y z : Int) (w : Int) : Bool := !bl L w x || !bl L w y || bl L w z
def joinQ (L : List Int) (x y z : Int) (w : Int) : Bool := !bl L x w || !bl L y w || bl L z w
theorem isMeetB_eq (L : List Int) (x y z : Int) : isMeetB L x y z = ((bl L z x && bl L z y) && allI (num L) (meetQ L x y z)) := rfl
theorem isJoinB_eq (L : List Int) (x y z : Int) : isJoinB L x y z = ((bl L x z && bl L y z) && allI (num L) (joinQ L x y z)) := rfl
/-- at most six numbers, each of them a set of at most six -/
structure Small (L : List Int) : Prop where
  len : num L ≤ 6
  rng : ∀ x, 0 ≤ x → x < num L → 0 ≤ nth L x ∧ nth L x ≤ 63
theorem small_of {L : List Int} (h6 : num L ≤ 6) (h : AllTo (num L) (inR L)) : Small L := by
  refine ⟨h6, fun x h0 h1 => ?_⟩
  have := h x h0 h1
  unfold inR at this
  rw [Bool.and_eq_true, decide_eq_true_eq, decide_eq_true_eq] at this
  have p := pw_mono (num L) 6 h6
  have e : pw 6 = 64 := rfl
  omega
theorem voB_len {L : List Int} (h : num L < 1 ∨ 6 < num L) : voB L = false := by
  unfold voB
  rcases h with h | h
  · rw [decide_eq_false (by omega : ¬ 1 ≤ num L)]; rfl
  · rw [decide_eq_false (by omega : ¬ num L ≤ 6)]; simp
theorem voB_rng {L : List Int} {k : Int} (h0 : 0 ≤ k) (h1 : k < num L) (h : inR L k = false) : voB L = false := by
  unfold voB; rw [allI_false k h0 h1 h]; simp
theorem voB_ord {L : List Int} {k : Int} (h0 : 0 ≤ k) (h1 : k < num L) (h : ordX L k = false) : voB L = false := by
  unfold voB; rw [allI_false k h0 h1 h]; simp
theorem ordX_f1 {L : List Int} {k : Int} (h : (bl L k k && bl L 0 k && bl L k (num L - 1)) = false) : ordX L k = false := by unfold ordX; rw [h]; rfl
theorem ordX_f2 {L : List Int} {k j : Int} (h0 : 0 ≤ j) (h1 : j < num L) (h : ordXY L k j = false) : ordX L k = false := by unfold ordX; rw [allI_false j h0 h1 h]; simp
theorem ordXY_f1 {L : List Int} {k j : Int} (h : (k != j && bl L k j && bl L j k) = true) : ordXY L k j = false := by unfold ordXY; rw [h]; rfl
theorem ordXY_f2 {L : List Int} {k j m : Int} (h0 : 0 ≤ m) (h1 : m < num L) (h : ordXYZ L k j m = false) : ordXY L k j = false := by unfold ordXY; rw [allI_false m h0 h1 h]; simp
theorem ordXY_t {L : List Int} {k j m : Int} (h : (k != j && bl L k j && bl L j k) = false) (hm : num L ≤ m) (ha : AllTo m (ordXYZ L k j)) : ordXY L k j = true := by
  unfold ordXY; rw [h, ha.all hm]; rfl
theorem ordX_t {L : List Int} {k m : Int} (h : (bl L k k && bl L 0 k && bl L k (num L - 1)) = true) (hm : num L ≤ m) (ha : AllTo m (ordXY L k)) : ordX L k = true := by
  unfold ordX; rw [h, ha.all hm]; rfl
theorem voB_t {L : List Int} {m : Int} (h1 : 1 ≤ num L) (h6 : num L ≤ 6) (hr : AllTo (num L) (inR L)) (hm : num L ≤ m) (ha : AllTo m (ordX L)) : voB L = true := by
  unfold voB; rw [decide_eq_true h1, decide_eq_true h6, hr.all (Int.le_refl _), ha.all hm]; rfl
end Go.Proofs.YtpophjloedpcfaaGreatDoor

/- Plain facts on tables of products; nothing of the program. -/
namespace Go.Proofs.YtpophjloedpcfaaGreatDoor
/-- row x of a table, and the number at y of it -/
def rowAt (T : List (List Int)) (x : Int) : List Int := T.getD x.toNat []
def tv (T : List (List Int)) (x y : Int) : Int := nth (rowAt T x) y
theorem rowAt_get (T : List (List Int)) (j : Nat) (h : j < T.length) : rowAt T j = T[j] := by
  unfold rowAt; simp [h]
theorem rowAt_nat (T : List (List Int)) (x : Int) (h0 : 0 ≤ x) (h : x < T.length) : rowAt T x = T[x.toNat]'(by omega) := by
  have : x.toNat < T.length := by omega
  unfold rowAt; simp [this]
def cellOk (L : List Int) (T : List (List Int)) (x y : Int) : Bool := decide (0 ≤ tv T x y) && decide (tv T x y ≤ num L - 1)
def rowOk (L : List Int) (T : List (List Int)) (x : Int) : Bool := decide (((rowAt T x).length : Int) = num L) && allI (num L) (cellOk L T x)
def shapeB (L : List Int) (T : List (List Int)) : Bool := decide ((T.length : Int) = num L) && allI (num L) (rowOk L T)
def asQ (T : List (List Int)) (x y z : Int) : Bool := tv T (tv T x y) z == tv T x (tv T y z)
def goQ (L : List Int) (T : List (List Int)) (x y z : Int) : Bool := tv T x (jn L y z) == jn L (tv T x y) (tv T x z)
def lwXYZ (L : List Int) (T : List (List Int)) (x y z : Int) : Bool := asQ T x y z && goQ L T x y z
def lwXY (L : List Int) (T : List (List Int)) (x y : Int) : Bool := tv T x y == tv T y x && allI (num L) (lwXYZ L T x y)
def lwX (L : List Int) (T : List (List Int)) (x : Int) : Bool := (tv T x (num L - 1) == x && tv T x 0 == 0) && allI (num L) (lwXY L T x)
def algB (L : List Int) (T : List (List Int)) : Bool := latB L && (shapeB L T && allI (num L) (lwX L T))

theorem shape_len {L : List Int} {T : List (List Int)} (h : shapeB L T = true) : (T.length : Int) = num L := by
  unfold shapeB at h; rw [Bool.and_eq_true, decide_eq_true_eq] at h; exact h.1
theorem shape_row {L : List Int} {T : List (List Int)} (h : shapeB L T = true) {x : Int} (x0 : 0 ≤ x) (x1 : x < num L) : ((rowAt T x).length : Int) = num L := by
  unfold shapeB at h; rw [Bool.and_eq_true] at h
  have := (allI_iff _ _).1 h.2 x x0 x1
  unfold rowOk at this; rw [Bool.and_eq_true, decide_eq_true_eq] at this; exact this.1
theorem shape_cell {L : List Int} {T : List (List Int)} (h : shapeB L T = true) {x y : Int} (x0 : 0 ≤ x) (x1 : x < num L) (y0 : 0 ≤ y) (y1 : y < num L) : 0 ≤ tv T x y ∧ tv T x y < num L := by
  unfold shapeB at h; rw [Bool.and_eq_true] at h
  have := (allI_iff _ _).1 h.2 x x0 x1
  unfold rowOk at this; rw [Bool.and_eq_true] at this
  have := (allI_iff _ _).1 this.2 y y0 y1
  unfold cellOk at this; rw [Bool.and_eq_true, decide_eq_true_eq, decide_eq_true_eq] at this
  omega
theorem shape_f_len {L : List Int} {T : List (List Int)} (h : (T.length : Int) ≠ num L) : shapeB L T = false := by
  unfold shapeB; rw [decide_eq_false h]; rfl
theorem shape_f_row {L : List Int} {T : List (List Int)} {x : Int} (x0 : 0 ≤ x) (x1 : x < num L) (h : rowOk L T x = false) : shapeB L T = false := by
  unfold shapeB; rw [allI_false x x0 x1 h]; simp
theorem rowOk_f_len {L : List Int} {T : List (List Int)} {x : Int} (h : ((rowAt T x).length : Int) ≠ num L) : rowOk L T x = false := by
  unfold rowOk; rw [decide_eq_false h]; rfl
theorem rowOk_f_cell {L : List Int} {T : List (List Int)} {x y : Int} (y0 : 0 ≤ y) (y1 : y < num L) (h : cellOk L T x y = false) : rowOk L T x = false := by
  unfold rowOk; rw [allI_false y y0 y1 h]; simp
theorem rowOk_t {L : List Int} {T : List (List Int)} {x m : Int} (h : ((rowAt T x).length : Int) = num L) (hm : num L ≤ m) (ha : AllTo m (cellOk L T x)) : rowOk L T x = true := by
  unfold rowOk; rw [decide_eq_true h, ha.all hm]; rfl
theorem shape_t {L : List Int} {T : List (List Int)} {m : Int} (h : (T.length : Int) = num L) (hm : num L ≤ m) (ha : AllTo m (rowOk L T)) : shapeB L T = true := by
  unfold shapeB; rw [decide_eq_true h, ha.all hm]; rfl
theorem lwXYZ_f1 {L : List Int} {T : List (List Int)} {x y z : Int} (h : asQ T x y z = false) : lwXYZ L T x y z = false := by unfold lwXYZ; rw [h]; rfl
theorem lwXYZ_f2 {L : List Int} {T : List (List Int)} {x y z : Int} (h : goQ L T x y z = false) : lwXYZ L T x y z = false := by unfold lwXYZ; rw [h]; simp
theorem lwXY_f1 {L : List Int} {T : List (List Int)} {x y : Int} (h : (tv T x y == tv T y x) = false) : lwXY L T x y = false := by unfold lwXY; rw [h]; rfl
theorem lwXY_f2 {L : List Int} {T : List (List Int)} {x y z : Int} (z0 : 0 ≤ z) (z1 : z < num L) (h : lwXYZ L T x y z = false) : lwXY L T x y = false := by unfold lwXY; rw [allI_false z z0 z1 h]; simp
theorem lwX_f1 {L : List Int} {T : List (List Int)} {x : Int} (h : (tv T x (num L - 1) == x && tv T x 0 == 0) = false) : lwX L T x = false := by unfold lwX; rw [h]; rfl
theorem lwX_f2 {L : List Int} {T : List (List Int)} {x y : Int} (y0 : 0 ≤ y) (y1 : y < num L) (h : lwXY L T x y = false) : lwX L T x = false := by unfold lwX; rw [allI_false y y0 y1 h]; simp
theorem lwXY_t {L : List Int} {T : List (List Int)} {x y m : Int} (h : (tv T x y == tv T y x) = true) (hm : num L ≤ m) (ha : AllTo m (lwXYZ L T x y)) : lwXY L T x y = true := by unfold lwXY; rw [h, ha.all hm]; rfl
theorem lwX_t {L : List Int} {T : List (List Int)} {x m : Int} (h : (tv T x (num L - 1) == x && tv T x 0 == 0) = true) (hm : num L ≤ m) (ha : AllTo m (lwXY L T x)) : lwX L T x = true := by unfold lwX; rw [h, ha.all hm]; rfl
theorem algB_f0 {L : List Int} {T : List (List Int)} (h : latB L = false) : algB L T = false := by unfold algB; rw [h]; rfl
theorem algB_f1 {L : List Int} {T : List (List Int)} (h : shapeB L T = false) : algB L T = false := by unfold algB; rw [h]; simp
theorem algB_f2 {L : List Int} {T : List (List Int)} {x : Int} (x0 : 0 ≤ x) (x1 : x < num L) (h : lwX L T x = false) : algB L T = false := by unfold algB; rw [allI_false x x0 x1 h]; simp
theorem algB_t {L : List Int} {T : List (List Int)} {m : Int} (h : latB L = true) (h2 : shapeB L T = true) (hm : num L ≤ m) (ha : AllTo m (lwX L T)) : algB L T = true := by unfold algB; rw [h, h2, ha.all hm]; rfl
theorem algB_parts {L : List Int} {T : List (List Int)} (h : algB L T = true) : latB L = true ∧ shapeB L T = true ∧ AllTo (num L) (lwX L T) := by
  unfold algB at h; rw [Bool.and_eq_true, Bool.and_eq_true] at h
  exact ⟨h.1, h.2.1, (allI_iff _ _).1 h.2.2⟩
theorem lat_len {L : List Int} (h : latB L = true) : 1 ≤ num L ∧ num L ≤ 6 := by
  unfold latB at h; rw [Bool.and_eq_true] at h
  have := h.1
  unfold voB at this; simp only [Bool.and_eq_true, decide_eq_true_eq] at this
  exact ⟨this.1.1.1, this.1.1.2⟩
theorem lat_jn {L : List Int} (h : latB L = true) {x y : Int} (x0 : 0 ≤ x) (x1 : x < num L) (y0 : 0 ≤ y) (y1 : y < num L) : 0 ≤ jn L x y ∧ jn L x y < num L := by
  have hp : 0 ≤ jn L x y := by
    unfold latB at h; rw [Bool.and_eq_true] at h
    have := (allI_iff _ _).1 ((allI_iff _ _).1 h.2 x x0 x1) y y0 y1
    unfold latXY at this
    simp only [Bool.not_eq_true', Bool.or_eq_false_iff, decide_eq_false_iff_not] at this
    omega
  refine ⟨hp, ?_⟩
  unfold jn at hp ⊢
  rcases firstI_cases (num L) (isJoinB L x y) with ⟨e, _⟩ | ⟨_, h1, _⟩
  · omega
  · exact h1
theorem lat_mt {L : List Int} (h : latB L = true) {x y : Int} (x0 : 0 ≤ x) (x1 : x < num L) (y0 : 0 ≤ y) (y1 : y < num L) : 0 ≤ mt L x y ∧ mt L x y < num L := by
  have hp : 0 ≤ mt L x y := by
    unfold latB at h; rw [Bool.and_eq_true] at h
    have := (allI_iff _ _).1 ((allI_iff _ _).1 h.2 x x0 x1) y y0 y1
    unfold latXY at this
    simp only [Bool.not_eq_true', Bool.or_eq_false_iff, decide_eq_false_iff_not] at this
    omega
  refine ⟨hp, ?_⟩
  unfold mt at hp ⊢
  rcases firstI_cases (num L) (isMeetB L x y) with ⟨e, _⟩ | ⟨_, h1, _⟩
  · omega
  · exact h1
/-- the implication, up to an element -/
def impN (L : List Int) (T : List (List Int)) (x y : Int) : Nat → Int
  | 0 => 0
  | k + 1 => if bl L (tv T x k) y then jn L (impN L T x y k) k else impN L T x y k
def impTo (L : List Int) (T : List (List Int)) (x y k : Int) : Int := impN L T x y k.toNat
def imp (L : List Int) (T : List (List Int)) (x y : Int) : Int := impTo L T x y (num L)
theorem impTo_zero (L : List Int) (T : List (List Int)) (x y : Int) : impTo L T x y 0 = 0 := rfl
theorem impTo_succ (L : List Int) (T : List (List Int)) (x y : Int) {k : Int} (h : 0 ≤ k) : impTo L T x y (k + 1) = if bl L (tv T x k) y then jn L (impTo L T x y k) k else impTo L T x y k := by
  unfold impTo
  rw [show (k + 1).toNat = k.toNat + 1 by omega]
  show (if bl L (tv T x (k.toNat : Int)) y then jn L (impN L T x y k.toNat) (k.toNat : Int) else impN L T x y k.toNat) = _
  rw [Int.toNat_of_nonneg h]
theorem impTo_t {L : List Int} {T : List (List Int)} {x y k : Int} (h : 0 ≤ k) (hb : bl L (tv T x k) y = true) : impTo L T x y (k + 1) = jn L (impTo L T x y k) k := by rw [impTo_succ _ _ _ _ h, if_pos hb]
theorem impTo_f {L : List Int} {T : List (List Int)} {x y k : Int} (h : 0 ≤ k) (hb : bl L (tv T x k) y = false) : impTo L T x y (k + 1) = impTo L T x y k := by rw [impTo_succ _ _ _ _ h, if_neg (by rw [hb]; decide)]
theorem impN_lt {L : List Int} (T : List (List Int)) (x y : Int) (h : latB L = true) : ∀ k : Nat, (k : Int) ≤ num L → 0 ≤ impN L T x y k ∧ impN L T x y k < num L
  | 0, _ => by have := lat_len h; show (0 : Int) ≤ 0 ∧ (0 : Int) < num L; omega
  | k + 1, hk => by
    have ih := impN_lt T x y h k (by omega)
    show 0 ≤ (if bl L (tv T x k) y then jn L (impN L T x y k) k else impN L T x y k) ∧ (if bl L (tv T x k) y then jn L (impN L T x y k) k else impN L T x y k) < num L
    by_cases hb : bl L (tv T x k) y = true
    · rw [if_pos hb]; exact lat_jn h ih.1 ih.2 (by omega) (by omega)
    · rw [if_neg hb]; exact ih
theorem impTo_lt {L : List Int} (T : List (List Int)) (x y : Int) (h : latB L = true) {k : Int} (k0 : 0 ≤ k) (hk : k ≤ num L) : 0 ≤ impTo L T x y k ∧ impTo L T x y k < num L := impN_lt T x y h k.toNat (by omega)
theorem imp_lt {L : List Int} (T : List (List Int)) (x y : Int) (h : latB L = true) : 0 ≤ imp L T x y ∧ imp L T x y < num L := by
  have := lat_len h; exact impTo_lt T x y h (by omega) (Int.le_refl _)
/-- powers -/
def pwN (L : List Int) (T : List (List Int)) (x : Int) : Nat → Int
  | 0 => num L - 1
  | k + 1 => tv T (pwN L T x k) x
def powr (L : List Int) (T : List (List Int)) (x k : Int) : Int := pwN L T x k.toNat
theorem powr_zero (L : List Int) (T : List (List Int)) (x : Int) : powr L T x 0 = num L - 1 := rfl
theorem powr_succ (L : List Int) (T : List (List Int)) (x : Int) {k : Int} (h : 0 ≤ k) : powr L T x (k + 1) = tv T (powr L T x k) x := by
  unfold powr; rw [show (k + 1).toNat = k.toNat + 1 by omega]; rfl
theorem pwN_lt {L : List Int} {T : List (List Int)} {x : Int} (h : latB L = true) (hs : shapeB L T = true) (x0 : 0 ≤ x) (x1 : x < num L) : ∀ k, 0 ≤ pwN L T x k ∧ pwN L T x k < num L
  | 0 => by have := lat_len h; show 0 ≤ num L - 1 ∧ num L - 1 < num L; omega
  | k + 1 => by have ih := pwN_lt h hs x0 x1 k; exact shape_cell hs ih.1 ih.2 x0 x1
theorem powr_lt {L : List Int} {T : List (List Int)} {x : Int} (h : latB L = true) (hs : shapeB L T = true) (x0 : 0 ≤ x) (x1 : x < num L) (k : Int) : 0 ≤ powr L T x k ∧ powr L T x k < num L := pwN_lt h hs x0 x1 _
/-! the laws as the program tests them -/
/-- the products as an array: nothing past the elements -/
def timG (L : List Int) (T : List (List Int)) (x y : Int) : Int := if x < num L ∧ y < num L then tv T x y else 0
theorem timG_in {L : List Int} {T : List (List Int)} {x y : Int} (hx : x < num L) (hy : y < num L) : timG L T x y = tv T x y := if_pos ⟨hx, hy⟩
def impG (L : List Int) (T : List (List Int)) (x y : Int) : Int := if x < num L ∧ y < num L then imp L T x y else 0
theorem impG_in {L : List Int} {T : List (List Int)} {x y : Int} (hx : x < num L) (hy : y < num L) : impG L T x y = imp L T x y := if_pos ⟨hx, hy⟩
def sbXY (T : List (List Int)) (x y : Int) : Bool := tv T x y == tv T y x
def s3XY (L : List Int) (T : List (List Int)) (x y : Int) : Bool := allI (num L) (asQ T x y)
def kbX (L : List Int) (T : List (List Int)) (x : Int) : Bool := tv T x (num L - 1) == x && tv T x 0 == 0
def goYZ (L : List Int) (T : List (List Int)) (y z : Int) : Bool := allI (num L) fun x => goQ L T x y z
def all2 (n : Int) (p : Int → Int → Bool) : Bool := allI n fun x => allI n (p x)
theorem all2_iff (n : Int) (p : Int → Int → Bool) : all2 n p = true ↔ ∀ x y, 0 ≤ x → x < n → 0 ≤ y → y < n → p x y = true := by
  unfold all2
  rw [allI_iff]
  exact ⟨fun h x y x0 x1 y0 y1 => (allI_iff _ _).1 (h x x0 x1) y y0 y1, fun h x x0 x1 => (allI_iff _ _).2 fun y y0 y1 => h x y x0 x1 y0 y1⟩
def areB (L : List Int) (T : List (List Int)) : Bool := all2 (num L) (sbXY T) && all2 (num L) (s3XY L T) && allI (num L) (kbX L T) && all2 (num L) (goYZ L T)
theorem areB_eq (L : List Int) (T : List (List Int)) : areB L T = allI (num L) (lwX L T) := by
  rw [Bool.eq_iff_iff]
  unfold areB
  simp only [Bool.and_eq_true]
  rw [all2_iff, all2_iff, allI_iff, all2_iff, allI_iff]
  constructor
  · rintro ⟨⟨⟨h1, h2⟩, h3⟩, h4⟩ x x0 x1
    refine lwX_t (m := num L) (h3 x x0 x1) (Int.le_refl _) fun y y0 y1 => ?_
    refine lwXY_t (m := num L) (h1 x y x0 x1 y0 y1) (Int.le_refl _) fun z z0 z1 => ?_
    unfold lwXYZ
    rw [Bool.and_eq_true]
    exact ⟨(allI_iff _ _).1 (h2 x y x0 x1 y0 y1) z z0 z1, (allI_iff _ _).1 (h4 y z y0 y1 z0 z1) x x0 x1⟩
  · intro h
    have p1 : ∀ x, 0 ≤ x → x < num L → kbX L T x = true ∧ allI (num L) (lwXY L T x) = true := fun x x0 x1 => by
      have := h x x0 x1; unfold lwX at this; rwa [Bool.and_eq_true] at this
    have p2 : ∀ x y, 0 ≤ x → x < num L → 0 ≤ y → y < num L → sbXY T x y = true ∧ allI (num L) (lwXYZ L T x y) = true := fun x y x0 x1 y0 y1 => by
      have := (allI_iff _ _).1 (p1 x x0 x1).2 y y0 y1; unfold lwXY at this; rwa [Bool.and_eq_true] at this
    have p3 : ∀ x y z, 0 ≤ x → x < num L → 0 ≤ y → y < num L → 0 ≤ z → z < num L → asQ T x y z = true ∧ goQ L T x y z = true := fun x y z x0 x1 y0 y1 z0 z1 => by
      have := (allI_iff _ _).1 (p2 x y x0 x1 y0 y1).2 z z0 z1; unfold lwXYZ at this; rwa [Bool.and_eq_true] at this
    exact ⟨⟨⟨fun x y x0 x1 y0 y1 => (p2 x y x0 x1 y0 y1).1, fun x y x0 x1 y0 y1 => (allI_iff _ _).2 fun z z0 z1 => (p3 x y z x0 x1 y0 y1 z0 z1).1⟩, fun x x0 x1 => (p1 x x0 x1).1⟩, fun y z y0 y1 z0 z1 => (allI_iff _ _).2 fun x x0 x1 => (p3 x y z x0 x1 y0 y1 z0 z1).2⟩
end Go.Proofs.YtpophjloedpcfaaGreatDoor

/- Plain facts on lattices and algebras; nothing of the program. -/
namespace Go.Proofs.YtpophjloedpcfaaGreatDoor
/-- x is an element -/
def El (L : List Int) (x : Int) : Prop := 0 ≤ x ∧ x < num L
theorem lat_ord {L : List Int} (h : latB L = true) {x : Int} (hx : El L x) : bl L x x = true ∧ bl L 0 x = true ∧ bl L x (num L - 1) = true ∧ allI (num L) (ordXY L x) = true := by
  unfold latB at h; rw [Bool.and_eq_true] at h
  have h := h.1
  unfold voB at h; simp only [Bool.and_eq_true] at h
  have := (allI_iff _ _).1 h.2 x hx.1 hx.2
  unfold ordX at this; simp only [Bool.and_eq_true] at this
  exact ⟨this.1.1.1, this.1.1.2, this.1.2, this.2⟩
theorem el_0 {L : List Int} (h : latB L = true) : El L 0 := ⟨by omega, by have := lat_len h; omega⟩
theorem el_t {L : List Int} (h : latB L = true) : El L (num L - 1) := ⟨by have := lat_len h; omega, by omega⟩
theorem bl_refl {L : List Int} (h : latB L = true) {x : Int} (hx : El L x) : bl L x x = true := (lat_ord h hx).1
theorem bl_low {L : List Int} (h : latB L = true) {x : Int} (hx : El L x) : bl L 0 x = true := (lat_ord h hx).2.1
theorem bl_top {L : List Int} (h : latB L = true) {x : Int} (hx : El L x) : bl L x (num L - 1) = true := (lat_ord h hx).2.2.1
theorem bl_anti {L : List Int} (h : latB L = true) {x y : Int} (hx : El L x) (hy : El L y) (h1 : bl L x y = true) (h2 : bl L y x = true) : x = y := by
  have := (allI_iff _ _).1 (lat_ord h hx).2.2.2 y hy.1 hy.2
  unfold ordXY at this; rw [Bool.and_eq_true, h1, h2] at this
  simpa using this.1
theorem bl_trans {L : List Int} (h : latB L = true) {x y z : Int} (hx : El L x) (hy : El L y) (hz : El L z) (h1 : bl L x y = true) (h2 : bl L y z = true) : bl L x z = true := by
  have := (allI_iff _ _).1 (lat_ord h hx).2.2.2 y hy.1 hy.2
  unfold ordXY at this; rw [Bool.and_eq_true] at this
  have := (allI_iff _ _).1 this.2 z hz.1 hz.2
  unfold ordXYZ at this; rw [h1, h2] at this
  simpa using this
theorem jn_el {L : List Int} (h : latB L = true) {x y : Int} (hx : El L x) (hy : El L y) : El L (jn L x y) := lat_jn h hx.1 hx.2 hy.1 hy.2
theorem mt_el {L : List Int} (h : latB L = true) {x y : Int} (hx : El L x) (hy : El L y) : El L (mt L x y) := lat_mt h hx.1 hx.2 hy.1 hy.2
theorem jn_is {L : List Int} (h : latB L = true) {x y : Int} (hx : El L x) (hy : El L y) : isJoinB L x y (jn L x y) = true := by
  have hp := (jn_el h hx hy).1
  unfold jn at hp ⊢
  rcases firstI_cases (num L) (isJoinB L x y) with ⟨e, _⟩ | ⟨_, _, h3, _⟩
  · omega
  · exact h3
theorem mt_is {L : List Int} (h : latB L = true) {x y : Int} (hx : El L x) (hy : El L y) : isMeetB L x y (mt L x y) = true := by
  have hp := (mt_el h hx hy).1
  unfold mt at hp ⊢
  rcases firstI_cases (num L) (isMeetB L x y) with ⟨e, _⟩ | ⟨_, _, h3, _⟩
  · omega
  · exact h3
theorem jn_ub1 {L : List Int} (h : latB L = true) {x y : Int} (hx : El L x) (hy : El L y) : bl L x (jn L x y) = true := by
  have := jn_is h hx hy; unfold isJoinB at this; simp only [Bool.and_eq_true] at this; exact this.1.1
theorem jn_ub2 {L : List Int} (h : latB L = true) {x y : Int} (hx : El L x) (hy : El L y) : bl L y (jn L x y) = true := by
  have := jn_is h hx hy; unfold isJoinB at this; simp only [Bool.and_eq_true] at this; exact this.1.2
theorem jn_le {L : List Int} (h : latB L = true) {x y z : Int} (hx : El L x) (hy : El L y) (hz : El L z) (h1 : bl L x z = true) (h2 : bl L y z = true) : bl L (jn L x y) z = true := by
  have := jn_is h hx hy; unfold isJoinB at this; simp only [Bool.and_eq_true] at this
  have := (allI_iff _ _).1 this.2 z hz.1 hz.2
  simp only [h1, h2] at this; simpa using this
theorem mt_lb1 {L : List Int} (h : latB L = true) {x y : Int} (hx : El L x) (hy : El L y) : bl L (mt L x y) x = true := by
  have := mt_is h hx hy; unfold isMeetB at this; simp only [Bool.and_eq_true] at this; exact this.1.1
theorem mt_lb2 {L : List Int} (h : latB L = true) {x y : Int} (hx : El L x) (hy : El L y) : bl L (mt L x y) y = true := by
  have := mt_is h hx hy; unfold isMeetB at this; simp only [Bool.and_eq_true] at this; exact this.1.2
theorem mt_ge {L : List Int} (h : latB L = true) {x y z : Int} (hx : El L x) (hy : El L y) (hz : El L z) (h1 : bl L z x = true) (h2 : bl L z y = true) : bl L z (mt L x y) = true := by
  have := mt_is h hx hy; unfold isMeetB at this; simp only [Bool.and_eq_true] at this
  have := (allI_iff _ _).1 this.2 z hz.1 hz.2
  simp only [h1, h2] at this; simpa using this
theorem jn_of_le {L : List Int} (h : latB L = true) {x y : Int} (hx : El L x) (hy : El L y) (h1 : bl L x y = true) : jn L x y = y :=
  bl_anti h (jn_el h hx hy) hy (jn_le h hx hy hy h1 (bl_refl h hy)) (jn_ub2 h hx hy)
theorem jn_of_ge {L : List Int} (h : latB L = true) {x y : Int} (hx : El L x) (hy : El L y) (h1 : bl L y x = true) : jn L x y = x :=
  bl_anti h (jn_el h hx hy) hx (jn_le h hx hy hx (bl_refl h hx) h1) (jn_ub1 h hx hy)
theorem mt_of_le {L : List Int} (h : latB L = true) {x y : Int} (hx : El L x) (hy : El L y) (h1 : bl L x y = true) : mt L x y = x :=
  bl_anti h (mt_el h hx hy) hx (mt_lb1 h hx hy) (mt_ge h hx hy hx (bl_refl h hx) h1)
theorem mt_of_ge {L : List Int} (h : latB L = true) {x y : Int} (hx : El L x) (hy : El L y) (h1 : bl L y x = true) : mt L x y = y :=
  bl_anti h (mt_el h hx hy) hy (mt_lb2 h hx hy) (mt_ge h hx hy hy h1 (bl_refl h hy))
/-! algebras -/
theorem alg_lat {L : List Int} {T : List (List Int)} (h : algB L T = true) : latB L = true := (algB_parts h).1
theorem alg_shape {L : List Int} {T : List (List Int)} (h : algB L T = true) : shapeB L T = true := (algB_parts h).2.1
theorem tv_el {L : List Int} {T : List (List Int)} (h : algB L T = true) {x y : Int} (hx : El L x) (hy : El L y) : El L (tv T x y) := shape_cell (alg_shape h) hx.1 hx.2 hy.1 hy.2
theorem alg_x {L : List Int} {T : List (List Int)} (h : algB L T = true) {x : Int} (hx : El L x) : tv T x (num L - 1) = x ∧ tv T x 0 = 0 ∧ allI (num L) (lwXY L T x) = true := by
  have := (algB_parts h).2.2 x hx.1 hx.2
  unfold lwX at this; simp only [Bool.and_eq_true, beq_iff_eq] at this
  exact ⟨this.1.1, this.1.2, this.2⟩
theorem tv_top {L : List Int} {T : List (List Int)} (h : algB L T = true) {x : Int} (hx : El L x) : tv T x (num L - 1) = x := (alg_x h hx).1
theorem tv_bot {L : List Int} {T : List (List Int)} (h : algB L T = true) {x : Int} (hx : El L x) : tv T x 0 = 0 := (alg_x h hx).2.1
theorem alg_xy {L : List Int} {T : List (List Int)} (h : algB L T = true) {x y : Int} (hx : El L x) (hy : El L y) : tv T x y = tv T y x ∧ allI (num L) (lwXYZ L T x y) = true := by
  have := (allI_iff _ _).1 (alg_x h hx).2.2 y hy.1 hy.2
  unfold lwXY at this; simp only [Bool.and_eq_true, beq_iff_eq] at this
  exact this
theorem tv_comm {L : List Int} {T : List (List Int)} (h : algB L T = true) {x y : Int} (hx : El L x) (hy : El L y) : tv T x y = tv T y x := (alg_xy h hx hy).1
theorem alg_xyz {L : List Int} {T : List (List Int)} (h : algB L T = true) {x y z : Int} (hx : El L x) (hy : El L y) (hz : El L z) : tv T (tv T x y) z = tv T x (tv T y z) ∧ tv T x (jn L y z) = jn L (tv T x y) (tv T x z) := by
  have := (allI_iff _ _).1 (alg_xy h hx hy).2 z hz.1 hz.2
  unfold lwXYZ asQ goQ at this; simp only [Bool.and_eq_true, beq_iff_eq] at this
  exact this
theorem tv_assoc {L : List Int} {T : List (List Int)} (h : algB L T = true) {x y z : Int} (hx : El L x) (hy : El L y) (hz : El L z) : tv T (tv T x y) z = tv T x (tv T y z) := (alg_xyz h hx hy hz).1
theorem tv_jn {L : List Int} {T : List (List Int)} (h : algB L T = true) {x y z : Int} (hx : El L x) (hy : El L y) (hz : El L z) : tv T x (jn L y z) = jn L (tv T x y) (tv T x z) := (alg_xyz h hx hy hz).2
theorem tv_mono {L : List Int} {T : List (List Int)} (h : algB L T = true) {x y z : Int} (hx : El L x) (hy : El L y) (hz : El L z) (hl : bl L y z = true) : bl L (tv T x y) (tv T x z) = true := by
  have e := tv_jn h hx hy hz
  rw [jn_of_le (alg_lat h) hy hz hl] at e
  rw [e]; exact jn_ub1 (alg_lat h) (tv_el h hx hy) (tv_el h hx hz)
theorem tv_mono1 {L : List Int} {T : List (List Int)} (h : algB L T = true) {x y z : Int} (hx : El L x) (hy : El L y) (hz : El L z) (hl : bl L y z = true) : bl L (tv T y x) (tv T z x) = true := by
  rw [tv_comm h hy hx, tv_comm h hz hx]; exact tv_mono h hx hy hz hl
theorem tv_le1 {L : List Int} {T : List (List Int)} (h : algB L T = true) {x y : Int} (hx : El L x) (hy : El L y) : bl L (tv T x y) x = true := by
  have := tv_mono h hx hy (el_t (alg_lat h)) (bl_top (alg_lat h) hy)
  rwa [tv_top h hx] at this
theorem tv_le2 {L : List Int} {T : List (List Int)} (h : algB L T = true) {x y : Int} (hx : El L x) (hy : El L y) : bl L (tv T x y) y = true := by
  rw [tv_comm h hx hy]; exact tv_le1 h hy hx
theorem imp_el {L : List Int} {T : List (List Int)} (h : algB L T = true) (x y : Int) : El L (imp L T x y) := imp_lt T x y (alg_lat h)
theorem impN_el {L : List Int} {T : List (List Int)} (h : algB L T = true) (x y : Int) {k : Nat} (hk : (k : Int) ≤ num L) : El L (impN L T x y k) := impN_lt T x y (alg_lat h) k hk
theorem impN_ok {L : List Int} {T : List (List Int)} (h : algB L T = true) {x y : Int} (hx : El L x) (hy : El L y) : ∀ k : Nat, (k : Int) ≤ num L → bl L (tv T x (impN L T x y k)) y = true ∧ ∀ z : Int, 0 ≤ z → z < k → bl L (tv T x z) y = true → bl L z (impN L T x y k) = true
  | 0, _ => ⟨by show bl L (tv T x 0) y = true; rw [tv_bot h hx]; exact bl_low (alg_lat h) hy, fun z z0 z1 _ => by omega⟩
  | k + 1, hk => by
    have hl := alg_lat h
    have ih := impN_ok h hx hy k (by omega)
    have ek : El L (k : Int) := ⟨by omega, by omega⟩
    have ei := impN_el h x y (k := k) (by omega)
    show bl L (tv T x (if bl L (tv T x k) y then jn L (impN L T x y k) k else impN L T x y k)) y = true ∧ ∀ z : Int, 0 ≤ z → z < ((k + 1 : Nat) : Int) → bl L (tv T x z) y = true → bl L z (if bl L (tv T x k) y then jn L (impN L T x y k) k else impN L T x y k) = true
    by_cases hb : bl L (tv T x k) y = true
    · rw [if_pos hb]
      refine ⟨?_, fun z z0 z1 hz => ?_⟩
      · rw [tv_jn h hx ei ek]; exact jn_le hl (tv_el h hx ei) (tv_el h hx ek) hy ih.1 hb
      · have ez : El L z := ⟨z0, by omega⟩
        by_cases e : z = k
        · rw [e]; exact jn_ub2 hl ei ek
        · exact bl_trans hl ez ei (jn_el hl ei ek) (ih.2 z z0 (by omega) hz) (jn_ub1 hl ei ek)
    · rw [if_neg hb]
      refine ⟨ih.1, fun z z0 z1 hz => ?_⟩
      by_cases e : z = k
      · rw [e] at hz; exact absurd hz hb
      · exact ih.2 z z0 (by omega) hz
/-- products and implications are neighbours -/
theorem imp_iff {L : List Int} {T : List (List Int)} (h : algB L T = true) {x y z : Int} (hx : El L x) (hy : El L y) (hz : El L z) : bl L (tv T x z) y = true ↔ bl L z (imp L T x y) = true := by
  have hn : (((num L).toNat : Nat) : Int) = num L := Int.toNat_of_nonneg (by have := lat_len (alg_lat h); omega)
  have ok := impN_ok h hx hy (num L).toNat (by omega)
  have ei := imp_el h x y
  constructor
  · intro hb; exact ok.2 z hz.1 (by have := hz.2; omega) hb
  · intro hb; exact bl_trans (alg_lat h) (tv_el h hx hz) (tv_el h hx ei) hy (tv_mono h hx hz ei hb) ok.1
theorem imp_ok {L : List Int} {T : List (List Int)} (h : algB L T = true) {x y : Int} (hx : El L x) (hy : El L y) : bl L (tv T x (imp L T x y)) y = true := (imp_iff h hx hy (imp_el h x y)).2 (bl_refl (alg_lat h) (imp_el h x y))
theorem top_of {L : List Int} (h : latB L = true) {x : Int} (hx : El L x) (hb : bl L (num L - 1) x = true) : x = num L - 1 := bl_anti h hx (el_t h) (bl_top h hx) hb
theorem bot_of {L : List Int} (h : latB L = true) {x : Int} (hx : El L x) (hb : bl L x 0 = true) : x = 0 := bl_anti h hx (el_0 h) hb (bl_low h hx)
theorem imp_top {L : List Int} {T : List (List Int)} (h : algB L T = true) {x y : Int} (hx : El L x) (hy : El L y) : imp L T x y = num L - 1 ↔ bl L x y = true := by
  have ht := el_t (alg_lat h)
  constructor
  · intro e
    have := imp_ok h hx hy
    rwa [e, tv_top h hx] at this
  · intro hb
    refine top_of (alg_lat h) (imp_el h x y) ((imp_iff h hx hy ht).1 ?_)
    rw [tv_top h hx]; exact hb
theorem imp_self {L : List Int} {T : List (List Int)} (h : algB L T = true) {x : Int} (hx : El L x) : imp L T x x = num L - 1 := (imp_top h hx hx).2 (bl_refl (alg_lat h) hx)
end Go.Proofs.YtpophjloedpcfaaGreatDoor

/- Plain facts on sets of elements, filters and classes; nothing of the program. -/
namespace Go.Proofs.YtpophjloedpcfaaGreatDoor
/-- the k below a number that p lets by -/
def filtTo (p : Int → Bool) (k : Int) : List Int := ((List.range k.toNat).filter fun (j : Nat) => p j).map fun (j : Nat) => (j : Int)
theorem filtTo_succ (p : Int → Bool) (k : Int) (h : 0 ≤ k) : filtTo p (k + 1) = if p k then filtTo p k ++ [k] else filtTo p k := by
  unfold filtTo
  rw [show (k + 1).toNat = k.toNat + 1 by omega, List.range_succ, List.filter_append, List.map_append]
  cases hp : p k with
  | true => simp [Int.toNat_of_nonneg h, hp]
  | false => simp [Int.toNat_of_nonneg h, hp]
theorem filtTo_len (p : Int → Bool) (k : Int) : (filtTo p k).length ≤ k.toNat := by
  unfold filtTo
  rw [List.length_map]
  have := List.length_filter_le (fun (j : Nat) => p j) (List.range k.toNat)
  simpa using this
theorem filtTo_congr {p q : Int → Bool} {k : Int} (h : ∀ j, 0 ≤ j → j < k → p j = q j) : filtTo p k = filtTo q k := by
  unfold filtTo
  congr 1
  exact List.filter_congr fun j hj => h j (by omega) (by have := List.mem_range.1 hj; omega)

theorem filtTo_nat (p : Int → Bool) (k : Nat) : filtTo p ((k : Int) + 1) = if p k then filtTo p k ++ [(k : Int)] else filtTo p k := filtTo_succ p k (by omega)
theorem filtTo_zero (p : Int → Bool) : filtTo p 0 = [] := rfl
theorem filtTo_and (p q : Int → Bool) : ∀ k : Nat, filtTo (fun j => p j && q j) k = (filtTo p k).filter q
  | 0 => rfl
  | k + 1 => by
    have ih := filtTo_and p q k
    rw [show ((k + 1 : Nat) : Int) = (k : Int) + 1 by omega, filtTo_nat, filtTo_nat, ih]
    cases hp : p k <;> cases hq : q k <;> simp [hq]
theorem filtTo_mem (p : Int → Bool) (k : Int) (x : Int) : x ∈ filtTo p k ↔ 0 ≤ x ∧ x < k ∧ p x = true := by
  unfold filtTo
  simp only [List.mem_map, List.mem_filter, List.mem_range]
  constructor
  · rintro ⟨j, ⟨h1, h2⟩, rfl⟩; exact ⟨by omega, by omega, h2⟩
  · rintro ⟨h0, h1, h2⟩; exact ⟨x.toNat, ⟨by omega, by rw [Int.toNat_of_nonneg h0]; exact h2⟩, Int.toNat_of_nonneg h0⟩
/-- x is of the set -/
def ib (f x : Int) : Bool := bt f x == 1
/-- f is a sum of 2 to each of some elements -/
def setB (L : List Int) (f : Int) : Bool := decide (0 ≤ f) && decide (f ≤ pw (num L) - 1)
def filXY (L : List Int) (T : List (List Int)) (f x y : Int) : Bool := !ib f x || (if ib f y then ib f (tv T x y) else !bl L x y)
def filB (L : List Int) (T : List (List Int)) (f : Int) : Bool := ib f (num L - 1) && all2 (num L) (filXY L T f)
def isFilB (L : List Int) (T : List (List Int)) (f : Int) : Bool := setB L f && filB L T f
/-- all filters -/
def fls (L : List Int) (T : List (List Int)) : List Int := filtTo (filB L T) (pw (num L))
theorem fls_mem {L : List Int} {T : List (List Int)} {f : Int} : f ∈ fls L T ↔ 0 ≤ f ∧ f < pw (num L) ∧ filB L T f = true := filtTo_mem _ _ _
theorem fls_len (L : List Int) (T : List (List Int)) (h : num L ≤ 6) : (fls L T).length ≤ 64 := by
  have := filtTo_len (filB L T) (pw (num L))
  have p := pw_mono (num L) 6 h
  have e : pw 6 = 64 := rfl
  unfold fls; omega
theorem pw_6 {L : List Int} (h : num L ≤ 6) : 1 ≤ pw (num L) ∧ pw (num L) ≤ 64 := by
  have p := pw_mono (num L) 6 h
  have e : pw 6 = 64 := rfl
  have q := pw_pos (num L)
  omega
/-- near -/
def nearI (L : List Int) (T : List (List Int)) (x y : Int) : Int := tv T (imp L T x y) (imp L T y x)
theorem nearI_el {L : List Int} {T : List (List Int)} (h : algB L T = true) (x y : Int) : El L (nearI L T x y) := tv_el h (imp_el h x y) (imp_el h y x)
theorem nearI_self {L : List Int} {T : List (List Int)} (h : algB L T = true) {x : Int} (hx : El L x) : nearI L T x x = num L - 1 := by
  unfold nearI; rw [imp_self h hx]; exact tv_top h (el_t (alg_lat h))
def clsQ (L : List Int) (T : List (List Int)) (f x y : Int) : Bool := ib f (nearI L T x y)
def clsI (L : List Int) (T : List (List Int)) (f x : Int) : Int := firstI (num L) (clsQ L T f x)
theorem cls_is {L : List Int} {T : List (List Int)} {f x k : Int} (k0 : 0 ≤ k) (kx : k ≤ x) (hx : El L x) (hk : clsQ L T f x k = true) (hn : ∀ j, 0 ≤ j → j < k → clsQ L T f x j = false) : clsI L T f x = k :=
  firstI_some k0 (by have := hx.2; omega) hn hk
theorem cls_ok {L : List Int} {T : List (List Int)} (h : algB L T = true) {f x : Int} (hf : filB L T f = true) (hx : El L x) : 0 ≤ clsI L T f x ∧ clsI L T f x ≤ x ∧ clsQ L T f x (clsI L T f x) = true ∧ ∀ j, 0 ≤ j → j < clsI L T f x → clsQ L T f x j = false := by
  have hs : clsQ L T f x x = true := by
    unfold clsQ; rw [nearI_self h hx]
    unfold filB at hf; rw [Bool.and_eq_true] at hf; exact hf.1
  unfold clsI
  rcases firstI_cases (num L) (clsQ L T f x) with ⟨_, e⟩ | ⟨a, b, c, d⟩
  · rw [e x hx.1 hx.2] at hs; cases hs
  · refine ⟨a, ?_, c, d⟩
    refine Classical.byContradiction fun hgt => ?_
    rw [d x hx.1 (by omega)] at hs; cases hs
/-- the list of what a function says of all elements -/
def lstTo (g : Int → Int) (k : Int) : List Int := (List.range k.toNat).map fun (i : Nat) => g i
theorem lstTo_succ (g : Int → Int) (k : Int) (h : 0 ≤ k) : lstTo g (k + 1) = lstTo g k ++ [g k] := by
  unfold lstTo
  rw [show (k + 1).toNat = k.toNat + 1 by omega, List.range_succ, List.map_append]
  simp [Int.toNat_of_nonneg h]
theorem lstTo_len (g : Int → Int) (k : Int) (h : 0 ≤ k) : ((lstTo g k).length : Int) = k := by simp [lstTo, Int.toNat_of_nonneg h]
theorem lstTo_nth (g : Int → Int) {k x : Int} (x0 : 0 ≤ x) (x1 : x < k) : nth (lstTo g k) x = g x := by
  unfold nth lstTo
  have : x.toNat < k.toNat := by omega
  simp [List.getD, this, Int.toNat_of_nonneg x0]
/-- prime -/
def priXY (L : List Int) (f x y : Int) : Bool := ib f x || ib f y || !ib f (jn L x y)
def priB (L : List Int) (f : Int) : Bool := !ib f 0 && all2 (num L) (priXY L f)
def pris (L : List Int) (T : List (List Int)) : List Int := (fls L T).filter (priB L)
end Go.Proofs.YtpophjloedpcfaaGreatDoor

/- Plain facts on sets as numbers: what two of them have, how many they have, the greatest ones; nothing of the program. -/
namespace Go.Proofs.YtpophjloedpcfaaGreatDoor
/-- what both sets have -/
def an (a b : Int) : Int := ((a.toNat &&& b.toNat : Nat) : Int)
theorem an_0 (a b : Int) : 0 ≤ an a b := by unfold an; omega
theorem an_le1 (a b : Int) (h : 0 ≤ a) : an a b ≤ a := by
  unfold an; have := Nat.and_le_left (n := a.toNat) (m := b.toNat); omega
theorem an_le2 (a b : Int) (h : 0 ≤ b) : an a b ≤ b := by
  unfold an; have := Nat.and_le_right (n := a.toNat) (m := b.toNat); omega
theorem an_comm (a b : Int) : an a b = an b a := by unfold an; rw [Nat.and_comm]
theorem an_assoc (a b c : Int) : an (an a b) c = an a (an b c) := by
  unfold an; rw [Int.toNat_natCast, Int.toNat_natCast, Nat.and_assoc]
theorem an_self (a : Int) (h : 0 ≤ a) : an a a = a := by unfold an; rw [Nat.and_self]; omega
theorem ib_nat (a x : Nat) : ib (a : Int) (x : Int) = a.testBit x := by
  unfold ib bt
  rw [Nat.testBit_eq_decide_div_mod_eq, pw_nat]
  have e : ((a : Int) / 2 ^ x % 2) = ((a / 2 ^ x % 2 : Nat) : Int) := by simp
  rw [e, Bool.eq_iff_iff, beq_iff_eq, decide_eq_true_eq]
  omega
theorem an_ib (a b x : Int) (ha : 0 ≤ a) (hb : 0 ≤ b) (hx : 0 ≤ x) : ib (an a b) x = (ib a x && ib b x) := by
  obtain ⟨a, rfl⟩ := Int.eq_ofNat_of_zero_le ha
  obtain ⟨b, rfl⟩ := Int.eq_ofNat_of_zero_le hb
  obtain ⟨x, rfl⟩ := Int.eq_ofNat_of_zero_le hx
  unfold an
  rw [ib_nat, ib_nat, ib_nat, Int.toNat_natCast, Int.toNat_natCast, Nat.testBit_and]
/-- f has all of g -/
def hasA (f g : Int) : Bool := an f g == g
theorem hasA_refl (f : Int) (h : 0 ≤ f) : hasA f f = true := by unfold hasA; rw [an_self f h]; simp
theorem hasA_anti {f g : Int} (h1 : hasA f g = true) (h2 : hasA g f = true) : f = g := by
  unfold hasA at h1 h2; rw [beq_iff_eq] at h1 h2
  rw [an_comm] at h2; rw [← h1]; exact h2.symm
theorem hasA_trans {f g k : Int} (h1 : hasA f g = true) (h2 : hasA g k = true) : hasA f k = true := by
  unfold hasA at *; rw [beq_iff_eq] at *
  rw [← h2, ← an_assoc, h1]
/-- what all have -/
def com (n : Int) (sets : List Int) : Int := sets.foldl an (pw n - 1)
theorem foldl_an : ∀ (sets : List Int) (a m : Int), 0 ≤ a → a ≤ m → 0 ≤ sets.foldl an a ∧ sets.foldl an a ≤ m
  | [], _, _, h0, h1 => ⟨h0, h1⟩
  | s :: l, a, m, h0, h1 => foldl_an l (an a s) m (an_0 _ _) (Int.le_trans (an_le1 a s h0) h1)
theorem com_range (n : Int) (sets : List Int) : 0 ≤ com n sets ∧ com n sets ≤ pw n - 1 := by
  have := pw_pos n
  exact foldl_an sets _ _ (by omega) (Int.le_refl _)
theorem com_succ (n : Int) (sets : List Int) (s : Int) : com n (sets ++ [s]) = an (com n sets) s := by unfold com; rw [List.foldl_append]; rfl
theorem foldl_ib (x : Int) (hx : 0 ≤ x) : ∀ (sets : List Int) (a : Int), 0 ≤ a → ib a x = true → (∀ s ∈ sets, 0 ≤ s ∧ ib s x = true) → ib (sets.foldl an a) x = true
  | [], _, _, h, _ => h
  | s :: l, a, h0, h, hs => by
    have := hs s (List.mem_cons_self ..)
    exact foldl_ib x hx l (an a s) (an_0 _ _) (by rw [an_ib a s x h0 this.1 hx, h, this.2]; rfl) fun t ht => hs t (List.mem_cons_of_mem _ ht)
theorem full_ib {n x : Int} (hx : 0 ≤ x) (h : x < n) : ib (pw n - 1) x = true := by
  obtain ⟨m, rfl⟩ := Int.eq_ofNat_of_zero_le (show 0 ≤ n by omega)
  obtain ⟨y, rfl⟩ := Int.eq_ofNat_of_zero_le hx
  have e : pw (m : Int) - 1 = ((2 ^ m - 1 : Nat) : Int) := by
    rw [pw_nat]
    have : 1 ≤ 2 ^ m := Nat.one_le_two_pow
    rw [Int.natCast_sub this]; simp
  rw [e, ib_nat, Nat.testBit_two_pow_sub_one]
  simpa using h
theorem com_ib {n x : Int} {sets : List Int} (hx : 0 ≤ x) (h : x < n) (hs : ∀ s ∈ sets, 0 ≤ s ∧ ib s x = true) : ib (com n sets) x = true :=
  foldl_ib x hx sets _ (by have := pw_pos n; omega) (full_ib hx h) hs
/-- the filter that a set makes -/
def genI (L : List Int) (T : List (List Int)) (set : Int) : Int := com (num L) ((fls L T).filter fun f => hasA f set)
def filByI (L : List Int) (T : List (List Int)) (set : Int) : Int := if algB L T && setB L set then genI L T set else -1
/-- the greatest filters -/
def grQ (L : List Int) (T : List (List Int)) (f : Int) : Bool := !ib f 0 && (fls L T).all fun g => ib g 0 || g == f || !hasA g f
def grs (L : List Int) (T : List (List Int)) : List Int := (fls L T).filter (grQ L T)
/-- how many elements a set has -/
def wtN : Nat → Int → Int
  | 0, _ => 0
  | k + 1, x => x % 2 + wtN k (x / 2)
def wt (x : Int) : Int := wtN 6 x
theorem wtN_zero : ∀ k, wtN k 0 = 0
  | 0 => rfl
  | k + 1 => by show (0 : Int) % 2 + wtN k (0 / 2) = 0; rw [Int.zero_ediv, wtN_zero k]; rfl
theorem wt_fin : ∀ n : Fin 6, ∀ f : Fin 64, f.val < 2 ^ (n.val + 1) → f.val.testBit n.val = true → (decide (wtN 6 (f.val : Int) > 1) = decide (f.val ≠ 2 ^ n.val)) := by decide +kernel
theorem wt_alone {n f : Int} (n1 : 1 ≤ n) (n6 : n ≤ 6) (f0 : 0 ≤ f) (f1 : f < pw n) (h : ib f (n - 1) = true) : (1 < wt f ↔ f ≠ pw (n - 1)) := by
  obtain ⟨m, hm⟩ := Int.eq_ofNat_of_zero_le (show 0 ≤ n - 1 by omega)
  obtain ⟨g, rfl⟩ := Int.eq_ofNat_of_zero_le f0
  rw [hm] at h ⊢
  rw [ib_nat] at h
  have e : pw n = ((2 ^ (m + 1) : Nat) : Int) := by rw [show n = ((m + 1 : Nat) : Int) by omega, pw_nat]; simp
  rw [e] at f1
  have f1' : g < 2 ^ (m + 1) := by exact_mod_cast f1
  have h64 : g < 64 := Nat.lt_of_lt_of_le f1' (Nat.pow_le_pow_right (n := 2) (by decide) (show m + 1 ≤ 6 by omega))
  have := wt_fin ⟨m, by omega⟩ ⟨g, h64⟩ f1' h
  rw [decide_eq_decide] at this
  rw [pw_nat]
  unfold wt
  have e2 : ((2 : Int) ^ m) = ((2 ^ m : Nat) : Int) := by simp
  rw [e2]
  exact ⟨fun h1 h2 => this.1 h1 (by exact_mod_cast h2), fun h1 => this.2 fun h2 => h1 (by exact_mod_cast h2)⟩
/-- the heart -/
def hrtC (L : List Int) (T : List (List Int)) : Int := com (num L) ((fls L T).filter fun f => f != pw (num L - 1))
def hrtS (L : List Int) (T : List (List Int)) : Int := com (num L) ((fls L T).filter fun f => decide (1 < wt f))
theorem fls_parts {L : List Int} {T : List (List Int)} {f : Int} (h : f ∈ fls L T) : 0 ≤ f ∧ f < pw (num L) ∧ ib f (num L - 1) = true := by
  have := fls_mem.1 h
  have h2 := this.2.2
  unfold filB at h2; rw [Bool.and_eq_true] at h2
  exact ⟨this.1, this.2.1, h2.1⟩
theorem hrt_eq {L : List Int} {T : List (List Int)} (h : latB L = true) : hrtS L T = hrtC L T := by
  have hl := lat_len h
  unfold hrtS hrtC
  congr 1
  refine List.filter_congr fun f hf => ?_
  obtain ⟨f0, f1, fi⟩ := fls_parts hf
  have := wt_alone hl.1 hl.2 f0 f1 fi
  rw [Bool.eq_iff_iff, decide_eq_true_eq, bne_iff_ne]; exact this
def hrtB (L : List Int) (T : List (List Int)) : Bool := algB L T && (hrtC L T != pw (num L - 1))
def hrtI (L : List Int) (T : List (List Int)) : Int := if hrtB L T then hrtC L T else 0
theorem hrt_wt {L : List Int} {T : List (List Int)} (h : latB L = true) : wt (hrtC L T) < 2 ↔ hrtC L T = pw (num L - 1) := by
  have hl := lat_len h
  have hr := com_range (num L) ((fls L T).filter fun f => f != pw (num L - 1))
  have hi : ib (hrtC L T) (num L - 1) = true := com_ib (by omega) (by omega) fun s hs => by
    have := fls_parts (List.mem_filter.1 hs).1
    exact ⟨this.1, this.2.2⟩
  have := wt_alone hl.1 hl.2 hr.1 (by omega) hi
  unfold hrtC at *
  constructor
  · intro h1; exact Classical.byContradiction fun h2 => by have := this.2 h2; omega
  · intro h1
    refine Classical.byContradiction fun h2 => ?_
    exact this.1 (by omega) h1
/-- the elements that all greatest filters have -/
def radC (L : List Int) (T : List (List Int)) : Int := com (num L) (grs L T)
def radI (L : List Int) (T : List (List Int)) : Int := if algB L T then radC L T else -1
end Go.Proofs.YtpophjloedpcfaaGreatDoor
