import Derived.Test.YtpfnfglaokiipabM1
/- Plain facts on tables of products; nothing of the program. -/
namespace Go.Proofs.Ytpfnfglaokiipab
/-- row x of a table, and the number at y of it -/
def rowAt (T : List (List Int)) (x : Int) : List Int := T.getD x.toNat []
def tv (T : List (List Int)) (x y : Int) : Int := nth (rowAt T x) y
theorem rowAt_get (T : List (List Int)) (j : Nat) (h : j < T.length) : rowAt T j = T[j] := by
  unfold rowAt; simp [h]
theorem rowAt_nat (T : List (List Int)) (x : Int) (h0 : 0 ≤ x) (h : x < T.length) : rowAt T x = T[x.toNat]'(by omega) := by
  have : x.toNat < T.length := by omega
  unfold rowAt; simp [this]
def cellOk (L : List Int) (T : List (List Int)) (x y : Int) : Bool := decide (0 ≤ tv T x y) && decide (tv T x y ≤ num L - 1)
def rowOk (L : List Int) (T : List (List Int)) (x : Int) : Bool := decide (((rowAt T x).length : Int) = num L) && allI (num L) (cellOk L T x)
def shapeB (L : List Int) (T : List (List Int)) : Bool := decide ((T.length : Int) = num L) && allI (num L) (rowOk L T)
def asQ (T : List (List Int)) (x y z : Int) : Bool := tv T (tv T x y) z == tv T x (tv T y z)
def goQ (L : List Int) (T : List (List Int)) (x y z : Int) : Bool := tv T x (jn L y z) == jn L (tv T x y) (tv T x z)
def lwXYZ (L : List Int) (T : List (List Int)) (x y z : Int) : Bool := asQ T x y z && goQ L T x y z
def lwXY (L : List Int) (T : List (List Int)) (x y : Int) : Bool := tv T x y == tv T y x && allI (num L) (lwXYZ L T x y)
def lwX (L : List Int) (T : List (List Int)) (x : Int) : Bool := (tv T x (num L - 1) == x && tv T x 0 == 0) && allI (num L) (lwXY L T x)
def algB (L : List Int) (T : List (List Int)) : Bool := latB L && (shapeB L T && allI (num L) (lwX L T))

theorem shape_len {L : List Int} {T : List (List Int)} (h : shapeB L T = true) : (T.length : Int) = num L := by
  unfold shapeB at h; rw [Bool.and_eq_true, decide_eq_true_eq] at h; exact h.1
theorem shape_row {L : List Int} {T : List (List Int)} (h : shapeB L T = true) {x : Int} (x0 : 0 ≤ x) (x1 : x < num L) : ((rowAt T x).length : Int) = num L := by
  unfold shapeB at h; rw [Bool.and_eq_true] at h
  have := (allI_iff _ _).1 h.2 x x0 x1
  unfold rowOk at this; rw [Bool.and_eq_true, decide_eq_true_eq] at this; exact this.1
theorem shape_cell {L : List Int} {T : List (List Int)} (h : shapeB L T = true) {x y : Int} (x0 : 0 ≤ x) (x1 : x < num L) (y0 : 0 ≤ y) (y1 : y < num L) : 0 ≤ tv T x y ∧ tv T x y < num L := by
  unfold shapeB at h; rw [Bool.and_eq_true] at h
  have := (allI_iff _ _).1 h.2 x x0 x1
  unfold rowOk at this; rw [Bool.and_eq_true] at this
  have := (allI_iff _ _).1 this.2 y y0 y1
  unfold cellOk at this; rw [Bool.and_eq_true, decide_eq_true_eq, decide_eq_true_eq] at this
  omega
theorem shape_f_len {L : List Int} {T : List (List Int)} (h : (T.length : Int) ≠ num L) : shapeB L T = false := by
  unfold shapeB; rw [decide_eq_false h]; rfl
theorem shape_f_row {L : List Int} {T : List (List Int)} {x : Int} (x0 : 0 ≤ x) (x1 : x < num L) (h : rowOk L T x = false) : shapeB L T = false := by
  unfold shapeB; rw [allI_false x x0 x1 h]; simp
theorem rowOk_f_len {L : List Int} {T : List (List Int)} {x : Int} (h : ((rowAt T x).length : Int) ≠ num L) : rowOk L T x = false := by
  unfold rowOk; rw [decide_eq_false h]; rfl
theorem rowOk_f_cell {L : List Int} {T : List (List Int)} {x y : Int} (y0 : 0 ≤ y) (y1 : y < num L) (h : cellOk L T x y = false) : rowOk L T x = false := by
  unfold rowOk; rw [allI_false y y0 y1 h]; simp
theorem rowOk_t {L : List Int} {T : List (List Int)} {x m : Int} (h : ((rowAt T x).length : Int) = num L) (hm : num L ≤ m) (ha : AllTo m (cellOk L T x)) : rowOk L T x = true := by
  unfold rowOk; rw [decide_eq_true h, ha.all hm]; rfl
theorem shape_t {L : List Int} {T : List (List Int)} {m : Int} (h : (T.length : Int) = num L) (hm : num L ≤ m) (ha : AllTo m (rowOk L T)) : shapeB L T = true := by
  unfold shapeB; rw [decide_eq_true h, ha.all hm]; rfl
theorem lwXYZ_f1 {L : List Int} {T : List (List Int)} {x y z : Int} (h : asQ T x y z = false) : lwXYZ L T x y z = false := by unfold lwXYZ; rw [h]; rfl
theorem lwXYZ_f2 {L : List Int} {T : List (List Int)} {x y z : Int} (h : goQ L T x y z = false) : lwXYZ L T x y z = false := by unfold lwXYZ; rw [h]; simp
theorem lwXY_f1 {L : List Int} {T : List (List Int)} {x y : Int} (h : (tv T x y == tv T y x) = false) : lwXY L T x y = false := by unfold lwXY; rw [h]; rfl
theorem lwXY_f2 {L : List Int} {T : List (List Int)} {x y z : Int} (z0 : 0 ≤ z) (z1 : z < num L) (h : lwXYZ L T x y z = false) : lwXY L T x y = false := by unfold lwXY; rw [allI_false z z0 z1 h]; simp
theorem lwX_f1 {L : List Int} {T : List (List Int)} {x : Int} (h : (tv T x (num L - 1) == x && tv T x 0 == 0) = false) : lwX L T x = false := by unfold lwX; rw [h]; rfl
theorem lwX_f2 {L : List Int} {T : List (List Int)} {x y : Int} (y0 : 0 ≤ y) (y1 : y < num L) (h : lwXY L T x y = false) : lwX L T x = false := by unfold lwX; rw [allI_false y y0 y1 h]; simp
theorem lwXY_t {L : List Int} {T : List (List Int)} {x y m : Int} (h : (tv T x y == tv T y x) = true) (hm : num L ≤ m) (ha : AllTo m (lwXYZ L T x y)) : lwXY L T x y = true := by unfold lwXY; rw [h, ha.all hm]; rfl
theorem lwX_t {L : List Int} {T : List (List Int)} {x m : Int} (h : (tv T x (num L - 1) == x && tv T x 0 == 0) = true) (hm : num L ≤ m) (ha : AllTo m (lwXY L T x)) : lwX L T x = true := by unfold lwX; rw [h, ha.all hm]; rfl
theorem algB_f0 {L : List Int} {T : List (List Int)} (h : latB L = false) : algB L T = false := by unfold algB; rw [h]; rfl
theorem algB_f1 {L : List Int} {T : List (List Int)} (h : shapeB L T = false) : algB L T = false := by unfold algB; rw [h]; simp
theorem algB_f2 {L : List Int} {T : List (List Int)} {x : Int} (x0 : 0 ≤ x) (x1 : x < num L) (h : lwX L T x = false) : algB L T = false := by unfold algB; rw [allI_false x x0 x1 h]; simp
theorem algB_t {L : List Int} {T : List (List Int)} {m : Int} (h : latB L = true) (h2 : shapeB L T = true) (hm : num L ≤ m) (ha : AllTo m (lwX L T)) : algB L T = true := by unfold algB; rw [h, h2, ha.all hm]; rfl
theorem algB_parts {L : List Int} {T : List (List Int)} (h : algB L T = true) : latB L = true ∧ shapeB L T = true ∧ AllTo (num L) (lwX L T) := by
  unfold algB at h; rw [Bool.and_eq_true, Bool.and_eq_true] at h
  exact ⟨h.1, h.2.1, (allI_iff _ _).1 h.2.2⟩
theorem lat_len {L : List Int} (h : latB L = true) : 1 ≤ num L ∧ num L ≤ 6 := by
  unfold latB at h; rw [Bool.and_eq_true] at h
  have := h.1
  unfold voB at this; simp only [Bool.and_eq_true, decide_eq_true_eq] at this
  exact ⟨this.1.1.1, this.1.1.2⟩
theorem lat_jn {L : List Int} (h : latB L = true) {x y : Int} (x0 : 0 ≤ x) (x1 : x < num L) (y0 : 0 ≤ y) (y1 : y < num L) : 0 ≤ jn L x y ∧ jn L x y < num L := by
  have hp : 0 ≤ jn L x y := by
    unfold latB at h; rw [Bool.and_eq_true] at h
    have := (allI_iff _ _).1 ((allI_iff _ _).1 h.2 x x0 x1) y y0 y1
    unfold latXY at this
    simp only [Bool.not_eq_true', Bool.or_eq_false_iff, decide_eq_false_iff_not] at this
    omega
  refine ⟨hp, ?_⟩
  unfold jn at hp ⊢
  rcases firstI_cases (num L) (isJoinB L x y) with ⟨e, _⟩ | ⟨_, h1, _⟩
  · omega
  · exact h1
theorem lat_mt {L : List Int} (h : latB L = true) {x y : Int} (x0 : 0 ≤ x) (x1 : x < num L) (y0 : 0 ≤ y) (y1 : y < num L) : 0 ≤ mt L x y ∧ mt L x y < num L := by
  have hp : 0 ≤ mt L x y := by
    unfold latB at h; rw [Bool.and_eq_true] at h
    have := (allI_iff _ _).1 ((allI_iff _ _).1 h.2 x x0 x1) y y0 y1
    unfold latXY at this
    simp only [Bool.not_eq_true', Bool.or_eq_false_iff, decide_eq_false_iff_not] at this
    omega
  refine ⟨hp, ?_⟩
  unfold mt at hp ⊢
  rcases firstI_cases (num L) (isMeetB L x y) with ⟨e, _⟩ | ⟨_, h1, _⟩
  · omega
  · exact h1
/-- the implication, up to an element -/
def impN (L : List Int) (T : List (List Int)) (x y : Int) : Nat → Int
  | 0 => 0
  | k + 1 => if bl L (tv T x k) y then jn L (impN L T x y k) k else impN L T x y k
def impTo (L : List Int) (T : List (List Int)) (x y k : Int) : Int := impN L T x y k.toNat
def imp (L : List Int) (T : List (List Int)) (x y : Int) : Int := impTo L T x y (num L)
theorem impTo_zero (L : List Int) (T : List (List Int)) (x y : Int) : impTo L T x y 0 = 0 := rfl
theorem impTo_succ (L : List Int) (T : List (List Int)) (x y : Int) {k : Int} (h : 0 ≤ k) : impTo L T x y (k + 1) = if bl L (tv T x k) y then jn L (impTo L T x y k) k else impTo L T x y k := by
  unfold impTo
  rw [show (k + 1).toNat = k.toNat + 1 by omega]
  show (if bl L (tv T x (k.toNat : Int)) y then jn L (impN L T x y k.toNat) (k.toNat : Int) else impN L T x y k.toNat) = _
  rw [Int.toNat_of_nonneg h]
theorem impTo_t {L : List Int} {T : List (List Int)} {x y k : Int} (h : 0 ≤ k) (hb : bl L (tv T x k) y = true) : impTo L T x y (k + 1) = jn L (impTo L T x y k) k := by rw [impTo_succ _ _ _ _ h, if_pos hb]
theorem impTo_f {L : List Int} {T : List (List Int)} {x y k : Int} (h : 0 ≤ k) (hb : bl L (tv T x k) y = false) : impTo L T x y (k + 1) = impTo L T x y k := by rw [impTo_succ _ _ _ _ h, if_neg (by rw [hb]; decide)]
theorem impN_lt {L : List Int} (T : List (List Int)) (x y : Int) (h : latB L = true) : ∀ k : Nat, (k : Int) ≤ num L → 0 ≤ impN L T x y k ∧ impN L T x y k < num L
  | 0, _ => by have := lat_len h; show (0 : Int) ≤ 0 ∧ (0 : Int) < num L; omega
  | k + 1, hk => by
    have ih := impN_lt T x y h k (by omega)
    show 0 ≤ (if bl L (tv T x k) y then jn L (impN L T x y k) k else impN L T x y k) ∧ (if bl L (tv T x k) y then jn L (impN L T x y k) k else impN L T x y k) < num L
    by_cases hb : bl L (tv T x k) y = true
    · rw [if_pos hb]; exact lat_jn h ih.1 ih.2 (by omega) (by omega)
    · rw [if_neg hb]; exact ih
theorem impTo_lt {L : List Int} (T : List (List Int)) (x y : Int) (h : latB L = true) {k : Int} (k0 : 0 ≤ k) (hk : k ≤ num L) : 0 ≤ impTo L T x y k ∧ impTo L T x y k < num L := impN_lt T x y h k.toNat (by omega)
theorem imp_lt {L : List Int} (T : List (List Int)) (x y : Int) (h : latB L = true) : 0 ≤ imp L T x y ∧ imp L T x y < num L := by
  have := lat_len h; exact impTo_lt T x y h (by omega) (Int.le_refl _)
/-- powers -/
def pwN (L : List Int) (T : List (List Int)) (x : Int) : Nat → Int
  | 0 => num L - 1
  | k + 1 => tv T (pwN L T x k) x
def powr (L : List Int) (T : List (List Int)) (x k : Int) : Int := pwN L T x k.toNat
theorem powr_zero (L : List Int) (T : List (List Int)) (x : Int) : powr L T x 0 = num L - 1 := rfl
theorem powr_succ (L : List Int) (T : List (List Int)) (x : Int) {k : Int} (h : 0 ≤ k) : powr L T x (k + 1) = tv T (powr L T x k) x := by
  unfold powr; rw [show (k + 1).toNat = k.toNat + 1 by omega]; rfl
theorem pwN_lt {L : List Int} {T : List (List Int)} {x : Int} (h : latB L = true) (hs : shapeB L T = true) (x0 : 0 ≤ x) (x1 : x < num L) : ∀ k, 0 ≤ pwN L T x k ∧ pwN L T x k < num L
  | 0 => by have := lat_len h; show 0 ≤ num L - 1 ∧ num L - 1 < num L; omega
  | k + 1 => by have ih := pwN_lt h hs x0 x1 k; exact shape_cell hs ih.1 ih.2 x0 x1
theorem powr_lt {L : List Int} {T : List (List Int)} {x : Int} (h : latB L = true) (hs : shapeB L T = true) (x0 : 0 ≤ x) (x1 : x < num L) (k : Int) : 0 ≤ powr L T x k ∧ powr L T x k < num L := pwN_lt h hs x0 x1 _
/-! the laws as the program tests them -/
/-- the products as an array: nothing past the elements -/
def timG (L : List Int) (T : List (List Int)) (x y : Int) : Int := if x < num L ∧ y < num L then tv T x y else 0
theorem timG_in {L : List Int} {T : List (List Int)} {x y : Int} (hx : x < num L) (hy : y < num L) : timG L T x y = tv T x y := if_pos ⟨hx, hy⟩
def impG (L : List Int) (T : List (List Int)) (x y : Int) : Int := if x < num L ∧ y < num L then imp L T x y else 0
theorem impG_in {L : List Int} {T : List (List Int)} {x y : Int} (hx : x < num L) (hy : y < num L) : impG L T x y = imp L T x y := if_pos ⟨hx, hy⟩
def sbXY (T : List (List Int)) (x y : Int) : Bool := tv T x y == tv T y x
def s3XY (L : List Int) (T : List (List Int)) (x y : Int) : Bool := allI (num L) (asQ T x y)
def kbX (L : List Int) (T : List (List Int)) (x : Int) : Bool := tv T x (num L - 1) == x && tv T x 0 == 0
def goYZ (L : List Int) (T : List (List Int)) (y z : Int) : Bool := allI (num L) fun x => goQ L T x y z
def all2 (n : Int) (p : Int → Int → Bool) : Bool := allI n fun x => allI n (p x)
theorem all2_iff (n : Int) (p : Int → Int → Bool) : all2 n p = true ↔ ∀ x y, 0 ≤ x → x < n → 0 ≤ y → y < n → p x y = true := by
  unfold all2
  rw [allI_iff]
  exact ⟨fun h x y x0 x1 y0 y1 => (allI_iff _ _).1 (h x x0 x1) y y0 y1, fun h x x0 x1 => (allI_iff _ _).2 fun y y0 y1 => h x y x0 x1 y0 y1⟩
def areB (L : List Int) (T : List (List Int)) : Bool := all2 (num L) (sbXY T) && all2 (num L) (s3XY L T) && allI (num L) (kbX L T) && all2 (num L) (goYZ L T)
theorem areB_eq (L : List Int) (T : List (List Int)) : areB L T = allI (num L) (lwX L T) := by
  rw [Bool.eq_iff_iff]
  unfold areB
  simp only [Bool.and_eq_true]
  rw [all2_iff, all2_iff, allI_iff, all2_iff, allI_iff]
  constructor
  · rintro ⟨⟨⟨h1, h2⟩, h3⟩, h4⟩ x x0 x1
    refine lwX_t (m := num L) (h3 x x0 x1) (Int.le_refl _) fun y y0 y1 => ?_
    refine lwXY_t (m := num L) (h1 x y x0 x1 y0 y1) (Int.le_refl _) fun z z0 z1 => ?_
    unfold lwXYZ
    rw [Bool.and_eq_true]
    exact ⟨(allI_iff _ _).1 (h2 x y x0 x1 y0 y1) z z0 z1, (allI_iff _ _).1 (h4 y z y0 y1 z0 z1) x x0 x1⟩
  · intro h
    have p1 : ∀ x, 0 ≤ x → x < num L → kbX L T x = true ∧ allI (num L) (lwXY L T x) = true := fun x x0 x1 => by
      have := h x x0 x1; unfold lwX at this; rwa [Bool.and_eq_true] at this
    have p2 : ∀ x y, 0 ≤ x → x < num L → 0 ≤ y → y < num L → sbXY T x y = true ∧ allI (num L) (lwXYZ L T x y) = true := fun x y x0 x1 y0 y1 => by
      have := (allI_iff _ _).1 (p1 x x0 x1).2 y y0 y1; unfold lwXY at this; rwa [Bool.and_eq_true] at this
    have p3 : ∀ x y z, 0 ≤ x → x < num L → 0 ≤ y → y < num L → 0 ≤ z → z < num L → asQ T x y z = true ∧ goQ L T x y z = true := fun x y z x0 x1 y0 y1 z0 z1 => by
      have := (allI_iff _ _).1 (p2 x y x0 x1 y0 y1).2 z z0 z1; unfold lwXYZ at this; rwa [Bool.and_eq_true] at this
    exact ⟨⟨⟨fun x y x0 x1 y0 y1 => (p2 x y x0 x1 y0 y1).1, fun x y x0 x1 y0 y1 => (allI_iff _ _).2 fun z z0 z1 => (p3 x y z x0 x1 y0 y1 z0 z1).1⟩, fun x x0 x1 => (p1 x x0 x1).1⟩, fun y z y0 y1 z0 z1 => (allI_iff _ _).2 fun x x0 x1 => (p3 x y z x0 x1 y0 y1 z0 z1).2⟩
end Go.Proofs.Ytpfnfglaokiipab
