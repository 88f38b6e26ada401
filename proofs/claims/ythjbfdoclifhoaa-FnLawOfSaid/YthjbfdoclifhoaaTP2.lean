import Derived.Test.YthjbfdoclifhoaaTM5
import Derived.Test.YthjbfdoclifhoaaTP1
namespace Go.Proofs.Ythjbfdoclifhoaa

/-! Elements for the names, in order. -/
/-- the first of some -/
def fsI {α : Type} : Nat → (Int → Option α) → Option α
  | 0, _ => none
  | k + 1, f => match fsI k f with | some a => some a | none => f k
theorem fsI_none {α : Type} : ∀ {k : Nat} {f : Int → Option α}, (∀ i : Int, 0 ≤ i → i < k → f i = none) → fsI k f = none
  | 0, _, _ => rfl
  | k + 1, f, h => by
    show (match fsI k f with | some a => some a | none => f k) = none
    rw [fsI_none (fun i i0 i1 => h i i0 (by omega))]
    exact h k (by omega) (by omega)
theorem fsI_some {α : Type} : ∀ {k : Nat} {f : Int → Option α} {i : Int} {a : α}, 0 ≤ i → i < k → f i = some a → (∀ j : Int, 0 ≤ j → j < i → f j = none) → fsI k f = some a
  | 0, _, i, _, h0, h1, _, _ => by omega
  | k + 1, f, i, a, h0, h1, h, hj => by
    show (match fsI k f with | some a => some a | none => f k) = some a
    by_cases e : i < k
    · rw [fsI_some h0 e h hj]
    · have e : i = k := by omega
      subst e
      rw [fsI_none (fun j j0 j1 => hj j j0 j1)]
      exact h
def f3z (p : List Int → Bool) (x y z : Int) : Option (List Int) := if p [x, y, z] then some [x, y, z] else none
def f3y (n : Nat) (p : List Int → Bool) (x y : Int) : Option (List Int) := fsI n (f3z p x y)
def f3x (n : Nat) (p : List Int → Bool) (x : Int) : Option (List Int) := fsI n (f3y n p x)
/-- the first elements for the names that pass -/
def f3 (n : Nat) (p : List Int → Bool) : Option (List Int) := fsI n (f3x n p)
theorem f3z_none {p : List Int → Bool} {x y z : Int} (h : p [x, y, z] = false) : f3z p x y z = none := by unfold f3z; rw [h]; rfl
theorem f3z_some {p : List Int → Bool} {x y z : Int} (h : p [x, y, z] = true) : f3z p x y z = some [x, y, z] := by unfold f3z; rw [h]; rfl
theorem fsI_is {α : Type} : ∀ {k : Nat} {f : Int → Option α} {a : α}, fsI k f = some a → ∃ i : Int, 0 ≤ i ∧ i < k ∧ f i = some a
  | 0, _, _, h => by cases h
  | k + 1, f, a, h => by
    have h' : (match fsI k f with | some a => some a | none => f k) = some a := h
    cases e : fsI k f with
    | some b =>
      rw [e] at h'
      injection h' with h'
      subst h'
      obtain ⟨i, i0, i1, hi⟩ := fsI_is e
      exact ⟨i, i0, by omega, hi⟩
    | none => rw [e] at h'; exact ⟨k, by omega, by omega, h'⟩
theorem f3_is {n : Nat} {p : List Int → Bool} {v : List Int} (h : f3 n p = some v) : ∃ x y z : Int, 0 ≤ x ∧ x < n ∧ 0 ≤ y ∧ y < n ∧ 0 ≤ z ∧ z < n ∧ v = [x, y, z] ∧ p v = true := by
  obtain ⟨x, x0, x1, h⟩ := fsI_is h
  obtain ⟨y, y0, y1, h⟩ := fsI_is h
  obtain ⟨z, z0, z1, h⟩ := fsI_is h
  unfold f3z at h
  split at h
  · rename_i hp
    injection h with h
    subst h
    exact ⟨x, y, z, x0, x1, y0, y1, z0, z1, rfl, hp⟩
  · cases h
/-- the elements with a number -/
def tr3 (n i : Int) : List Int := [i / (n * n), i / n % n, i % n]
theorem tr3_len (n i : Int) : (tr3 n i).length = 3 := rfl
theorem tr3_of {n x y z : Int} (n1 : 1 ≤ n) (n6 : n ≤ 6) (x0 : 0 ≤ x) (x1 : x < n) (y0 : 0 ≤ y) (y1 : y < n) (z0 : 0 ≤ z) (z1 : z < n) : tr3 n ((x * n + y) * n + z) = [x, y, z] ∧ 0 ≤ (x * n + y) * n + z ∧ (x * n + y) * n + z < n * n * n := by
  have : n = 1 ∨ n = 2 ∨ n = 3 ∨ n = 4 ∨ n = 5 ∨ n = 6 := by omega
  unfold tr3
  rcases this with rfl | rfl | rfl | rfl | rfl | rfl
  all_goals
    refine ⟨?_, by omega, by omega⟩
    congr 1
    · omega
    · congr 1
      · omega
      · congr 1
        omega
theorem tr3_in {n i : Int} (n1 : 1 ≤ n) (n6 : n ≤ 6) (i0 : 0 ≤ i) (i1 : i < n * n * n) : 0 ≤ i / (n * n) ∧ i / (n * n) < n ∧ 0 ≤ i / n % n ∧ i / n % n < n ∧ 0 ≤ i % n ∧ i % n < n ∧ i = ((i / (n * n)) * n + i / n % n) * n + i % n := by
  have : n = 1 ∨ n = 2 ∨ n = 3 ∨ n = 4 ∨ n = 5 ∨ n = 6 := by omega
  rcases this with rfl | rfl | rfl | rfl | rfl | rfl
  all_goals omega
theorem tr3_parts {n i : Int} (n1 : 1 ≤ n) (n6 : n ≤ 6) (i0 : 0 ≤ i) (i1 : i < n * n * n) : ∃ x y z : Int, 0 ≤ x ∧ x < n ∧ 0 ≤ y ∧ y < n ∧ 0 ≤ z ∧ z < n ∧ i = (x * n + y) * n + z ∧ tr3 n i = [x, y, z] := by
  obtain ⟨x0, x1, y0, y1, z0, z1, e⟩ := tr3_in n1 n6 i0 i1
  exact ⟨_, _, _, x0, x1, y0, y1, z0, z1, e, rfl⟩
theorem f3_first {n : Nat} {p : List Int → Bool} {i : Int} (n1 : 1 ≤ n) (n6 : n ≤ 6) (i0 : 0 ≤ i) (i1 : i < (n : Int) * n * n) (hp : p (tr3 n i) = true) (hj : ∀ j : Int, 0 ≤ j → j < i → p (tr3 n j) = false) : f3 n p = some (tr3 n i) := by
  obtain ⟨x, y, z, x0, x1, y0, y1, z0, z1, e, ht⟩ := tr3_parts (n := n) (by omega) (by omega) i0 i1
  rw [ht] at hp ⊢
  have less : ∀ a b c : Int, 0 ≤ a → a < n → 0 ≤ b → b < n → 0 ≤ c → c < n → (a < x ∨ (a = x ∧ (b < y ∨ (b = y ∧ c < z)))) → p [a, b, c] = false := fun a b c a0 a1 b0 b1 c0 c1 hl => by
    obtain ⟨t1, t2, t3⟩ := tr3_of (n := (n : Int)) (by omega) (by omega) a0 a1 b0 b1 c0 c1
    rw [← t1]
    refine hj _ t2 ?_
    rw [e]
    have : n = 1 ∨ n = 2 ∨ n = 3 ∨ n = 4 ∨ n = 5 ∨ n = 6 := by omega
    rcases this with rfl | rfl | rfl | rfl | rfl | rfl
    all_goals omega
  refine fsI_some x0 x1 (fsI_some y0 y1 (fsI_some z0 z1 (f3z_some hp) ?_) ?_) ?_
  · exact fun c c0 c1 => f3z_none (less x y c x0 x1 y0 y1 c0 (by omega) (.inr ⟨rfl, .inr ⟨rfl, c1⟩⟩))
  · exact fun b b0 b1 => fsI_none fun c c0 c1 => f3z_none (less x b c x0 x1 b0 (by omega) c0 c1 (.inr ⟨rfl, .inl b1⟩))
  · exact fun a a0 a1 => fsI_none fun b b0 b1 => fsI_none fun c c0 c1 => f3z_none (less a b c a0 (by omega) b0 b1 c0 c1 (.inl a1))
theorem f3_never {n : Nat} {p : List Int → Bool} (n1 : 1 ≤ n) (n6 : n ≤ 6) (hj : ∀ j : Int, 0 ≤ j → j < (n : Int) * n * n → p (tr3 n j) = false) : f3 n p = none :=
  fsI_none fun a a0 a1 => fsI_none fun b b0 b1 => fsI_none fun c c0 c1 => f3z_none (by
    obtain ⟨t1, t2, t3⟩ := tr3_of (n := (n : Int)) (by omega) (by omega) a0 a1 b0 b1 c0 c1
    rw [← t1]
    exact hj _ t2 t3)
theorem f3_none {n : Nat} {p : List Int → Bool} : f3 n p = none ↔ ∀ x y z : Int, 0 ≤ x → x < n → 0 ≤ y → y < n → 0 ≤ z → z < n → p [x, y, z] = false := by
  refine ⟨fun h x y z x0 x1 y0 y1 z0 z1 => ?_, fun h => fsI_none fun a a0 a1 => fsI_none fun b b0 b1 => fsI_none fun c c0 c1 => f3z_none (h a b c a0 a1 b0 b1 c0 c1)⟩
  have one : ∀ {α : Type} (k : Nat) (f : Int → Option α), fsI k f = none → ∀ i : Int, 0 ≤ i → i < k → f i = none := by
    intro α k
    induction k with
    | zero => intro f _ i i0 i1; omega
    | succ k ih =>
      intro f h i i0 i1
      have h' : (match fsI k f with | some a => some a | none => f k) = none := h
      cases e : fsI k f with
      | some b => rw [e] at h'; cases h'
      | none =>
        rw [e] at h'
        by_cases hi : i < k
        · exact ih f e i i0 hi
        · have : i = k := by omega
          rw [this]; exact h'
  have h1 := one _ _ (one _ _ (one _ _ h x x0 x1) y y0 y1) z z0 z1
  cases hp : p [x, y, z] with
  | false => rfl
  | true => rw [f3z_some hp] at h1; cases h1
theorem f3_congr {n : Nat} {p q : List Int → Bool} (h : ∀ x y z : Int, 0 ≤ x → x < n → 0 ≤ y → y < n → 0 ≤ z → z < n → p [x, y, z] = q [x, y, z]) : f3 n p = f3 n q := by
  have cg : ∀ {α : Type} (k : Nat) (f g : Int → Option α), (∀ i : Int, 0 ≤ i → i < k → f i = g i) → fsI k f = fsI k g := by
    intro α k
    induction k with
    | zero => intro f g _; rfl
    | succ k ih =>
      intro f g h
      show (match fsI k f with | some a => some a | none => f k) = (match fsI k g with | some a => some a | none => g k)
      rw [ih f g (fun i i0 i1 => h i i0 (by omega)), h k (by omega) (by omega)]
  refine cg _ _ _ fun x x0 x1 => cg _ _ _ fun y y0 y1 => cg _ _ _ fun z z0 z1 => ?_
  unfold f3z
  rw [h x y z x0 x1 y0 y1 z0 z1]
/-- the lists of elements for k names, in order -/
def asnT (n : Nat) : Nat → List (List Int)
  | 0 => [[]]
  | k + 1 => (asnT n k).flatMap fun r => (List.range n).map fun (x : Nat) => r ++ [(x : Int)]
theorem fm_len (n : Nat) : ∀ S : List (List Int), (S.flatMap fun r => (List.range n).map fun (x : Nat) => r ++ [(x : Int)]).length = S.length * n
  | [] => by simp
  | r :: S => by rw [List.flatMap_cons, List.length_append, fm_len n S, List.length_cons, Nat.succ_mul]; simp; omega
theorem asnT_len (n k : Nat) : (asnT n k).length = n ^ k := by
  induction k with
  | zero => rfl
  | succ k ih =>
    show ((asnT n k).flatMap _).length = _
    rw [fm_len, ih, Nat.pow_succ]
/-- as far as they are laid -/
def asnP (n : Nat) (S : List (List Int)) (i : Nat) : List (List Int) := (S.take i).flatMap fun r => (List.range n).map fun (x : Nat) => r ++ [(x : Int)]
def asnQ (n : Nat) (S : List (List Int)) (i x : Nat) : List (List Int) := asnP n S i ++ (List.range x).map fun (x : Nat) => (S.getD i []) ++ [(x : Int)]
theorem asnQ_zero (n : Nat) (S : List (List Int)) (i : Nat) : asnQ n S i 0 = asnP n S i := by unfold asnQ; simp
theorem asnQ_succ (n : Nat) (S : List (List Int)) (i x : Nat) : asnQ n S i (x + 1) = asnQ n S i x ++ [(S.getD i []) ++ [(x : Int)]] := by
  unfold asnQ
  rw [List.range_succ, List.map_append, List.append_assoc]
  rfl
theorem asnQ_all (n : Nat) (S : List (List Int)) (i : Nat) (h : i < S.length) : asnQ n S i n = asnP n S (i + 1) := by
  unfold asnQ asnP
  rw [List.take_add_one, List.flatMap_append, List.getElem?_eq_getElem h, List.getD_eq_getElem?_getD, List.getElem?_eq_getElem h]
  simp
theorem asnP_zero (n : Nat) (S : List (List Int)) : asnP n S 0 = [] := rfl
theorem asnP_all (n : Nat) (S : List (List Int)) : asnP n S S.length = S.flatMap fun r => (List.range n).map fun (x : Nat) => r ++ [(x : Int)] := by unfold asnP; rw [List.take_length]
theorem asnP_len (n : Nat) (S : List (List Int)) (i : Nat) (h : i ≤ S.length) : (asnP n S i).length = i * n := by
  unfold asnP
  rw [fm_len, List.length_take, Nat.min_eq_left h]
theorem asnQ_len (n : Nat) (S : List (List Int)) (i x : Nat) (h : i ≤ S.length) : (asnQ n S i x).length = i * n + x := by
  unfold asnQ
  rw [List.length_append, asnP_len n S i h]
  simp
theorem asnT_row (n : Nat) (n1 : 1 ≤ n) (n6 : n ≤ 6) (i : Nat) (hi : i < n * n * n) : (asnT n 3).getD i [] = tr3 n i := by
  have : n = 1 ∨ n = 2 ∨ n = 3 ∨ n = 4 ∨ n = 5 ∨ n = 6 := by omega
  rcases this with rfl | rfl | rfl | rfl | rfl | rfl
  · exact (by decide +kernel : ∀ i : Fin (1 * 1 * 1), (asnT 1 3).getD i.1 [] = tr3 (1 : Nat) i.1) ⟨i, hi⟩
  · exact (by decide +kernel : ∀ i : Fin (2 * 2 * 2), (asnT 2 3).getD i.1 [] = tr3 (2 : Nat) i.1) ⟨i, hi⟩
  · exact (by decide +kernel : ∀ i : Fin (3 * 3 * 3), (asnT 3 3).getD i.1 [] = tr3 (3 : Nat) i.1) ⟨i, hi⟩
  · exact (by decide +kernel : ∀ i : Fin (4 * 4 * 4), (asnT 4 3).getD i.1 [] = tr3 (4 : Nat) i.1) ⟨i, hi⟩
  · exact (by decide +kernel : ∀ i : Fin (5 * 5 * 5), (asnT 5 3).getD i.1 [] = tr3 (5 : Nat) i.1) ⟨i, hi⟩
  · exact (by decide +kernel : ∀ i : Fin (6 * 6 * 6), (asnT 6 3).getD i.1 [] = tr3 (6 : Nat) i.1) ⟨i, hi⟩
end Go.Proofs.Ythjbfdoclifhoaa
