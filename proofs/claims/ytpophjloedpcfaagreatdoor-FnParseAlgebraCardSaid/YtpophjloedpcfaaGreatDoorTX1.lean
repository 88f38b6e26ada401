import Derived.Test.YtpophjloedpcfaaGreatDoorM5
import Derived.Lib.ItoaNum
import Derived.Lib.Join
namespace Go.Proofs.YtpophjloedpcfaaGreatDoor

/-! Texts: numbers in decimal, lists of numbers, tables. Nothing of the program. -/
theorem ba_ext {a b : ByteArray} (h : a.data.toList = b.data.toList) : a = b := by
  cases a; cases b; simp at h; rw [h]
theorem ba_app (a b : ByteArray) : (a ++ b).data.toList = a.data.toList ++ b.data.toList := by
  rw [ByteArray.data_append, Array.toList_append]
theorem ba_size (a : ByteArray) : a.size = a.data.toList.length := by
  rw [Array.length_toList]; rfl
/-- a number in decimal -/
def dgB (n : Int) : ByteArray := ⟨(Lib.decDigits n.toNat).toArray⟩
theorem dgB_list (n : Int) : (dgB n).data.toList = Lib.decDigits n.toNat := rfl
theorem dgB_two {n : Int} (h : 10 ≤ n) : dgB n = dgB (n / 10) ++ dgB (n % 10) := by
  apply ba_ext
  rw [ba_app, dgB_list, dgB_list, dgB_list, Lib.decDigits, dif_neg (by omega), Lib.decDigits_one (i := (n % 10).toNat) (by omega)]
  rw [show (n / 10).toNat = n.toNat / 10 by omega, show (n % 10).toNat = n.toNat % 10 by omega]
theorem dec_len : ∀ (f u : Nat), u < f → (Lib.decDigits u).length ≤ u + 1
  | 0, _, h => absurd h (by omega)
  | f + 1, u, h => by
    by_cases hu : u < 10
    · rw [Lib.decDigits_one hu]; simp
    · rw [Lib.decDigits, dif_neg hu, List.length_append]
      have := dec_len f (u / 10) (by omega)
      simp only [List.length_cons, List.length_nil]
      omega
theorem dec_len1 {u : Nat} (h : u < 100) : 1 ≤ (Lib.decDigits u).length ∧ (Lib.decDigits u).length ≤ 2 := by
  by_cases hu : u < 10
  · rw [Lib.decDigits_one hu]; simp
  · rw [Lib.decDigits_two hu h]; simp
theorem dgB_size (n : Int) : (dgB n).size ≤ n.toNat + 1 := by
  rw [ba_size, dgB_list]; exact dec_len _ _ (Nat.lt_succ_self _)
theorem dgB_size2 {n : Int} (h : n < 100) : (dgB n).size ≤ 2 := by
  rw [ba_size, dgB_list]; exact (dec_len1 (by omega)).2
/-- the first numbers of a list, with a comma between two of them -/
def ltxN (L : List Int) : Nat → ByteArray
  | 0 => ⟨#[]⟩
  | k + 1 => (if k = 0 then ltxN L k else ltxN L k ++ ⟨#[44]⟩) ++ dgB (nth L k)
theorem ltxN_one (L : List Int) : ltxN L 1 = ltxN L 0 ++ dgB (nth L (0 : Nat)) := rfl
theorem ltxN_next (L : List Int) {k : Nat} (h : k ≠ 0) : ltxN L (k + 1) = ltxN L k ++ ⟨#[44]⟩ ++ dgB (nth L k) := by
  show (if k = 0 then ltxN L k else ltxN L k ++ ⟨#[44]⟩) ++ dgB (nth L k) = _
  rw [if_neg h]
/-- numbers of a row behind a text -/
def appN (p : ByteArray) (R : List Int) : Nat → ByteArray
  | 0 => p
  | k + 1 => appN p R k ++ dgB (nth R k)
/-- the first rows of a table, with a slash between two of them -/
def tbN (T : List (List Int)) : Nat → ByteArray
  | 0 => ⟨#[]⟩
  | k + 1 => appN (if k = 0 then tbN T k else tbN T k ++ ⟨#[47]⟩) (rowAt T k) (rowAt T k).length
theorem tbN_one (T : List (List Int)) : tbN T 1 = appN (tbN T 0) (rowAt T (0 : Nat)) (rowAt T (0 : Nat)).length := rfl
theorem tbN_next (T : List (List Int)) {k : Nat} (h : k ≠ 0) : tbN T (k + 1) = appN (tbN T k ++ ⟨#[47]⟩) (rowAt T k) (rowAt T k).length := by
  show appN (if k = 0 then tbN T k else tbN T k ++ ⟨#[47]⟩) _ _ = _
  rw [if_neg h]
/-- the text of an algebra -/
def atI (L : List Int) (T : List (List Int)) : ByteArray := if algB L T then ltxN L L.length ++ ⟨#[58]⟩ ++ tbN T T.length else ⟨#[]⟩
theorem atI_t {L : List Int} {T : List (List Int)} (h : algB L T = true) : atI L T = ltxN L L.length ++ ⟨#[58]⟩ ++ tbN T T.length := by unfold atI; rw [if_pos h]
theorem atI_f {L : List Int} {T : List (List Int)} (h : algB L T = false) : atI L T = ⟨#[]⟩ := by unfold atI; rw [if_neg (by rw [h]; decide)]
theorem ba_app_size (a b : ByteArray) : (a ++ b).size = a.size + b.size := by rw [ba_size, ba_app, List.length_append, ← ba_size, ← ba_size]
theorem ltxN_size {L : List Int} : ∀ (k : Nat), (∀ j : Nat, j < k → nth L j < 100) → (ltxN L k).size ≤ 3 * k
  | 0, _ => by show (0 : Nat) ≤ _; omega
  | k + 1, h => by
    have ih := ltxN_size k (fun j hj => h j (by omega))
    have hd := dgB_size2 (h k (by omega))
    by_cases e : k = 0
    · subst e; rw [ltxN_one, ba_app_size]; omega
    · rw [ltxN_next _ e, ba_app_size, ba_app_size]
      have : (ByteArray.mk #[44]).size = 1 := rfl
      omega
theorem appN_size {p : ByteArray} {R : List Int} : ∀ (k : Nat), (∀ j : Nat, j < k → nth R j < 100) → (appN p R k).size ≤ p.size + 2 * k
  | 0, _ => by show p.size ≤ _; omega
  | k + 1, h => by
    have ih := appN_size (p := p) k (fun j hj => h j (by omega))
    have hd := dgB_size2 (h k (by omega))
    show (appN p R k ++ dgB (nth R k)).size ≤ _
    rw [ba_app_size]; omega
theorem tbN_size {T : List (List Int)} {n : Nat} (hl : ∀ j : Nat, j < n → (rowAt T j).length ≤ n) (h : ∀ x y : Nat, x < n → y < n → tv T x y < 100) : ∀ (k : Nat), k ≤ n → (tbN T k).size ≤ (2 * n + 1) * k
  | 0, _ => by show (0 : Nat) ≤ _; omega
  | k + 1, hk => by
    have ih := tbN_size hl h k (by omega)
    have hr := hl k (by omega)
    have ha (p : ByteArray) : (appN p (rowAt T k) (rowAt T k).length).size ≤ p.size + 2 * (rowAt T k).length := appN_size _ (fun j hj => h k j (by omega) (by omega))
    have e2 : (2 * n + 1) * (k + 1) = (2 * n + 1) * k + (2 * n + 1) := by rw [Nat.mul_add, Nat.mul_one]
    by_cases e : k = 0
    · subst e
      have := ha (tbN T 0)
      rw [tbN_one]
      have e0 : (tbN T 0).size = 0 := rfl
      omega
    · have := ha (tbN T k ++ ⟨#[47]⟩)
      rw [tbN_next _ e]
      rw [ba_app_size] at this
      have : (ByteArray.mk #[47]).size = 1 := rfl
      omega
/-! what Join makes -/
def dgs (L : List Int) : List ByteArray := L.map dgB
theorem nth_at {L : List Int} {k : Nat} (h : k < L.length) : nth L k = L[k] := by
  unfold nth; rw [List.getD_eq_getElem?_getD, Int.toNat_natCast, List.getElem?_eq_getElem h]; rfl
theorem lt_join {x : Int} {r : List Int} : ∀ k : Nat, k ≤ r.length → (ltxN (x :: r) (k + 1)).data.toList = Lib.decDigits x.toNat ++ Lib.joinTail [44] ((r.map (fun y => Lib.decDigits y.toNat)).take k)
  | 0, _ => by rw [ltxN_one, ba_app]; simp [ltxN, Lib.joinTail, dgB_list, nth]
  | k + 1, h => by
    rw [ltxN_next _ (by omega), ba_app, ba_app, lt_join k (by omega), Lib.joinTail_take_succ [44] _ k (Lib.decDigits (r[k]'(by omega)).toNat) (by rw [List.getElem?_map, List.getElem?_eq_getElem (by omega)]; rfl), dgB_list, nth_at (by simp; omega)]
    simp [List.append_assoc]
theorem join_lt {L : List Int} (h : L ≠ []) : (⟨(Lib.join ((dgs L).map (·.data.toList)) (ByteArray.mk #[44]).data.toList).toArray⟩ : ByteArray) = ltxN L L.length := by
  cases L with
  | nil => exact absurd rfl h
  | cons x r =>
    apply ba_ext
    rw [List.length_cons, lt_join r.length (Nat.le_refl _)]
    unfold dgs
    rw [List.map_map, List.map_cons, Lib.join_cons]
    rw [List.take_of_length_le (by simp)]
    rfl
theorem app_join {p : ByteArray} {R : List Int} : ∀ k : Nat, k ≤ R.length → (appN p R k).data.toList = p.data.toList ++ ((R.map (fun y => Lib.decDigits y.toNat)).take k).flatten
  | 0, _ => by simp [appN]
  | k + 1, h => by
    show (appN p R k ++ dgB (nth R k)).data.toList = _
    rw [ba_app, app_join k (by omega), List.take_add_one, List.getElem?_map, List.getElem?_eq_getElem (by omega), dgB_list, nth_at (by omega)]
    simp [List.append_assoc]
theorem join_none_flat : ∀ X : List (List UInt8), Lib.join X [] = X.flatten := fun X => by
  cases X with
  | nil => rfl
  | cons x r => rw [Lib.join_cons]; simp [Lib.joinTail]
/-- a row's digits -/
def rwB (R : List Int) : ByteArray := appN ⟨#[]⟩ R R.length
theorem join_rw (R : List Int) : (⟨(Lib.join ((dgs R).map (·.data.toList)) (ByteArray.mk #[]).data.toList).toArray⟩ : ByteArray) = rwB R := by
  apply ba_ext
  unfold rwB
  rw [app_join _ (Nat.le_refl _), List.take_of_length_le (by simp)]
  show Lib.join _ [] = _
  rw [join_none_flat]
  unfold dgs
  rw [List.map_map]; rfl
theorem app_rw (p : ByteArray) (R : List Int) : (appN p R R.length).data.toList = p.data.toList ++ (rwB R).data.toList := by
  unfold rwB
  rw [app_join _ (Nat.le_refl _), app_join _ (Nat.le_refl _)]; rfl
theorem rowAt_at {T : List (List Int)} {k : Nat} (h : k < T.length) : rowAt T k = T[k] := rowAt_get T k h
theorem tb_join {x : List Int} {r : List (List Int)} : ∀ k : Nat, k ≤ r.length → (tbN (x :: r) (k + 1)).data.toList = (rwB x).data.toList ++ Lib.joinTail [47] ((r.map (fun y => (rwB y).data.toList)).take k)
  | 0, _ => by
    rw [tbN_one, app_rw]
    simp [tbN, Lib.joinTail, rowAt]
  | k + 1, h => by
    rw [tbN_next _ (by omega), app_rw, ba_app, tb_join k (by omega), Lib.joinTail_take_succ [47] _ k ((rwB (r[k]'(by omega))).data.toList) (by rw [List.getElem?_map, List.getElem?_eq_getElem (by omega)]; rfl), rowAt_at (by simp; omega)]
    simp [List.append_assoc]
def rws (T : List (List Int)) : List ByteArray := T.map rwB
theorem join_tb {T : List (List Int)} (h : T ≠ []) : (⟨(Lib.join ((rws T).map (·.data.toList)) (ByteArray.mk #[47]).data.toList).toArray⟩ : ByteArray) = tbN T T.length := by
  cases T with
  | nil => exact absurd rfl h
  | cons x r =>
    apply ba_ext
    rw [List.length_cons, tb_join r.length (Nat.le_refl _)]
    unfold rws
    rw [List.map_map, List.map_cons, Lib.join_cons]
    rw [List.take_of_length_le (by simp)]
    rfl
end Go.Proofs.YtpophjloedpcfaaGreatDoor
