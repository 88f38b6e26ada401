import Derived.Test.YtjcambkjcagcoaaGreatM14
import Derived.Test.YtjcambkjcagcoaaGreatL5
import Derived.Test.YtjcambkjcagcoaaGreatY1
namespace Go.Proofs.YtjcambkjcagcoaaGreat
open Go.RowKit
set_option linter.unusedVariables false

/-- two neighbours change places -/
def sw (Y : List Int) (j : Int) : List Int := (Y.set j.toNat (nth Y (j - 1))).set (j - 1).toNat (nth Y j)
theorem sw_len (Y : List Int) (j : Int) : (sw Y j).length = Y.length := by unfold sw; simp
theorem nth_setK {Y : List Int} {i a : Int} (v : Int) (i0 : 0 ≤ i) (i1 : i < Y.length) (a0 : 0 ≤ a) : nth (Y.set i.toNat v) a = if a = i then v else nth Y a := by
  unfold nth
  rw [List.getD_eq_getElem?_getD, List.getD_eq_getElem?_getD]
  by_cases e : a = i
  · rw [if_pos e, e, List.getElem?_set_self (by omega)]; rfl
  · rw [if_neg e, List.getElem?_set_ne (by omega)]
theorem sw_nth {Y : List Int} {j a : Int} (j1 : 1 ≤ j) (j2 : j < Y.length) (a0 : 0 ≤ a) : nth (sw Y j) a = if a = j - 1 then nth Y j else if a = j then nth Y (j - 1) else nth Y a := by
  unfold sw
  rw [nth_setK _ (by omega) (by rw [List.length_set]; omega) a0, nth_setK _ (by omega) j2 a0]
/-- the same numbers, each once -/
structure SameAs (X Y : List Int) : Prop where
  len : Y.length = X.length
  mem : ∀ v, v ∈ Y ↔ v ∈ X
  inj : (∀ a b : Int, 0 ≤ a → a < b → b < X.length → nth X a ≠ nth X b) → ∀ a b : Int, 0 ≤ a → a < b → b < Y.length → nth Y a ≠ nth Y b
theorem SameAs.refl (X : List Int) : SameAs X X := ⟨rfl, fun _ => Iff.rfl, fun h => h⟩
theorem SameAs.swp {X Y : List Int} (h : SameAs X Y) {j : Int} (j1 : 1 ≤ j) (j2 : j < Y.length) : SameAs X (sw Y j) := by
  have key : ∀ v, v ∈ sw Y j ↔ v ∈ Y := fun v => by
    constructor
    · intro hv
      obtain ⟨a, a0, a1, rfl⟩ := in_nth hv
      rw [sw_len] at a1
      rw [sw_nth j1 j2 a0]
      split
      · exact nth_in (by omega) j2
      · split
        · exact nth_in (by omega) (by omega)
        · exact nth_in a0 a1
    · intro hv
      obtain ⟨a, a0, a1, rfl⟩ := in_nth hv
      by_cases e : a = j
      · have := nth_in (A := sw Y j) (p := j - 1) (by omega) (by rw [sw_len]; omega)
        rw [sw_nth j1 j2 (by omega), if_pos rfl] at this
        rw [e]; exact this
      · by_cases e2 : a = j - 1
        · have := nth_in (A := sw Y j) (p := j) (by omega) (by rw [sw_len]; omega)
          rw [sw_nth j1 j2 (by omega), if_neg (by omega), if_pos rfl] at this
          rw [e2]; exact this
        · have := nth_in (A := sw Y j) (p := a) a0 (by rw [sw_len]; omega)
          rw [sw_nth j1 j2 a0, if_neg e2, if_neg e] at this
          exact this
  refine ⟨by rw [sw_len, h.len], fun v => (key v).trans (h.mem v), fun hx a b a0 ab b1 => ?_⟩
  rw [sw_len] at b1
  have hi := h.inj hx
  have hs : ∀ a b : Int, 0 ≤ a → a < Y.length → 0 ≤ b → b < Y.length → a ≠ b → nth Y a ≠ nth Y b := fun a b a0 a1 b0 b1 hn => by
    rcases Int.lt_or_lt_of_ne hn with h | h
    · exact hi a b a0 h b1
    · exact fun e => hi b a b0 h a1 e.symm
  rw [sw_nth j1 j2 a0, sw_nth j1 j2 (by omega)]
  split <;> split <;> (try split) <;> (try split) <;> exact hs _ _ (by omega) (by omega) (by omega) (by omega) (by omega)
/-- ascending up to one -/
def UpTo (Y : List Int) (i : Int) : Prop := ∀ a b : Int, 0 ≤ a → a < b → b ≤ i → nth Y a ≤ nth Y b
/-- ascending up to one, but for what stands at another -/
def UpBut (Y : List Int) (i j : Int) : Prop := (∀ a b : Int, 0 ≤ a → a < b → b ≤ i → a ≠ j → b ≠ j → nth Y a ≤ nth Y b) ∧ ∀ b : Int, j < b → b ≤ i → nth Y j ≤ nth Y b
theorem UpBut.start {Y : List Int} {i : Int} (h : UpTo Y (i - 1)) : UpBut Y i i := ⟨fun a b a0 ab b1 _ hb => h a b a0 ab (by omega), fun b h1 h2 => by omega⟩
theorem UpBut.step {Y : List Int} {i j : Int} (h : UpBut Y i j) (j1 : 1 ≤ j) (j2 : j ≤ i) (i1 : i < Y.length) (hl : nth Y j < nth Y (j - 1)) : UpBut (sw Y j) i (j - 1) := by
  obtain ⟨h1, h2⟩ := h
  refine ⟨fun a b a0 ab b1 ha hb => ?_, fun b b0 b1 => ?_⟩
  · rw [sw_nth j1 (by omega) a0, sw_nth j1 (by omega) (by omega), if_neg ha, if_neg hb]
    by_cases ea : a = j
    · rw [if_pos ea, if_neg (by omega)]
      exact h1 _ _ (by omega) (by omega) b1 (by omega) (by omega)
    · rw [if_neg ea]
      by_cases eb : b = j
      · rw [if_pos eb]
        by_cases e : a = j - 1
        · omega
        · exact h1 _ _ a0 (by omega) (by omega) ea (by omega)
      · rw [if_neg eb]; exact h1 _ _ a0 ab b1 ea eb
  · rw [sw_nth j1 (by omega) (by omega), sw_nth j1 (by omega) (by omega), if_pos rfl, if_neg (by omega)]
    by_cases eb : b = j
    · rw [if_pos eb]; omega
    · rw [if_neg eb]; exact h2 b (by omega) b1
theorem UpBut.done {Y : List Int} {i j : Int} (h : UpBut Y i j) (j0 : 0 ≤ j) (j2 : j ≤ i) (hl : j = 0 ∨ nth Y (j - 1) ≤ nth Y j) : UpTo Y i := by
  obtain ⟨h1, h2⟩ := h
  intro a b a0 ab b1
  by_cases eb : b = j
  · rcases hl with e | hl
    · omega
    · by_cases e : a = j - 1
      · rw [e, eb]; exact hl
      · have := h1 a (j - 1) a0 (by omega) (by omega) (by omega) (by omega)
        rw [eb]; omega
  · by_cases ea : a = j
    · rw [ea]; exact h2 b (by omega) b1
    · exact h1 a b a0 ab b1 ea eb
/-- two lists that ascend and hold the same are one -/
theorem asc_eq : ∀ (A B : List Int), (∀ a b : Int, 0 ≤ a → a < b → b < A.length → nth A a < nth A b) → (∀ a b : Int, 0 ≤ a → a < b → b < B.length → nth B a < nth B b) → (∀ v, v ∈ A ↔ v ∈ B) → A = B := by
  have hd : ∀ (x : Int) (A : List Int), (∀ a b : Int, 0 ≤ a → a < b → b < (x :: A).length → nth (x :: A) a < nth (x :: A) b) → (∀ v ∈ A, x < v) ∧ ∀ a b : Int, 0 ≤ a → a < b → b < A.length → nth A a < nth A b := by
    intro x A h
    have hn : ∀ a : Int, 0 ≤ a → nth (x :: A) (a + 1) = nth A a := fun a a0 => by
      unfold nth
      rw [show (a + 1).toNat = a.toNat + 1 by omega]; rfl
    refine ⟨fun v hv => ?_, fun a b a0 ab b1 => ?_⟩
    · obtain ⟨a, a0, a1, rfl⟩ := in_nth hv
      have := h 0 (a + 1) (by omega) (by omega) (by rw [List.length_cons]; omega)
      rw [hn a a0] at this
      exact this
    · have := h (a + 1) (b + 1) (by omega) (by omega) (by rw [List.length_cons]; omega)
      rw [hn a a0, hn b (by omega)] at this
      exact this
  intro A
  induction A with
  | nil =>
    intro B _ _ hm
    cases B with
    | nil => rfl
    | cons y B => exact absurd ((hm y).2 (by simp)) (by simp)
  | cons x A ih =>
    intro B hA hB hm
    cases B with
    | nil => exact absurd ((hm x).1 (by simp)) (by simp)
    | cons y B =>
      obtain ⟨h1, h2⟩ := hd x A hA
      obtain ⟨k1, k2⟩ := hd y B hB
      have e : x = y := by
        have a := (hm x).1 (by simp)
        have b := (hm y).2 (by simp)
        rw [List.mem_cons] at a b
        rcases a with a | a
        · exact a
        · rcases b with b | b
          · exact b.symm
          · have := k1 x a
            have := h1 y b
            omega
      subst e
      congr 1
      refine ih B h2 k2 fun v => ?_
      have := hm v
      rw [List.mem_cons, List.mem_cons] at this
      constructor
      · intro hv
        have hl := h1 v hv
        rcases this.1 (.inr hv) with e | e
        · omega
        · exact e
      · intro hv
        have hl := k1 v hv
        rcases this.2 (.inr hv) with e | e
        · omega
        · exact e
set_option maxHeartbeats 400000 in
theorem isNaN_any (x : Int) (w : World) : Calls Tryz.prog 193 #[.int .i64 x] w fun e w' => e = .returned (.bool false) ∧ w = w' := by
  have hx : (x != x) = false := by simp
  go_enter Tryz.func193, Tryz.ntmps193
  go_wp2
  go_ret
  exact ⟨rfl, rfl⟩
set_option maxHeartbeats 400000 in
/-- cmp.Less -/
theorem cmpLess_any (x y : Int) (w : World) {r : Bool} (hr : decide (x < y) = r) : Calls Tryz.prog 183 #[.int .i64 x, .int .i64 y] w fun e w' => e = .returned (.bool r) ∧ w = w' := by
  have HR := Lib.hid hr
  clear hr
  go_enter Tryz.func183, Tryz.ntmps183
  go_wp2_with (first | go_skip | (go_at_call 193; refine (isNaN_any _ _).mono ?_; rintro e w' ⟨rfl, rfl⟩))
  go_ret
  exact ⟨ret_bool (by first | (rw [← HR.out]; done) | (rw [← HR.out]; simp)), rfl⟩
end Go.Proofs.YtjcambkjcagcoaaGreat
