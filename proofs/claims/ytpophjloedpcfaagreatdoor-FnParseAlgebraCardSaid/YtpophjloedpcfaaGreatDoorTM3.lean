import Derived.Test.YtpophjloedpcfaaGreatDoorTM1
namespace Go.Proofs.YtpophjloedpcfaaGreatDoor
open Go.RowKit

theorem tmR_mono : ∀ (k k' : Nat) (t r : List Int), tmR k t = some r → k ≤ k' → tmR k' t = some r
  | 0, _, _, _, h, _ => by cases h
  | _ + 1, _, [], _, h, _ => by cases h
  | k + 1, 0, _ :: _, _, _, hk => absurd hk (by omega)
  | k + 1, k' + 1, x :: t, r, h, hk => by
    have hk' : k ≤ k' := by omega
    cases h1 : isLf x with
    | true => rw [tmR_leaf h1] at h ⊢; exact h
    | false =>
      by_cases h2 : x = 12
      · rw [tmR_opp h1 h2] at h ⊢; exact tmR_mono k k' t r h hk'
      · cases h3 : isSg x with
        | false => rw [tmR_no h1 h2 h3] at h; cases h
        | true =>
          rw [tmR_sign h1 h2 h3] at h ⊢
          cases h4 : tmR k t with
          | none => rw [h4] at h; cases h
          | some q =>
            rw [h4] at h
            rw [tmR_mono k k' t q h4 hk']
            exact tmR_mono k k' q r h hk'
/-- how a number of a term stands in texts -/
def ltB (x : Int) : ByteArray := if x = 0 then ⟨#[120]⟩ else if x = 1 then ⟨#[121]⟩ else if x = 2 then ⟨#[122]⟩ else if x = 10 then ⟨#[48]⟩ else if x = 11 then ⟨#[49]⟩ else if x = 12 then ⟨#[45]⟩ else if x = 13 then ⟨#[38]⟩ else if x = 14 then ⟨#[124]⟩ else if x = 15 then ⟨#[42]⟩ else ⟨#[62]⟩
/-- the text of the term that numbers begin with -/
def txI : Nat → List Int → ByteArray
  | 0, _ => ⟨#[]⟩
  | _ + 1, [] => ⟨#[]⟩
  | k + 1, x :: t => if isLf x then ltB x else if x = 12 then ⟨#[45]⟩ ++ txI k t else ⟨#[40]⟩ ++ txI k t ++ ltB x ++ txI k ((tmR k t).getD []) ++ ⟨#[41]⟩
theorem txI_leaf {k : Nat} {x : Int} {t : List Int} (h : isLf x = true) : txI (k + 1) (x :: t) = ltB x := by show (if isLf x then _ else _) = _; rw [if_pos h]
theorem txI_opp {k : Nat} {x : Int} {t : List Int} (h : isLf x = false) (h2 : x = 12) : txI (k + 1) (x :: t) = ⟨#[45]⟩ ++ txI k t := by show (if isLf x then _ else _) = _; rw [if_neg (by rw [h]; decide), if_pos h2]
theorem txI_sign {k : Nat} {x : Int} {t r : List Int} (h : isLf x = false) (h2 : x ≠ 12) (hr : tmR k t = some r) : txI (k + 1) (x :: t) = ⟨#[40]⟩ ++ txI k t ++ ltB x ++ txI k r ++ ⟨#[41]⟩ := by
  show (if isLf x then _ else _) = _
  rw [if_neg (by rw [h]; decide), if_neg h2, hr]; rfl
theorem txI_mono : ∀ (k k' : Nat) (t r : List Int), tmR k t = some r → k ≤ k' → txI k' t = txI k t
  | 0, _, _, _, h, _ => by cases h
  | _ + 1, _, [], _, h, _ => by cases h
  | k + 1, 0, _ :: _, _, _, hk => absurd hk (by omega)
  | k + 1, k' + 1, x :: t, r, h, hk => by
    have hk' : k ≤ k' := by omega
    cases h1 : isLf x with
    | true => rw [txI_leaf h1, txI_leaf h1]
    | false =>
      by_cases h2 : x = 12
      · rw [tmR_opp h1 h2] at h
        rw [txI_opp h1 h2, txI_opp h1 h2, txI_mono k k' t r h hk']
      · cases h3 : isSg x with
        | false => rw [tmR_no h1 h2 h3] at h; cases h
        | true =>
          rw [tmR_sign h1 h2 h3] at h
          cases h4 : tmR k t with
          | none => rw [h4] at h; cases h
          | some q =>
            rw [h4] at h
            rw [txI_sign h1 h2 h4, txI_sign h1 h2 (tmR_mono k k' t q h4 hk'), txI_mono k k' t q h4 hk', txI_mono k k' q r h hk']
theorem size_app (a b : ByteArray) : (a ++ b).size = a.size + b.size := by simp
theorem ltB_size (x : Int) : (ltB x).size = 1 := by
  unfold ltB
  repeat' split
  all_goals rfl
theorem txI_size : ∀ (k : Nat) (t r : List Int), tmR k t = some r → (txI k t).size ≤ 3 * (t.length - r.length)
  | 0, _, _, h => by cases h
  | _ + 1, [], _, h => by cases h
  | k + 1, x :: t, r, h => by
    have hl := tmR_len h
    rw [List.length_cons] at hl ⊢
    cases h1 : isLf x with
    | true => rw [txI_leaf h1, ltB_size]; omega
    | false =>
      by_cases h2 : x = 12
      · rw [tmR_opp h1 h2] at h
        have := txI_size k t r h
        have := tmR_len h
        rw [txI_opp h1 h2, size_app]
        show 1 + _ ≤ _
        omega
      · cases h3 : isSg x with
        | false => rw [tmR_no h1 h2 h3] at h; cases h
        | true =>
          rw [tmR_sign h1 h2 h3] at h
          cases h4 : tmR k t with
          | none => rw [h4] at h; cases h
          | some q =>
            rw [h4] at h
            have e1 := txI_size k t q h4
            have e2 := txI_size k q r h
            have e3 := tmR_len h4
            have e4 := tmR_len h
            rw [txI_sign h1 h2 h4, size_app, size_app, size_app, size_app, ltB_size]
            show 1 + _ + 1 + _ + 1 ≤ _
            omega
end Go.Proofs.YtpophjloedpcfaaGreatDoor
