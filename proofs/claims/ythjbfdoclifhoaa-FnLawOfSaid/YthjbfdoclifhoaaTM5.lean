import Derived.Test.YthjbfdoclifhoaaTM3
import Derived.Test.YthjbfdoclifhoaaM5
namespace Go.Proofs.Ythjbfdoclifhoaa

/-! What terms are. -/
def cmI (L : List Int) (T : List (List Int)) (s x y : Int) : Int := if s = 13 then mt L x y else if s = 14 then jn L x y else if s = 15 then tv T x y else imp L T x y
def vlI (L : List Int) (T : List (List Int)) (N : List Int) : Nat → List Int → Int
  | 0, _ => 0
  | _ + 1, [] => 0
  | k + 1, x :: t => if isLf x then (if x = 10 then 0 else if x = 11 then num L - 1 else nth N x) else if x = 12 then imp L T (vlI L T N k t) 0 else cmI L T x (vlI L T N k t) (vlI L T N k ((tmR k t).getD []))
section
variable {L : List Int} {T : List (List Int)} {N : List Int}
theorem vlI_leaf {k : Nat} {x : Int} {t : List Int} (h : isLf x = true) : vlI L T N (k + 1) (x :: t) = if x = 10 then 0 else if x = 11 then num L - 1 else nth N x := by show (if isLf x then _ else _) = _; rw [if_pos h]
theorem vlI_opp {k : Nat} {x : Int} {t : List Int} (h : isLf x = false) (h2 : x = 12) : vlI L T N (k + 1) (x :: t) = imp L T (vlI L T N k t) 0 := by show (if isLf x then _ else _) = _; rw [if_neg (by rw [h]; decide), if_pos h2]
theorem vlI_sign {k : Nat} {x : Int} {t r : List Int} (h : isLf x = false) (h2 : x ≠ 12) (hr : tmR k t = some r) : vlI L T N (k + 1) (x :: t) = cmI L T x (vlI L T N k t) (vlI L T N k r) := by
  show (if isLf x then _ else _) = _
  rw [if_neg (by rw [h]; decide), if_neg h2, hr]; rfl
theorem vlI_mono : ∀ (k k' : Nat) (t r : List Int), tmR k t = some r → k ≤ k' → vlI L T N k' t = vlI L T N k t
  | 0, _, _, _, h, _ => by cases h
  | _ + 1, _, [], _, h, _ => by cases h
  | k + 1, 0, _ :: _, _, _, hk => absurd hk (by omega)
  | k + 1, k' + 1, x :: t, r, h, hk => by
    have hk' : k ≤ k' := by omega
    cases h1 : isLf x with
    | true => rw [vlI_leaf h1, vlI_leaf h1]
    | false =>
      by_cases h2 : x = 12
      · rw [tmR_opp h1 h2] at h
        rw [vlI_opp h1 h2, vlI_opp h1 h2, vlI_mono k k' t r h hk']
      · cases h3 : isSg x with
        | false => rw [tmR_no h1 h2 h3] at h; cases h
        | true =>
          rw [tmR_sign h1 h2 h3] at h
          cases h4 : tmR k t with
          | none => rw [h4] at h; cases h
          | some q =>
            rw [h4] at h
            rw [vlI_sign h1 h2 h4, vlI_sign h1 h2 (tmR_mono k k' t q h4 hk'), vlI_mono k k' t q h4 hk', vlI_mono k k' q r h hk']
theorem cmI_el (h : algB L T = true) {x y : Int} (s : Int) (hx : El L x) (hy : El L y) : El L (cmI L T s x y) := by
  have hl := alg_lat h
  unfold cmI
  split
  · exact mt_el hl hx hy
  split
  · exact jn_el hl hx hy
  split
  · exact tv_el h hx hy
  · exact imp_el h x y
theorem vlI_el (h : algB L T = true) (hN : ∀ i, 0 ≤ i → i < 3 → El L (nth N i)) : ∀ (k : Nat) (t r : List Int), tmR k t = some r → El L (vlI L T N k t)
  | 0, _, _, h' => by cases h'
  | _ + 1, [], _, h' => by cases h'
  | k + 1, x :: t, r, h' => by
    have hl := alg_lat h
    cases h1 : isLf x with
    | true =>
      rw [vlI_leaf h1]
      split
      · exact el_0 hl
      split
      · exact el_t hl
      · refine hN x ?_ ?_
        all_goals
          unfold isLf isNm at h1
          rw [Bool.or_eq_true, Bool.or_eq_true, Bool.and_eq_true, decide_eq_true_eq, decide_eq_true_eq, beq_iff_eq, beq_iff_eq] at h1
          omega
    | false =>
      by_cases h2 : x = 12
      · rw [tmR_opp h1 h2] at h'
        rw [vlI_opp h1 h2]
        exact imp_el h _ _
      · cases h3 : isSg x with
        | false => rw [tmR_no h1 h2 h3] at h'; cases h'
        | true =>
          rw [tmR_sign h1 h2 h3] at h'
          cases h4 : tmR k t with
          | none => rw [h4] at h'; cases h'
          | some q =>
            rw [h4] at h'
            rw [vlI_sign h1 h2 h4]
            exact cmI_el h x (vlI_el h hN k t q h4) (vlI_el h hN k q r h')
end
end Go.Proofs.Ythjbfdoclifhoaa
