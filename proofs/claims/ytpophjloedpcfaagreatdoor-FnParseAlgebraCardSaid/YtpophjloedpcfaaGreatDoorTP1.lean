import Derived.Test.YtpophjloedpcfaaGreatDoorTM3
namespace Go.Proofs.YtpophjloedpcfaaGreatDoor

/-! Texts of terms: what is read of them. -/
theorem tmR_app : ∀ (k : Nat) (t r q : List Int), tmR k t = some r → tmR k (t ++ q) = some (r ++ q)
  | 0, _, _, _, h => by cases h
  | _ + 1, [], _, _, h => by cases h
  | k + 1, x :: t, r, q, h => by
    rw [List.cons_append]
    cases h1 : isLf x with
    | true => rw [tmR_leaf h1] at h ⊢; injection h with h; rw [h]
    | false =>
      by_cases h2 : x = 12
      · rw [tmR_opp h1 h2] at h ⊢; exact tmR_app k t r q h
      · cases h3 : isSg x with
        | false => rw [tmR_no h1 h2 h3] at h; cases h
        | true =>
          rw [tmR_sign h1 h2 h3] at h ⊢
          cases h4 : tmR k t with
          | none => rw [h4] at h; cases h
          | some p =>
            rw [h4] at h
            rw [tmR_app k t p q h4]
            exact tmR_app k p r q h
theorem tmV_app : ∀ (k : Nat) (t r q : List Int), tmR k t = some r → tmV k (t ++ q) = tmV k t
  | 0, _, _, _, h => by cases h
  | _ + 1, [], _, _, h => by cases h
  | k + 1, x :: t, r, q, h => by
    rw [List.cons_append]
    cases h1 : isLf x with
    | true => rw [tmV_leaf h1, tmV_leaf h1]
    | false =>
      by_cases h2 : x = 12
      · rw [tmR_opp h1 h2] at h; rw [tmV_opp h1 h2, tmV_opp h1 h2, tmV_app k t r q h]
      · cases h3 : isSg x with
        | false => rw [tmR_no h1 h2 h3] at h; cases h
        | true =>
          rw [tmR_sign h1 h2 h3] at h
          cases h4 : tmR k t with
          | none => rw [h4] at h; cases h
          | some p =>
            rw [h4] at h
            rw [tmV_sign h1 h2, tmV_sign h1 h2, tmR_app k t p q h4, tmV_app k t p q h4, h4]
            show Value.iface _ (.agg #[_, _, tmV k (p ++ q)]) = Value.iface _ (.agg #[_, _, tmV k p])
            rw [tmV_app k p r q h]
theorem tmV_mono : ∀ (k k' : Nat) (t r : List Int), tmR k t = some r → k ≤ k' → tmV k' t = tmV k t
  | 0, _, _, _, h, _ => by cases h
  | _ + 1, _, [], _, h, _ => by cases h
  | k + 1, 0, _ :: _, _, _, hk => absurd hk (by omega)
  | k + 1, k' + 1, x :: t, r, h, hk => by
    have hk' : k ≤ k' := by omega
    cases h1 : isLf x with
    | true => rw [tmV_leaf h1, tmV_leaf h1]
    | false =>
      by_cases h2 : x = 12
      · rw [tmR_opp h1 h2] at h; rw [tmV_opp h1 h2, tmV_opp h1 h2, tmV_mono k k' t r h hk']
      · cases h3 : isSg x with
        | false => rw [tmR_no h1 h2 h3] at h; cases h
        | true =>
          rw [tmR_sign h1 h2 h3] at h
          cases h4 : tmR k t with
          | none => rw [h4] at h; cases h
          | some p =>
            rw [h4] at h
            rw [tmV_sign h1 h2, tmV_sign h1 h2, tmR_mono k k' t p h4 hk', tmV_mono k k' t p h4 hk', h4]
            show Value.iface _ (.agg #[_, _, tmV k' p]) = Value.iface _ (.agg #[_, _, tmV k p])
            rw [tmV_mono k k' p r h hk']
theorem txI_app : ∀ (k : Nat) (t r q : List Int), tmR k t = some r → txI k (t ++ q) = txI k t
  | 0, _, _, _, h => by cases h
  | _ + 1, [], _, _, h => by cases h
  | k + 1, x :: t, r, q, h => by
    rw [List.cons_append]
    cases h1 : isLf x with
    | true => rw [txI_leaf h1, txI_leaf h1]
    | false =>
      by_cases h2 : x = 12
      · rw [tmR_opp h1 h2] at h; rw [txI_opp h1 h2, txI_opp h1 h2, txI_app k t r q h]
      · cases h3 : isSg x with
        | false => rw [tmR_no h1 h2 h3] at h; cases h
        | true =>
          rw [tmR_sign h1 h2 h3] at h
          cases h4 : tmR k t with
          | none => rw [h4] at h; cases h
          | some p =>
            rw [h4] at h
            rw [txI_sign h1 h2 h4, txI_sign h1 h2 (tmR_app k t p q h4), txI_app k t p q h4, txI_app k p r q h]
/-- the number that stands as a byte, -1 if there is none -/
def ltN (c : UInt8) : Int := if c = 120 then 0 else if c = 121 then 1 else if c = 122 then 2 else if c = 48 then 10 else if c = 49 then 11 else if c = 45 then 12 else if c = 38 then 13 else if c = 124 then 14 else if c = 42 then 15 else if c = 62 then 16 else -1
theorem ltB_ltN (c : UInt8) (h : ltN c ≠ -1) : (ltB (ltN c)).data.toList = [c] := by
  unfold ltN at h ⊢
  by_cases e0 : c = 120
  · subst e0; rfl
  by_cases e1 : c = 121
  · subst e1; rfl
  by_cases e2 : c = 122
  · subst e2; rfl
  by_cases e3 : c = 48
  · subst e3; rfl
  by_cases e4 : c = 49
  · subst e4; rfl
  by_cases e5 : c = 45
  · subst e5; rfl
  by_cases e6 : c = 38
  · subst e6; rfl
  by_cases e7 : c = 124
  · subst e7; rfl
  by_cases e8 : c = 42
  · subst e8; rfl
  by_cases e9 : c = 62
  · subst e9; rfl
  exact absurd (by rw [if_neg e0, if_neg e1, if_neg e2, if_neg e3, if_neg e4, if_neg e5, if_neg e6, if_neg e7, if_neg e8, if_neg e9]) h
theorem isLf_cases {x : Int} (h : isLf x = true) : x = 0 ∨ x = 1 ∨ x = 2 ∨ x = 10 ∨ x = 11 := by
  unfold isLf isNm at h
  rw [Bool.or_eq_true, Bool.or_eq_true, Bool.and_eq_true, decide_eq_true_eq, decide_eq_true_eq, beq_iff_eq, beq_iff_eq] at h
  omega
theorem isSg_cases {x : Int} (h : isSg x = true) : x = 13 ∨ x = 14 ∨ x = 15 ∨ x = 16 := by
  unfold isSg at h
  rw [Bool.and_eq_true, decide_eq_true_eq, decide_eq_true_eq] at h
  omega
theorem ltN_ltB {x : Int} (h : isLf x = true ∨ isSg x = true) : ∃ c, (ltB x).data.toList = [c] ∧ ltN c = x := by
  rcases h with h | h
  · rcases isLf_cases h with rfl | rfl | rfl | rfl | rfl
    · exact ⟨120, rfl, rfl⟩
    · exact ⟨121, rfl, rfl⟩
    · exact ⟨122, rfl, rfl⟩
    · exact ⟨48, rfl, rfl⟩
    · exact ⟨49, rfl, rfl⟩
  · rcases isSg_cases h with rfl | rfl | rfl | rfl
    · exact ⟨38, rfl, rfl⟩
    · exact ⟨124, rfl, rfl⟩
    · exact ⟨42, rfl, rfl⟩
    · exact ⟨62, rfl, rfl⟩
theorem ltN_12 {c : UInt8} (h : ltN c = 12) : c = 45 := by
  have := ltB_ltN c (by rw [h]; decide)
  rw [h] at this
  have e : ([45] : List UInt8) = [c] := this
  injection e with e
  exact e.symm
/-- a term in brackets, behind the opening one -/
def rdC (f : List UInt8 → Option (List Int × List UInt8)) (l : List UInt8) : Option (List Int × List UInt8) :=
  match f l with
  | none => none
  | some (_, []) => none
  | some (a, s :: r2) => if isSg (ltN s) then (match f r2 with | none => none | some (_, []) => none | some (b, c :: r4) => if c = 41 then some (ltN s :: (a ++ b), r4) else none) else none
/-- the term that bytes begin with, and what is behind it -/
def rdT : Nat → List UInt8 → Option (List Int × List UInt8)
  | 0, _ => none
  | _ + 1, [] => none
  | k + 1, c :: l => if isLf (ltN c) then some ([ltN c], l) else if ltN c = 12 then (match rdT k l with | none => none | some p => some (12 :: p.1, p.2)) else if c = 40 then rdC (rdT k) l else none
theorem rdC_some {f : List UInt8 → Option (List Int × List UInt8)} {l : List UInt8} {p : List Int × List UInt8} (h : rdC f l = some p) : ∃ a s r2 b r4, f l = some (a, s :: r2) ∧ isSg (ltN s) = true ∧ f r2 = some (b, 41 :: r4) ∧ p = (ltN s :: (a ++ b), r4) := by
  unfold rdC at h
  split at h
  · cases h
  · cases h
  · rename_i a s r2 e
    split at h
    · rename_i hs
      split at h
      · cases h
      · cases h
      · rename_i b c r4 e2
        split at h
        · rename_i hc
          subst hc
          injection h with h
          exact ⟨a, s, r2, b, r4, e, hs, e2, h.symm⟩
        · cases h
    · cases h
theorem rdC_of {f : List UInt8 → Option (List Int × List UInt8)} {l : List UInt8} {a b : List Int} {s : UInt8} {r2 r4 : List UInt8} (h1 : f l = some (a, s :: r2)) (h2 : isSg (ltN s) = true) (h3 : f r2 = some (b, 41 :: r4)) : rdC f l = some (ltN s :: (a ++ b), r4) := by
  unfold rdC
  simp only [h1, h2, h3, if_true]
theorem rdT_leaf {k : Nat} {c : UInt8} {l : List UInt8} (h : isLf (ltN c) = true) : rdT (k + 1) (c :: l) = some ([ltN c], l) := by show (if isLf (ltN c) then _ else _) = _; rw [if_pos h]
theorem rdT_opp {k : Nat} {c : UInt8} {l : List UInt8} (h : ltN c = 12) : rdT (k + 1) (c :: l) = (match rdT k l with | none => none | some p => some (12 :: p.1, p.2)) := by
  show (if isLf (ltN c) then _ else _) = _
  rw [if_neg (by rw [h]; decide), if_pos h]
theorem rdT_com {k : Nat} {l : List UInt8} : rdT (k + 1) (40 :: l) = rdC (rdT k) l := rfl
theorem rdT_no {k : Nat} {c : UInt8} {l : List UInt8} (h : isLf (ltN c) = false) (h2 : ltN c ≠ 12) (h3 : c ≠ 40) : rdT (k + 1) (c :: l) = none := by
  show (if isLf (ltN c) then _ else _) = _
  rw [if_neg (by rw [h]; decide), if_neg h2, if_neg h3]
theorem txt_app (a b : ByteArray) : (a ++ b).data.toList = a.data.toList ++ b.data.toList := by simp
theorem sg_leaf {x : Int} (h : isSg x = true) : isLf x = false ∧ x ≠ 12 := by
  rcases isSg_cases h with rfl | rfl | rfl | rfl <;> exact ⟨rfl, by decide⟩
/-- what is read is a term, and its text is what has been read -/
theorem rdT_term : ∀ (k : Nat) (l : List UInt8) (t : List Int) (r : List UInt8), rdT k l = some (t, r) → tmR t.length t = some [] ∧ l = (txI t.length t).data.toList ++ r
  | 0, _, _, _, h => by cases h
  | _ + 1, [], _, _, h => by cases h
  | k + 1, c :: l, t, r, h => by
    cases h1 : isLf (ltN c) with
    | true =>
      rw [rdT_leaf h1] at h
      injection h with h
      injection h with ha hb
      subst ha hb
      refine ⟨tmR_leaf h1, ?_⟩
      show c :: l = (txI 1 [ltN c]).data.toList ++ l
      rw [txI_leaf h1, ltB_ltN c (by intro e; rw [e] at h1; cases h1)]
      rfl
    | false =>
      by_cases h2 : ltN c = 12
      · rw [rdT_opp h2] at h
        cases h4 : rdT k l with
        | none => rw [h4] at h; cases h
        | some p =>
          obtain ⟨u, q⟩ := p
          rw [h4] at h
          injection h with h
          injection h with ha hb
          dsimp only at ha hb
          subst ha hb
          obtain ⟨e1, e2⟩ := rdT_term k l u q h4
          refine ⟨by rw [List.length_cons, tmR_opp (by decide) rfl]; exact e1, ?_⟩
          rw [List.length_cons, txI_opp (by decide) rfl, txt_app, ltN_12 h2]
          show 45 :: l = [45] ++ _ ++ _
          conv => lhs; rw [e2]
          simp
      · by_cases h3 : c = 40
        · subst h3
          rw [rdT_com] at h
          obtain ⟨a, s, r2, b, r4, f1, f2, f3, f4⟩ := rdC_some h
          injection f4 with ha hb
          subst ha hb
          obtain ⟨e1, e2⟩ := rdT_term k l a _ f1
          obtain ⟨e3, e4⟩ := rdT_term k r2 b _ f3
          obtain ⟨g1, g2⟩ := sg_leaf f2
          have m1 : tmR (a ++ b).length (a ++ b) = some b := by
            have := tmR_app a.length a [] b e1
            exact tmR_mono _ _ _ _ this (by simp)
          have m2 : tmR (a ++ b).length b = some [] := tmR_mono _ _ _ _ e3 (by simp)
          refine ⟨by rw [List.length_cons, tmR_sign g1 g2 f2, m1]; exact m2, ?_⟩
          have x1 : txI (a ++ b).length (a ++ b) = txI a.length a := by
            rw [txI_mono a.length _ (a ++ b) b (tmR_app a.length a [] b e1) (by simp), txI_app a.length a [] b e1]
          have x2 : txI (a ++ b).length b = txI b.length b := txI_mono _ _ _ _ e3 (by simp)
          rw [List.length_cons, txI_sign g1 g2 m1, x1, x2, txt_app, txt_app, txt_app, txt_app, ltB_ltN s (by intro e; rw [e] at f2; cases f2)]
          show 40 :: l = ([40] ++ _ ++ [s] ++ _ ++ [41]) ++ _
          conv => lhs; rw [e2, e4]
          simp
        · rw [rdT_no h1 h2 h3] at h; cases h
/-- the text of a term is read back -/
theorem rdT_back : ∀ (k : Nat) (t r : List Int) (q : List UInt8), tmR k t = some r → rdT k ((txI k t).data.toList ++ q) = some (t.take (t.length - r.length), q)
  | 0, _, _, _, h => by cases h
  | _ + 1, [], _, _, h => by cases h
  | k + 1, x :: t, r, q, h => by
    have hl := tmR_len h
    rw [List.length_cons] at hl
    cases h1 : isLf x with
    | true =>
      rw [tmR_leaf h1] at h
      injection h with h
      subst h
      obtain ⟨c, c1, c2⟩ := ltN_ltB (.inl h1)
      rw [txI_leaf h1, c1]
      show rdT (k + 1) (c :: q) = _
      rw [rdT_leaf (by rw [c2]; exact h1), c2, List.length_cons, show t.length + 1 - t.length = 1 by omega]
      rfl
    | false =>
      by_cases h2 : x = 12
      · rw [tmR_opp h1 h2] at h
        have hl2 := tmR_len h
        rw [txI_opp h1 h2, txt_app]
        show rdT (k + 1) (45 :: ((txI k t).data.toList ++ q)) = _
        rw [rdT_opp (by decide), rdT_back k t r q h, List.length_cons, show t.length + 1 - r.length = (t.length - r.length) + 1 by omega, List.take_succ_cons, h2]
      · cases h3 : isSg x with
        | false => rw [tmR_no h1 h2 h3] at h; cases h
        | true =>
          rw [tmR_sign h1 h2 h3] at h
          cases h4 : tmR k t with
          | none => rw [h4] at h; cases h
          | some p =>
            rw [h4] at h
            have h' : tmR k p = some r := h
            have hl2 := tmR_len h4
            have hl3 := tmR_len h'
            have hd := (tmR_drop k t p h4).2
            obtain ⟨c, c1, c2⟩ := ltN_ltB (.inr h3)
            have i1 := rdT_back k t p (c :: ((txI k p).data.toList ++ 41 :: q)) h4
            have i2 := rdT_back k p r (41 :: q) h'
            have e : (txI (k + 1) (x :: t)).data.toList ++ q = 40 :: ((txI k t).data.toList ++ c :: ((txI k p).data.toList ++ 41 :: q)) := by
              rw [txI_sign h1 h2 h4, txt_app, txt_app, txt_app, txt_app, c1]
              show ([40] ++ _ ++ [c] ++ _ ++ [41]) ++ q = _
              simp
            rw [e, rdT_com, rdC_of i1 (by rw [c2]; exact h3) i2, c2, List.length_cons, show t.length + 1 - r.length = ((t.length - p.length) + (p.length - r.length)) + 1 by omega, List.take_succ_cons, List.take_add, ← hd]
theorem txI_ge : ∀ (k : Nat) (t r : List Int), tmR k t = some r → t.length - r.length ≤ (txI k t).size
  | 0, _, _, h => by cases h
  | _ + 1, [], _, h => by cases h
  | k + 1, x :: t, r, h => by
    have hl := tmR_len h
    rw [List.length_cons] at hl ⊢
    cases h1 : isLf x with
    | true =>
      rw [tmR_leaf h1] at h
      injection h with h
      subst h
      rw [txI_leaf h1, ltB_size]; omega
    | false =>
      by_cases h2 : x = 12
      · rw [tmR_opp h1 h2] at h
        have := txI_ge k t r h
        have := tmR_len h
        rw [txI_opp h1 h2, size_app]
        show _ ≤ 1 + _
        omega
      · cases h3 : isSg x with
        | false => rw [tmR_no h1 h2 h3] at h; cases h
        | true =>
          rw [tmR_sign h1 h2 h3] at h
          cases h4 : tmR k t with
          | none => rw [h4] at h; cases h
          | some q =>
            rw [h4] at h
            have h' : tmR k q = some r := h
            have e1 := txI_ge k t q h4
            have e2 := txI_ge k q r h'
            have e3 := tmR_len h4
            have e4 := tmR_len h'
            rw [txI_sign h1 h2 h4, size_app, size_app, size_app, size_app, ltB_size]
            show _ ≤ 1 + _ + 1 + _ + 1
            omega
theorem txt_size (a : ByteArray) : a.data.toList.length = a.size := by simp
theorem rdT_len {k : Nat} {l : List UInt8} {t : List Int} {r : List UInt8} (h : rdT k l = some (t, r)) : 1 ≤ t.length ∧ t.length + r.length ≤ l.length ∧ l.length ≤ 3 * t.length + r.length ∧ r = l.drop (l.length - r.length) := by
  obtain ⟨e1, e2⟩ := rdT_term k l t r h
  have h1 := txI_ge _ _ _ e1
  have h2 := txI_size _ _ _ e1
  have h3 := tmR_len e1
  have hs := txt_size (txI t.length t)
  have hl : l.length = (txI t.length t).size + r.length := by
    conv => lhs; rw [e2]
    rw [List.length_append, hs]
  simp only [List.length_nil] at h1 h2 h3
  refine ⟨by omega, by omega, by omega, ?_⟩
  have hn : l.length - r.length = (txI t.length t).data.toList.length := by omega
  rw [hn]
  conv => rhs; rw [e2]
  rw [List.drop_left]
theorem rdT_fuel {k k' : Nat} {l : List UInt8} {t : List Int} {r : List UInt8} (h : rdT k l = some (t, r)) (hk : t.length ≤ k') : rdT k' l = some (t, r) := by
  obtain ⟨e1, e2⟩ := rdT_term k l t r h
  have := rdT_back k' t [] r (tmR_mono _ _ _ _ e1 hk)
  rw [txI_mono _ _ _ _ e1 hk, ← e2, List.length_nil, Nat.sub_zero, List.take_length] at this
  exact this
/-- what bytes begin with -/
def rdA (l : List UInt8) : Option (List Int × List UInt8) := rdT l.length l
theorem rdA_eq {k : Nat} {l : List UInt8} (hk : l.length ≤ k) : rdT k l = rdA l := by
  unfold rdA
  cases h : rdT l.length l with
  | some p =>
    obtain ⟨t, r⟩ := p
    have := rdT_len h
    exact rdT_fuel h (by omega)
  | none =>
    cases h' : rdT k l with
    | none => rfl
    | some p =>
      obtain ⟨t, r⟩ := p
      have := rdT_len h'
      rw [rdT_fuel h' (show t.length ≤ l.length by omega)] at h
      cases h
theorem rdA_nil : rdA [] = none := rfl
theorem rdA_leaf {c : UInt8} {l : List UInt8} (h : isLf (ltN c) = true) : rdA (c :: l) = some ([ltN c], l) := rdT_leaf h
theorem rdA_opp {c : UInt8} {l : List UInt8} (h : ltN c = 12) : rdA (c :: l) = (match rdA l with | none => none | some p => some (12 :: p.1, p.2)) := rdT_opp h
theorem rdA_com {l : List UInt8} : rdA (40 :: l) = rdC rdA l := by
  show rdC (rdT l.length) l = _
  unfold rdC
  rw [rdA_eq (Nat.le_refl l.length)]
  cases h : rdA l with
  | none => rfl
  | some p =>
    obtain ⟨a, r⟩ := p
    cases r with
    | nil => rfl
    | cons s r2 =>
      have := rdT_len h
      simp only [List.length_cons] at this
      dsimp only
      rw [rdA_eq (show r2.length ≤ l.length by omega)]
theorem rdA_no {c : UInt8} {l : List UInt8} (h : isLf (ltN c) = false) (h2 : ltN c ≠ 12) (h3 : c ≠ 40) : rdA (c :: l) = none := rdT_no h h2 h3
/-- the term of a text -/
def ptI (s : ByteArray) : Option (List Int) := match rdA s.data.toList with | some (t, []) => if t.length ≤ 15 then some t else none | _ => none
theorem ptI_some {s : ByteArray} {t : List Int} (h : ptI s = some t) : rdA s.data.toList = some (t, []) ∧ t.length ≤ 15 ∧ vtB t = true ∧ txI t.length t = s ∧ s.size ≤ 45 := by
  unfold ptI at h
  split at h
  · rename_i t' e
    split at h
    · rename_i hl
      injection h with h
      subst h
      obtain ⟨e1, e2⟩ := rdT_term _ _ _ _ e
      have := rdT_len e
      have hs := txt_size s
      refine ⟨e, hl, by unfold vtB; rw [decide_eq_true hl, e1]; rfl, ?_, by simp only [List.length_nil] at this; omega⟩
      rw [List.append_nil] at e2
      cases s with
      | mk d =>
        cases hx : txI t'.length t' with
        | mk d' =>
          rw [hx] at e2
          have : d.toList = d'.toList := e2
          rw [Array.toList_inj] at this
          rw [this]
    · cases h
  · cases h
theorem ptI_text {t : List Int} (h : vtB t = true) : ptI (txI t.length t) = some t := by
  unfold vtB at h
  rw [Bool.and_eq_true, decide_eq_true_eq, beq_iff_eq] at h
  have := rdT_back t.length t [] [] h.2
  rw [List.append_nil, List.length_nil, Nat.sub_zero, List.take_length] at this
  have hr : rdA (txI t.length t).data.toList = some (t, []) := by
    have hl := rdT_len this
    exact rdT_fuel this (by omega)
  unfold ptI
  rw [hr]
  dsimp only
  rw [if_pos h.1]
end Go.Proofs.YtpophjloedpcfaaGreatDoor
