import Derived.Test.YtpophjloedpcfaaGreatDoorTX1
import Derived.Lib.SplitLaws
import Derived.Lib.ReplaceLaws
import Derived.Lib.AtoiTie
namespace Go.Proofs.YtpophjloedpcfaaGreatDoor

/-! Pieces of texts. Nothing of the program. -/
def pcs (c : UInt8) : List UInt8 → List (List UInt8)
  | [] => [[]]
  | x :: r => if x = c then [] :: pcs c r else match pcs c r with
    | [] => [[x]]
    | p :: q => (x :: p) :: q
theorem pcs_ne (c : UInt8) : ∀ s, pcs c s ≠ []
  | [] => by simp [pcs]
  | x :: r => by
    unfold pcs
    split
    · simp
    · split <;> simp
theorem pcs_hit {c : UInt8} {r : List UInt8} : pcs c (c :: r) = [] :: pcs c r := by
  show (if c = c then [] :: pcs c r else _) = _
  rw [if_pos rfl]
theorem pcs_miss {c x : UInt8} {r p : List UInt8} {q : List (List UInt8)} (h : x ≠ c) (e : pcs c r = p :: q) : pcs c (x :: r) = (x :: p) :: q := by
  show (if x = c then _ else match pcs c r with | [] => [[x]] | p :: q => (x :: p) :: q) = _
  rw [if_neg h, e]
theorem joinTail_cons (sep p : List UInt8) (q : List (List UInt8)) : Lib.joinTail sep (p :: q) = sep ++ Lib.join (p :: q) sep := by
  rw [Lib.join_cons]; simp [Lib.joinTail]
theorem pcs_join (c : UInt8) : ∀ s, Lib.join (pcs c s) [c] = s
  | [] => by simp [pcs, Lib.join_one]
  | x :: r => by
    have ih := pcs_join c r
    cases e : pcs c r with
    | nil => exact absurd e (pcs_ne c r)
    | cons p q =>
      rw [e] at ih
      by_cases h : x = c
      · subst h
        rw [pcs_hit, e, Lib.join_cons, joinTail_cons, ih]; rfl
      · rw [pcs_miss h e, Lib.join_cons, List.cons_append, ← Lib.join_cons, ih]
theorem pcs_free {c : UInt8} : ∀ {s p}, p ∈ pcs c s → c ∉ p
  | [], p, h => by simp [pcs] at h; simp [h]
  | x :: r, p, h => by
    cases e : pcs c r with
    | nil => exact absurd e (pcs_ne c r)
    | cons p' q =>
      by_cases hx : x = c
      · subst hx
        rw [pcs_hit] at h
        rcases List.mem_cons.1 h with rfl | h
        · simp
        · exact pcs_free h
      · rw [pcs_miss hx e] at h
        rcases List.mem_cons.1 h with rfl | h
        · intro hm
          rcases List.mem_cons.1 hm with h | h
          · exact hx h.symm
          · exact pcs_free (s := r) (p := p') (by rw [e]; simp) h
        · exact pcs_free (s := r) (by rw [e]; simp [h])
theorem pcs_pure {c : UInt8} : ∀ {p : List UInt8}, c ∉ p → pcs c p = [p]
  | [], _ => rfl
  | x :: r, h => by
    rw [List.mem_cons, not_or] at h
    exact pcs_miss (Ne.symm h.1) (pcs_pure h.2)
theorem pcs_cons {c : UInt8} : ∀ {p : List UInt8} (t : List UInt8), c ∉ p → pcs c (p ++ c :: t) = p :: pcs c t
  | [], t, _ => pcs_hit
  | x :: r, t, h => by
    rw [List.mem_cons, not_or] at h
    exact pcs_miss (Ne.symm h.1) (pcs_cons t h.2)
theorem pcs_of_join {c : UInt8} : ∀ {ps : List (List UInt8)}, ps ≠ [] → (∀ p ∈ ps, c ∉ p) → pcs c (Lib.join ps [c]) = ps
  | [], h, _ => absurd rfl h
  | [p], _, hf => by rw [Lib.join_one]; exact pcs_pure (hf p (by simp))
  | p :: p2 :: r, _, hf => by
    rw [Lib.join_cons, joinTail_cons]
    show pcs c (p ++ c :: Lib.join (p2 :: r) [c]) = _
    rw [pcs_cons _ (hf p (by simp)), pcs_of_join (by simp) (fun q hq => hf q (by simp [List.mem_cons.1 hq]))]
/-- a byte more at the end -/
theorem pcs_snoc {c : UInt8} (x : UInt8) : ∀ {l : List UInt8} {O : List (List UInt8)} {p : List UInt8}, pcs c l = O ++ [p] → pcs c (l ++ [x]) = if x = c then O ++ [p] ++ [[]] else O ++ [p ++ [x]]
  | [], O, p, h => by
    have : O = [] ∧ p = [] := by
      cases O with
      | nil => simp [pcs] at h; exact ⟨rfl, h⟩
      | cons a b => simp [pcs] at h
    obtain ⟨rfl, rfl⟩ := this
    by_cases hx : x = c
    · subst hx; rw [if_pos rfl]; rw [List.nil_append, pcs_hit]; rfl
    · rw [if_neg hx, List.nil_append, pcs_miss hx (p := []) (q := []) rfl]; rfl
  | y :: l, O, p, h => by
    cases e : pcs c l with
    | nil => exact absurd e (pcs_ne c l)
    | cons p' q =>
      by_cases hy : y = c
      · subst hy
        rw [pcs_hit] at h
        cases O with
        | nil => simp at h; exact absurd h.2 (pcs_ne _ _)
        | cons a b =>
          simp at h
          obtain ⟨rfl, h⟩ := h
          rw [List.cons_append, pcs_hit, pcs_snoc x h]
          split <;> simp
      · rw [pcs_miss hy e] at h
        cases O with
        | nil =>
          simp at h
          obtain ⟨rfl, rfl⟩ := h
          have ih := pcs_snoc (c := c) x (l := l) (O := []) (p := p') (by rw [e]; rfl)
          rw [List.cons_append]
          by_cases hx : x = c
          · rw [if_pos hx] at ih ⊢
            rw [pcs_miss hy ih]; rfl
          · rw [if_neg hx] at ih ⊢
            rw [pcs_miss hy ih]; rfl
        | cons a b =>
          simp at h
          obtain ⟨rfl, h⟩ := h
          have ih := pcs_snoc (c := c) x (l := l) (O := p' :: b) (p := p) (by rw [e, h]; rfl)
          rw [List.cons_append]
          by_cases hx : x = c
          · rw [if_pos hx] at ih ⊢
            rw [pcs_miss hy ih]; rfl
          · rw [if_neg hx] at ih ⊢
            rw [pcs_miss hy ih]; rfl
/-! .. and what the library does -/
theorem ix_hit (c : UInt8) (l : List UInt8) : Lib.index (c :: l) [c] = 0 := by rw [Lib.index]; simp [List.isPrefixOf]
theorem ix_miss {b c : UInt8} (l : List UInt8) (h : b ≠ c) : Lib.index (b :: l) [c] = if Lib.index l [c] == -1 then -1 else Lib.index l [c] + 1 := by
  have hp : ([c] : List UInt8).isPrefixOf (b :: l) = false := by simp [List.isPrefixOf, Ne.symm h]
  rw [Lib.index, hp]; simp
theorem splitK_pcs (c : UInt8) : ∀ s, Lib.splitK [c] 0 (Lib.count s [c]) s = pcs c s
  | [] => by rw [Lib.count_miss (by simp [Lib.index])]; rfl
  | b :: l => by
    have ih := splitK_pcs c l
    by_cases h : b = c
    · subst h
      rw [Lib.count_cons_eq, pcs_hit, ← ih, Nat.add_comm]
      rw [Lib.splitK, if_neg (by rw [ix_hit]; decide), ix_hit]
      simp
    · rw [Lib.count_cons_ne b c l h]
      cases hk : Lib.count l [c] with
      | zero =>
        rw [hk] at ih
        exact (pcs_miss h ih.symm).symm
      | succ j =>
        obtain ⟨i, hi⟩ := Lib.index_of_count (s := l) (old := [c]) (by omega)
        have hb : Lib.index (b :: l) [c] = ((i + 1 : Nat) : Int) := by
          rw [ix_miss l h, hi, if_neg (by intro e; have := beq_iff_eq.1 e; omega)]; omega
        rw [hk, Lib.splitK, if_neg (by rw [hi]; intro e; have := beq_iff_eq.1 e; omega), hi] at ih
        rw [Lib.splitK, if_neg (by rw [hb]; intro e; have := beq_iff_eq.1 e; omega), hb]
        simp only [Int.toNat_natCast, Nat.add_zero, List.length_cons, List.length_nil, Nat.zero_add] at ih ⊢
        rw [pcs_miss h ih.symm, List.take_succ_cons, List.drop_succ_cons]
theorem split_pcs (c : UInt8) (s : ByteArray) : (Lib.splitB ⟨#[c]⟩ 0 (Lib.countB s ⟨#[c]⟩) s).map (·.data.toList) = pcs c s.data.toList := by
  rw [Lib.splitB_data]; exact splitK_pcs c _
theorem ix_none {c : UInt8} : ∀ {l : List UInt8}, c ∉ l → Lib.index l [c] = -1
  | [], _ => by simp [Lib.index]
  | b :: l, h => by
    rw [List.mem_cons, not_or] at h
    rw [ix_miss l (Ne.symm h.1), ix_none h.2]; rfl
theorem ix_at {c : UInt8} : ∀ {x : List UInt8} (y : List UInt8), c ∉ x → Lib.index (x ++ c :: y) [c] = (x.length : Int)
  | [], y, _ => ix_hit c y
  | b :: l, y, h => by
    rw [List.mem_cons, not_or] at h
    rw [List.cons_append, ix_miss _ (Ne.symm h.1), ix_at y h.2, if_neg (by intro e; have := beq_iff_eq.1 e; omega)]
    simp
theorem cut_at {c : UInt8} {x y : List UInt8} (h : c ∉ x) : Lib.cut (x ++ c :: y) [c] = (x, y, true) := by
  unfold Lib.cut
  rw [ix_at y h, if_pos (by omega)]
  simp
theorem replaceK_flt (c : UInt8) : ∀ s, Lib.replaceK [c] [] (Lib.count s [c]) s = s.filter (fun b => b != c)
  | [] => by rw [Lib.count_miss (by simp [Lib.index])]; rfl
  | b :: l => by
    have ih := replaceK_flt c l
    by_cases h : b = c
    · subst h
      rw [Lib.count_cons_eq, Nat.add_comm, Lib.replaceK, if_neg (by rw [ix_hit]; decide), ix_hit]
      simp only [Int.toNat_zero, List.take_zero, List.nil_append, Nat.zero_add, List.length_cons, List.length_nil, List.drop_succ_cons, List.drop_zero]
      rw [ih]; simp
    · rw [Lib.count_cons_ne b c l h]
      cases hk : Lib.count l [c] with
      | zero =>
        rw [hk] at ih
        show b :: l = _
        rw [List.filter_cons_of_pos (by simpa using h), ← ih]; rfl
      | succ j =>
        obtain ⟨i, hi⟩ := Lib.index_of_count (s := l) (old := [c]) (by omega)
        have hb : Lib.index (b :: l) [c] = ((i + 1 : Nat) : Int) := by
          rw [ix_miss l h, hi, if_neg (by intro e; have := beq_iff_eq.1 e; omega)]; omega
        rw [hk, Lib.replaceK, if_neg (by rw [hi]; intro e; have := beq_iff_eq.1 e; omega), hi] at ih
        rw [Lib.replaceK, if_neg (by rw [hb]; intro e; have := beq_iff_eq.1 e; omega), hb, List.filter_cons_of_pos (by simpa using h), ← ih]
        simp only [Int.toNat_natCast, List.length_cons, List.length_nil, Nat.zero_add, List.take_succ_cons, List.drop_succ_cons, List.append_nil, List.cons_append]
theorem replace_flt (c : UInt8) (s : List UInt8) : Lib.replaceAll s [c] [] = s.filter (fun b => b != c) := by
  unfold Lib.replaceAll Lib.replace Lib.replaceNum
  rw [if_neg (by simp), if_pos (.inl (by decide))]
  exact replaceK_flt c s
end Go.Proofs.YtpophjloedpcfaaGreatDoor
