import Derived.Test.YtpophjloedpcfaaGreatDoorTX9
namespace Go.Proofs.YtpophjloedpcfaaGreatDoor

/-! What the program reads off the text of an algebra. Nothing of the program. -/
theorem dv_dig {k : Nat} (h : k < 10) : Lib.digitVal (UInt8.ofNat (48 + k)) = some k := by
  unfold Lib.digitVal
  rw [dgt_nat h, if_pos (by omega)]; congr 1; omega
theorem decNat_cons (b : UInt8) (r : List UInt8) : Lib.decNat (b :: r) = Lib.decFrom 0 (b :: r) := rfl
theorem decFrom_step {b : UInt8} {d a : Nat} (r : List UInt8) (h : Lib.digitVal b = some d) : Lib.decFrom a (b :: r) = Lib.decFrom (a * 10 + d) r := by
  rw [Lib.decFrom, h]
theorem atoi_dec {n : Int} (h0 : 0 ≤ n) (h1 : n < 100) : Lib.atoiAll (Lib.decDigits n.toNat) = .ok n := by
  have hl := dec_len1 (u := n.toNat) (by omega)
  rw [Lib.atoiAll_short _ (by omega)]
  have key : Lib.atoi (Lib.decDigits n.toNat) = some n := by
    by_cases hs : n.toNat < 10
    · rw [Lib.decDigits_one hs]
      have hd := dgt_nat hs
      have n45 : UInt8.ofNat (48 + n.toNat) ≠ 45 := fun e => by rw [e] at hd; have : (45 : UInt8).toNat = 45 := rfl; omega
      have n43 : UInt8.ofNat (48 + n.toNat) ≠ 43 := fun e => by rw [e] at hd; have : (43 : UInt8).toNat = 43 := rfl; omega
      unfold Lib.atoi
      simp only
      rw [if_neg (by simpa using n45), if_neg (by simpa using n43)]
      rw [decNat_cons, decFrom_step _ (dv_dig hs)]
      show some (((0 * 10 + n.toNat : Nat)) : Int) = some n
      congr 1; omega
    · rw [Lib.decDigits_two hs (by omega)]
      have hd1 := dgt_nat (k := n.toNat / 10) (by omega)
      have hd2 := dgt_nat (k := n.toNat % 10) (by omega)
      have n45 : UInt8.ofNat (48 + n.toNat / 10) ≠ 45 := fun e => by rw [e] at hd1; have : (45 : UInt8).toNat = 45 := rfl; omega
      have n43 : UInt8.ofNat (48 + n.toNat / 10) ≠ 43 := fun e => by rw [e] at hd1; have : (43 : UInt8).toNat = 43 := rfl; omega
      unfold Lib.atoi
      simp only
      rw [if_neg (by simpa using n45), if_neg (by simpa using n43)]
      rw [decNat_cons, decFrom_step _ (dv_dig (by omega)), decFrom_step _ (dv_dig (by omega))]
      show some ((((0 * 10 + n.toNat / 10) * 10 + n.toNat % 10 : Nat)) : Int) = some n
      congr 1; omega
  rw [key]; rfl
/-- all the numbers that pieces are -/
def atoL : List (List UInt8) → Option (List Int)
  | [] => some []
  | p :: r => match Lib.atoiAll p with
    | .ok v => match atoL r with
      | some q => some (v :: q)
      | none => none
    | _ => none
theorem atoL_dec : ∀ {L : List Int}, (∀ v ∈ L, 0 ≤ v ∧ v < 100) → atoL (L.map fun v => Lib.decDigits v.toNat) = some L
  | [], _ => rfl
  | v :: r, h => by
    rw [List.map_cons, atoL, atoi_dec (h v (by simp)).1 (h v (by simp)).2]
    simp only
    rw [atoL_dec fun u hu => h u (by simp [hu])]
theorem atoL_len : ∀ {P : List (List UInt8)} {L : List Int}, atoL P = some L → L.length = P.length
  | [], L, h => by
    have : L = [] := by simpa [atoL] using h.symm
    rw [this]; rfl
  | p :: r, L, h => by
    rw [atoL] at h
    cases e : Lib.atoiAll p with
    | ok v =>
      rw [e] at h
      simp only at h
      cases e2 : atoL r with
      | none => rw [e2] at h; cases h
      | some q =>
        rw [e2] at h
        simp only [Option.some.injEq] at h
        rw [← h, List.length_cons, List.length_cons, atoL_len e2]
    | _ => rw [e] at h; cases h
theorem atoL_nth : ∀ {P : List (List UInt8)} {L : List Int}, atoL P = some L → ∀ (k : Nat) (p : List UInt8), P[k]? = some p → Lib.atoiAll p = .ok (nth L k)
  | [], _, _, k, p, hp => by simp at hp
  | q :: r, L, h, k, p, hp => by
    rw [atoL] at h
    cases e : Lib.atoiAll q with
    | ok v =>
      rw [e] at h
      simp only at h
      cases e2 : atoL r with
      | none => rw [e2] at h; cases h
      | some q2 =>
        rw [e2] at h
        simp only [Option.some.injEq] at h
        subst h
        cases k with
        | zero =>
          simp at hp
          subst hp
          rw [e]; rfl
        | succ k =>
          rw [List.getElem?_cons_succ] at hp
          have := atoL_nth e2 k p hp
          rw [this]
          unfold nth
          simp
    | _ => rw [e] at h; cases h
theorem atoL_bad : ∀ {P : List (List UInt8)}, atoL P = none → ∃ (k : Nat) (p : List UInt8), P[k]? = some p ∧ (∀ v, Lib.atoiAll p ≠ .ok v) ∧ ∃ L, atoL (P.take k) = some L
  | [], h => by simp [atoL] at h
  | q :: r, h => by
    rw [atoL] at h
    cases e : Lib.atoiAll q with
    | ok v =>
      rw [e] at h
      simp only at h
      cases e2 : atoL r with
      | some q2 => rw [e2] at h; cases h
      | none =>
        obtain ⟨k, p, h1, h2, L, h3⟩ := atoL_bad e2
        refine ⟨k + 1, p, by simpa using h1, h2, v :: L, ?_⟩
        rw [List.take_succ_cons, atoL, e, h3]
    | _ => exact ⟨0, q, rfl, (fun v hv => by rw [e] at hv; cases hv), [], rfl⟩
/-- the products of digits -/
def dgP (D : List UInt8) : List Int := D.map fun b => (b.toNat : Int) - 48
/-- rows cut out of products -/
def ctR (F : List Int) (m : Nat) : List (List Int) := (List.range m).map fun x => (F.drop (x * m)).take m
theorem flt_join : ∀ (T : List (List UInt8)), (∀ p ∈ T, (47 : UInt8) ∉ p) → (Lib.join T [47]).filter (fun b => b != 47) = T.flatten
  | [], _ => rfl
  | p :: r, h => by
    have hp : p.filter (fun b => b != 47) = p := List.filter_eq_self.2 fun b hb => by
      have := h p (by simp)
      simp
      intro e; exact this (e ▸ hb)
    rw [Lib.join_cons, List.filter_append, hp]
    cases r with
    | nil => simp [Lib.joinTail]
    | cons q r =>
      have ih := flt_join (q :: r) (fun x hx => h x (by simp [List.mem_cons.1 hx]))
      rw [joinTail_cons, List.filter_append, ih]
      rfl
theorem flt_txT (T : List (List Int)) : (txT T).filter (fun b => b != 47) = (T.map txR).flatten := by
  refine flt_join _ fun p hp hm => ?_
  obtain ⟨R, _, rfl⟩ := List.mem_map.1 hp
  have := txR_byte hm
  exact absurd this (by decide)
theorem dgP_txR {R : List Int} (h : ∀ v ∈ R, 0 ≤ v ∧ v < 10) : dgP (txR R) = R := by
  unfold dgP
  rw [txR_dig h, List.map_map]
  conv => rhs; rw [← List.map_id R]
  refine List.map_congr_left fun v hv => ?_
  have := h v hv
  show (((UInt8.ofNat (48 + v.toNat)).toNat : Nat) : Int) - 48 = v
  rw [dgt_nat (by omega)]; omega
theorem dgP_flat : ∀ {T : List (List Int)}, (∀ R ∈ T, ∀ v ∈ R, 0 ≤ v ∧ v < 10) → dgP (T.map txR).flatten = T.flatten
  | [], _ => rfl
  | R :: r, h => by
    have ih := dgP_flat (T := r) fun X hX => h X (by simp [hX])
    rw [List.map_cons, List.flatten_cons, List.flatten_cons, ← ih]
    have := dgP_txR (h R (by simp))
    unfold dgP at this ⊢
    rw [List.map_append, this]
theorem flat_len : ∀ {T : List (List Int)} {m : Nat}, (∀ R ∈ T, R.length = m) → T.flatten.length = T.length * m
  | [], m, _ => by simp
  | R :: r, m, h => by
    rw [List.flatten_cons, List.length_append, flat_len (T := r) (m := m) (fun X hX => h X (by simp [hX])), h R (by simp), List.length_cons, Nat.add_mul]; omega
theorem flat_row : ∀ {T : List (List Int)} {m : Nat}, (∀ R ∈ T, R.length = m) → ∀ (x : Nat) (hx : x < T.length), (T.flatten.drop (x * m)).take m = T[x]
  | [], _, _, x, hx => absurd hx (by simp)
  | R :: r, m, h, 0, _ => by
    rw [Nat.zero_mul, List.drop_zero, List.flatten_cons, List.take_append_of_le_length (by rw [h R (by simp)]; exact Nat.le_refl _), List.take_of_length_le (by rw [h R (by simp)]; exact Nat.le_refl _)]; rfl
  | R :: r, m, h, x + 1, hx => by
    have hR : R.length = m := h R (by simp)
    rw [List.flatten_cons, List.drop_append, List.drop_of_length_le (by rw [hR, Nat.add_mul]; omega), List.nil_append, hR, show (x + 1) * m - m = x * m by rw [Nat.add_mul]; omega]
    rw [flat_row (T := r) (m := m) (fun X hX => h X (by simp [hX])) x (by simpa using hx)]; rfl
theorem ctR_flat {T : List (List Int)} {m : Nat} (h : ∀ R ∈ T, R.length = m) (hm : T.length = m) : ctR T.flatten m = T := by
  unfold ctR
  apply List.ext_getElem
  · simp [hm]
  · intro x h1 h2
    rw [List.getElem_map, List.getElem_range, flat_row h x h2]
theorem map_len (R : List Int) (h : ∀ v ∈ R, 0 ≤ v ∧ v < 10) : (txR R).length = R.length := by rw [txR_dig h, List.length_map]
/-- the program's reading of the text of an algebra is the algebra -/
theorem at_prog {L : List Int} {T : List (List Int)} (h : algB L T = true) :
    Lib.cut (atI L T).data.toList [58] = (txL L, txT T, true) ∧ atoL (pcs 44 (txL L)) = some L ∧ ((txT T).filter (fun b => b != 47)).length = L.length * L.length ∧ ctR (dgP ((txT T).filter (fun b => b != 47))) L.length = T := by
  have hu := fun v (hv : v ∈ L) => up_mem (algB_parts h).1 hv
  have hT := fun R (hR : R ∈ T) => (tab_mem h hR).2
  have hl := shape_len (algB_parts h).2.1
  have e : num L = L.length := rfl
  have hrow : ∀ R ∈ T, R.length = L.length := fun R hR => by have := (tab_mem h hR).1; omega
  refine ⟨by rw [at_list h]; exact cut_at (txL_free (.inl (by decide))), by rw [pcs_txL (alg_ne h).1]; exact atoL_dec hu, ?_, ?_⟩
  · have := congrArg List.length (dgP_flat hT)
    unfold dgP at this
    rw [List.length_map] at this
    rw [flt_txT, this, flat_len hrow]
    congr 1; omega
  · rw [flt_txT, dgP_flat hT]
    exact ctR_flat hrow (by omega)
end Go.Proofs.YtpophjloedpcfaaGreatDoor
