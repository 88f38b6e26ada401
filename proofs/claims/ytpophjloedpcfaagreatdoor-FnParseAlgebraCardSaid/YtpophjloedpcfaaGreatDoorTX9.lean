import Derived.Test.YtpophjloedpcfaaGreatDoorTX8
namespace Go.Proofs.YtpophjloedpcfaaGreatDoor

/-! Numbers, lists and tables read off texts. Nothing of the program. -/
theorem up_ltX {L : List Int} (h : latB L = true) {k : Int} (k0 : 0 ≤ k) (k1 : k < L.length) : 0 ≤ nth L k ∧ nth L k < 100 := by
  have hn := lat_len h
  have e : num L = L.length := rfl
  unfold latB at h
  rw [Bool.and_eq_true] at h
  have hv := h.1
  unfold voB at hv
  simp only [Bool.and_eq_true, decide_eq_true_eq] at hv
  have := (allI_iff _ _).1 hv.1.2 k k0 (by omega)
  unfold inR at this
  simp only [Bool.and_eq_true, decide_eq_true_eq] at this
  have hp := pw_mono (num L) 6 hn.2
  have h6 : pw 6 = 64 := rfl
  omega
theorem up_mem {L : List Int} (h : latB L = true) {v : Int} (hv : v ∈ L) : 0 ≤ v ∧ v < 100 := by
  obtain ⟨i, hi, rfl⟩ := List.getElem_of_mem hv
  have := up_ltX h (k := i) (by omega) (by omega)
  rwa [nth_at hi] at this
theorem tab_mem {L : List Int} {T : List (List Int)} (h : algB L T = true) {R : List Int} (hR : R ∈ T) : (R.length : Int) = num L ∧ ∀ v ∈ R, 0 ≤ v ∧ v < 10 := by
  obtain ⟨i, hi, rfl⟩ := List.getElem_of_mem hR
  have hs := (algB_parts h).2.1
  have hl := shape_len hs
  have hr := shape_row hs (x := i) (by omega) (by omega)
  rw [rowAt_at hi] at hr
  refine ⟨hr, fun v hv => ?_⟩
  obtain ⟨j, hj, rfl⟩ := List.getElem_of_mem hv
  have := shape_cell hs (x := i) (y := j) (by omega) (by omega) (by omega) (by omega)
  unfold tv at this
  rw [rowAt_at hi, nth_at hj] at this
  have := lat_len (algB_parts h).1
  omega
def rdG : Int → List UInt8 → Option Int
  | n, [] => some n
  | n, b :: r => if (b.toNat < 48 ∨ 57 < b.toNat) ∨ 1000 < n then none else rdG (10 * n + ((b.toNat : Int) - 48)) r
def rdN (l : List UInt8) : Int := match rdG 0 l with
  | none => -1
  | some n => if l = [] ∨ Lib.decDigits n.toNat ≠ l then -1 else n
theorem rdG_le : ∀ (l : List UInt8) {n m : Int}, 0 ≤ n → n ≤ 10009 → rdG n l = some m → 0 ≤ m ∧ m ≤ 10009
  | [], n, m, h0, h1, h => by
    have : n = m := by simpa [rdG] using h
    omega
  | b :: r, n, m, h0, h1, h => by
    unfold rdG at h
    split at h
    · cases h
    · rename_i hn
      refine rdG_le r ?_ ?_ h <;> omega
theorem rdN_some {l : List UInt8} (h : 0 ≤ rdN l) : Lib.decDigits (rdN l).toNat = l := by
  unfold rdN at h ⊢
  cases e : rdG 0 l with
  | none => rw [e] at h; simp at h
  | some n =>
    rw [e] at h
    simp only at h ⊢
    by_cases hc : l = [] ∨ Lib.decDigits n.toNat ≠ l
    · rw [if_pos hc] at h; exact absurd h (by decide)
    · rw [if_neg hc]
      rw [not_or, Classical.not_not] at hc
      exact hc.2
theorem dgt_nat {k : Nat} (h : k < 10) : (UInt8.ofNat (48 + k)).toNat = 48 + k := by
  rw [UInt8.toNat_ofNat']; omega
theorem rdN_dec {n : Int} (h0 : 0 ≤ n) (h1 : n < 100) : rdN (Lib.decDigits n.toNat) = n := by
  by_cases hs : n.toNat < 10
  · have e := Lib.decDigits_one hs
    have hd := dgt_nat hs
    unfold rdN
    have : rdG 0 (Lib.decDigits n.toNat) = some n := by
      rw [e]
      unfold rdG
      rw [if_neg (by omega), hd]
      show some _ = _
      congr 1; omega
    rw [this]
    simp only
    rw [if_neg (by rw [e]; simp)]
  · have e := Lib.decDigits_two hs (by omega)
    have hd1 := dgt_nat (k := n.toNat / 10) (by omega)
    have hd2 := dgt_nat (k := n.toNat % 10) (by omega)
    unfold rdN
    have : rdG 0 (Lib.decDigits n.toNat) = some n := by
      rw [e]
      unfold rdG
      rw [if_neg (by omega), hd1]
      unfold rdG
      rw [if_neg (by omega), hd2]
      show some _ = _
      congr 1; omega
    rw [this]
    simp only
    rw [if_neg (by rw [e]; simp)]
theorem dec_byte : ∀ {f u : Nat}, u < f → ∀ {b : UInt8}, b ∈ Lib.decDigits u → 48 ≤ b.toNat ∧ b.toNat ≤ 57
  | 0, _, h, _, _ => absurd h (by omega)
  | f + 1, u, h, b, hb => by
    by_cases hu : u < 10
    · rw [Lib.decDigits_one hu] at hb
      rw [List.mem_singleton.1 hb, dgt_nat hu]; omega
    · rw [Lib.decDigits, dif_neg hu] at hb
      rcases List.mem_append.1 hb with hb | hb
      · exact dec_byte (f := f) (by omega) hb
      · rw [List.mem_singleton.1 hb, dgt_nat (by omega)]; omega
theorem mem_joinTail {sep : List UInt8} {b : UInt8} {r : List (List UInt8)} (h : b ∈ Lib.joinTail sep r) : b ∈ sep ∨ ∃ p ∈ r, b ∈ p := by
  unfold Lib.joinTail at h
  obtain ⟨l, hl, hb⟩ := List.mem_flatten.1 h
  obtain ⟨p, hp, rfl⟩ := List.mem_map.1 hl
  rcases List.mem_append.1 hb with hb | hb
  · exact .inl hb
  · exact .inr ⟨p, hp, hb⟩
theorem mem_join {sep : List UInt8} {b : UInt8} : ∀ {ps : List (List UInt8)}, b ∈ Lib.join ps sep → b ∈ sep ∨ ∃ p ∈ ps, b ∈ p
  | [], h => by rw [Lib.join_nil] at h; cases h
  | p :: r, h => by
    rw [Lib.join_cons] at h
    rcases List.mem_append.1 h with h | h
    · exact .inr ⟨p, by simp, h⟩
    · rcases mem_joinTail h with h | ⟨q, hq, hb⟩
      · exact .inl h
      · exact .inr ⟨q, by simp [hq], hb⟩
/-- the lists of a text of numbers and of one of rows -/
def prxL (x : List UInt8) : List Int := (pcs 44 x).map rdN
def prxT (y : List UInt8) : List (List Int) := (pcs 47 y).map fun r => r.map fun b => rdN [b]
/-- a list's text, a table's text -/
def txL (L : List Int) : List UInt8 := Lib.join (L.map fun v => Lib.decDigits v.toNat) [44]
def txR (R : List Int) : List UInt8 := (R.map fun v => Lib.decDigits v.toNat).flatten
def txT (T : List (List Int)) : List UInt8 := Lib.join (T.map txR) [47]
theorem rwB_list (R : List Int) : (rwB R).data.toList = txR R := by
  unfold rwB
  rw [app_join _ (Nat.le_refl _), List.take_of_length_le (by simp)]; rfl
theorem lt_list {L : List Int} (h : L ≠ []) : (ltxN L L.length).data.toList = txL L := by
  rw [← join_lt h]
  show Lib.join ((dgs L).map (·.data.toList)) [44] = _
  unfold dgs txL
  rw [List.map_map]; rfl
theorem tb_list {T : List (List Int)} (h : T ≠ []) : (tbN T T.length).data.toList = txT T := by
  rw [← join_tb h]
  show Lib.join ((rws T).map (·.data.toList)) [47] = _
  unfold rws txT
  rw [List.map_map]
  congr 1
  exact List.map_congr_left fun R _ => rwB_list R
theorem alg_ne {L : List Int} {T : List (List Int)} (h : algB L T = true) : L ≠ [] ∧ T ≠ [] := by
  have hl := shape_len (algB_parts h).2.1
  have := lat_len (algB_parts h).1
  have e : num L = L.length := rfl
  constructor
  · intro e1
    have : L.length = 0 := by rw [e1]; rfl
    omega
  · intro e1
    have : T.length = 0 := by rw [e1]; rfl
    omega
theorem at_list {L : List Int} {T : List (List Int)} (h : algB L T = true) : (atI L T).data.toList = txL L ++ 58 :: txT T := by
  rw [atI_t h, ba_app, ba_app, lt_list (alg_ne h).1, tb_list (alg_ne h).2]
  simp
/-- what is read is the text of what is read -/
theorem prxL_text {x : List UInt8} (h : ∀ v ∈ prxL x, 0 ≤ v) : txL (prxL x) = x := by
  unfold txL prxL
  rw [List.map_map]
  have : (pcs 44 x).map ((fun v : Int => Lib.decDigits v.toNat) ∘ rdN) = pcs 44 x := by
    conv => rhs; rw [← List.map_id (pcs 44 x)]
    refine List.map_congr_left fun p hp => ?_
    exact rdN_some (h _ (by unfold prxL; exact List.mem_map_of_mem hp))
  rw [this]; exact pcs_join 44 x
theorem prxR_text {r : List UInt8} (h : ∀ b ∈ r, 0 ≤ rdN [b]) : txR (r.map fun b => rdN [b]) = r := by
  unfold txR
  induction r with
  | nil => rfl
  | cons b r ih =>
    rw [List.map_cons, List.map_cons, List.flatten_cons, ih (fun c hc => h c (by simp [hc])), rdN_some (h b (by simp))]; rfl
theorem prxT_text {y : List UInt8} (h : ∀ R ∈ prxT y, ∀ v ∈ R, 0 ≤ v) : txT (prxT y) = y := by
  unfold txT prxT
  rw [List.map_map]
  have : (pcs 47 y).map (txR ∘ fun r => r.map fun b => rdN [b]) = pcs 47 y := by
    conv => rhs; rw [← List.map_id (pcs 47 y)]
    refine List.map_congr_left fun p hp => ?_
    refine prxR_text fun b hb => ?_
    exact h (p.map fun b => rdN [b]) (by unfold prxT; exact List.mem_map_of_mem (f := fun r : List UInt8 => r.map fun b => rdN [b]) hp) _ (List.mem_map_of_mem (f := fun b => rdN [b]) hb)
  rw [this]; exact pcs_join 47 y
theorem prs_text {x y : List UInt8} (h : algB (prxL x) (prxT y) = true) : (atI (prxL x) (prxT y)).data.toList = x ++ 58 :: y := by
  rw [at_list h, prxL_text (fun v hv => (up_mem (algB_parts h).1 hv).1), prxT_text (fun R hR v hv => ((tab_mem h hR).2 v hv).1)]
/-- a text's list is the list -/
theorem txL_free {L : List Int} {c : UInt8} (hc : 57 < c.toNat ∨ (c.toNat < 48 ∧ c ≠ 44)) : c ∉ txL L := by
  intro hm
  unfold txL at hm
  rcases mem_join hm with hm | ⟨p, hp, hb⟩
  · rw [List.mem_singleton.1 hm] at hc
    rcases hc with hc | hc
    · exact absurd hc (by decide)
    · exact hc.2 rfl
  · obtain ⟨v, _, rfl⟩ := List.mem_map.1 hp
    have := dec_byte (Nat.lt_succ_self _) hb
    omega
theorem txR_byte {R : List Int} {b : UInt8} (h : b ∈ txR R) : 48 ≤ b.toNat ∧ b.toNat ≤ 57 := by
  unfold txR at h
  obtain ⟨l, hl, hb⟩ := List.mem_flatten.1 h
  obtain ⟨v, _, rfl⟩ := List.mem_map.1 hl
  exact dec_byte (Nat.lt_succ_self _) hb
theorem txT_free {T : List (List Int)} {c : UInt8} (hc : 57 < c.toNat) : c ∉ txT T := by
  intro hm
  unfold txT at hm
  rcases mem_join hm with hm | ⟨p, hp, hb⟩
  · rw [List.mem_singleton.1 hm] at hc; exact absurd hc (by decide)
  · obtain ⟨R, _, rfl⟩ := List.mem_map.1 hp
    have := txR_byte hb
    omega
theorem pcs_txL {L : List Int} (hn : L ≠ []) : pcs 44 (txL L) = L.map fun v => Lib.decDigits v.toNat := by
  unfold txL
  refine pcs_of_join (by simp [hn]) fun p hp hm => ?_
  obtain ⟨v, _, rfl⟩ := List.mem_map.1 hp
  have := dec_byte (Nat.lt_succ_self _) hm
  exact absurd this (by decide)
theorem prxL_tx {L : List Int} (hn : L ≠ []) (h : ∀ v ∈ L, 0 ≤ v ∧ v < 100) : prxL (txL L) = L := by
  unfold prxL
  rw [pcs_txL hn, List.map_map]
  conv => rhs; rw [← List.map_id L]
  exact List.map_congr_left fun v hv => rdN_dec (h v hv).1 (h v hv).2
theorem txR_dig {R : List Int} (h : ∀ v ∈ R, 0 ≤ v ∧ v < 10) : txR R = R.map fun v => UInt8.ofNat (48 + v.toNat) := by
  unfold txR
  induction R with
  | nil => rfl
  | cons v r ih =>
    rw [List.map_cons, List.flatten_cons, List.map_cons, ih (fun u hu => h u (by simp [hu])), Lib.decDigits_one (by have := h v (by simp); omega)]; rfl
theorem pcs_txT {T : List (List Int)} (hn : T ≠ []) : pcs 47 (txT T) = T.map txR := by
  unfold txT
  refine pcs_of_join (by simp [hn]) fun p hp hm => ?_
  obtain ⟨R, _, rfl⟩ := List.mem_map.1 hp
  have := txR_byte hm
  exact absurd this (by decide)
theorem prxR_tx {R : List Int} (h : ∀ v ∈ R, 0 ≤ v ∧ v < 10) : (txR R).map (fun b => rdN [b]) = R := by
  rw [txR_dig h, List.map_map]
  conv => rhs; rw [← List.map_id R]
  refine List.map_congr_left fun v hv => ?_
  have := h v hv
  have e := Lib.decDigits_one (i := v.toNat) (by omega)
  show rdN [UInt8.ofNat (48 + v.toNat)] = v
  rw [← e]; exact rdN_dec this.1 (by omega)
theorem prxT_tx {T : List (List Int)} (hn : T ≠ []) (h : ∀ R ∈ T, ∀ v ∈ R, 0 ≤ v ∧ v < 10) : prxT (txT T) = T := by
  unfold prxT
  rw [pcs_txT hn, List.map_map]
  conv => rhs; rw [← List.map_id T]
  exact List.map_congr_left fun R hR => prxR_tx (h R hR)
/-- the pieces of the text of an algebra -/
theorem at_pcs {L : List Int} {T : List (List Int)} (h : algB L T = true) : pcs 58 (atI L T).data.toList = [txL L, txT T] ∧ prxL (txL L) = L ∧ prxT (txT T) = T := by
  have hu := fun v (hv : v ∈ L) => up_mem (algB_parts h).1 hv
  refine ⟨?_, prxL_tx (alg_ne h).1 hu, prxT_tx (alg_ne h).2 fun R hR => (tab_mem h hR).2⟩
  rw [at_list h, pcs_cons _ (txL_free (.inl (by decide))), pcs_pure (txT_free (by decide))]
end Go.Proofs.YtpophjloedpcfaaGreatDoor
