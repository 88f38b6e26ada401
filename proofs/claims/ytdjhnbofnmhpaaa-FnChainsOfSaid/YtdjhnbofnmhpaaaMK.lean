import Derived.Test.YtdjhnbofnmhpaaaZ8
import Derived.Test.YtdjhnbofnmhpaaaY1
namespace Go.Proofs.Ytdjhnbofnmhpaaa
open Go.RowKit

/-- a table of the call's own by append whose rows are blocks apart -/
def RowsD (B : Nat) (w : World) (v : Value) (T : List (List Int)) : Prop :=
  ∃ vs : List Value, w.ownsRow B 35 1 v T.length vs ∧ (∀ j : Nat, j < T.length → ∃ u, vs[j]? = some u ∧ Own B w u (rowAt T j)) ∧ ∀ (i j : Nat) (u x : Value), i < j → j < T.length → vs[i]? = some u → vs[j]? = some x → u.ownBlock = none ∨ u.ownBlock ≠ x.ownBlock
theorem RowsD.at {B : Nat} {w : World} {v : Value} {T : List (List Int)} (h : RowsD B w v T) : RowsAt B w v T := by
  obtain ⟨vs, h1, h2, _⟩ := h; exact ⟨vs, h1, h2⟩
theorem RowsD.nothing (B : Nat) (w : World) : RowsD B w (.slice none 0 0) [] := ⟨[], World.ownsRow_nil _ _ _ _, fun j hj => absurd hj (by simp), fun i j u x _ hj => absurd hj (by simp)⟩
theorem RowsD.below {B : Nat} {w w' : World} {v : Value} {T : List (List Int)} (h : RowsD B w v T) (hb : Below w.heap.size w w') : RowsD B w' v T := by
  obtain ⟨vs, h1, h2, h3⟩ := h
  exact ⟨vs, ownsRow_below h1 hb, fun j hj => by obtain ⟨u, hu, ho⟩ := h2 j hj; exact ⟨u, hu, ho.below hb⟩, h3⟩
theorem RowsD.setBelow {lo : Nat} {w : World} {v : Value} {T : List (List Int)} (h : RowsD lo w v T) {a : Addr} (ha : a.block < lo) (u : Value) : RowsD lo (w.setCell a u) v T := by
  obtain ⟨vs, h1, h2, h3⟩ := h
  exact ⟨vs, ownsRow_setCell_below h1 ha u, fun j hj => by obtain ⟨x, hx, ho⟩ := h2 j hj; exact ⟨x, hx, ownsRow_setCell_below ho ha u⟩, h3⟩
theorem RowsD.from {B B' : Nat} {w : World} {v : Value} {T : List (List Int)} (h : RowsD B w v T) (hB : B' ≤ B) : RowsD B' w v T := by
  obtain ⟨vs, h1, h2, h3⟩ := h
  have hf : ∀ {e : TypeId} {s n : Nat} {v : Value} {xs : List Value}, w.ownsRow B e s v n xs → w.ownsRow B' e s v n xs := fun h => by
    refine ⟨h.1, ?_⟩
    rcases h.2 with h | ⟨g, cap, cur, e1, e2, hg, e3⟩
    · exact .inl h
    · exact .inr ⟨g, cap, cur, e1, Nat.le_trans hB e2, hg, e3⟩
  exact ⟨vs, hf h1, fun j hj => by obtain ⟨u, hu, ho⟩ := h2 j hj; exact ⟨u, hu, hf ho⟩, h3⟩
theorem rows_apart {vs : List Value} {u : Value} {n : Nat} (hl : vs.length = n) (h : ∀ (i j : Nat) (a x : Value), i < j → j < n → vs[i]? = some a → vs[j]? = some x → a.ownBlock = none ∨ a.ownBlock ≠ x.ownBlock) (hn : ∀ (i : Nat) (a : Value), i < n → vs[i]? = some a → a.ownBlock = none ∨ a.ownBlock ≠ u.ownBlock) :
    ∀ (i j : Nat) (a x : Value), i < j → j < n + 1 → (vs ++ [u])[i]? = some a → (vs ++ [u])[j]? = some x → a.ownBlock = none ∨ a.ownBlock ≠ x.ownBlock := fun i j a x hij hj ha hx => by
  rw [List.getElem?_append_left (by omega)] at ha
  by_cases e : j < n
  · rw [List.getElem?_append_left (by omega)] at hx
    exact h i j a x hij e ha hx
  · have e2 : j = n := by omega
    subst e2
    rw [List.getElem?_append_right (by omega), hl, Nat.sub_self] at hx
    simp at hx
    subst hx
    exact hn i a (by omega) ha
/-- marked, row by row -/
def MarkD (B : Nat) (w : World) (v : Value) (T : List (List Int)) (k : Int) : Prop :=
  ∃ vs : List Value, w.ownsRow B 35 1 v T.length vs ∧ ∀ j : Nat, j < T.length → ∃ u, vs[j]? = some u ∧ Own B w u (markL (k + cum T j) (rowAt T j).length)
theorem MarkD.below {B : Nat} {w w' : World} {v : Value} {T : List (List Int)} {k : Int} (h : MarkD B w v T k) (hb : Below w.heap.size w w') : MarkD B w' v T k := by
  obtain ⟨vs, h1, h2⟩ := h
  exact ⟨vs, ownsRow_below h1 hb, fun j hj => by obtain ⟨u, hu, ho⟩ := h2 j hj; exact ⟨u, hu, ho.below hb⟩⟩
theorem rows_cell {B : Nat} {w : World} {b : Option Addr} {n c : Nat} {vs : List Value} (h : w.ownsRow B 35 1 (.slice b n c) n vs) {j : Nat} {u : Value} (hu : vs[j]? = some u) : ∃ g, b = some ⟨g, 0, none⟩ ∧ w.cell? ⟨g, j, none⟩ = some u := by
  rcases h.2 with ⟨e, hn⟩ | ⟨g, cap, cur, e, _⟩
  · have := h.1
    rw [hn] at this
    have hv : vs = [] := List.eq_nil_of_length_eq_zero (by omega)
    rw [hv] at hu; cases hu
  · injection e with e1 _ _
    subst e1
    refine ⟨g, rfl, ?_⟩
    have := h.cells rfl j u hu
    rcases Nat.eq_zero_or_pos j with h0 | h0
    · rw [h0] at this ⊢; simpa [Addr.add] using this
    · simpa [Addr.add, show j ≠ 0 by omega] using this
set_option maxRecDepth 100000 in
set_option maxHeartbeats 2000000 in
/-- laws.markIntSS of rows apart -/
theorem markIntSS_D (B : Nat) (b : Option Addr) (c : Nat) (T : List (List Int)) (k : Int) (w : World) (h : RowsD B w (.slice b T.length c) T) (hB : B ≤ w.heap.size) (k0 : 0 ≤ k) (k1 : k ≤ 1024) (hn : T.length ≤ 33554432) (hm : ∀ j : Nat, j < T.length → (rowAt T j).length ≤ 16) :
    Calls Try.prog 33 #[.slice b T.length c, .int .i64 k] w fun e w' => e = .returned (.int .i64 (k + cum T T.length)) ∧ MarkD B w' (.slice b T.length c) T k ∧ Below B w w' := by
  obtain ⟨vs, h1, h2, h3⟩ := h
  have hcu : ∀ j : Nat, j ≤ T.length → 0 ≤ cum T j ∧ cum T j ≤ j * 16 := by
    intro j
    induction j with
    | zero => intro _; exact ⟨Int.le_refl _, Int.le_refl _⟩
    | succ j ih =>
      intro hj
      obtain ⟨a, b⟩ := ih (by omega)
      have := hm j (by omega)
      have e : cum T (j + 1) = cum T j + (rowAt T j).length := rfl
      rw [e]
      constructor
      · omega
      · omega
  have HC := Lib.hid hcu
  have HM := Lib.hid hm
  have H2 := Lib.hid h2
  have H3 := Lib.hid h3
  have H1 := Lib.hid h1
  have hvl : vs.length = T.length := by have := h1.1; omega
  clear hcu hm h2 h3 h1
  go_enter Try.func33, Try.ntmps33
  go_wp2
  go_loopw [1, 5] (fun m i wr => ∃ j v : Int, 0 ≤ j ∧ j ≤ T.length ∧ i = .int .i64 j ∧ m = .int .i64 v ∧ v = k + cum T j.toNat ∧ wr.ownsRow B 35 1 (.slice b T.length c) T.length vs ∧ (∀ i : Nat, i < j → ∃ u, vs[i]? = some u ∧ Own B wr u (markL (k + cum T i) (rowAt T i).length)) ∧ (∀ i : Nat, j ≤ i → i < T.length → ∃ u, vs[i]? = some u ∧ Own B wr u (rowAt T i)) ∧ Below B w wr) (fun _ i _ => ((T.length : Int) - intOf i).toNat)
  case atStart => exact ⟨0, k, by omega, by omega, rfl, rfl, by simp [cum], H1.out, fun i hi => absurd hi (by omega), fun i _ hi => H2.out i hi, Below.refl _ _⟩
  case round =>
    obtain ⟨j, v, j0, j1, rfl, rfl, hv, hown, hmk, hrows, hb⟩ := hrel
    by_cases hj : j < T.length
    · obtain ⟨u, hu, ho⟩ := hrows j.toNat (by omega) (by omega)
      obtain ⟨g, rfl, c0⟩ := rows_cell hown hu
      have hm2 := HM.out j.toNat (by omega)
      have hcu := HC.out j.toNat (by omega)
      have hcs := Lib.hid (show cum T (j.toNat + 1) = cum T j.toNat + (rowAt T j.toNat).length from rfl)
      rw [Int.toNat_of_nonneg j0] at hm2 hcs ho
      obtain ⟨ra, rc, rfl, _⟩ := ho.slice
      have HR := Lib.hid hrows
      have HK := Lib.hid hmk
      have HV := Lib.hid hv
      have HO := Lib.hid hown
      have HU := Lib.hid hu
      have v0 : 0 ≤ v := by omega
      have v1 : v ≤ 1125899906842624 := by omega
      have v2 : v + ((rowAt T j).length : Int) ≤ 4611686018427387904 := by omega
      clear hrows hmk hv hcu hown hu
      go_wp2_with fail
      refine (markIntS_any _ _ (rowAt T j) v wr ho v0 v1 (by omega)).mono ?_
      rintro e w5 ⟨rfl, hr5, hg5⟩
      go_wp2
      go_roundw
      case rel =>
        have hb5 : Below B wr w5 := (Below.refl B wr).grown hg5 (by have := hb.size; omega) (fun q hq => (World.ownsRow.lt ho q hq).1)
        have K : ∀ (i : Nat) (x : Value) (L : List Int), i ≠ j.toNat → i < T.length → vs[i]? = some x → Own B wr x L → Own B w5 x L := fun i x L hne hi hx hox => by
          refine World.ownsRow.kept hox hg5 ?_
          by_cases hlt : i < j.toNat
          · exact H3.out i j.toNat x _ hlt (by omega) hx HU.out
          · have hq := H3.out j.toNat i _ x (by omega) hi HU.out hx
            cases hxb : x.ownBlock with
            | none => exact .inl rfl
            | some q =>
              right
              rcases hq with hq | hq
              · rw [hq]; simp
              · intro e; exact hq (by rw [hxb]; exact e.symm)
        refine ⟨j + 1, v + (rowAt T j).length, by omega, by omega, rfl, rfl, ?_, World.ownsRow.kept HO.out hg5 (own_types HO.out ho (by decide)), fun i hi => ?_, fun i hi hi2 => ?_, hb.trans hb5⟩
        · rw [show (j + 1).toNat = j.toNat + 1 by omega, hcs.out, HV.out]; omega
        · by_cases e : (i : Int) = j
          · have ei : i = j.toNat := by omega
            refine ⟨_, by rw [ei]; exact HU.out, ?_⟩
            rw [e, ei, ← HV.out]; exact hr5
          · obtain ⟨x, hx, hox⟩ := HK.out i (by omega)
            exact ⟨x, hx, K i x _ (by omega) (by omega) hx hox⟩
        · obtain ⟨x, hx, hox⟩ := HR.out i (by omega) hi2
          exact ⟨x, hx, K i x _ (by omega) hi2 hx hox⟩
      case measure => simp [intOf]; omega
    · have e : j.toNat = T.length := by omega
      rw [e] at hv
      subst hv
      go_wp2
      go_ret
      exact ⟨rfl, ⟨vs, hown, fun i hi => hmk i (by omega)⟩, hb⟩
set_option maxRecDepth 100000 in
set_option maxHeartbeats 1000000 in
/-- laws.heldIntSS of marked rows -/
theorem heldIntSS_D (B : Nat) (b : Option Addr) (c : Nat) (T : List (List Int)) (k : Int) (w : World) (h : MarkD B w (.slice b T.length c) T k) (k0 : 0 ≤ k) (k1 : k ≤ 1024) (hn : T.length ≤ 33554432) (hm : ∀ j : Nat, j < T.length → (rowAt T j).length ≤ 16) :
    Calls Try.prog 35 #[.slice b T.length c, .int .i64 k] w fun e w' => e = .returned (.int .i64 (k + cum T T.length)) ∧ 0 ≤ cum T T.length ∧ w = w' := by
  obtain ⟨vs, h1, h2⟩ := h
  have hcu : ∀ j : Nat, j ≤ T.length → 0 ≤ cum T j ∧ cum T j ≤ j * 16 := by
    intro j
    induction j with
    | zero => intro _; exact ⟨Int.le_refl _, Int.le_refl _⟩
    | succ j ih =>
      intro hj
      obtain ⟨a, b⟩ := ih (by omega)
      have := hm j (by omega)
      have e : cum T (j + 1) = cum T j + (rowAt T j).length := rfl
      rw [e]
      constructor
      · omega
      · omega
  have HC := Lib.hid hcu
  have HM := Lib.hid hm
  have H2 := Lib.hid h2
  have H1 := Lib.hid h1
  clear hcu hm h2 h1
  go_enter Try.func35, Try.ntmps35
  go_wp2
  go_loopw [1, 5] (fun m i wr => ∃ j v : Int, 0 ≤ j ∧ j ≤ T.length ∧ i = .int .i64 j ∧ m = .int .i64 v ∧ v = k + cum T j.toNat ∧ w = wr) (fun _ i _ => ((T.length : Int) - intOf i).toNat)
  case atStart => exact ⟨0, k, by omega, by omega, rfl, rfl, by simp [cum], rfl⟩
  case round =>
    obtain ⟨j, v, j0, j1, rfl, rfl, hv, rfl⟩ := hrel
    by_cases hj : j < T.length
    · obtain ⟨u, hu, ho⟩ := H2.out j.toNat (by omega)
      obtain ⟨g, rfl, c0⟩ := rows_cell H1.out hu
      have hm2 := HM.out j.toNat (by omega)
      have hcu := HC.out j.toNat (by omega)
      have hcs := Lib.hid (show cum T (j.toNat + 1) = cum T j.toNat + (rowAt T j.toNat).length from rfl)
      rw [← hv, Int.toNat_of_nonneg j0] at ho
      rw [Int.toNat_of_nonneg j0] at hm2 hcs
      obtain ⟨ra, rc, rfl, hrd⟩ := ho.slice
      rw [markL_len] at c0
      have HV := Lib.hid hv
      have HR := Lib.hid hrd
      have v0 : 0 ≤ v := by omega
      have v1 : v ≤ 1073741824 := by omega
      have hlt : ¬ v + ((rowAt T j).length : Int) < 0 := by omega
      clear hv hcu hu ho hrd
      go_wp2_with fail
      refine (heldIntS_any _ _ _ _ _ HR.out v0 v1 (by omega)).mono ?_
      rintro e w5 ⟨rfl, rfl⟩
      go_wp2
      go_roundw
      case rel => exact ⟨j + 1, v + (rowAt T j).length, by omega, by omega, rfl, rfl, by rw [show (j + 1).toNat = j.toNat + 1 by omega, hcs.out, HV.out]; omega, trivial⟩
      case measure => simp [intOf]; omega
    · have e : j.toNat = T.length := by omega
      have hcu := HC.out T.length (Nat.le_refl _)
      rw [e] at hv
      subst hv
      go_wp2
      go_ret
      first | exact ⟨rfl, hcu.1, rfl⟩ | exact ⟨rfl, rfl⟩
end Go.Proofs.Ytdjhnbofnmhpaaa
