import Derived.Test.YthjbfdoclifhoaaZ8
import Derived.Test.YthjbfdoclifhoaaY1
namespace Go.Proofs.Ythjbfdoclifhoaa
open Go.RowKit

/-- a table of the call's own by append whose rows are blocks apart -/
def RowsD (B : Nat) (w : World) (v : Value) (T : List (List Int)) : Prop :=
  ∃ vs : List Value, w.ownsRow B 24 1 v T.length vs ∧ (∀ j : Nat, j < T.length → ∃ u, vs[j]? = some u ∧ Own B w u (rowAt T j)) ∧ ∀ (i j : Nat) (u x : Value), i < j → j < T.length → vs[i]? = some u → vs[j]? = some x → u.ownBlock = none ∨ u.ownBlock ≠ x.ownBlock
theorem RowsD.at {B : Nat} {w : World} {v : Value} {T : List (List Int)} (h : RowsD B w v T) : RowsAt B w v T := by
  obtain ⟨vs, h1, h2, _⟩ := h; exact ⟨vs, h1, h2⟩
theorem RowsD.nothing (B : Nat) (w : World) : RowsD B w (.slice none 0 0) [] := ⟨[], World.ownsRow_nil _ _ _ _, fun j hj => absurd hj (by simp), fun i j u x _ hj => absurd hj (by simp)⟩
theorem RowsD.below {B : Nat} {w w' : World} {v : Value} {T : List (List Int)} (h : RowsD B w v T) (hb : Below w.heap.size w w') : RowsD B w' v T := by
  obtain ⟨vs, h1, h2, h3⟩ := h
  exact ⟨vs, ownsRow_below h1 hb, fun j hj => by obtain ⟨u, hu, ho⟩ := h2 j hj; exact ⟨u, hu, ho.below hb⟩, h3⟩
theorem RowsD.setBelow {lo : Nat} {w : World} {v : Value} {T : List (List Int)} (h : RowsD lo w v T) {a : Addr} (ha : a.block < lo) (u : Value) : RowsD lo (w.setCell a u) v T := by
  obtain ⟨vs, h1, h2, h3⟩ := h
  exact ⟨vs, ownsRow_setCell_below h1 ha u, fun j hj => by obtain ⟨x, hx, ho⟩ := h2 j hj; exact ⟨x, hx, ownsRow_setCell_below ho ha u⟩, h3⟩
theorem RowsD.from {B B' : Nat} {w : World} {v : Value} {T : List (List Int)} (h : RowsD B w v T) (hB : B' ≤ B) : RowsD B' w v T := by
  obtain ⟨vs, h1, h2, h3⟩ := h
  have hf : ∀ {e : TypeId} {s n : Nat} {v : Value} {xs : List Value}, w.ownsRow B e s v n xs → w.ownsRow B' e s v n xs := fun h => by
    refine ⟨h.1, ?_⟩
    rcases h.2 with h | ⟨g, cap, cur, e1, e2, hg, e3⟩
    · exact .inl h
    · exact .inr ⟨g, cap, cur, e1, Nat.le_trans hB e2, hg, e3⟩
  exact ⟨vs, hf h1, fun j hj => by obtain ⟨u, hu, ho⟩ := h2 j hj; exact ⟨u, hu, hf ho⟩, h3⟩
theorem rows_apart {vs : List Value} {u : Value} {n : Nat} (hl : vs.length = n) (h : ∀ (i j : Nat) (a x : Value), i < j → j < n → vs[i]? = some a → vs[j]? = some x → a.ownBlock = none ∨ a.ownBlock ≠ x.ownBlock) (hn : ∀ (i : Nat) (a : Value), i < n → vs[i]? = some a → a.ownBlock = none ∨ a.ownBlock ≠ u.ownBlock) :
    ∀ (i j : Nat) (a x : Value), i < j → j < n + 1 → (vs ++ [u])[i]? = some a → (vs ++ [u])[j]? = some x → a.ownBlock = none ∨ a.ownBlock ≠ x.ownBlock := fun i j a x hij hj ha hx => by
  rw [List.getElem?_append_left (by omega)] at ha
  by_cases e : j < n
  · rw [List.getElem?_append_left (by omega)] at hx
    exact h i j a x hij e ha hx
  · have e2 : j = n := by omega
    subst e2
    rw [List.getElem?_append_right (by omega), hl, Nat.sub_self] at hx
    simp at hx
    subst hx
    exact hn i a (by omega) ha
/-- marked, row by row -/
def MarkD (B : Nat) (w : World) (v : Value) (T : List (List Int)) (k : Int) : Prop :=
  ∃ vs : List Value, w.ownsRow B 24 1 v T.length vs ∧ ∀ j : Nat, j < T.length → ∃ u, vs[j]? = some u ∧ Own B w u (markL (k + cum T j) (rowAt T j).length)
theorem MarkD.below {B : Nat} {w w' : World} {v : Value} {T : List (List Int)} {k : Int} (h : MarkD B w v T k) (hb : Below w.heap.size w w') : MarkD B w' v T k := by
  obtain ⟨vs, h1, h2⟩ := h
  exact ⟨vs, ownsRow_below h1 hb, fun j hj => by obtain ⟨u, hu, ho⟩ := h2 j hj; exact ⟨u, hu, ho.below hb⟩⟩
theorem rows_cell {B : Nat} {w : World} {b : Option Addr} {n c : Nat} {vs : List Value} (h : w.ownsRow B 24 1 (.slice b n c) n vs) {j : Nat} {u : Value} (hu : vs[j]? = some u) : ∃ g, b = some ⟨g, 0, none⟩ ∧ w.cell? ⟨g, j, none⟩ = some u := by
  rcases h.2 with ⟨e, hn⟩ | ⟨g, cap, cur, e, _⟩
  · have := h.1
    rw [hn] at this
    have hv : vs = [] := List.eq_nil_of_length_eq_zero (by omega)
    rw [hv] at hu; cases hu
  · injection e with e1 _ _
    subst e1
    refine ⟨g, rfl, ?_⟩
    have := h.cells rfl j u hu
    rcases Nat.eq_zero_or_pos j with h0 | h0
    · rw [h0] at this ⊢; simpa [Addr.add] using this
    · simpa [Addr.add, show j ≠ 0 by omega] using this
end Go.Proofs.Ythjbfdoclifhoaa
