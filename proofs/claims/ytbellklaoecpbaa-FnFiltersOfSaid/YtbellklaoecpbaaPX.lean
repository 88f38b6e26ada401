import Derived.Test.YtbellklaoecpbaaY1
import Derived.Test.YtbellklaoecpbaaU3
import Derived.Maps.AppendAt
namespace Go.Proofs.Ytbellklaoecpbaa
open Go.RowKit

theorem runs_move1 {P : Program} {o : Oper} {a : Act} (x : Operand) (ho : o.op = .move x) (v : Value) (hx : a.eval x = v) (w : World) : (execOp a.eval o).run P w = .ok (.value v) w := by
  subst hx
  unfold execOp
  simp [ho]
theorem rd_news {w : World} {a : Option Addr} {L : List Int} (h : Rd w a L) (hL : L ≠ []) : ∃ b off, a = some ⟨b, off, none⟩ ∧ ∀ j u, (L.map fun x => Value.int .i64 x)[j]? = some u → w.cell? ((⟨b, off, none⟩ : Addr).add j) = some u := by
  obtain ⟨b, off, rfl, hc⟩ := h hL
  refine ⟨b, off, rfl, fun j u hj => ?_⟩
  rw [List.getElem?_map] at hj
  cases hx : L[j]? with
  | none => rw [hx] at hj; simp at hj
  | some x =>
    rw [hx] at hj
    simp at hj
    subst hj
    have hlt : j < L.length := (List.getElem?_eq_some_iff.1 hx).1
    have := hc j hlt
    have hn : nth L j = x := by unfold nth; simp [hx]
    rw [hn] at this
    rcases Nat.eq_zero_or_pos j with h0 | h0
    · subst h0; simpa [Addr.add] using this
    · simpa [Addr.add, show j ≠ 0 by omega] using this
theorem old_news {w : World} {b off : Nat} {xs : List Value} (o : Obj) (h : ∀ j u, xs[j]? = some u → w.cell? ((⟨b, off, none⟩ : Addr).add j) = some u) : ∀ j u, xs[j]? = some u → (w.alloc o).cell? ((⟨b, off, none⟩ : Addr).add j) = some u := fun j u hj =>
  (((Below.refl w.heap.size w).alloc (Nat.le_refl _) o).cell (by exact block_lt_of_cell (h j u hj))).trans (h j u hj)
theorem lat_ne {L : List Int} (h : 1 ≤ num L) : L ≠ [] := fun e => by rw [e] at h; simp [num] at h
theorem ra_of {B : Nat} {w : World} {a b : Option Addr} {ca cb : Nat} {L : List Int} {T : List (List Int)} (h1 : Own B w (.slice a L.length ca) L) (h2 : RowsAt B w (.slice b T.length cb) T) : RA w (.slice a L.length ca) (.slice b T.length cb) L T :=
  ⟨a, ca, b, cb, rfl, rfl, h1.rd, by obtain ⟨b', c', e, h⟩ := h2.rd; injection e with e1 _ _; rw [e1]; exact h⟩
theorem below_setRow2 {C : Nat} {w w' : World} (h : Below C w w') {g : Nat} (hg : C ≤ g) (cs : Array Value) : Below C w (w'.setRow g cs) := below_setRow' h hg cs
theorem rs_rd {w : World} {a : Option Addr} {n c : Nat} {L : List Int} (h : RS w (.slice a n c) L) : Rd w a L := by
  obtain ⟨a', c', e, hr⟩ := h
  injection e with e1 _ _
  rw [e1]; exact hr
theorem gt_rd {lo hi : Nat} {w : World} {b : Option Addr} {n c : Nat} {T : List (List Int)} (h : GT lo hi w (.slice b n c) T) : RdT w b T := by
  obtain ⟨b', c', e, hr⟩ := h.rd
  injection e with e1 _ _
  rw [e1]; exact hr
theorem stU_len (g : Int → Int → Bool) (n : Int) : (upL g n).length = n.toNat := by simp [upL]
end Go.Proofs.Ytbellklaoecpbaa

namespace Go.Proofs.Ytbellklaoecpbaa
open Go.RowKit
set_option linter.unusedVariables false

/-- the rows of an order up to one -/
def upQ (g : Int → Int → Bool) (n p : Int) : List Int := (List.range p.toNat).map fun (i : Nat) => rowTo (g i) n
theorem upQ_succ (g : Int → Int → Bool) (n p : Int) (h : 0 ≤ p) : upQ g n (p + 1) = upQ g n p ++ [rowTo (g p) n] := by
  unfold upQ
  rw [show (p + 1).toNat = p.toNat + 1 by omega, List.range_succ, List.map_append]
  simp [Int.toNat_of_nonneg h]
theorem upQ_len (g : Int → Int → Bool) (n p : Int) : (upQ g n p).length = p.toNat := by simp [upQ]
theorem upQ_all (g : Int → Int → Bool) (n : Int) : upQ g n n = upL g n := rfl
theorem RowsAt.alloc {B : Nat} {w : World} {v : Value} {T : List (List Int)} (h : RowsAt B w v T) (o : Obj) : RowsAt B (w.alloc o) v T := by
  obtain ⟨vs, h1, h2⟩ := h
  exact ⟨vs, World.ownsRow.alloc h1 o, fun j hj => by obtain ⟨u, hu, ho⟩ := h2 j hj; exact ⟨u, hu, ho.alloc o⟩⟩
/-- a table by append, whose rows lie apart from a block -/
def RowsX (B : Nat) (w : World) (v : Value) (T : List (List Int)) (q : Option Nat) : Prop :=
  ∃ vs : List Value, w.ownsRow B 23 1 v T.length vs ∧ ∀ j : Nat, j < T.length → ∃ u, vs[j]? = some u ∧ Own B w u (rowAt T j) ∧ (u.ownBlock = none ∨ u.ownBlock ≠ q)
section
variable {B : Nat} {w w' : World} {v v' : Value} {T : List (List Int)} {q : Option Nat}
theorem RowsX.at (h : RowsX B w v T q) : RowsAt B w v T := by
  obtain ⟨vs, h1, h2⟩ := h
  exact ⟨vs, h1, fun j hj => by obtain ⟨u, hu, ho, _⟩ := h2 j hj; exact ⟨u, hu, ho⟩⟩
theorem RowsX.nothing (B : Nat) (w : World) (q : Option Nat) : RowsX B w (.slice none 0 0) [] q := ⟨[], World.ownsRow_nil _ _ _ _, fun j hj => absurd hj (by simp)⟩
theorem RowsX.below (h : RowsX B w v T q) (hb : Below w.heap.size w w') : RowsX B w' v T q := by
  obtain ⟨vs, h1, h2⟩ := h
  exact ⟨vs, ownsRow_below h1 hb, fun j hj => by obtain ⟨u, hu, ho, hn⟩ := h2 j hj; exact ⟨u, hu, ho.below hb, hn⟩⟩
theorem RowsX.other {e2 : TypeId} {G : Nat} {c : Array Value} {fr : Nat × Nat} (h : RowsX B w v T q) (hG : w.heap[G]? = some (.cells c e2 fr)) (n1 : 23 ≠ e2) (n2 : 3 ≠ e2) (hk : ∀ k, k ≠ G → w'.heap[k]? = w.heap[k]?) : RowsX B w' v T q := by
  obtain ⟨vs, h1, h2⟩ := h
  exact ⟨vs, ownsRow_other h1 hG n1 hk, fun j hj => by obtain ⟨u, hu, ho, hn⟩ := h2 j hj; exact ⟨u, hu, ownsRow_other ho hG n2 hk, hn⟩⟩
theorem RowsX.push {u : Value} {r : List Int} {vs : List Value} (h1 : w.ownsRow B 23 1 v T.length vs) (h2 : ∀ j : Nat, j < T.length → ∃ u, vs[j]? = some u ∧ Own B w u (rowAt T j) ∧ (u.ownBlock = none ∨ u.ownBlock ≠ q)) (hu : Own B w u r) (hn : u.ownBlock = none ∨ u.ownBlock ≠ q)
    (h3 : w'.ownsRow B 23 1 v' (T.length + 1) (vs ++ [u])) (hg : w.grownBy w' v.ownBlock) : RowsX B w' v' (T ++ [r]) q := by
  have hvl : vs.length = T.length := by have := h1.1; omega
  refine ⟨vs ++ [u], by simpa using h3, fun j hj => ?_⟩
  by_cases e : j < T.length
  · obtain ⟨u', hu', ho, hn'⟩ := h2 j e
    refine ⟨u', by rw [List.getElem?_append_left (by omega)]; exact hu', ?_, hn'⟩
    rw [rowAt_old e]
    exact World.ownsRow.kept ho hg (own_types ho h1 (by decide))
  · have e2 : j = T.length := by simp at hj; omega
    subst e2
    refine ⟨u, by rw [← hvl]; simp, ?_, hn⟩
    rw [rowAt_new]
    exact World.ownsRow.kept hu hg (own_types hu h1 (by decide))
theorem RowsX.grown {v0 : Value} {B' n : Nat} {xs : List Value} {q' : Option Nat} (h : RowsX B w v T v0.ownBlock) (hg : w.grownBy w' v0.ownBlock) (hx : w.ownsRow B' 3 1 v0 n xs) (hat : q' = v0.ownBlock ∨ q' = some w.heap.size) : RowsX B w' v T q' := by
  obtain ⟨vs, h1, h2⟩ := h
  refine ⟨vs, World.ownsRow.kept h1 hg (own_types h1 hx (by decide)), fun j hj => ?_⟩
  obtain ⟨u, hu, ho, hn⟩ := h2 j hj
  refine ⟨u, hu, World.ownsRow.kept ho hg hn, ?_⟩
  rcases hat with e | e
  · rw [e]; exact hn
  · rw [e]
    cases hq : u.ownBlock with
    | none => exact .inl rfl
    | some k =>
      right
      intro he
      have := (World.ownsRow.lt ho k hq).2
      simp only [Option.some.injEq] at he
      omega
/-- a row of new memory lies apart from what was there -/
theorem own_new {C B' n : Nat} {w0 : World} {u v0 : Value} {r : List Int} {xs : List Value} {e : TypeId} {s : Nat} (hu : Own C w u r) (hx : w0.ownsRow B' e s v0 n xs) (hC : w0.heap.size ≤ C) : u.ownBlock = none ∨ u.ownBlock ≠ v0.ownBlock := by
  cases hq : u.ownBlock with
  | none => exact .inl rfl
  | some k =>
    right
    intro he
    have h1 := (World.ownsRow.lt hu k hq).1
    have h2 := (World.ownsRow.lt hx k he.symm).2
    omega
end
theorem own_shape {w : World} {B : Nat} {e : TypeId} {s : Nat} {v : Value} {n : Nat} {xs : List Value} (h : w.ownsRow B e s v n xs) : ∃ a n c, v = .slice a n c := by
  rcases h.2 with ⟨rfl, _⟩ | ⟨g, cap, cur, rfl, _⟩
  · exact ⟨_, _, _, rfl⟩
  · exact ⟨_, _, _, rfl⟩
end Go.Proofs.Ytbellklaoecpbaa
