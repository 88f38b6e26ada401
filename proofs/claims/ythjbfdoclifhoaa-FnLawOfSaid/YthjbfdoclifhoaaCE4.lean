import Derived.Test.YthjbfdoclifhoaaCD15
import Derived.Test.YthjbfdoclifhoaaPR3
import Derived.Test.YthjbfdoclifhoaaFA
import Derived.Test.YthjbfdoclifhoaaMK
import Derived.Maps.AppendAt
namespace Go.Proofs.Ythjbfdoclifhoaa
open Go.RowKit
set_option linter.unusedVariables false

theorem chT_alg {n : Nat} (n1 : 1 ≤ n) (n5 : n ≤ 5) : ∀ T ∈ chT n, algB (chainTo (n : Int) n) T = true := by
  have h : n = 1 ∨ n = 2 ∨ n = 3 ∨ n = 4 ∨ n = 5 := by omega
  rcases h with rfl | rfl | rfl | rfl | rfl <;> decide +kernel
theorem chT_few {n : Nat} (n1 : 1 ≤ n) (n5 : n ≤ 5) : 1 ≤ (chT n).length ∧ (chT n).length ≤ 1000 := by
  have h : n = 1 ∨ n = 2 ∨ n = 3 ∨ n = 4 ∨ n = 5 := by omega
  rcases h with rfl | rfl | rfl | rfl | rfl <;> decide +kernel
theorem propertyOf_any (s : ByteArray) (w : World) : Calls Try.prog 37 #[.string s] w fun e w' => (∃ v, e = .returned (.tuple #[v, .bool (decide (prIx s < 5))])) ∧ w = w' := by
  cases q0 : (s.toList == [112, 114, 101, 108, 105, 110, 101, 97, 114]) with
  | true => rw [prIx_0 q0]; exact (propertyOf_0 s q0 w).mono fun e w' h => ⟨⟨_, h.1⟩, h.2⟩
  | false =>
    cases q1 : (s.toList == [100, 105, 118, 105, 115, 105, 98, 108, 101]) with
    | true => rw [prIx_1 q0 q1]; exact (propertyOf_1 s q0 q1 w).mono fun e w' h => ⟨⟨_, h.1⟩, h.2⟩
    | false =>
      cases q2 : (s.toList == [105, 110, 118, 111, 108, 117, 116, 105, 118, 101]) with
      | true => rw [prIx_2 q0 q1 q2]; exact (propertyOf_2 s q0 q1 q2 w).mono fun e w' h => ⟨⟨_, h.1⟩, h.2⟩
      | false =>
        cases q3 : (s.toList == [105, 100, 101, 109, 112, 111, 116, 101, 110, 116]) with
        | true => rw [prIx_3 q0 q1 q2 q3]; exact (propertyOf_3 s q0 q1 q2 q3 w).mono fun e w' h => ⟨⟨_, h.1⟩, h.2⟩
        | false =>
          cases q4 : (s.toList == [98, 111, 111, 108, 101, 97, 110]) with
          | true => rw [prIx_4 q0 q1 q2 q3 q4]; exact (propertyOf_4 s q0 q1 q2 q3 q4 w).mono fun e w' h => ⟨⟨_, h.1⟩, h.2⟩
          | false =>
            rw [prIx_5 q0 q1 q2 q3 q4]; exact (propertyOf_5 s q0 q1 q2 q3 q4 w).mono fun e w' h => ⟨⟨_, h.1⟩, h.2⟩
theorem RowsAt.rdT' {B : Nat} {w : World} {b : Option Addr} {n c : Nat} {T : List (List Int)} (h : RowsAt B w (.slice b n c) T) : RdT w b T := by
  obtain ⟨b', c', e, h⟩ := h.rd
  injection e with e _ _
  rw [e]; exact h
/-- how many chains have a property -/
def ccI (s : ByteArray) (n : Int) : Int := if 1 ≤ n ∧ n ≤ 5 ∧ prIx s < 5 then (((chT n.toNat).filter (hpB s (chainTo n n))).length : Int) else -1
/-- of the first ones -/
def cnI (p : List (List Int) → Bool) (U : List (List (List Int))) (i : Nat) : Int := (((U.take i).filter p).length : Int)
theorem cnI_0 (p : List (List Int) → Bool) (U : List (List (List Int))) : cnI p U 0 = 0 := by simp [cnI]
theorem cnI_le (p : List (List Int) → Bool) (U : List (List (List Int))) (i : Nat) (h : i ≤ U.length) : 0 ≤ cnI p U i ∧ cnI p U i ≤ i := by
  unfold cnI
  have := List.length_filter_le p (U.take i)
  rw [List.length_take] at this
  omega
theorem cnI_t {p : List (List Int) → Bool} {U : List (List (List Int))} {i : Nat} (h : i < U.length) (hp : p (tabAt U i) = true) : cnI p U (i + 1) = cnI p U i + 1 := by
  unfold cnI
  rw [take_tab U h, List.filter_append, List.length_append, List.filter_cons_of_pos hp, List.filter_nil, List.length_singleton]
  rfl
theorem cnI_f {p : List (List Int) → Bool} {U : List (List (List Int))} {i : Nat} (h : i < U.length) (hp : p (tabAt U i) = false) : cnI p U (i + 1) = cnI p U i := by
  unfold cnI
  rw [take_tab U h, List.filter_append, List.length_append, List.filter_cons_of_neg (by rw [hp]; simp), List.filter_nil, List.length_nil, Nat.add_zero]
theorem cnI_all (p : List (List Int) → Bool) (U : List (List (List Int))) : cnI p U U.length = ((U.filter p).length : Int) := by unfold cnI; rw [List.take_of_length_le (Nat.le_refl _)]
theorem algs_some {B C : Nat} {w : World} {v : Value} {L : List Int} {Ts : List (List (List Int))} (h : AlgsAt B C w v L Ts) (hp : 0 < Ts.length) : ∃ G c, v = .slice (some ⟨G, 0, none⟩) Ts.length c := by
  obtain ⟨cs, h1, _⟩ := h
  rcases h1.2 with ⟨_, hn⟩ | ⟨g, cap, cur, rfl, _⟩
  · omega
  · exact ⟨g, cap, rfl⟩
theorem algs_nil_is (w : World) (a : Option Addr) (n c n' c' : Nat) : (binOp .eql 27 (.slice a n c) (.slice none n' c')).run Try.prog w = .ok (.bool a.isNone) w := Lib.run_eql_slice_nil w _ _ a n c n' c' Try.underlying27
theorem hp_unit : algB [1] [[0]] = true := by decide +kernel
end Go.Proofs.Ythjbfdoclifhoaa

namespace Go.Proofs.Ythjbfdoclifhoaa
open Go.RowKit
set_option linter.unusedVariables false

/-- tables of as many rows, row by row -/
def eqT (T U : List (List Int)) : Bool := (List.range T.length).all fun i => eqL (rowAt T (i : Int)) (rowAt U (i : Int))
theorem eqT_t {T U : List (List Int)} (h : ∀ j : Nat, j < T.length → eqL (rowAt T (j : Int)) (rowAt U (j : Int)) = true) : eqT T U = true := by
  unfold eqT
  rw [List.all_eq_true]
  intro i hi
  exact h i (List.mem_range.1 hi)
theorem eqT_f {T U : List (List Int)} {j : Nat} (hj : j < T.length) (h : eqL (rowAt T (j : Int)) (rowAt U (j : Int)) = false) : eqT T U = false := by
  unfold eqT
  rw [List.all_eq_false]
  exact ⟨j, List.mem_range.2 hj, by rw [h]; simp⟩
end Go.Proofs.Ythjbfdoclifhoaa

namespace Go.Proofs.Ythjbfdoclifhoaa
open Go.RowKit
set_option linter.unusedVariables false

theorem own_stay {B s n : Nat} {e : TypeId} {w w' : World} {v : Value} {cs : List Value} (h : w.ownsRow B e s v n cs) (hk : ∀ g, v.ownBlock = some g → w'.heap[g]? = w.heap[g]?) : w'.ownsRow B e s v n cs := by
  refine ⟨h.1, ?_⟩
  rcases h.2 with h0 | ⟨g, cap, cur, e1, hB, hg, hr⟩
  · exact .inl h0
  · exact .inr ⟨g, cap, cur, e1, hB, (hk g (by rw [e1]; rfl)).trans hg, hr⟩
theorem own_weak {B B' s n : Nat} {e : TypeId} {w : World} {v : Value} {cs : List Value} (h : w.ownsRow B e s v n cs) (hB : B' ≤ B) : w.ownsRow B' e s v n cs := by
  refine ⟨h.1, ?_⟩
  rcases h.2 with h | ⟨g, cap, cur, e1, e2, e3⟩
  · exact .inl h
  · exact .inr ⟨g, cap, cur, e1, Nat.le_trans hB e2, e3⟩
theorem algs_cell {B : Nat} {w : World} {a : Option Addr} {n m c : Nat} {cs : List Value} (h : w.ownsRow B 31 2 (.slice a n c) m cs) {j : Nat} {u : Value} (hu : cs[j]? = some u) : ∃ g, a = some ⟨g, 0, none⟩ ∧ w.cell? ⟨g, j, none⟩ = some u := by
  rcases h.2 with ⟨e, hn⟩ | ⟨g, cap, cur, e, _⟩
  · have := h.1
    rw [hn] at this
    have hv : cs = [] := List.eq_nil_of_length_eq_zero (by omega)
    rw [hv] at hu; cases hu
  · injection e with e1 _ _
    subst e1
    refine ⟨g, rfl, ?_⟩
    have := h.cells rfl j u hu
    rwa [Addr.add_mid, Nat.zero_add] at this
/-- algebras of one lattice whose blocks lie apart, below a height, in a slice of the call's own -/
def AlgsD (B C M : Nat) (w : World) (v : Value) (L : List Int) (Ts : List (List (List Int))) : Prop :=
  ∃ (cs : List Value) (lo hi : Nat → Nat), w.ownsRow B 31 2 v Ts.length cs ∧
    (∀ j : Nat, j < Ts.length → ∃ u1 u2, cs[2 * j]? = some u1 ∧ cs[2 * j + 1]? = some u2 ∧ C ≤ lo j ∧ hi j ≤ M ∧ GA (lo j) (hi j) w u1 u2 L (tabAt Ts j) ∧ ∀ g, v.ownBlock = some g → g < lo j ∨ hi j ≤ g) ∧
    (∀ i j : Nat, i < j → j < Ts.length → hi i ≤ lo j) ∧ ∀ g, v.ownBlock = some g → g < M
section
variable {B C M : Nat} {w w' : World} {v v' : Value} {L : List Int} {Ts : List (List (List Int))}
theorem GT.rows {lo hi : Nat} {t : Value} {T : List (List Int)} (h : GT lo hi w t T) (hl : T.length ≤ maxLen) (hr : ∀ j : Nat, j < T.length → (rowAt T j).length ≤ maxLen) : RowsAt lo w t T := by
  rcases h with ⟨rfl, rfl⟩ | ⟨B, R, rfl, _, _, h8⟩
  · exact RowsAt.nothing lo w
  · exact TabOwn.rows h8 hl hr
theorem AlgsD.at (h : AlgsD B C M w v L Ts) (hs : ∀ j : Nat, j < Ts.length → Ti L (tabAt Ts j)) : AlgsAt B C w v L Ts := by
  obtain ⟨cs, lo, hi, h1, h2, _, _⟩ := h
  refine ⟨cs, h1, fun j hj => ?_⟩
  obtain ⟨u1, u2, e1, e2, hc, _, ⟨l1, r1, l2, r2, a1, a2, a3, a4, a5, gs, gt⟩, _⟩ := h2 j hj
  have ht := hs j hj
  exact ⟨u1, u2, e1, e2, gs.2.1.from (by omega), RowsAt.from (gt.rows (by have := ht.2.1; unfold maxLen; omega) fun k hk => by have := ht.2.2 k hk; unfold maxLen; omega) (by omega)⟩
theorem AlgsD.below (h : AlgsD B C M w v L Ts) (hb : Below w.heap.size w w') : AlgsD B C M w' v L Ts := by
  obtain ⟨cs, lo, hi, h1, h2, h3, h4⟩ := h
  exact ⟨cs, lo, hi, ownsRow_below h1 hb, fun j hj => by obtain ⟨u1, u2, e1, e2, c, m, g, b⟩ := h2 j hj; exact ⟨u1, u2, e1, e2, c, m, g.below hb, b⟩, h3, h4⟩
theorem AlgsD.from {B' C' M' : Nat} (h : AlgsD B C M w v L Ts) (hB : B' ≤ B) (hC : C' ≤ C) (hM : M ≤ M') : AlgsD B' C' M' w v L Ts := by
  obtain ⟨cs, lo, hi, h1, h2, h3, h4⟩ := h
  exact ⟨cs, lo, hi, own_weak h1 hB, fun j hj => by obtain ⟨u1, u2, e1, e2, c, m, g, b⟩ := h2 j hj; exact ⟨u1, u2, e1, e2, by omega, by omega, g, b⟩, h3, fun g hg => by have := h4 g hg; omega⟩
theorem AlgsD.nil (B C M : Nat) (w : World) (L : List Int) : AlgsD B C M w (.slice none 0 0) L [] :=
  ⟨[], fun _ => 0, fun _ => 0, World.ownsRow_nil _ _ _ _, fun j hj => absurd hj (by simp), fun i j _ hj => absurd hj (by simp), fun g hg => by simp [Value.ownBlock] at hg⟩
theorem AlgsD.slice (h : AlgsD B C M w v L Ts) : ∃ a c, v = .slice a Ts.length c := by
  obtain ⟨cs, _, _, h1, _⟩ := h
  rcases h1.2 with ⟨rfl, hn⟩ | ⟨g, cap, cur, rfl, _⟩
  · exact ⟨Option.none, 0, by rw [hn]⟩
  · exact ⟨_, _, rfl⟩
theorem AlgsD.push {l r : Nat} {u1 u2 : Value} {T : List (List Int)} {cs : List Value} {lo hi : Nat → Nat} (h1 : w.ownsRow B 31 2 v Ts.length cs)
    (h2 : ∀ j : Nat, j < Ts.length → ∃ u1 u2, cs[2 * j]? = some u1 ∧ cs[2 * j + 1]? = some u2 ∧ C ≤ lo j ∧ hi j ≤ l ∧ GA (lo j) (hi j) w u1 u2 L (tabAt Ts j) ∧ ∀ g, v.ownBlock = some g → g < lo j ∨ hi j ≤ g) (h3 : ∀ i j : Nat, i < j → j < Ts.length → hi i ≤ lo j) (h4 : ∀ g, v.ownBlock = some g → g < l)
    (hC : C ≤ l) (k : GA l r w u1 u2 L T) (hl : l ≤ w.heap.size) (hr : r ≤ w.heap.size) (h5 : w'.ownsRow B 31 2 v' (Ts.length + 1) (cs ++ [u1, u2])) (hg : w.grownBy w' v.ownBlock) (hat : v'.ownBlock = v.ownBlock ∨ v'.ownBlock = some w.heap.size) : AlgsD B C w'.heap.size w' v' L (Ts ++ [T]) := by
  have hvl : cs.length = Ts.length * 2 := h1.1
  have hs := hg.size
  refine ⟨cs ++ [u1, u2], fun j => if j < Ts.length then lo j else l, fun j => if j < Ts.length then hi j else r, by rw [List.length_append, List.length_singleton]; exact h5, fun j hj => ?_, fun i j hij hj => ?_, fun g hg' => (World.ownsRow.lt h5 g hg').2⟩
  · rw [List.length_append, List.length_singleton] at hj
    by_cases e : j < Ts.length
    · obtain ⟨a, b, ha, hb, c, m, ga, hgb⟩ := h2 j e
      refine ⟨a, b, by rw [List.getElem?_append_left (by omega)]; exact ha, by rw [List.getElem?_append_left (by omega)]; exact hb, ?_⟩
      simp only [if_pos e]
      refine ⟨c, by omega, ?_, fun g h => ?_⟩
      · rw [tabAt_l e]
        exact ga.keep fun q q1 q2 q3 => hg.block q q3 fun eq => by have := hgb q eq.symm; omega
      · rcases hat with h' | h' <;> rw [h'] at h
        · exact hgb g h
        · simp only [Option.some.injEq] at h; omega
    · have e2 : j = Ts.length := by omega
      subst e2
      refine ⟨u1, u2, by rw [List.getElem?_append_right (by omega), hvl, show 2 * Ts.length - Ts.length * 2 = 0 by omega]; rfl, by rw [List.getElem?_append_right (by omega), hvl, show 2 * Ts.length + 1 - Ts.length * 2 = 1 by omega]; rfl, ?_⟩
      simp only [if_neg e]
      refine ⟨hC, by omega, ?_, fun g h => ?_⟩
      · rw [tabAt_r (Nat.le_refl _), Nat.sub_self]
        exact k.keep fun q q1 q2 q3 => hg.block q q3 fun eq => by have := h4 q eq.symm; omega
      · rcases hat with h' | h' <;> rw [h'] at h
        · have := h4 g h; omega
        · simp only [Option.some.injEq] at h; omega
  · rw [List.length_append, List.length_singleton] at hj
    have e1 : i < Ts.length := by omega
    simp only [if_pos e1]
    by_cases e : j < Ts.length
    · simp only [if_pos e]; exact h3 i j hij e
    · simp only [if_neg e]
      obtain ⟨_, _, _, _, _, m, _⟩ := h2 i e1
      exact m
end
theorem wpList_append_algD {ops : Array Oper} {rest : List Oper} {o : Oper} {a : Act} {Q : Exit → Act → World → Prop} (hgd : o.guard = none) (s x : Operand)
    (ho : o.op = .call { callee := .builtin .append, args := #[s, x], argTypes := #[27, 27] }) (B C l r : Nat) (v : Value) (L : List Int) (Ts : List (List (List Int))) (T : List (List Int)) (w : World) (hs : a.eval s = v) (hown : AlgsD B C l w v L Ts)
    (g : Nat) (hx : a.eval x = .slice (some ⟨g, 0, none⟩) 1 1) (u1 u2 : Value) (hg : w.heap[g]? = some (.cells #[u1, u2] 31 (0, 0))) (o1 : u1.oneCell' = true) (o2 : u2.oneCell' = true) (k : GA l r w u1 u2 L T) (hC : C ≤ l) (hl : l ≤ w.heap.size) (hr : r ≤ w.heap.size) (hR : Ts.length ≤ 1000) (hB : B ≤ w.heap.size)
    (h : ∀ v' w', AlgsD B C w'.heap.size w' v' L (Ts ++ [T]) → w.grownBy w' v.ownBlock → wpList Try.prog ops Q rest (a.put o.dst v') w') : wpList Try.prog ops Q (o :: rest) a w := by
  obtain ⟨i0, hi, hz0, hz1, hz2⟩ := info_parts info_Alg
  obtain ⟨cs, lo, hi', h1, h2, h3, h4⟩ := hown
  refine wpList_append_own_at w hgd s x 27 ho B 31 i0 (.agg #[.slice none 0 0, .slice none 0 0]) 2 48 Try.underlying27 hi hz0 hz1 hz2 rfl (by decide) v Ts.length cs hs h1 ⟨g, 0, none⟩ 1 1 [u1, u2] hx rfl ?_ (by intro u hu; simp at hu; rcases hu with rfl | rfl <;> assumption) (by unfold maxLen; omega) (by omega) hB ?_
  · exact World.news_of_block (cs := #[u1, u2]) (t := 31) (fr := (0, 0)) hg
  · intro v' w' h5 h6 _ h7
    exact h v' w' (AlgsD.push h1 h2 h3 h4 hC k hl hr h5 h6 h7) h6
/-- marked: a list and a table, of blocks in a stretch -/
def MSB (lo hi : Nat) (w : World) (s : Value) (L : List Int) (k : Int) : Prop := MS w s L k ∧ ∀ q, s.ownBlock = some q → lo ≤ q ∧ q < hi
def MTB (lo hi : Nat) (w : World) (t : Value) (T : List (List Int)) (k : Int) : Prop :=
  (t = .slice none 0 0 ∧ T = []) ∨
  ∃ B R, t = .slice (some ⟨B, 0, none⟩) T.length T.length ∧ lo ≤ B ∧ B < hi ∧ (∀ i : Nat, i < T.length → lo ≤ R i ∧ R i < hi) ∧ w.heap[B]? = some (.cells (slTo R T T.length) 24 (0, 0)) ∧ ∀ i : Nat, i < T.length → Row w (R i) (markL (k + cum T i) (rowAt T i).length)
section
variable {lo hi : Nat} {w w' : World} {s t : Value} {L : List Int} {T : List (List Int)} {k : Int}
theorem MSB.keep (h : MSB lo hi w s L k) (hk : ∀ q, lo ≤ q → q < hi → w'.heap[q]? = w.heap[q]?) : MSB lo hi w' s L k := ⟨h.1.keep fun g hg => hk g (h.2 g hg).1 (h.2 g hg).2, h.2⟩
theorem MTB.keep (h : MTB lo hi w t T k) (hk : ∀ q, lo ≤ q → q < hi → w'.heap[q]? = w.heap[q]?) : MTB lo hi w' t T k := by
  rcases h with h | ⟨B, R, h1, h2, h3, h4, h5, h6⟩
  · exact .inl h
  · exact .inr ⟨B, R, h1, h2, h3, h4, (hk B h2 h3).trans h5, fun i hi => (hk (R i) (h4 i hi).1 (h4 i hi).2).trans (h6 i hi)⟩
theorem MTB.mt (h : MTB lo hi w t T k) : MT w t T k := by
  rcases h with h | ⟨B, R, h1, _, _, _, h5, h6⟩
  · exact .inl h
  · exact .inr ⟨B, R, h1, h5, h6⟩
theorem MSB.wide {lo2 hi2 : Nat} (h : MSB lo hi w s L k) (h1 : lo2 ≤ lo) (h2 : hi ≤ hi2) : MSB lo2 hi2 w s L k := ⟨h.1, fun q hq => by have := h.2 q hq; omega⟩
theorem MTB.wide {lo2 hi2 : Nat} (h : MTB lo hi w t T k) (h1 : lo2 ≤ lo) (h2 : hi ≤ hi2) : MTB lo2 hi2 w t T k := by
  rcases h with h | ⟨B, R, e1, e2, e3, e4, e5⟩
  · exact .inl h
  · exact .inr ⟨B, R, e1, by omega, by omega, fun i hi => by have := e4 i hi; omega, e5⟩
end
/-- the mark before an algebra -/
def kmI (W : Int) : Nat → Int
  | 0 => 1
  | i + 1 => kmI W i + W
theorem kmI_le {W : Int} (w0 : 0 ≤ W) (w1 : W ≤ 42) : ∀ i : Nat, 1 ≤ kmI W i ∧ kmI W i ≤ 1 + 42 * (i : Int)
  | 0 => by simp [kmI]
  | i + 1 => by have := kmI_le w0 w1 i; simp only [kmI]; omega
/-- algebras, marked -/
def MkD (w : World) (v : Value) (L : List Int) (Ts : List (List (List Int))) (W : Int) : Prop :=
  ∃ (B : Nat) (cs : List Value), w.ownsRow B 31 2 v Ts.length cs ∧ ∀ j : Nat, j < Ts.length → ∃ u1 u2, cs[2 * j]? = some u1 ∧ cs[2 * j + 1]? = some u2 ∧ MA w u1 u2 L (tabAt Ts j) (kmI W j)
theorem MkD.below {w w' : World} {v : Value} {L : List Int} {Ts : List (List (List Int))} {W : Int} (h : MkD w v L Ts W) (hb : Below w.heap.size w w') : MkD w' v L Ts W := by
  obtain ⟨B, cs, h1, h2⟩ := h
  exact ⟨B, cs, ownsRow_below h1 hb, fun j hj => by obtain ⟨u1, u2, e1, e2, h⟩ := h2 j hj; exact ⟨u1, u2, e1, e2, h.below hb⟩⟩
end Go.Proofs.Ythjbfdoclifhoaa

namespace Go.Proofs.Ythjbfdoclifhoaa
open Go.RowKit
set_option linter.unusedVariables false

theorem algsD_slice {B C M : Nat} {w : World} {v : Value} {L : List Int} {Ts : List (List (List Int))} (h : AlgsD B C M w v L Ts) : ∃ a n c, v = .slice a n c := by
  obtain ⟨a, c, h⟩ := h.slice
  exact ⟨_, _, _, h⟩
theorem rowsD_len (n : Nat) (T : List (List Int)) : (rowsD n T).length = n := by unfold rowsD; rw [tabL_len, Int.toNat_natCast]
/-- an algebra whose table was made ahead of its list -/
theorem gaD {w4 w5 wr : World} {p n : Nat} {L : List Int} {T : List (List Int)} {Q : Nat → Nat} (hrow : Row w5 w4.heap.size L) (hQ : TabOwn w4 p p Q (rowsD n T) n) (hL : L.length = n) (hb : Below w4.heap.size w4 w5) (hs : wr.heap.size ≤ p) (hn : n ≤ 1000) : GA wr.heap.size w5.heap.size w5 (.slice (some ⟨w4.heap.size, 0, none⟩) n n) (.slice (some ⟨p, 0, none⟩) n n) L (rowsD n T) := by
  have hl := rowsD_len n T
  have g1 := GS.row hrow (Nat.le_refl w4.heap.size) hrow.lt (by rw [hL]; unfold maxLen; omega)
  have hQ' : TabOwn w4 p p Q (rowsD n T) (rowsD n T).length := by rw [hl]; exact hQ
  have g2 := (GT.of hQ').below hb
  have h4 := hQ.lt
  rw [hL] at g1
  rw [hl] at g2
  exact ⟨w4.heap.size, w5.heap.size, p, w4.heap.size, by omega, Nat.le_refl _, hs, hb.size, .inr (Nat.le_refl _), g1, g2⟩
set_option maxRecDepth 100000 in
set_option maxHeartbeats 8000000 in
/-- impl.ChainsOf -/
theorem implChainsOf_D (n : Nat) (w : World) (n1 : 1 ≤ n) (n5 : n ≤ 5) :
    Calls Try.prog 8 #[.int .i64 (n : Int)] w fun e w' => ∃ v, e = .returned v ∧ AlgsD w.heap.size w.heap.size w'.heap.size w' v (chainTo n n) (chT n) ∧ Below w.heap.size w w' := by
  obtain ⟨R, hR, hRT, hX, hpl, hm6⟩ := finD_at n1 n5
  have g1 : ¬ (n : Int) < 1 := by omega
  have g5 : ¬ (5 : Int) < n := by omega
  have HN := Lib.hid (newDraft_any n w n1 n5)
  go_enter Try.func8, Try.ntmps8
  go_wp2_with (first
    | (go_at_call 18; refine HN.out.mono ?_; rintro e w1 ⟨v1, rfl, hd1, hp1, hb1⟩; obtain ⟨pa, pc, pp, rfl, hpp⟩ := hp1.ready; have hds := hd1.lt)
    | (go_at_call 19; refine (drFillings_any w.heap.size (plN n).length pc pp n pa w1 R n1 n5 rfl hm6 (hd1.ready n1 n5) (fun h => ⟨(hpp h).1.1, by have := (hpp h).1.2; omega⟩) (fun h => (hpp h).2) hpl hX hR).mono ?_; rintro e w2 ⟨va, rfl, hT2, hg2⟩; obtain ⟨aa, ac, rfl⟩ : ∃ a c, va = .slice a R.length c := hT2.2.elim (fun h => ⟨none, 0, by rw [h.1, h.2]⟩) (fun ⟨_, cap, _, h⟩ => ⟨_, cap, h.1⟩)))
  have hdw : Below w.heap.size w w2 := hb1.trans (grown_below hg2 (Nat.le_refl _) hb1.size)
  have hL : (chainTo (n : Int) n).length = n := by have := chainTo_len (n : Int) (n : Int) (by omega); omega
  obtain ⟨iA, hiA, hA0, hA1, hA2⟩ := info_parts info_Alg
  have HRT := Lib.hid hRT
  have HTB := Lib.hid hT2
  have hmf : ∀ (fn : Fn) (first cap : Array Value) (w : World), (Instr.makeFunc fn first cap).run Try.prog w = .ok (.func fn first cap) w := fun _ _ _ _ => rfl
  have hAN : AlgsD w2.heap.size w.heap.size w2.heap.size w2 (.slice none 0 0) (chainTo n n) ((R.take 0).map (rowsD n)) := AlgsD.nil _ _ _ _ _
  have hR3 : R.length ≤ 1000 := by
    have : R.length = (chT n).length := by rw [← hRT, List.length_map]
    have hc : (chT n).length ≤ 1000 := by
      have h : n = 1 ∨ n = 2 ∨ n = 3 ∨ n = 4 ∨ n = 5 := by omega
      rcases h with rfl | rfl | rfl | rfl | rfl <;> decide +kernel
    omega
  clear hR hRT hX hpl hm6 hd1 hp1 hpp hT2 hg2 hds HN
  go_loopw [3, 5, 6, 17] (fun av _ _ cv wr => ∃ i : Nat, i ≤ R.length ∧ cv = .int .i64 (i : Int) ∧ AlgsD w2.heap.size w.heap.size wr.heap.size wr av (chainTo n n) ((R.take i).map (rowsD n)) ∧ Below w2.heap.size w2 wr) (fun _ _ _ cv _ => (1100 - intOf cv).toNat)
  case atStart => exact ⟨0, by omega, rfl, hAN, Below.refl _ _⟩
  case round =>
    clear hAN
    obtain ⟨i, iR, rfl, hA, hbr⟩ := hrel
    by_cases hi : (i : Int) < R.length
    · have hiN : i < R.length := by omega
      have ki : IntKind.i64.wrap ((i : Int) + 1) = (i : Int) + 1 := IntWalk.i64_in _ (by omega)
      obtain ⟨g, rfl⟩ : ∃ g, aa = some ⟨g, 0, none⟩ := by
        rcases HTB.out.2 with ⟨e, h0⟩ | ⟨g, cap, cur, e, _⟩
        · omega
        · injection e with e1 _ _; exact ⟨g, e1⟩
      obtain ⟨T, hT⟩ : ∃ T, T = R.getD i [] := ⟨_, rfl⟩
      have hrg := tabs_range (i := i) (show TabR w1.heap.size wr _ R from ownsRow_below HTB.out hbr) hiN
      rw [← hT] at hrg
      have htk : R.take (i + 1) = R.take i ++ [T] := by rw [List.take_succ_eq_append_getElem hiN, hT, List.getD_eq_getElem?_getD, List.getElem?_eq_getElem hiN]; rfl
      have HK := Lib.hid htk
      obtain ⟨ga, gn, gc, rfl⟩ := algsD_slice hA
      have hsw : w.heap.size ≤ wr.heap.size := Nat.le_trans hdw.size hbr.size
      have hlt : ((R.take i).map (rowsD n)).length ≤ 1000 := by rw [List.length_map, List.length_take]; omega
      have HRO := Lib.hid (show ∀ (w3 : World) (bx : Nat), Blk w3 bx 48 (iv (tv T)) → Calls Try.prog 20 #[.int .i64 (n : Int), .func (.func 21) #[] #[.pointer (some ⟨bx, 0, none⟩)]] w3 fun e w' => e = .returned (.slice (some ⟨w3.heap.size, 0, none⟩) n n) ∧ (∃ Q, TabOwn w' w3.heap.size w3.heap.size Q (rowsD n T) n) ∧ Below w3.heap.size w3 w' from fun w3 bx hB =>
        rowsOf_any 21 #[.pointer (some ⟨bx, 0, none⟩)] (n : Int) (tv T) w3 (by omega) (by omega) (enters_of Try.func21 (by kernel_rfl) rfl) fun x y wy x0 x1 y0 y1 hb => chRow_any bx T x y wy (Blk.of ((hb.block _ hB.lt).trans hB) rfl) x0 (by omega) y0 (by omega))
      clear hT htk
      go_wp2_with (first
        | (refine wpList_load_mid_w rfl 48 _ rfl g (i * 36) rfl (tab2 (iv (tv T))) _ hrg Try.underlying48 rfl (size_table _) ?_)
        | (refine wpList_store_row rfl 48 _ _ rfl wr.heap.size (tab2 (iv (tv T))) rfl rfl _ _ (heap_alloc_new wr _) (size_table _) (by rw [tab2_size]; rfl) (one_iv _) ?_; rw [World.setRow_alloc_new]; obtain ⟨bx, hbx⟩ : ∃ b : Nat, b = wr.heap.size := ⟨_, rfl⟩; obtain ⟨w3, hw3⟩ : ∃ x : World, x = wr.alloc (.cells (tab2 (iv (tv T))) 48) := ⟨_, rfl⟩; rw [← hw3, ← hbx]; have hB3 : Blk w3 bx 48 (iv (tv T)) := (by rw [hw3, hbx]; exact heap_alloc_new wr _); have hb3 : Below wr.heap.size wr w3 := (by rw [hw3]; exact (Below.refl _ _).alloc (Nat.le_refl _) _); clear hw3 hbx)
        | (go_at_call 20; refine (HRO.out w3 bx hB3).mono ?_; rintro e w4 ⟨rfl, ⟨Q, hQ⟩, hb4⟩)
        | (go_at_call 22; refine (implChainOf_good (n : Int) w4 (by omega) (by omega)).mono ?_; rintro e w5 ⟨rfl, hrow, hb5⟩; have hb45 := hb3.trans ((hb4.trans (hb5.mono hb4.size)).mono hb3.size); have hs3 := hb3.size; have hs4 := hb4.size; have hs5 := hb5.size; have k5 := gaD hrow hQ hL hb5 hs3 (by omega))
        | (at_builtin; refine wpList_append_algD rfl _ _ rfl w2.heap.size w.heap.size wr.heap.size w5.heap.size (.slice ga gn gc) (chainTo (n : Int) n) ((R.take i).map (rowsD n)) (rowsD n T) _ rfl (AlgsD.below hA (hb45.alloc hb45.size _)) w5.heap.size rfl (.slice (some ⟨w4.heap.size, 0, none⟩) n n) (.slice (some ⟨w3.heap.size, 0, none⟩) n n) (heap_alloc_new w5 _) rfl rfl (k5.below ((Below.refl _ _).alloc (Nat.le_refl _) _)) hsw (by simp; omega) (by simp) hlt (by have := hbr.size; simp; omega) ?_; intro v6 w6 hA6 hg6))
      go_roundw
      case rel => exact ⟨i + 1, by omega, by simp, by rw [HK.out, List.map_append]; exact hA6, (hbr.trans ((hb45.alloc hb45.size _).mono hbr.size)).grown hg6 (by have := hbr.size; simp; omega) (fun q hq => by obtain ⟨cs, _, _, hcs, _⟩ := hA; exact (World.ownsRow.lt hcs q hq).1)⟩
      case measure => simp [intOf]; omega
    · have e : R.take i = R := List.take_of_length_le (by omega)
      rw [e, HRT.out] at hA
      go_wp2
      go_ret
      exact ⟨_, rfl, hA.from hdw.size (Nat.le_refl _) (Nat.le_refl _), hdw.trans (hbr.mono hdw.size)⟩
/-- what ChainsOf lists -/
def chI (n : Int) : List (List (List Int)) := if 1 ≤ n ∧ n ≤ 5 then chT n.toNat else []
def chW (n : Int) : Int := if 1 ≤ n ∧ n ≤ 5 then n + n * n else 0
theorem chI_nat {n : Nat} (n1 : 1 ≤ n) (n5 : n ≤ 5) : chI (n : Int) = chT n := by unfold chI; rw [if_pos (by omega), Int.toNat_natCast]
theorem chI_no {n : Int} (h : n < 1 ∨ 5 < n) : chI n = [] := by unfold chI; rw [if_neg (by omega)]
theorem chT_ti {n : Nat} (n1 : 1 ≤ n) (n5 : n ≤ 5) : (chainTo (n : Int) n).length ≤ 6 ∧ ∀ T ∈ chT n, T.length ≤ 6 ∧ (∀ r ∈ T, r.length ≤ 6) ∧ wtA (chainTo (n : Int) n) T = (n : Int) + n * n := by
  have h : n = 1 ∨ n = 2 ∨ n = 3 ∨ n = 4 ∨ n = 5 := by omega
  rcases h with rfl | rfl | rfl | rfl | rfl <;> decide +kernel
theorem rowAt_memT {T : List (List Int)} {j : Nat} (h : j < T.length) : rowAt T (j : Int) ∈ T := by
  unfold rowAt
  simp [List.getD_eq_getElem?_getD, List.getElem?_eq_getElem h]
theorem chI_ti (n : Int) : (∀ j : Nat, j < (chI n).length → Ti (chainTo n n) (tabAt (chI n) j)) ∧ (∀ j : Nat, j < (chI n).length → wtA (chainTo n n) (tabAt (chI n) j) = chW n) ∧ 0 ≤ chW n ∧ chW n ≤ 42 ∧ (chI n).length ≤ 1000 := by
  by_cases h : n < 1 ∨ 5 < n
  · rw [chI_no h]
    unfold chW
    rw [if_neg (by omega)]
    exact ⟨fun j hj => absurd hj (by simp), fun j hj => absurd hj (by simp), by omega, by omega, by simp⟩
  · obtain ⟨k, rfl⟩ : ∃ k : Nat, n = k := ⟨n.toNat, by omega⟩
    have k1 : 1 ≤ k := by omega
    have k5 : k ≤ 5 := by omega
    rw [chI_nat k1 k5]
    obtain ⟨h1, h2⟩ := chT_ti k1 k5
    unfold chW
    rw [if_pos (by omega)]
    refine ⟨fun j hj => ?_, fun j hj => (h2 _ (tabAt_mem hj)).2.2, ?_, ?_, (chT_few k1 k5).2⟩
    · obtain ⟨a, b, _⟩ := h2 _ (tabAt_mem hj)
      exact ⟨h1, a, fun i hi => b _ (rowAt_memT hi)⟩
    · have h : k = 1 ∨ k = 2 ∨ k = 3 ∨ k = 4 ∨ k = 5 := by omega
      rcases h with rfl | rfl | rfl | rfl | rfl <;> decide
    · have h : k = 1 ∨ k = 2 ∨ k = 3 ∨ k = 4 ∨ k = 5 := by omega
      rcases h with rfl | rfl | rfl | rfl | rfl <;> decide
/-- impl.ChainsOf at whatever number -/
theorem implChainsOf_any (n : Int) (w : World) : Calls Try.prog 8 #[.int .i64 n] w fun e w' => ∃ a c, e = .returned (.slice a (chI n).length c) ∧ AlgsD w.heap.size w.heap.size w'.heap.size w' (.slice a (chI n).length c) (chainTo n n) (chI n) ∧ Below w.heap.size w w' := by
  by_cases h : n < 1 ∨ 5 < n
  · rw [chI_no h]
    refine (implChainsOf_out n w h).mono fun e w' h => ?_
    obtain ⟨rfl, rfl⟩ := h
    exact ⟨none, 0, rfl, AlgsD.nil _ _ _ _ _, Below.refl _ _⟩
  · obtain ⟨k, rfl⟩ : ∃ k : Nat, n = k := ⟨n.toNat, by omega⟩
    rw [chI_nat (by omega) (by omega)]
    refine (implChainsOf_D k w (by omega) (by omega)).mono fun e w' h => ?_
    obtain ⟨v, rfl, h1, h2⟩ := h
    obtain ⟨a, c, rfl⟩ := h1.slice
    exact ⟨a, c, rfl, h1, h2⟩
end Go.Proofs.Ythjbfdoclifhoaa
