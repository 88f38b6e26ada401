import Derived.Test.YtdjhnbofnmhpaaaCE2
namespace Go.Proofs.Ytdjhnbofnmhpaaa
open Go.RowKit
set_option linter.unusedVariables false

theorem own_stay {B s n : Nat} {e : TypeId} {w w' : World} {v : Value} {cs : List Value} (h : w.ownsRow B e s v n cs) (hk : ∀ g, v.ownBlock = some g → w'.heap[g]? = w.heap[g]?) : w'.ownsRow B e s v n cs := by
  refine ⟨h.1, ?_⟩
  rcases h.2 with h0 | ⟨g, cap, cur, e1, hB, hg, hr⟩
  · exact .inl h0
  · exact .inr ⟨g, cap, cur, e1, hB, (hk g (by rw [e1]; rfl)).trans hg, hr⟩
theorem own_weak {B B' s n : Nat} {e : TypeId} {w : World} {v : Value} {cs : List Value} (h : w.ownsRow B e s v n cs) (hB : B' ≤ B) : w.ownsRow B' e s v n cs := by
  refine ⟨h.1, ?_⟩
  rcases h.2 with h | ⟨g, cap, cur, e1, e2, e3⟩
  · exact .inl h
  · exact .inr ⟨g, cap, cur, e1, Nat.le_trans hB e2, e3⟩
theorem algs_cell {B : Nat} {w : World} {a : Option Addr} {n m c : Nat} {cs : List Value} (h : w.ownsRow B 38 2 (.slice a n c) m cs) {j : Nat} {u : Value} (hu : cs[j]? = some u) : ∃ g, a = some ⟨g, 0, none⟩ ∧ w.cell? ⟨g, j, none⟩ = some u := by
  rcases h.2 with ⟨e, hn⟩ | ⟨g, cap, cur, e, _⟩
  · have := h.1
    rw [hn] at this
    have hv : cs = [] := List.eq_nil_of_length_eq_zero (by omega)
    rw [hv] at hu; cases hu
  · injection e with e1 _ _
    subst e1
    refine ⟨g, rfl, ?_⟩
    have := h.cells rfl j u hu
    rwa [Addr.add_mid, Nat.zero_add] at this
/-- algebras of one lattice whose blocks lie apart, below a height, in a slice of the call's own -/
def AlgsD (B C M : Nat) (w : World) (v : Value) (L : List Int) (Ts : List (List (List Int))) : Prop :=
  ∃ (cs : List Value) (lo hi : Nat → Nat), w.ownsRow B 38 2 v Ts.length cs ∧
    (∀ j : Nat, j < Ts.length → ∃ u1 u2, cs[2 * j]? = some u1 ∧ cs[2 * j + 1]? = some u2 ∧ C ≤ lo j ∧ hi j ≤ M ∧ GA (lo j) (hi j) w u1 u2 L (tabAt Ts j) ∧ ∀ g, v.ownBlock = some g → g < lo j ∨ hi j ≤ g) ∧
    (∀ i j : Nat, i < j → j < Ts.length → hi i ≤ lo j) ∧ ∀ g, v.ownBlock = some g → g < M
section
variable {B C M : Nat} {w w' : World} {v v' : Value} {L : List Int} {Ts : List (List (List Int))}
theorem GT.rows {lo hi : Nat} {t : Value} {T : List (List Int)} (h : GT lo hi w t T) (hl : T.length ≤ maxLen) (hr : ∀ j : Nat, j < T.length → (rowAt T j).length ≤ maxLen) : RowsAt lo w t T := by
  rcases h with ⟨rfl, rfl⟩ | ⟨B, R, rfl, _, _, h8⟩
  · exact RowsAt.nothing lo w
  · exact TabOwn.rows h8 hl hr
theorem AlgsD.at (h : AlgsD B C M w v L Ts) (hs : ∀ j : Nat, j < Ts.length → Ti L (tabAt Ts j)) : AlgsAt B C w v L Ts := by
  obtain ⟨cs, lo, hi, h1, h2, _, _⟩ := h
  refine ⟨cs, h1, fun j hj => ?_⟩
  obtain ⟨u1, u2, e1, e2, hc, _, ⟨l1, r1, l2, r2, a1, a2, a3, a4, a5, gs, gt⟩, _⟩ := h2 j hj
  have ht := hs j hj
  exact ⟨u1, u2, e1, e2, gs.2.1.from (by omega), RowsAt.from (gt.rows (by have := ht.2.1; unfold maxLen; omega) fun k hk => by have := ht.2.2 k hk; unfold maxLen; omega) (by omega)⟩
theorem AlgsD.below (h : AlgsD B C M w v L Ts) (hb : Below w.heap.size w w') : AlgsD B C M w' v L Ts := by
  obtain ⟨cs, lo, hi, h1, h2, h3, h4⟩ := h
  exact ⟨cs, lo, hi, ownsRow_below h1 hb, fun j hj => by obtain ⟨u1, u2, e1, e2, c, m, g, b⟩ := h2 j hj; exact ⟨u1, u2, e1, e2, c, m, g.below hb, b⟩, h3, h4⟩
theorem AlgsD.from {B' C' M' : Nat} (h : AlgsD B C M w v L Ts) (hB : B' ≤ B) (hC : C' ≤ C) (hM : M ≤ M') : AlgsD B' C' M' w v L Ts := by
  obtain ⟨cs, lo, hi, h1, h2, h3, h4⟩ := h
  exact ⟨cs, lo, hi, own_weak h1 hB, fun j hj => by obtain ⟨u1, u2, e1, e2, c, m, g, b⟩ := h2 j hj; exact ⟨u1, u2, e1, e2, by omega, by omega, g, b⟩, h3, fun g hg => by have := h4 g hg; omega⟩
theorem AlgsD.nil (B C M : Nat) (w : World) (L : List Int) : AlgsD B C M w (.slice none 0 0) L [] :=
  ⟨[], fun _ => 0, fun _ => 0, World.ownsRow_nil _ _ _ _, fun j hj => absurd hj (by simp), fun i j _ hj => absurd hj (by simp), fun g hg => by simp [Value.ownBlock] at hg⟩
theorem AlgsD.slice (h : AlgsD B C M w v L Ts) : ∃ a c, v = .slice a Ts.length c := by
  obtain ⟨cs, _, _, h1, _⟩ := h
  rcases h1.2 with ⟨rfl, hn⟩ | ⟨g, cap, cur, rfl, _⟩
  · exact ⟨Option.none, 0, by rw [hn]⟩
  · exact ⟨_, _, rfl⟩
theorem AlgsD.push {l r : Nat} {u1 u2 : Value} {T : List (List Int)} {cs : List Value} {lo hi : Nat → Nat} (h1 : w.ownsRow B 38 2 v Ts.length cs)
    (h2 : ∀ j : Nat, j < Ts.length → ∃ u1 u2, cs[2 * j]? = some u1 ∧ cs[2 * j + 1]? = some u2 ∧ C ≤ lo j ∧ hi j ≤ l ∧ GA (lo j) (hi j) w u1 u2 L (tabAt Ts j) ∧ ∀ g, v.ownBlock = some g → g < lo j ∨ hi j ≤ g) (h3 : ∀ i j : Nat, i < j → j < Ts.length → hi i ≤ lo j) (h4 : ∀ g, v.ownBlock = some g → g < l)
    (hC : C ≤ l) (k : GA l r w u1 u2 L T) (hl : l ≤ w.heap.size) (hr : r ≤ w.heap.size) (h5 : w'.ownsRow B 38 2 v' (Ts.length + 1) (cs ++ [u1, u2])) (hg : w.grownBy w' v.ownBlock) (hat : v'.ownBlock = v.ownBlock ∨ v'.ownBlock = some w.heap.size) : AlgsD B C w'.heap.size w' v' L (Ts ++ [T]) := by
  have hvl : cs.length = Ts.length * 2 := h1.1
  have hs := hg.size
  refine ⟨cs ++ [u1, u2], fun j => if j < Ts.length then lo j else l, fun j => if j < Ts.length then hi j else r, by rw [List.length_append, List.length_singleton]; exact h5, fun j hj => ?_, fun i j hij hj => ?_, fun g hg' => (World.ownsRow.lt h5 g hg').2⟩
  · rw [List.length_append, List.length_singleton] at hj
    by_cases e : j < Ts.length
    · obtain ⟨a, b, ha, hb, c, m, ga, hgb⟩ := h2 j e
      refine ⟨a, b, by rw [List.getElem?_append_left (by omega)]; exact ha, by rw [List.getElem?_append_left (by omega)]; exact hb, ?_⟩
      simp only [if_pos e]
      refine ⟨c, by omega, ?_, fun g h => ?_⟩
      · rw [tabAt_l e]
        exact ga.keep fun q q1 q2 q3 => hg.block q q3 fun eq => by have := hgb q eq.symm; omega
      · rcases hat with h' | h' <;> rw [h'] at h
        · exact hgb g h
        · simp only [Option.some.injEq] at h; omega
    · have e2 : j = Ts.length := by omega
      subst e2
      refine ⟨u1, u2, by rw [List.getElem?_append_right (by omega), hvl, show 2 * Ts.length - Ts.length * 2 = 0 by omega]; rfl, by rw [List.getElem?_append_right (by omega), hvl, show 2 * Ts.length + 1 - Ts.length * 2 = 1 by omega]; rfl, ?_⟩
      simp only [if_neg e]
      refine ⟨hC, by omega, ?_, fun g h => ?_⟩
      · rw [tabAt_r (Nat.le_refl _), Nat.sub_self]
        exact k.keep fun q q1 q2 q3 => hg.block q q3 fun eq => by have := h4 q eq.symm; omega
      · rcases hat with h' | h' <;> rw [h'] at h
        · have := h4 g h; omega
        · simp only [Option.some.injEq] at h; omega
  · rw [List.length_append, List.length_singleton] at hj
    have e1 : i < Ts.length := by omega
    simp only [if_pos e1]
    by_cases e : j < Ts.length
    · simp only [if_pos e]; exact h3 i j hij e
    · simp only [if_neg e]
      obtain ⟨_, _, _, _, _, m, _⟩ := h2 i e1
      exact m
end
theorem wpList_append_algD {ops : Array Oper} {rest : List Oper} {o : Oper} {a : Act} {Q : Exit → Act → World → Prop} (hgd : o.guard = none) (s x : Operand)
    (ho : o.op = .call { callee := .builtin .append, args := #[s, x], argTypes := #[22, 22] }) (B C l r : Nat) (v : Value) (L : List Int) (Ts : List (List (List Int))) (T : List (List Int)) (w : World) (hs : a.eval s = v) (hown : AlgsD B C l w v L Ts)
    (g : Nat) (hx : a.eval x = .slice (some ⟨g, 0, none⟩) 1 1) (u1 u2 : Value) (hg : w.heap[g]? = some (.cells #[u1, u2] 38 (0, 0))) (o1 : u1.oneCell' = true) (o2 : u2.oneCell' = true) (k : GA l r w u1 u2 L T) (hC : C ≤ l) (hl : l ≤ w.heap.size) (hr : r ≤ w.heap.size) (hR : Ts.length ≤ 1000) (hB : B ≤ w.heap.size)
    (h : ∀ v' w', AlgsD B C w'.heap.size w' v' L (Ts ++ [T]) → w.grownBy w' v.ownBlock → wpList Try.prog ops Q rest (a.put o.dst v') w') : wpList Try.prog ops Q (o :: rest) a w := by
  obtain ⟨i0, hi, hz0, hz1, hz2⟩ := info_parts info_Alg
  obtain ⟨cs, lo, hi', h1, h2, h3, h4⟩ := hown
  refine wpList_append_own_at w hgd s x 22 ho B 38 i0 (.agg #[.slice none 0 0, .slice none 0 0]) 2 48 Try.underlying22 hi hz0 hz1 hz2 rfl (by decide) v Ts.length cs hs h1 ⟨g, 0, none⟩ 1 1 [u1, u2] hx rfl ?_ (by intro u hu; simp at hu; rcases hu with rfl | rfl <;> assumption) (by unfold maxLen; omega) (by omega) hB ?_
  · exact World.news_of_block (cs := #[u1, u2]) (t := 38) (fr := (0, 0)) hg
  · intro v' w' h5 h6 _ h7
    exact h v' w' (AlgsD.push h1 h2 h3 h4 hC k hl hr h5 h6 h7) h6
/-- marked: a list and a table, of blocks in a stretch -/
def MSB (lo hi : Nat) (w : World) (s : Value) (L : List Int) (k : Int) : Prop := MS w s L k ∧ ∀ q, s.ownBlock = some q → lo ≤ q ∧ q < hi
def MTB (lo hi : Nat) (w : World) (t : Value) (T : List (List Int)) (k : Int) : Prop :=
  (t = .slice none 0 0 ∧ T = []) ∨
  ∃ B R, t = .slice (some ⟨B, 0, none⟩) T.length T.length ∧ lo ≤ B ∧ B < hi ∧ (∀ i : Nat, i < T.length → lo ≤ R i ∧ R i < hi) ∧ w.heap[B]? = some (.cells (slTo R T T.length) 35 (0, 0)) ∧ ∀ i : Nat, i < T.length → Row w (R i) (markL (k + cum T i) (rowAt T i).length)
section
variable {lo hi : Nat} {w w' : World} {s t : Value} {L : List Int} {T : List (List Int)} {k : Int}
theorem MSB.keep (h : MSB lo hi w s L k) (hk : ∀ q, lo ≤ q → q < hi → w'.heap[q]? = w.heap[q]?) : MSB lo hi w' s L k := ⟨h.1.keep fun g hg => hk g (h.2 g hg).1 (h.2 g hg).2, h.2⟩
theorem MTB.keep (h : MTB lo hi w t T k) (hk : ∀ q, lo ≤ q → q < hi → w'.heap[q]? = w.heap[q]?) : MTB lo hi w' t T k := by
  rcases h with h | ⟨B, R, h1, h2, h3, h4, h5, h6⟩
  · exact .inl h
  · exact .inr ⟨B, R, h1, h2, h3, h4, (hk B h2 h3).trans h5, fun i hi => (hk (R i) (h4 i hi).1 (h4 i hi).2).trans (h6 i hi)⟩
theorem MTB.mt (h : MTB lo hi w t T k) : MT w t T k := by
  rcases h with h | ⟨B, R, h1, _, _, _, h5, h6⟩
  · exact .inl h
  · exact .inr ⟨B, R, h1, h5, h6⟩
theorem MSB.wide {lo2 hi2 : Nat} (h : MSB lo hi w s L k) (h1 : lo2 ≤ lo) (h2 : hi ≤ hi2) : MSB lo2 hi2 w s L k := ⟨h.1, fun q hq => by have := h.2 q hq; omega⟩
theorem MTB.wide {lo2 hi2 : Nat} (h : MTB lo hi w t T k) (h1 : lo2 ≤ lo) (h2 : hi ≤ hi2) : MTB lo2 hi2 w t T k := by
  rcases h with h | ⟨B, R, e1, e2, e3, e4, e5⟩
  · exact .inl h
  · exact .inr ⟨B, R, e1, by omega, by omega, fun i hi => by have := e4 i hi; omega, e5⟩
end
theorem markIntS_B (lo hi : Nat) (s : Value) (L : List Int) (k : Int) (w : World) (h : GS lo hi w s L) (hm : L.length ≤ 1048576) (k0 : 0 ≤ k) (k1 : k ≤ 1125899906842624) :
    Calls Try.prog 32 #[s, .int .i64 k] w fun e w' => e = .returned (.int .i64 (k + L.length)) ∧ MSB lo hi w' s L k ∧ Mid lo hi w w' :=
  (markIntS_G lo hi s L k w h hm k0 k1).mono fun e w' ⟨he, hm, hd⟩ => ⟨he, ⟨hm, fun q hq => ⟨(World.ownsRow.lt h.2.1 q hq).1, h.2.2 q hq⟩⟩, hd⟩
theorem markIntSS_B (lo hi : Nat) (t : Value) (T : List (List Int)) (k : Int) (w : World) (h : GT lo hi w t T) (hn : T.length ≤ 1048576) (hm : ∀ j : Nat, j < T.length → (rowAt T j).length ≤ 1048576) (k0 : 0 ≤ k) (k1 : k ≤ 1125899906842624) :
    Calls Try.prog 33 #[t, .int .i64 k] w fun e w' => e = .returned (.int .i64 (k + cum T T.length)) ∧ MTB lo hi w' t T k ∧ Mid lo hi w w' := by
  rcases h with ⟨rfl, rfl⟩ | ⟨B, R, rfl, h5, h6, h8⟩
  · refine (markIntSS_nil k w).mono fun e w' ⟨he, hw⟩ => ⟨?_, .inl ⟨rfl, rfl⟩, by rw [← hw]; exact Mid.refl _ _ _⟩
    rw [he]; simp [cum]
  · refine (markIntSS_is lo B R T k w h8 hi h6 k0 k1 hn hm).mono fun e w' ⟨he, hr, hmid⟩ => ⟨he, .inr ⟨B, R, rfl, h8.lo, h5, fun i hi => ⟨by have := h8.lo; have := h8.up i hi; omega, h6 i hi⟩, (hmid.block B h8.lt (.inl (by omega))).trans h8.top, hr⟩, hmid.wide (by have := h8.lo; omega) (Nat.le_refl _)⟩
/-- the mark before an algebra -/
def kmI (W : Int) : Nat → Int
  | 0 => 1
  | i + 1 => kmI W i + W
theorem kmI_le {W : Int} (w0 : 0 ≤ W) (w1 : W ≤ 42) : ∀ i : Nat, 1 ≤ kmI W i ∧ kmI W i ≤ 1 + 42 * (i : Int)
  | 0 => by simp [kmI]
  | i + 1 => by have := kmI_le w0 w1 i; simp only [kmI]; omega
/-- algebras, marked -/
def MkD (w : World) (v : Value) (L : List Int) (Ts : List (List (List Int))) (W : Int) : Prop :=
  ∃ (B : Nat) (cs : List Value), w.ownsRow B 38 2 v Ts.length cs ∧ ∀ j : Nat, j < Ts.length → ∃ u1 u2, cs[2 * j]? = some u1 ∧ cs[2 * j + 1]? = some u2 ∧ MA w u1 u2 L (tabAt Ts j) (kmI W j)
theorem MkD.below {w w' : World} {v : Value} {L : List Int} {Ts : List (List (List Int))} {W : Int} (h : MkD w v L Ts W) (hb : Below w.heap.size w w') : MkD w' v L Ts W := by
  obtain ⟨B, cs, h1, h2⟩ := h
  exact ⟨B, cs, ownsRow_below h1 hb, fun j hj => by obtain ⟨u1, u2, e1, e2, h⟩ := h2 j hj; exact ⟨u1, u2, e1, e2, h.below hb⟩⟩
set_option maxRecDepth 100000 in
set_option maxHeartbeats 2000000 in
/-- laws.markAlgebraS -/
theorem markAlgebraS_D (B C M : Nat) (a : Option Addr) (c : Nat) (L : List Int) (Ts : List (List (List Int))) (W : Int) (w : World) (h : AlgsD B C M w (.slice a Ts.length c) L Ts) (hM : M ≤ w.heap.size) (hC : C ≤ w.heap.size) (hs : ∀ j : Nat, j < Ts.length → Ti L (tabAt Ts j)) (hW : ∀ j : Nat, j < Ts.length → wtA L (tabAt Ts j) = W) (w0 : 0 ≤ W) (w1 : W ≤ 42) (hn : Ts.length ≤ 1000) :
    Calls Try.prog 10 #[.slice a Ts.length c, .int .i64 1] w fun e w' => e = .returned (.int .i64 (kmI W Ts.length)) ∧ MkD w' (.slice a Ts.length c) L Ts W ∧ Below C w w' := by
  obtain ⟨cs, lo, hi, h1, h2, h3, h4⟩ := h
  have H1 := Lib.hid h1
  have H2 := Lib.hid h2
  have H3 := Lib.hid h3
  have HS := Lib.hid hs
  have HW := Lib.hid hW
  clear h1 h2 h3 h4 hs hW
  go_enter Try.func10, Try.ntmps10
  go_wp2
  go_loopw [1, 5] (fun kv iv wr => ∃ i : Nat, i ≤ Ts.length ∧ iv = .int .i64 (i : Int) ∧ kv = .int .i64 (kmI W i) ∧ wr.ownsRow B 38 2 (.slice a Ts.length c) Ts.length cs ∧
      (∀ j : Nat, j < i → ∃ u1 u2, cs[2 * j]? = some u1 ∧ cs[2 * j + 1]? = some u2 ∧ MSB (lo j) (hi j) wr u1 L (kmI W j) ∧ MTB (lo j) (hi j) wr u2 (tabAt Ts j) (kmI W j + L.length)) ∧
      (∀ j : Nat, i ≤ j → j < Ts.length → ∃ u1 u2, cs[2 * j]? = some u1 ∧ cs[2 * j + 1]? = some u2 ∧ C ≤ lo j ∧ hi j ≤ w.heap.size ∧ GA (lo j) (hi j) wr u1 u2 L (tabAt Ts j) ∧ ∀ g, (Value.slice a Ts.length c).ownBlock = some g → g < lo j ∨ hi j ≤ g) ∧ Below C w wr) (fun _ iv _ => (1100 - intOf iv).toNat)
  case atStart => exact ⟨0, by omega, rfl, rfl, H1.out, fun j hj => absurd hj (by omega), fun j _ hj => by obtain ⟨u1, u2, e1, e2, c, m, g, b⟩ := H2.out j hj; exact ⟨u1, u2, e1, e2, c, by omega, g, b⟩, Below.refl _ _⟩
  case round =>
    obtain ⟨i, iR, rfl, rfl, hown, hmk, hga, hb⟩ := hrel
    have HMK := Lib.hid hmk
    have HGA := Lib.hid hga
    have HO := Lib.hid hown
    clear hmk hga hown
    by_cases hi' : (i : Int) < Ts.length
    · have ki : IntKind.i64.wrap ((i : Int) + 1) = (i : Int) + 1 := IntWalk.i64_in _ (by omega)
      obtain ⟨u1, u2, e1, e2, hlo, hhi, ⟨l1, r1, l2, r2, a1, a2, a3, a4, a5, gs, gt⟩, hgb⟩ := HGA.out i (Nat.le_refl _) (by omega)
      obtain ⟨g, rfl, c0⟩ := algs_cell HO.out e1
      obtain ⟨g', hg', c1⟩ := algs_cell HO.out e2
      injection hg' with hg'
      injection hg' with hg' _ _
      subst hg'
      have hgn := hgb g rfl
      have hti := HS.out i (by omega)
      have hwt := Lib.hid (HW.out i (by omega))
      obtain ⟨T, hTe⟩ : ∃ T, T = tabAt Ts i := ⟨_, rfl⟩
      rw [← hTe] at gt hti hwt
      obtain ⟨k0, k1⟩ := kmI_le w0 w1 i
      obtain ⟨k, hk⟩ : ∃ k, k = kmI W i := ⟨_, rfl⟩
      rw [← hk] at k0 k1 ⊢
      rw [Nat.mul_comm] at c0 c1
      have hglt := block_lt_of_cell c0
      have GS1 := Lib.hid gs
      have HT := Lib.hid hti.sm
      have hLL := hti.1
      obtain ⟨b1, n1, m1, rfl⟩ : ∃ b n m, u1 = .slice b n m := by obtain ⟨⟨b, n, h⟩, _⟩ := gs; exact ⟨b, _, n, h⟩
      obtain ⟨b2, n2, m2, rfl⟩ : ∃ b n m, u2 = .slice b n m := by
        obtain ⟨b, c, h, _⟩ := gt.rd
        exact ⟨b, _, c, h⟩
      have GT1 := Lib.hid gt
      have E1 := Lib.hid e1
      have E2 := Lib.hid e2
      have HK := Lib.hid hk
      have HTE := Lib.hid hTe
      clear gs gt hgb hti e1 e2 hk hTe
      go_wp2_with (first
        | (go_at_call 32; refine (markIntS_B l1 r1 _ L k wr GS1.out (by omega) (by omega) (by omega)).mono ?_; rintro e w3 ⟨rfl, ms3, m3⟩; have c2 : w3.cell? ⟨g, i * 2 + 1, none⟩ = some (.slice b2 n2 m2) := (by rw [World.cell?_of_block (w := wr) (m3.block g hglt (by omega))]; exact c1); have gt3 := Lib.hid (GT1.out.mid m3 a5.symm); have MS3 := Lib.hid ms3; clear ms3)
        | (go_at_call 33; refine (markIntSS_B l2 r2 _ T _ w3 gt3.out HT.out.2.1 HT.out.2.2 (by omega) (by omega)).mono ?_; rintro e w4 ⟨rfl, mt4, m4⟩; have MT4 := Lib.hid mt4; clear mt4))
      go_roundw
      case rel =>
        have hM2 : Mid (lo i) (hi i) wr w4 := (m3.wide a1 a2).trans (m4.wide a3 a4)
        have hs2 := hb.size
        have hblk : ∀ q, q < wr.heap.size → (q < lo i ∨ hi i ≤ q) → w4.heap[q]? = wr.heap[q]? := hM2.block
        refine ⟨i + 1, by omega, by simp, ?_, own_stay HO.out fun q hq => hblk q (World.ownsRow.lt HO.out q hq).2 (by simp only [Value.ownBlock, Option.some.injEq] at hq; omega), fun j hj => ?_, fun j hj hj2 => ?_, hb.trans (hM2.below hlo (by omega))⟩
        · have := hwt.out
          unfold wtA at this
          simp only [kmI]
          rw [← HK.out, ← this]
          congr 1
          omega
        · by_cases e : j < i
          · obtain ⟨x1, x2, y1, y2, y3, y4⟩ := HMK.out j e
            have h5 := H3.out j i e (by omega)
            obtain ⟨_, _, _, _, _, h6, _⟩ := H2.out j (by omega)
            exact ⟨x1, x2, y1, y2, y3.keep fun q q1 q2 => hblk q (by omega) (.inl (by omega)), y4.keep fun q q1 q2 => hblk q (by omega) (.inl (by omega))⟩
          · have : j = i := by omega
            subst this
            refine ⟨_, _, E1.out, E2.out, ?_, ?_⟩
            · rw [← HK.out]
              exact (MS3.out.keep fun q q1 q2 => m4.block q (by have := m3.size; omega) (by omega)).wide a1 a2
            · rw [← HK.out, ← HTE.out]
              exact MT4.out.wide a3 a4
        · obtain ⟨x1, x2, y1, y2, y3, y4, y5, y6⟩ := HGA.out j (by omega) hj2
          have h5 := H3.out i j (by omega) hj2
          exact ⟨x1, x2, y1, y2, y3, y4, y5.keep fun q q1 q2 q3 => hblk q q3 (.inr (by omega)), y6⟩
      case measure => simp [intOf]; omega
    · have e : i = Ts.length := by omega
      subst e
      go_wp2
      go_ret
      exact ⟨rfl, ⟨B, cs, HO.out, fun j hj => by obtain ⟨x1, x2, y1, y2, y3, y4⟩ := HMK.out j hj; exact ⟨x1, x2, y1, y2, y3.1, y4.mt⟩⟩, hb⟩
set_option maxRecDepth 100000 in
set_option maxHeartbeats 2000000 in
/-- laws.heldAlgebraS -/
theorem heldAlgebraS_D (a : Option Addr) (c : Nat) (L : List Int) (Ts : List (List (List Int))) (W : Int) (w : World) (h : MkD w (.slice a Ts.length c) L Ts W) (hs : ∀ j : Nat, j < Ts.length → Ti L (tabAt Ts j)) (hW : ∀ j : Nat, j < Ts.length → wtA L (tabAt Ts j) = W) (w0 : 0 ≤ W) (w1 : W ≤ 42) (hn : Ts.length ≤ 1000) :
    Calls Try.prog 11 #[.slice a Ts.length c, .int .i64 1] w fun e w' => e = .returned (.int .i64 (kmI W Ts.length)) ∧ Below w.heap.size w w' := by
  have HH := Lib.hid h
  have HS := Lib.hid hs
  have HW := Lib.hid hW
  clear h hs hW
  go_enter Try.func11, Try.ntmps11
  go_wp2
  go_loopw [1, 5] (fun kv iv wr => ∃ i : Nat, i ≤ Ts.length ∧ iv = .int .i64 (i : Int) ∧ kv = .int .i64 (kmI W i) ∧ Below w.heap.size w wr) (fun _ iv _ => (1100 - intOf iv).toNat)
  case atStart => exact ⟨0, by omega, rfl, rfl, Below.refl _ _⟩
  case round =>
    obtain ⟨i, iR, rfl, rfl, hb⟩ := hrel
    by_cases hi' : (i : Int) < Ts.length
    · have ki : IntKind.i64.wrap ((i : Int) + 1) = (i : Int) + 1 := IntWalk.i64_in _ (by omega)
      obtain ⟨B, cs, h1, h2⟩ := HH.out.below hb
      obtain ⟨u1, u2, e1, e2, hms, hmt⟩ := h2 i (by omega)
      obtain ⟨g, rfl, c0⟩ := algs_cell h1 e1
      obtain ⟨g', hg', c1⟩ := algs_cell h1 e2
      injection hg' with hg'
      injection hg' with hg' _ _
      subst hg'
      have hti := HS.out i (by omega)
      have hwt := Lib.hid (HW.out i (by omega))
      obtain ⟨T, hTe⟩ : ∃ T, T = tabAt Ts i := ⟨_, rfl⟩
      rw [← hTe] at hmt hti hwt
      obtain ⟨k0, k1⟩ := kmI_le w0 w1 i
      obtain ⟨k, hk⟩ : ∃ k, k = kmI W i := ⟨_, rfl⟩
      rw [← hk] at k0 k1 hms hmt ⊢
      rw [Nat.mul_comm] at c0 c1
      have hglt := block_lt_of_cell c0
      have HT := Lib.hid hti
      have hLL := hti.1
      have hcu := (cum_le T (fun j hj => by have := hti.2.2 j hj; omega) T.length (Nat.le_refl _)).1
      have k2 : ¬ k + (L.length : Int) < 0 := by omega
      have k3 : ¬ k + (L.length : Int) + cum T T.length < 0 := by omega
      obtain ⟨b1, n1, m1, rfl⟩ : ∃ b n m, u1 = .slice b n m := by obtain ⟨b, n, h, _⟩ := hms; exact ⟨b, _, n, h⟩
      obtain ⟨b2, n2, m2, rfl⟩ : ∃ b n m, u2 = .slice b n m := by
        rcases hmt with ⟨h, _⟩ | ⟨B, R, h, _⟩
        · exact ⟨_, _, _, h⟩
        · exact ⟨_, _, _, h⟩
      have M1 := Lib.hid hms
      have M2 := Lib.hid hmt
      have HK := Lib.hid hk
      clear hms hmt h1 h2 hti hk hTe e1 e2
      go_wp2_with (first
        | (go_at_call 34; refine (heldIntS_G _ L k wr M1.out (by omega) (by omega) (by omega)).mono ?_; rintro e w3 ⟨rfl, hb3⟩; have c2 : w3.cell? ⟨g, i * 2 + 1, none⟩ = some (.slice b2 n2 m2) := (by rw [hb3.cell hglt]; exact c1); have HX := heldIntSS_G _ T _ w3 (M2.out.below hb3) (by have := HT.out.2.1; omega) (fun j hj => by have := HT.out.2.2 j hj; omega) (by omega) (by omega))
        | (go_at_call 35; refine HX.mono ?_; rintro e w4 ⟨rfl, hb4⟩))
      go_roundw
      case rel =>
        refine ⟨i + 1, by omega, by simp, ?_, hb.trans ((hb3.trans (hb4.mono hb3.size)).mono hb.size)⟩
        have := hwt.out
        unfold wtA at this
        simp only [kmI]
        rw [← HK.out, ← this]
        congr 1
        omega
      case measure => simp [intOf]; omega
    · have e : i = Ts.length := by omega
      subst e
      go_wp2
      go_ret
      exact ⟨rfl, hb⟩
end Go.Proofs.Ytdjhnbofnmhpaaa
