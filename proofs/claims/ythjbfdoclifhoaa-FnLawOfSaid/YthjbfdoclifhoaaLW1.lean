import Derived.Test.YthjbfdoclifhoaaLW0
import Derived.Test.YthjbfdoclifhoaaCE4
import Derived.Test.YthjbfdoclifhoaaTM15
import Derived.Test.YthjbfdoclifhoaaTM6
import Derived.Test.YthjbfdoclifhoaaCC3
import Derived.Test.YthjbfdoclifhoaaP5
import Derived.Test.YthjbfdoclifhoaaOF
namespace Go.Proofs.Ythjbfdoclifhoaa
open Go.RowKit
set_option linter.unusedVariables false

def apAt (Ps : List AP) (j : Nat) : AP := Ps.getD j ([], [])
theorem apAt_l {Ps Qs : List AP} {j : Nat} (h : j < Ps.length) : apAt (Ps ++ Qs) j = apAt Ps j := by
  unfold apAt
  rw [List.getD_eq_getElem?_getD, List.getD_eq_getElem?_getD, List.getElem?_append_left h]
theorem apAt_r {Ps Qs : List AP} {j : Nat} (h : Ps.length ≤ j) : apAt (Ps ++ Qs) j = apAt Qs (j - Ps.length) := by
  unfold apAt
  rw [List.getD_eq_getElem?_getD, List.getD_eq_getElem?_getD, List.getElem?_append_right h]
theorem apAt_mem {Ps : List AP} {j : Nat} (h : j < Ps.length) : apAt Ps j ∈ Ps := by
  unfold apAt
  rw [List.getD_eq_getElem?_getD, List.getElem?_eq_getElem h]
  exact List.getElem_mem h
/-- algebras of several lattices in a slice of the call's own -/
def AlgsP (B : Nat) (w : World) (v : Value) (Ps : List AP) : Prop :=
  ∃ cs : List Value, w.ownsRow B 31 2 v Ps.length cs ∧ ∀ j : Nat, j < Ps.length → ∃ u1 u2, cs[2 * j]? = some u1 ∧ cs[2 * j + 1]? = some u2 ∧ Own 0 w u1 (apAt Ps j).1 ∧ RowsAt 0 w u2 (apAt Ps j).2
theorem AlgsP.below {B : Nat} {w w' : World} {v : Value} {Ps : List AP} (h : AlgsP B w v Ps) (hb : Below w.heap.size w w') : AlgsP B w' v Ps := by
  obtain ⟨cs, h1, h2⟩ := h
  exact ⟨cs, ownsRow_below h1 hb, fun j hj => by obtain ⟨a, b, ha, hb', ho, hr⟩ := h2 j hj; exact ⟨a, b, ha, hb', ho.below hb, hr.below hb⟩⟩
theorem AlgsP.of {B C : Nat} {w : World} {v : Value} {L : List Int} {Ts : List (List (List Int))} (h : AlgsAt B C w v L Ts) : AlgsP B w v (Ts.map fun T => (L, T)) := by
  obtain ⟨cs, h1, h2⟩ := h
  refine ⟨cs, by rw [List.length_map]; exact h1, fun j hj => ?_⟩
  rw [List.length_map] at hj
  obtain ⟨a, b, ha, hb', ho, hr⟩ := h2 j hj
  have e : apAt (Ts.map fun T => (L, T)) j = (L, tabAt Ts j) := by
    unfold apAt tabAt
    rw [List.getD_eq_getElem?_getD, List.getD_eq_getElem?_getD, List.getElem?_map, List.getElem?_eq_getElem hj]
    rfl
  rw [e]
  exact ⟨a, b, ha, hb', ho.from (Nat.zero_le _), hr.from (Nat.zero_le _)⟩
theorem AlgsP.has {B : Nat} {w : World} {v : Value} {Ps : List AP} (h : AlgsP B w v Ps) (hp : 0 < Ps.length) : ∃ G c, v = .slice (some ⟨G, 0, none⟩) Ps.length c := by
  obtain ⟨cs, h1, _⟩ := h
  rcases h1.2 with ⟨_, hn⟩ | ⟨g, cap, cur, rfl, _⟩
  · omega
  · exact ⟨g, cap, rfl⟩
theorem AlgsP.at {B : Nat} {w : World} {G n cap : Nat} {Ps : List AP} (h : AlgsP B w (.slice (some ⟨G, 0, none⟩) n cap) Ps) {k : Nat} (k1 : k < Ps.length) :
    ∃ a ca b cb, w.rangeAt G (k * 2) [.slice a (apAt Ps k).1.length ca, .slice b (apAt Ps k).2.length cb] ∧ Rd w a (apAt Ps k).1 ∧ RdT w b (apAt Ps k).2 := by
  obtain ⟨cs, h1, h2⟩ := h
  obtain ⟨u1, u2, e1, e2, ho, hr⟩ := h2 k k1
  obtain ⟨a, ca, rfl, r1⟩ := ho.slice
  obtain ⟨b, cb, rfl, r2⟩ := hr.rd
  obtain ⟨g', c', e, _, hcell⟩ := algs_shape h1 (by simp)
  injection e with e
  injection e with e
  injection e with e
  subst e
  refine ⟨a, ca, b, cb, fun j v hv => ?_, r1, r2⟩
  rcases j with _ | _ | j
  · simp only [List.getElem?_cons_zero, Option.some.injEq] at hv
    subst hv
    rw [Nat.add_zero, Nat.mul_comm]
    exact hcell _ _ e1
  · simp only [List.getElem?_cons_succ, List.getElem?_cons_zero, Option.some.injEq] at hv
    subst hv
    rw [Nat.mul_comm]
    exact hcell _ _ e2
  · simp at hv
/-- cells of algebras -/
def CellsP (w : World) (us : List Value) (Qs : List AP) : Prop := us.length = Qs.length * 2 ∧ ∀ j : Nat, j < Qs.length → ∃ u1 u2, us[2 * j]? = some u1 ∧ us[2 * j + 1]? = some u2 ∧ Own 0 w u1 (apAt Qs j).1 ∧ RowsAt 0 w u2 (apAt Qs j).2
theorem AlgsP.push {B : Nat} {w w' : World} {v v' : Value} {Ps Qs : List AP} {us cs : List Value} (h1 : w.ownsRow B 31 2 v Ps.length cs)
    (h2 : ∀ j : Nat, j < Ps.length → ∃ u1 u2, cs[2 * j]? = some u1 ∧ cs[2 * j + 1]? = some u2 ∧ Own 0 w u1 (apAt Ps j).1 ∧ RowsAt 0 w u2 (apAt Ps j).2) (k : CellsP w us Qs)
    (h3 : w'.ownsRow B 31 2 v' (Ps.length + Qs.length) (cs ++ us)) (hg : w.grownBy w' v.ownBlock) : AlgsP B w' v' (Ps ++ Qs) := by
  have hvl : cs.length = Ps.length * 2 := h1.1
  refine ⟨cs ++ us, by rw [List.length_append]; exact h3, fun j hj => ?_⟩
  rw [List.length_append] at hj
  by_cases e : j < Ps.length
  · obtain ⟨a, b, ha, hb, ho, hr⟩ := h2 j e
    refine ⟨a, b, by rw [List.getElem?_append_left (by omega)]; exact ha, by rw [List.getElem?_append_left (by omega)]; exact hb, ?_, ?_⟩
    · rw [apAt_l e]; exact World.ownsRow.kept ho hg (own_types ho h1 (by decide))
    · rw [apAt_l e]; exact hr.keptA h1 (by decide) (by decide) hg
  · obtain ⟨a, b, ha, hb, ho, hr⟩ := k.2 (j - Ps.length) (by omega)
    refine ⟨a, b, by rw [List.getElem?_append_right (by omega), hvl, show 2 * j - Ps.length * 2 = 2 * (j - Ps.length) by omega]; exact ha, by rw [List.getElem?_append_right (by omega), hvl, show 2 * j + 1 - Ps.length * 2 = 2 * (j - Ps.length) + 1 by omega]; exact hb, ?_, ?_⟩
    · rw [apAt_r (by omega)]; exact World.ownsRow.kept ho hg (own_types ho h1 (by decide))
    · rw [apAt_r (by omega)]; exact hr.keptA h1 (by decide) (by decide) hg
theorem wpList_append_algP {ops : Array Oper} {rest : List Oper} {o : Oper} {a : Act} {Q : Exit → Act → World → Prop} (hgd : o.guard = none) (s x : Operand)
    (ho : o.op = .call { callee := .builtin .append, args := #[s, x], argTypes := #[27, 27] }) (B : Nat) (v : Value) (Ps Qs : List AP) (w : World) (hs : a.eval s = v) (hown : AlgsP B w v Ps)
    (g m : Nat) (hx : a.eval x = .slice (some ⟨g, 0, none⟩) m m) (us : List Value) (hm : Qs.length = m) (hg : w.heap[g]? = some (.cells us.toArray 31 (0, 0))) (h1 : ∀ u ∈ us, u.oneCell' = true) (k : CellsP w us Qs) (hR : Ps.length ≤ 1000) (hQ : m ≤ 1000) (hB : B ≤ w.heap.size)
    (h : ∀ v' w', AlgsP B w' v' (Ps ++ Qs) → w.grownBy w' v.ownBlock → wpList Try.prog ops Q rest (a.put o.dst v') w') : wpList Try.prog ops Q (o :: rest) a w := by
  obtain ⟨i0, hi, hz0, hz1, hz2⟩ := info_parts info_Alg
  obtain ⟨cs, h1', h2⟩ := hown
  refine wpList_append_own w hgd s x 27 ho B 31 i0 (.agg #[.slice none 0 0, .slice none 0 0]) 2 48 Try.underlying27 hi hz0 hz1 hz2 rfl (by decide) v Ps.length cs hs h1' ⟨g, 0, none⟩ m m us hx (by rw [k.1, hm]) ?_ h1 (by unfold maxLen; omega) (by omega) hB ?_
  · exact World.news_of_block (cs := us.toArray) (t := 31) (fr := (0, 0)) hg
  · intro v' w' h3 h4 _
    exact h v' w' (AlgsP.push h1' h2 k (by rw [hm]; exact h3) h4) h4
theorem ra_parts_o {w : World} {a b : Option Addr} {n c m d : Nat} {L : List Int} {T : List (List Int)} (h : RA w (.slice a n c) (.slice b m d) L T) : n = L.length ∧ m = T.length ∧ Rd w a L ∧ RdT w b T := by
  obtain ⟨a', ca', b', cb', e1, e2, r1, r2⟩ := h
  injection e1 with x1 x2 _
  injection e2 with y1 y2 _
  subst x1; subst y1
  exact ⟨x2, y2, r1, r2⟩
/-- an algebra of blocks of its own is handed back, and true -/
def RetO (L : List Int) (T : List (List Int)) (w : World) (e : Ending) (w' : World) : Prop := ∃ a ca b cb, e = .returned (.tuple #[.agg #[.slice a L.length ca, .slice b T.length cb], .bool true]) ∧ Own 0 w' (.slice a L.length ca) L ∧ RowsAt 0 w' (.slice b T.length cb) T ∧ Below w.heap.size w w'
theorem RetGAb.o {L : List Int} {T : List (List Int)} {w w' : World} {e : Ending} (h : RetGAb L T true w e w') (ht : Ti L T) : RetO L T w e w' := by
  obtain ⟨a, n, c, b, m, d, rfl, hg, hb⟩ := h
  obtain ⟨rfl, rfl, _, _⟩ := ra_parts_o hg.rd
  obtain ⟨l1, r1, l2, r2, _, _, _, _, _, gs, gt⟩ := hg
  exact ⟨a, c, b, d, rfl, gs.2.1.from (Nat.zero_le _), RowsAt.from (gt.rows (by have := ht.2.1; unfold maxLen; omega) fun k hk => by have := ht.2.2 k hk; unfold maxLen; omega) (Nat.zero_le _), hb⟩
theorem RetAlg.o {lo : Nat} {L : List Int} {T : List (List Int)} {w w' : World} {e : Ending} (h : RetAlg lo L T w e w') (hL : L.length ≤ 1000) (hT : T.length ≤ 1000) (hr : ∀ j : Nat, j < T.length → (rowAt T j).length ≤ 1000) : RetO L T w e w' := by
  obtain ⟨bu, B, R, rfl, _, _, hrow, ht, hb⟩ := h
  exact ⟨_, _, _, _, rfl, (Own.row hrow (Nat.zero_le _) (by unfold maxLen; omega)), RowsAt.from (ht.rows (by unfold maxLen; omega) fun j hj => by have := hr j hj; unfold maxLen; omega) (Nat.zero_le _), hb⟩
theorem lw_ti {T : List (List Int)} (h : ∀ r ∈ T, r.length ≤ 6) : ∀ j : Nat, j < T.length → (rowAt T j).length ≤ 1000 := fun j hj => by have := h _ (rowAt_memT hj); omega
theorem lwSum3 (w : World) : Calls Try.prog 9 #[.int .i64 3] w (RetO w3L w3T w) :=
  (implSumChain_yes 3 w (by omega) (by omega)).mono fun e w' h => RetAlg.o (L := w3L) (T := w3T) h (by rw [lw_small.1]; omega) (by rw [lw_small.2.1]; omega) (lw_ti lw_small.2.2.2.2.1)
theorem lwSum2 (w : World) : Calls Try.prog 9 #[.int .i64 2] w (RetO w2L w2T w) :=
  (implSumChain_yes 2 w (by omega) (by omega)).mono fun e w' h => RetAlg.o (L := w2L) (T := w2T) h (by rw [lw_small.2.2.1]; omega) (by rw [lw_small.2.2.2.1]; omega) (lw_ti lw_small.2.2.2.2.2)
theorem lwCross32 (a b : Option Addr) (ca cb : Nat) (a2 b2 : Option Addr) (ca2 cb2 : Nat) (w : World) (h1 : Rd w a w3L) (h2 : RdT w b w3T) (h3 : Rd w a2 w2L) (h4 : RdT w b2 w2T) : Calls Try.prog 10 #[.agg #[.slice a w3L.length ca, .slice b w3T.length cb], .agg #[.slice a2 w2L.length ca2, .slice b2 w2T.length cb2]] w (RetO wpL wpT w) := by
  have h := implCrossAlgebras_any a b ca cb w3L w3T a2 b2 ca2 cb2 w2L w2T w h1 h2 h3 h4
  rw [lw_oks.1] at h
  exact h.mono fun e w' h => RetGAb.o (L := wpL) (T := wpT) h (ca_ti _ _ _ _)
theorem lwCross22 (a b : Option Addr) (ca cb : Nat) (a2 b2 : Option Addr) (ca2 cb2 : Nat) (w : World) (h1 : Rd w a w2L) (h2 : RdT w b w2T) (h3 : Rd w a2 w2L) (h4 : RdT w b2 w2T) : Calls Try.prog 10 #[.agg #[.slice a w2L.length ca, .slice b w2T.length cb], .agg #[.slice a2 w2L.length ca2, .slice b2 w2T.length cb2]] w (RetO wqL wqT w) := by
  have h := implCrossAlgebras_any a b ca cb w2L w2T a2 b2 ca2 cb2 w2L w2T w h1 h2 h3 h4
  rw [lw_oks.2.1] at h
  exact h.mono fun e w' h => RetGAb.o (L := wqL) (T := wqT) h (ca_ti _ _ _ _)
theorem lwStack (a b : Option Addr) (ca cb : Nat) (a2 b2 : Option Addr) (ca2 cb2 : Nat) (w : World) (h1 : Rd w a wqL) (h2 : RdT w b wqT) (h3 : Rd w a2 w3L) (h4 : RdT w b2 w3T) : Calls Try.prog 11 #[.agg #[.slice a wqL.length ca, .slice b wqT.length cb], .agg #[.slice a2 w3L.length ca2, .slice b2 w3T.length cb2]] w (RetO wtL wtT w) := by
  have h := implStackAlgebras_any a b ca cb wqL wqT a2 b2 ca2 cb2 w3L w3T w h1 h2 h3 h4
  rw [lw_oks.2.2] at h
  exact h.mono fun e w' h => RetGAb.o (L := wtL) (T := wtT) h (st_ti _ _ _ _)
/-- a struct variable of the law's, and the algebra in it -/
structure BO (q g : Nat) (a : Option Addr) (ca : Nat) (b : Option Addr) (cb : Nat) (L : List Int) (T : List (List Int)) (wc : World) : Prop where
  old : q ≤ g
  box : wc.heap[g]? = some (.cells #[.slice a L.length ca, .slice b T.length cb] 31 (0, 0))
  own : Own 0 wc (.slice a L.length ca) L
  rows : RowsAt 0 wc (.slice b T.length cb) T
theorem BO.next {wc w' : World} {q g : Nat} {a b : Option Addr} {ca cb : Nat} {L : List Int} {T : List (List Int)} (h : BO q g a ca b cb L T wc) (hb : Below wc.heap.size wc w') : BO q g a ca b cb L T w' :=
  ⟨h.old, (hb.block _ (lt_of_block h.box)).trans h.box, h.own.below hb, h.rows.below hb⟩
theorem BO.grown {wc w' : World} {q g : Nat} {a b : Option Addr} {ca cb : Nat} {L : List Int} {T : List (List Int)} {B n : Nat} {v : Value} {cs : List Value} (h : BO q g a ca b cb L T wc) (h1 : wc.ownsRow B 31 2 v n cs) (hg : wc.grownBy w' v.ownBlock) (hne : ∀ p, v.ownBlock = some p → p ≠ g) : BO q g a ca b cb L T w' :=
  ⟨h.old, (hg.block _ (lt_of_block h.box) (fun e => hne g e.symm rfl)).trans h.box, World.ownsRow.kept h.own hg (own_types h.own h1 (by decide)), h.rows.keptA h1 (by decide) (by decide) hg⟩
theorem BO.rd {wc : World} {q g : Nat} {a b : Option Addr} {ca cb : Nat} {L : List Int} {T : List (List Int)} (h : BO q g a ca b cb L T wc) : Rd wc a L ∧ RdT wc b T := ⟨h.own.rd, h.rows.rdT'⟩
end Go.Proofs.Ythjbfdoclifhoaa
