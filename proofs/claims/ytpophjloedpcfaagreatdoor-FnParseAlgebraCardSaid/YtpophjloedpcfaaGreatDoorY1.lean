import Derived.Test.YtpophjloedpcfaaGreatDoorG11
import Derived.Test.YtpophjloedpcfaaGreatDoorG10
import Derived.Test.YtpophjloedpcfaaGreatDoorD3
import Derived.Test.YtpophjloedpcfaaGreatDoorH4
import Derived.Test.YtpophjloedpcfaaGreatDoorC3
import Derived.Lib.SliceRun
namespace Go.Proofs.YtpophjloedpcfaaGreatDoor
open Go.RowKit

/-- the table of what a function says of each two -/
def tabL (p : Int → Int → Int) (n : Int) : List (List Int) := (List.range n.toNat).map fun (i : Nat) => lstTo (p i) n
theorem tabL_len (p : Int → Int → Int) (n : Int) : (tabL p n).length = n.toNat := by simp [tabL]
theorem tabL_row (p : Int → Int → Int) {n : Int} {j : Nat} (h : j < n.toNat) : rowAt (tabL p n) j = lstTo (p j) n := by
  unfold rowAt tabL
  simp [h]
theorem tabL_rlen (p : Int → Int → Int) {n : Int} {j : Nat} (h : j < n.toNat) : (rowAt (tabL p n) j).length = n.toNat := by
  rw [tabL_row p h]; simp [lstTo]
theorem tabL_tv (p : Int → Int → Int) {n x y : Int} (x0 : 0 ≤ x) (x1 : x < n) (y0 : 0 ≤ y) (y1 : y < n) : tv (tabL p n) x y = p x y := by
  have h := tabL_row p (n := n) (j := x.toNat) (by omega)
  rw [Int.toNat_of_nonneg x0] at h
  unfold tv
  rw [h]; exact lstTo_nth _ y0 y1
/-- a row under way -/
def mixR (p : Int → Int → Int) (n x y : Int) : List Int := lstTo (p x) y ++ List.replicate (n.toNat - y.toNat) 0
theorem mixR_len (p : Int → Int → Int) {n x y : Int} (y0 : 0 ≤ y) (y1 : y ≤ n) : (mixR p n x y).length = n.toNat := by
  have h := lstTo_len (p x) y y0
  unfold mixR; rw [List.length_append, List.length_replicate]; omega
theorem mixR_zero (p : Int → Int → Int) (n x : Int) : mixR p n x 0 = List.replicate n.toNat 0 := by simp [mixR, lstTo]
theorem mixR_set (p : Int → Int → Int) {n x y : Int} (y0 : 0 ≤ y) (y1 : y < n) : (mixR p n x y).set y.toNat (p x y) = mixR p n x (y + 1) := by
  have h := lstTo_len (p x) y y0
  unfold mixR
  rw [List.set_append_right (h := by omega), lstTo_succ _ _ y0, List.append_assoc]
  congr 1
  have e1 : y.toNat - (lstTo (p x) y).length = 0 := by omega
  have e2 : n.toNat - y.toNat = (n.toNat - (y + 1).toNat) + 1 := by omega
  rw [e1, e2, List.replicate_succ]
  rfl
theorem mixR_all (p : Int → Int → Int) {n x : Int} (_ : 0 ≤ n) : mixR p n x n = lstTo (p x) n := by unfold mixR; simp
theorem runs_callv {P : Program} {o : Oper} {a : Act} (f : FuncId) (env : Array Value) (x y z : Operand) (tys : Array TypeId) (ho : o.op = .call { callee := .value z, args := #[x, y], argTypes := tys }) (hz : a.eval z = .func (.func f) #[] env) (u v : Value) (hx : a.eval x = u) (hy : a.eval y = v) (w : World) (he : ∀ (args : Array Value) (w : World), (callFunc f args).run P w = .ok (.enter f args) w) : (execOp a.eval o).run P w = .ok (.enter f (#[u, v] ++ env)) w := by
  subst hx hy
  have h1 := he (#[a.eval x, a.eval y] ++ env) w
  unfold execOp
  simp [ho, resolve, hz, Deferred.ofValue, invoke]
  simpa using h1
/-- the rows up to x done, row x up to y -/
structure TabIn (w : World) (lo B : Nat) (R : Nat → Nat) (p : Int → Int → Int) (n x y : Int) : Prop where
  top : w.heap[B]? = some (.cells (slTo R (tabL p n) (x.toNat + 1)) 23 (0, 0))
  lo : lo ≤ B
  row : ∀ j, j < x.toNat → Row w (R j) (rowAt (tabL p n) j)
  cur : Row w (R x.toNat) (mixR p n x y)
  up : ∀ j, j ≤ x.toNat → B < R j
  inc : ∀ i j, i < j → j ≤ x.toNat → R i < R j
theorem TabIn.lt {w : World} {lo B : Nat} {R : Nat → Nat} {p : Int → Int → Int} {n x y : Int} (h : TabIn w lo B R p n x y) : B < w.heap.size := lt_of_block h.top
theorem TabIn.below {w w' : World} {lo B : Nat} {R : Nat → Nat} {p : Int → Int → Int} {n x y : Int} (h : TabIn w lo B R p n x y) (hb : Below w.heap.size w w') : TabIn w' lo B R p n x y :=
  ⟨(hb.block _ h.lt).trans h.top, h.lo, fun j hj => (h.row j hj).below hb (h.row j hj).lt, h.cur.below hb h.cur.lt, h.up, h.inc⟩
theorem TabIn.cell {w : World} {lo B : Nat} {R : Nat → Nat} {p : Int → Int → Int} {n x y : Int} (h : TabIn w lo B R p n x y) (x0 : 0 ≤ x) (x1 : x < n) : w.cell? ⟨B, x.toNat, none⟩ = some (.slice (some ⟨R x.toNat, 0, none⟩) n.toNat n.toNat) := by
  rw [cell_of_row w B _ _ _ _ h.top, slTo_get _ _ _ _ (by rw [tabL_len]; omega), if_pos (by omega), tabL_rlen p (by omega)]
theorem TabIn.step {w : World} {lo B : Nat} {R : Nat → Nat} {p : Int → Int → Int} {n x y : Int} (h : TabIn w lo B R p n x y) (y0 : 0 ≤ y) (y1 : y < n) : TabIn (w.setCell ⟨R x.toNat, y.toNat, none⟩ (.int .i64 (p x y))) lo B R p n x (y + 1) := by
  have hu := h.up x.toNat (Nat.le_refl _)
  refine ⟨(heap_setCell_other w _ _ _ (by simp; omega)).trans h.top, h.lo, fun j hj => (h.row j hj).other _ ?_, ?_, h.up, h.inc⟩
  · have := h.inc j x.toNat hj (Nat.le_refl _); simp; omega
  · rw [← mixR_set p y0 y1]; exact h.cur.set _ _
theorem TabIn.done {w : World} {lo B : Nat} {R : Nat → Nat} {p : Int → Int → Int} {n x : Int} (h : TabIn w lo B R p n x n) (x0 : 0 ≤ x) (x1 : x < n) : TabOwn w lo B R (tabL p n) (x.toNat + 1) := by
  refine ⟨h.top, h.lo, fun j hj => ?_, fun j hj => h.up j (by omega), fun i j hij hj => h.inc i j hij (by omega)⟩
  by_cases e : j = x.toNat
  · have hc := h.cur
    rw [mixR_all p (by omega)] at hc
    rw [e, tabL_row p (by omega), Int.toNat_of_nonneg x0]; exact hc
  · exact h.row j (by omega)
end Go.Proofs.YtpophjloedpcfaaGreatDoor

namespace Go.Proofs.YtpophjloedpcfaaGreatDoor
open Go.RowKit

theorem TabOwn.start {w : World} {lo B : Nat} {R : Nat → Nat} {p : Int → Int → Int} {n x : Int} (h : TabOwn w lo B R (tabL p n) x.toNat) (x0 : 0 ≤ x) (x1 : x < n) :
    TabIn ((w.alloc (.cells (IL (List.replicate n.toNat 0)) 3)).setCell ⟨B, x.toNat, none⟩ (.slice (some ⟨w.heap.size, 0, none⟩) n.toNat n.toNat)) lo B (fun i => if i = x.toNat then w.heap.size else R i) p n x 0 := by
  have hrow : Row (w.alloc (.cells (IL (List.replicate n.toNat 0)) 3)) w.heap.size (List.replicate n.toNat 0) := heap_alloc_new w _
  have own5 := h.below ((Below.refl _ w).alloc (Nat.le_refl _) (.cells (IL (List.replicate n.toNat 0)) 3))
  obtain ⟨w5, hw5⟩ : ∃ w5, w5 = w.alloc (.cells (IL (List.replicate n.toNat 0)) 3) := ⟨_, rfl⟩
  rw [← hw5] at hrow own5 ⊢
  have hz := h.lt
  have hset := slTo_set R (tabL p n) x.toNat w.heap.size
  rw [tabL_rlen p (show x.toNat < n.toNat by omega)] at hset
  refine ⟨?_, h.lo, fun j hj => ?_, ?_, fun j hj => ?_, fun i j hij hj => ?_⟩
  · rw [setCell_eq_setRow w5 _ _ _ _ _ _ own5.top, setRow_heap w5 _ _ _ _ _ own5.top, hset]
  · show Row _ (if j = x.toNat then w.heap.size else R j) _
    rw [if_neg (by omega)]
    exact (own5.row j hj).other _ (by have := h.up j hj; simp; omega)
  · show Row _ (if x.toNat = x.toNat then w.heap.size else R x.toNat) _
    rw [if_pos rfl, mixR_zero]
    exact hrow.other _ (by simp; omega)
  · show B < (if j = x.toNat then w.heap.size else R j)
    by_cases e : j = x.toNat
    · rw [if_pos e]; exact hz
    · rw [if_neg e]; exact h.up j (by omega)
  · show (if i = x.toNat then w.heap.size else R i) < (if j = x.toNat then w.heap.size else R j)
    rw [if_neg (by omega)]
    by_cases e : j = x.toNat
    · rw [if_pos e]; exact (h.row i (by omega)).lt
    · rw [if_neg e]; exact h.inc i j hij (by omega)

end Go.Proofs.YtpophjloedpcfaaGreatDoor

namespace Go.Proofs.YtpophjloedpcfaaGreatDoor
open Go.RowKit

/-- truncated sums -/
def sumP (n x y : Int) : Int := if x + y + 1 - n < 0 then 0 else x + y + 1 - n
theorem results_Alg_tmp {fn : Func} {p u : Tmp} (h : fn.results = #[.cell p 26, .tmp u]) (tmps : Array Value) (w : World) (g : Nat) (hp : tmps.getD p undef = .pointer (some ⟨g, 0, none⟩))
    (s t : Value) {v : Value} (hg : w.heap[g]? = some (.cells #[s, t] 26 (0, 0))) (hu : tmps.getD u undef = v) :
    (results fn tmps).run Tryz.prog w = .ok (.tuple #[.agg #[s, t], v]) w := by
  have hp' : tmps[p]?.getD undef = .pointer (some ⟨g, 0, none⟩) := by simpa using hp
  have hu' : tmps[u]?.getD undef = v := by simpa using hu
  have hl := run_loadVar_row (P := Tryz.prog) w g _ 26 _ _ _ hg Tryz.underlying26 rfl (size_Alg _ _)
  simp [results, h, hp', hu', asAddr, hl]
/-- an algebra of the call's own memory is handed back, and true -/
def RetAlg (lo : Nat) (L : List Int) (T : List (List Int)) (w : World) (e : Ending) (w' : World) : Prop :=
  ∃ bu B R, e = .returned (.tuple #[.agg #[.slice (some ⟨bu, 0, none⟩) L.length L.length, .slice (some ⟨B, 0, none⟩) T.length T.length], .bool true]) ∧ lo ≤ bu ∧ bu < B ∧ Row w' bu L ∧ TabOwn w' lo B R T T.length ∧ Below w.heap.size w w'
/-- the zero value is handed back, and false -/
def RetNo (w : World) (e : Ending) (w' : World) : Prop := e = .returned (.tuple #[.agg #[.slice none 0 0, .slice none 0 0], .bool false]) ∧ Below w.heap.size w w'

theorem nil_is (w : World) (a : Option Addr) (n c n' c' : Nat) : (binOp .eql 23 (.slice a n c) (.slice none n' c')).run Tryz.prog w = .ok (.bool a.isNone) w := Lib.run_eql_slice_nil w _ _ a n c n' c' Tryz.underlying23
end Go.Proofs.YtpophjloedpcfaaGreatDoor

namespace Go.Proofs.YtpophjloedpcfaaGreatDoor
open Go.RowKit

/-- a table of the call's own by append: its rows are the call's own as well -/
def RowsAt (B : Nat) (w : World) (v : Value) (T : List (List Int)) : Prop :=
  ∃ vs : List Value, w.ownsRow B 23 1 v T.length vs ∧ ∀ j : Nat, j < T.length → ∃ u, vs[j]? = some u ∧ Own B w u (rowAt T j)
theorem ownsRow_below {w w' : World} {B : Nat} {e : TypeId} {s : Nat} {v : Value} {n : Nat} {xs : List Value} (h : w.ownsRow B e s v n xs) (hb : Below w.heap.size w w') : w'.ownsRow B e s v n xs := by
  obtain ⟨h1, h⟩ := h
  refine ⟨h1, ?_⟩
  rcases h with h | ⟨g, cap, cur, e1, e2, hg, e3, e4, e5, e6⟩
  · exact .inl h
  · exact .inr ⟨g, cap, cur, e1, e2, (hb.block g (lt_of_block hg)).trans hg, e3, e4, e5, e6⟩
/-- blocks of two types are two -/
theorem own_types {w : World} {B B' : Nat} {e e' : TypeId} {s s' n n' : Nat} {v v' : Value} {xs xs' : List Value} (h : w.ownsRow B e s v n xs) (h' : w.ownsRow B' e' s' v' n' xs') (he : e ≠ e') : v.ownBlock = none ∨ v.ownBlock ≠ v'.ownBlock := by
  rcases h.2 with ⟨rfl, _⟩ | ⟨g, cap, cur, rfl, _, hg, _⟩
  · exact .inl rfl
  · right
    rcases h'.2 with ⟨rfl, _⟩ | ⟨g', cap', cur', rfl, _, hg', _⟩
    · simp [Value.ownBlock]
    · simp only [Value.ownBlock, ne_eq, Option.some.injEq]
      intro e
      rw [e, hg'] at hg
      injection hg with hg
      injection hg with _ hg
      exact he hg.symm
theorem RowsAt.nothing (B : Nat) (w : World) : RowsAt B w (.slice none 0 0) [] := ⟨[], World.ownsRow_nil _ _ _ _, fun j hj => absurd hj (by simp)⟩
theorem RowsAt.below {B : Nat} {w w' : World} {v : Value} {T : List (List Int)} (h : RowsAt B w v T) (hb : Below w.heap.size w w') : RowsAt B w' v T := by
  obtain ⟨vs, h1, h2⟩ := h
  exact ⟨vs, ownsRow_below h1 hb, fun j hj => by obtain ⟨u, hu, ho⟩ := h2 j hj; exact ⟨u, hu, ho.below hb⟩⟩
theorem rowAt_old {T : List (List Int)} {r : List Int} {j : Nat} (h : j < T.length) : rowAt (T ++ [r]) j = rowAt T j := by
  unfold rowAt
  simp [List.getElem?_append_left h]
theorem rowAt_new {T : List (List Int)} {r : List Int} : rowAt (T ++ [r]) T.length = r := by
  unfold rowAt
  simp
theorem RowsAt.rd {B : Nat} {w : World} {v : Value} {T : List (List Int)} (h : RowsAt B w v T) : ∃ b cap, v = .slice b T.length cap ∧ RdT w b T := by
  obtain ⟨vs, h1, h2⟩ := h
  rcases h1.2 with ⟨rfl, hn⟩ | ⟨g, cap, cur, rfl, _, hg, hc, _, hs, ht⟩
  · exact ⟨none, 0, by rw [hn], fun hne => absurd (List.length_eq_zero_iff.1 hn) hne⟩
  · refine ⟨_, cap, rfl, fun _ => ⟨g, 0, rfl, fun j hj => ?_⟩⟩
    obtain ⟨u, hu, ho⟩ := h2 j hj
    obtain ⟨a, c, rfl, hr⟩ := ho.slice
    refine ⟨a, c, ?_, hr⟩
    rw [Nat.zero_add, cell_of_row w g j _ _ _ hg]
    rw [← ht, List.getElem?_take, if_pos (by omega), Array.getElem?_toList] at hu
    exact hu
theorem RowsAt.push {B : Nat} {w w' : World} {v v' u : Value} {T : List (List Int)} {r : List Int} {vs : List Value} (h1 : w.ownsRow B 23 1 v T.length vs) (h2 : ∀ j : Nat, j < T.length → ∃ u, vs[j]? = some u ∧ Own B w u (rowAt T j)) (hu : Own B w u r)
    (h3 : w'.ownsRow B 23 1 v' (T.length + 1) (vs ++ [u])) (hg : w.grownBy w' v.ownBlock) : RowsAt B w' v' (T ++ [r]) := by
  have hvl : vs.length = T.length := by have := h1.1; omega
  refine ⟨vs ++ [u], by simpa using h3, fun j hj => ?_⟩
  by_cases e : j < T.length
  · obtain ⟨u', hu', ho⟩ := h2 j e
    refine ⟨u', by rw [List.getElem?_append_left (by omega)]; exact hu', ?_⟩
    rw [rowAt_old e]
    exact World.ownsRow.kept ho hg (own_types ho h1 (by decide))
  · have e2 : j = T.length := by simp at hj; omega
    subst e2
    refine ⟨u, by rw [← hvl]; simp, ?_⟩
    rw [rowAt_new]
    exact World.ownsRow.kept hu hg (own_types hu h1 (by decide))
theorem ownsRow_other {w w' : World} {B : Nat} {e e2 : TypeId} {s : Nat} {v : Value} {n : Nat} {xs : List Value} {G : Nat} {c : Array Value} {fr : Nat × Nat} (h : w.ownsRow B e s v n xs) (hG : w.heap[G]? = some (.cells c e2 fr)) (ne : e ≠ e2) (hk : ∀ k, k ≠ G → w'.heap[k]? = w.heap[k]?) : w'.ownsRow B e s v n xs := by
  obtain ⟨h1, h⟩ := h
  refine ⟨h1, ?_⟩
  rcases h with h | ⟨g, cap, cur, e1, e2, hg, e3, e4, e5, e6⟩
  · exact .inl h
  · refine .inr ⟨g, cap, cur, e1, e2, (hk g fun eg => ?_).trans hg, e3, e4, e5, e6⟩
    rw [eg, hG] at hg
    injection hg with hg
    injection hg with _ hg
    exact ne hg.symm
theorem RowsAt.other {B : Nat} {w w' : World} {v : Value} {T : List (List Int)} {e2 : TypeId} {G : Nat} {c : Array Value} {fr : Nat × Nat} (h : RowsAt B w v T) (hG : w.heap[G]? = some (.cells c e2 fr)) (n1 : 23 ≠ e2) (n2 : 3 ≠ e2) (hk : ∀ k, k ≠ G → w'.heap[k]? = w.heap[k]?) : RowsAt B w' v T := by
  obtain ⟨vs, h1, h2⟩ := h
  exact ⟨vs, ownsRow_other h1 hG n1 hk, fun j hj => by obtain ⟨u, hu, ho⟩ := h2 j hj; exact ⟨u, hu, ownsRow_other ho hG n2 hk⟩⟩
theorem grown_keep {w w' : World} {B : Nat} {e e2 : TypeId} {s : Nat} {v : Value} {n : Nat} {xs : List Value} {G : Nat} {c : Array Value} {fr : Nat × Nat} (hg : w.grownBy w' v.ownBlock) (h : w.ownsRow B e s v n xs) (hG : w.heap[G]? = some (.cells c e2 fr)) (ne : e ≠ e2) : w'.heap[G]? = some (.cells c e2 fr) := by
  refine (hg.block G (lt_of_block hG) fun eq => ?_).trans hG
  rcases h.2 with ⟨rfl, _⟩ | ⟨g, cap, cur, rfl, _, hgg, _⟩
  · simp [Value.ownBlock] at eq
  · simp only [Value.ownBlock, Option.some.injEq] at eq
    rw [← eq, hG] at hgg
    injection hgg with hgg
    injection hgg with _ hgg
    exact ne hgg.symm
/-- the first rows of a table -/
def tabK (p : Int → Int → Int) (n k : Int) : List (List Int) := (List.range k.toNat).map fun (i : Nat) => lstTo (p i) n
theorem tabK_succ (p : Int → Int → Int) (n k : Int) (h : 0 ≤ k) : tabK p n (k + 1) = tabK p n k ++ [lstTo (p k) n] := by
  unfold tabK
  rw [show (k + 1).toNat = k.toNat + 1 by omega, List.range_succ, List.map_append]
  simp [Int.toNat_of_nonneg h]
theorem tabK_len (p : Int → Int → Int) (n k : Int) : (tabK p n k).length = k.toNat := by simp [tabK]
theorem tabK_all (p : Int → Int → Int) (n : Int) : tabK p n n = tabL p n := rfl
end Go.Proofs.YtpophjloedpcfaaGreatDoor

namespace Go.Proofs.YtpophjloedpcfaaGreatDoor
open Go.RowKit

/-- an algebra that can be read is handed back -/
def RetRd (L : List Int) (T : List (List Int)) (w : World) (e : Ending) (w' : World) : Prop :=
  ∃ a ca b cb, e = .returned (.agg #[.slice a L.length ca, .slice b T.length cb]) ∧ Own w.heap.size w' (.slice a L.length ca) L ∧ RowsAt w.heap.size w' (.slice b T.length cb) T ∧ Below w.heap.size w w'
theorem ownsRow_from {w : World} {B B' : Nat} {e : TypeId} {s : Nat} {v : Value} {n : Nat} {xs : List Value} (h : w.ownsRow B e s v n xs) (hB : B' ≤ B) : w.ownsRow B' e s v n xs := by
  obtain ⟨h1, h⟩ := h
  refine ⟨h1, ?_⟩
  rcases h with h | ⟨g, cap, cur, e1, e2, e⟩
  · exact .inl h
  · exact .inr ⟨g, cap, cur, e1, by omega, e⟩
theorem RowsAt.from {B B' : Nat} {w : World} {v : Value} {T : List (List Int)} (h : RowsAt B w v T) (hB : B' ≤ B) : RowsAt B' w v T := by
  obtain ⟨vs, h1, h2⟩ := h
  exact ⟨vs, ownsRow_from h1 hB, fun j hj => by obtain ⟨u, hu, ho⟩ := h2 j hj; exact ⟨u, hu, ho.from hB⟩⟩

set_option maxRecDepth 100000 in
set_option maxHeartbeats 2000000 in
/-- spec.sumChain -/
theorem specSum_any (n : Int) (w : World) (n1 : 1 ≤ n) (n6 : n ≤ 6) : Calls Tryz.prog 83 #[.int .i64 n] w (RetRd (chainTo n n) (tabL (sumP n) n) w) := by
  obtain ⟨i0, hi, hz0, hz1, hz2⟩ := info_parts info_int
  obtain ⟨i1, hi1, hy0, hy1, hy2⟩ := info_parts info_ints
  obtain ⟨w1, hw1⟩ : ∃ w1, w1 = w.alloc (.cells #[.slice none 0 0, .slice none 0 0] 26) := ⟨_, rfl⟩
  have hB : Below w.heap.size w w1 := by rw [hw1]; exact (Below.refl _ _).alloc (Nat.le_refl _) _
  have hz : w1.heap[w.heap.size]? = some (.cells #[.slice none 0 0, .slice none 0 0] 26 (0, 0)) := by rw [hw1]; exact heap_alloc_new w _
  have Kz := Lib.hid (show ∀ wz, Below w1.heap.size w1 wz → wz.heap[w.heap.size]? = some (.cells #[.slice none 0 0, .slice none 0 0] 26 (0, 0)) from fun wz h => (h.block _ (lt_of_block hz)).trans hz)
  have hsz := lt_of_block hz
  clear hz
  go_enter Tryz.func83, Tryz.ntmps83
  go_wp2_with (first
    | (rw [← hw1]; clear hw1)
    | (go_at_call 80; refine (chain_any n _ (by omega) (by omega)).mono ?_; intro e w2 hret; obtain ⟨ua, uc, rfl, hu2, hb2⟩ := hret.sl)
    | (refine wpList_store_row rfl 26 _ _ rfl w2.heap.size #[.slice ua (chainTo n n).length uc, .slice none 0 0] rfl rfl _ _ (heap_alloc_new w2 (.cells #[.slice none 0 0, .slice none 0 0] 26)) (size_Alg _ _) rfl (one_sl2 _ _ _ _ _ _) ?_; rw [World.setRow_alloc_new]; obtain ⟨g, hg⟩ : ∃ g, g = w2.heap.size := ⟨_, rfl⟩; obtain ⟨w3, hw3⟩ : ∃ w3, w3 = w2.alloc (.cells #[.slice ua (chainTo n n).length uc, .slice none 0 0] 26) := ⟨_, rfl⟩; rw [← hw3, ← hg]; have hx3 : w3.heap[g]? = some (.cells #[.slice ua (chainTo n n).length uc, .slice none 0 0] 26 (0, 0)) := (by rw [hw3, hg]; exact heap_alloc_new w2 _); have q3 : Below w2.heap.size w2 w3 := (by rw [hw3]; exact (Below.refl _ _).alloc (Nat.le_refl _) _); have hu3 := hu2.below q3; have z3 : Below w1.heap.size w1 w3 := hb2.trans (q3.mono hb2.size); have hgl : w1.heap.size ≤ g := (by rw [hg]; exact hb2.size); clear hw3 hg q3 hu2 hb2))
  clear hret
  go_loopw [4, 5, 6] (fun xv _ _ wr => ∃ x : Int, 0 ≤ x ∧ x ≤ n ∧ xv = .int .i64 x ∧ (∃ v, wr.heap[g]? = some (.cells #[.slice ua (chainTo n n).length uc, v] 26 (0, 0)) ∧ RowsAt w1.heap.size wr v (tabK (sumP n) n x)) ∧ Own w1.heap.size wr (.slice ua (chainTo n n).length uc) (chainTo n n) ∧ Below w1.heap.size w1 wr) (fun xv _ _ _ => (6 - intOf xv).toNat)
  case atStart => exact ⟨0, by omega, by omega, rfl, ⟨_, hx3, RowsAt.nothing _ _⟩, hu3, z3⟩
  case round =>
    obtain ⟨x, x0, x1, rfl, ⟨v, hxg, hrows⟩, hup, hbel⟩ := hrel
    obtain ⟨tb, tc, rfl, _⟩ := hrows.rd
    by_cases hx : x < n
    · obtain ⟨wo, rfl⟩ : ∃ wo : World, wo = wr := ⟨_, rfl⟩
      have hlo := hbel.size
      go_wp2
      go_loopw [5, 6] (fun rv yv wr => ∃ y : Int, 0 ≤ y ∧ y ≤ n ∧ yv = .int .i64 y ∧ Own wo.heap.size wr rv (lstTo (sumP n x) y) ∧ Below wo.heap.size wo wr) (fun _ yv _ => (6 - intOf yv).toNat)
      case atStart => exact ⟨0, by omega, by omega, rfl, Own.row (L := []) (heap_alloc_new wo _) (Nat.le_refl _) (Nat.zero_le _), (Below.refl _ _).alloc (Nat.le_refl _) _⟩
      case round =>
        obtain ⟨y, y0, y1, rfl, hown, hbi⟩ := hrel
        by_cases hy : y < n
        · have h1 : IntKind.i64.wrap (x + y) = x + y := IntWalk.i64_in _ (by omega)
          have h2 : IntKind.i64.wrap (x + y - n) = x + y - n := IntWalk.i64_in _ (by omega)
          have h3 : IntKind.i64.wrap (x + y - n + 1) = x + y - n + 1 := IntWalk.i64_in _ (by omega)
          have hlen := lstTo_len (sumP n x) y y0
          have hsucc := Lib.hid (lstTo_succ (sumP n x) y y0)
          by_cases hs : x + y - n + 1 < 0
          · have hv := Lib.hid (show sumP n x y = 0 by unfold sumP; rw [if_pos (by omega)])
            go_wp2_with (at_builtin; refine wpList_append_own _ rfl _ _ 23 rfl wo.heap.size 3 i0 (.int .i64 0) 1 8 Tryz.underlying23 hi hz0 hz1 hz2 rfl (by decide) _ _ _ rfl (World.ownsRow.alloc hown _) ⟨wr.heap.size, 0, none⟩ 1 1 [.int .i64 0] rfl rfl (cell_one_new _ _ _) (fun x hx => by simp at hx; subst hx; rfl) (by unfold maxLen; omega) (by omega) (by have := hbi.size; simp; omega) ?_; intro v' w5 hown1 hgrow _)
            exact ⟨⟨y + 1, by omega, by omega, rfl, by unfold Own; rw [hsucc.out, hv.out, List.map_append, List.length_append]; exact hown1, (hbi.alloc hbi.size _).grown hgrow (by have := hbi.size; simp; omega) (fun q hq => (World.ownsRow.lt hown q hq).1)⟩, by simp [intOf]; omega⟩
          · have hv := Lib.hid (show sumP n x y = x + y - n + 1 by unfold sumP; rw [if_neg (by omega)]; omega)
            go_wp2_with (at_builtin; refine wpList_append_own _ rfl _ _ 23 rfl wo.heap.size 3 i0 (.int .i64 0) 1 8 Tryz.underlying23 hi hz0 hz1 hz2 rfl (by decide) _ _ _ rfl (World.ownsRow.alloc hown _) ⟨wr.heap.size, 0, none⟩ 1 1 [.int .i64 (x + y - n + 1)] rfl rfl (cell_one_new _ _ _) (fun x hx => by simp at hx; subst hx; rfl) (by unfold maxLen; omega) (by omega) (by have := hbi.size; simp; omega) ?_; intro v' w5 hown1 hgrow _)
            exact ⟨⟨y + 1, by omega, by omega, rfl, by unfold Own; rw [hsucc.out, hv.out, List.map_append, List.length_append]; exact hown1, (hbi.alloc hbi.size _).grown hgrow (by have := hbi.size; simp; omega) (fun q hq => (World.ownsRow.lt hown q hq).1)⟩, by simp [intOf]; omega⟩
        · have e : y = n := by omega
          rw [e] at hown
          obtain ⟨ra, rc, rfl, _⟩ := hown.slice
          have hg1 := (hbi.block g (lt_of_block hxg)).trans hxg
          obtain ⟨d0, d1⟩ := bx_cells hg1
          obtain ⟨vs, h1v, h2v⟩ := hrows.below hbi
          obtain ⟨o4, ho4⟩ : ∃ o4, o4 = Obj.cells #[.slice ra (lstTo (sumP n x) n).length rc] 23 := ⟨_, rfl⟩
          have h1a := World.ownsRow.alloc h1v o4
          have h2a := Lib.hid (show ∀ j : Nat, j < (tabK (sumP n) n x).length → ∃ u, vs[j]? = some u ∧ Own w1.heap.size (wr.alloc o4) u (rowAt (tabK (sumP n) n x) j) from fun j hj => by obtain ⟨u, hu, ho⟩ := h2v j hj; exact ⟨u, hu, ho.alloc _⟩)
          have hra := (hown.from hlo).alloc o4
          have hupa := (hup.below hbi).alloc o4
          have hga := (heap_alloc_old wr o4 (lt_of_block hg1)).trans hg1
          have hsz2 := hbi.size
          have hbb : Below w1.heap.size w1 (wr.alloc o4) := (hbel.trans (hbi.mono hlo)).alloc (by omega) _
          have tl := Lib.hid (tabK_len (sumP n) n x)
          rw [ho4] at h1a hra hupa hga hbb
          rw [ho4] at h2a
          clear h2v hup hrows ho4
          go_wp2_with (first
            | (at_builtin; refine wpList_append_own _ rfl _ _ 24 rfl w1.heap.size 23 i1 (.slice none 0 0) 1 24 Tryz.underlying24 hi1 hy0 hy1 hy2 rfl (by decide) _ _ _ rfl h1a ⟨wr.heap.size, 0, none⟩ 1 1 [.slice ra (lstTo (sumP n x) n).length rc] rfl rfl (cell_one_new _ _ _) (fun x hx => by simp at hx; subst hx; rfl) (by have := tl.out; unfold maxLen; omega) (by have := tl.out; omega) (by simp; omega) ?_; intro v' w5 hown1 hgrow _; have hg5 := grown_keep hgrow h1a hga (by decide); have hr5 := RowsAt.push h1a h2a.out hra hown1 hgrow; obtain ⟨e0, e1⟩ := bx_cells hg5; have ff := frozen_of_row w5 _ 1 _ _ hg5; obtain ⟨nb, nc, rfl, _⟩ := hr5.rd))
          have hup5 := World.ownsRow.kept hupa hgrow (own_types hupa h1a (by decide))
          have hb5 : Below w1.heap.size w1 w5 := hbb.grown hgrow (by simp; omega) (fun q hq => (World.ownsRow.lt h1a q hq).1)
          rw [show (tabK (sumP n) n x ++ [lstTo (sumP n x) n]).length = (tabK (sumP n) n x).length + 1 by simp, ← tabK_succ (sumP n) n x x0] at hr5
          have ho : ∀ k, k ≠ g → (w5.setCell ⟨g, 1, none⟩ (.slice nb ((tabK (sumP n) n x).length + 1) nc)).heap[k]? = w5.heap[k]? := fun k hk => heap_setCell_other w5 _ k _ hk
          refine ⟨⟨x + 1, by omega, by omega, rfl, ⟨.slice nb ((tabK (sumP n) n x).length + 1) nc, ?_, RowsAt.other hr5 hg5 (by decide) (by decide) ho⟩, ownsRow_other hup5 hg5 (by decide) ho, hb5.setCell (by simp; omega) _⟩, by simp [intOf]; omega⟩
          rw [setCell_eq_setRow w5 _ _ _ _ _ _ hg5, setRow_heap w5 _ _ _ _ _ hg5]
          rfl
    · have e : x = n := by omega
      rw [e] at hrows hxg
      have hz := Kz.out _ hbel
      go_wp2_with (first
        | (refine wpList_load_row_w rfl 26 _ rfl g rfl _ _ _ _ hxg Tryz.underlying26 rfl (size_Alg _ _) ?_)
        | (refine wpList_store_row rfl 26 _ _ rfl w.heap.size #[.slice ua (chainTo n n).length uc, .slice tb (tabK (sumP n) n n).length tc] rfl rfl _ _ hz (size_Alg _ _) rfl (one_sl2 _ _ _ _ _ _) ?_))
      refine bodyPost_ret (results_cell_row rfl _ _ w.heap.size _ _ _ _ rfl (setRow_heap _ _ _ _ _ _ hz) Tryz.underlying26 rfl (size_Alg _ _)) rfl ?_
      have hr6 := RowsAt.other hrows hz (by decide) (by decide) (fun k hk => setRow_other wr w.heap.size k #[.slice ua (chainTo n n).length uc, .slice tb (tabK (sumP n) n n).length tc] hk)
      have hu6 := ownsRow_other hup hz (by decide) (fun k hk => setRow_other wr w.heap.size k #[.slice ua (chainTo n n).length uc, .slice tb (tabK (sumP n) n n).length tc] hk)
      exact ⟨ua, uc, tb, tc, rfl, ownsRow_from hu6 hB.size, RowsAt.from hr6 hB.size, below_setRow' (hB.trans (hbel.mono hB.size)) (Nat.le_refl _) _⟩

/-- such an algebra and true -/
def RetRdY (L : List Int) (T : List (List Int)) (w : World) (e : Ending) (w' : World) : Prop :=
  ∃ a ca b cb, e = .returned (.tuple #[.agg #[.slice a L.length ca, .slice b T.length cb], .bool true]) ∧ Own w.heap.size w' (.slice a L.length ca) L ∧ RowsAt w.heap.size w' (.slice b T.length cb) T ∧ Below w.heap.size w w'
end Go.Proofs.YtpophjloedpcfaaGreatDoor

namespace Go.Proofs.YtpophjloedpcfaaGreatDoor
open Go.RowKit

/-- the lengths of the first rows -/
def cum (T : List (List Int)) : Nat → Int
  | 0 => 0
  | j + 1 => cum T j + (rowAt T j).length
theorem cum_le (T : List (List Int)) (hm : ∀ j : Nat, j < T.length → (rowAt T j).length ≤ 1048576) : ∀ j : Nat, j ≤ T.length → 0 ≤ cum T j ∧ cum T j ≤ j * 1048576
  | 0, _ => by simp [cum]
  | j + 1, h => by
    have h1 := cum_le T hm j (by omega)
    have h2 := hm j (by omega)
    simp only [cum]
    omega
set_option maxRecDepth 100000 in
set_option maxHeartbeats 1000000 in
/-- laws.markIntSS of a table of the call's own, mark by mark -/
theorem markIntSS_is (lo B : Nat) (R : Nat → Nat) (T : List (List Int)) (k : Int) (w : World) (hown : TabOwn w lo B R T T.length) (hi : Nat) (hR : ∀ j, j < T.length → R j < hi) (k0 : 0 ≤ k) (k1 : k ≤ 1125899906842624) (hn : T.length ≤ 1048576) (hm : ∀ j : Nat, j < T.length → (rowAt T j).length ≤ 1048576) :
    Calls Tryz.prog 58 #[.slice (some ⟨B, 0, none⟩) T.length T.length, .int .i64 k] w fun e w' => e = .returned (.int .i64 (k + cum T T.length)) ∧ (∀ i : Nat, i < T.length → Row w' (R i) (markL (k + cum T i) (rowAt T i).length)) ∧ Mid (B + 1) hi w w' := by
  have HC := Lib.hid (cum_le T hm)
  have HM := Lib.hid hm
  have HO := Lib.hid hown
  have HRR := Lib.hid hR
  clear hm hown hR
  go_enter Tryz.func58, Tryz.ntmps58
  go_wp2
  go_loopw [1, 5] (fun m i wr => ∃ j v : Int, 0 ≤ j ∧ j ≤ T.length ∧ i = .int .i64 j ∧ m = .int .i64 v ∧ v = k + cum T j.toNat ∧ (∀ i : Nat, i < j → Row wr (R i) (markL (k + cum T i) (rowAt T i).length)) ∧ (∀ i : Nat, j ≤ i → i < T.length → Row wr (R i) (rowAt T i)) ∧ Mid (B + 1) hi w wr) (fun _ i _ => ((T.length : Int) - intOf i).toNat)
  case atStart => exact ⟨0, k, by omega, by omega, rfl, rfl, by simp [cum], fun i hi => absurd hi (by omega), fun i _ hi => HO.out.row i hi, Mid.refl _ _ _⟩
  case round =>
    obtain ⟨j, v, j0, j1, rfl, rfl, hv, hmk, hrows, hg⟩ := hrel
    by_cases hj : j < T.length
    · have hrow := hrows j.toNat (by omega) (by omega)
      have hm2 := HM.out j.toNat (by omega)
      have hup := HO.out.up j.toNat (by omega)
      have hlt := HRR.out j.toNat (by omega)
      have hcu := HC.out j.toNat (by omega)
      have hcs := Lib.hid (show cum T (j.toNat + 1) = cum T j.toNat + (rowAt T j.toNat).length from rfl)
      rw [Int.toNat_of_nonneg j0] at hrow hm2 hcs
      have c0 : wr.cell? ⟨B, j.toNat, none⟩ = some (.slice (some ⟨R j.toNat, 0, none⟩) (rowAt T j).length (rowAt T j).length) := by
        have ht := (hg.block B HO.out.lt (.inl (by omega))).trans HO.out.top
        rw [cell_of_row wr B _ _ _ _ ht, slTo_get _ _ _ _ (by omega), if_pos (by omega), Int.toNat_of_nonneg j0]
      have HR := Lib.hid hrows
      have HK := Lib.hid hmk
      have HV := Lib.hid hv
      have v0 : 0 ≤ v := by omega
      have v1 : v ≤ 4611686018427387904 - 1048576 := by omega
      clear hrows hmk hv hcu
      go_wp2_with fail
      refine (markRow_any _ _ v wr hrow (by omega) (by omega) (by omega)).mono ?_
      rintro e w5 ⟨rfl, hr5, hm5⟩
      go_wp2
      go_roundw
      case rel =>
        refine ⟨j + 1, v + (rowAt T j).length, by omega, by omega, rfl, rfl, ?_, fun i hi => ?_, fun i hi hi2 => ?_, hg.trans (hm5.wide (by omega) (by omega))⟩
        · rw [show (j + 1).toNat = j.toNat + 1 by omega, hcs.out, HV.out]; omega
        · by_cases e : (i : Int) = j
          · have ei : i = j.toNat := by omega
            have := HV.out
            rw [← ei] at this hr5
            rw [e, ← this]; exact hr5
          · refine (HK.out i (by omega)).mid hm5 (.inl ?_)
            exact HO.out.inc i j.toNat (by omega) (by omega)
        · refine (HR.out i (by omega) hi2).mid hm5 (.inr ?_)
          have := HO.out.inc j.toNat i (by omega) hi2
          omega
      case measure => simp [intOf]; omega
    · have e : j.toNat = T.length := by omega
      rw [e] at hv
      have HV := Lib.hid hv
      have HK := Lib.hid hmk
      clear hv hmk hrows
      go_wp2
      go_ret
      exact ⟨by rw [← HV.out]; rfl, fun i hi => HK.out i (by omega), hg⟩
/-- an algebra of the call's own, marked -/
structure Marked (w : World) (bu B : Nat) (R : Nat → Nat) (L : List Int) (T : List (List Int)) (k : Int) : Prop where
  row : Row w bu (markL k L.length)
  top : w.heap[B]? = some (.cells (slTo R T T.length) 23 (0, 0))
  rows : ∀ i : Nat, i < T.length → Row w (R i) (markL (k + L.length + cum T i) (rowAt T i).length)
theorem Marked.below {w w' : World} {bu B : Nat} {R : Nat → Nat} {L : List Int} {T : List (List Int)} {k : Int} (h : Marked w bu B R L T k) (hb : Below w.heap.size w w') : Marked w' bu B R L T k :=
  ⟨h.row.below hb h.row.lt, (hb.block _ (lt_of_block h.top)).trans h.top, fun i hi => (h.rows i hi).below hb (h.rows i hi).lt⟩
set_option maxRecDepth 100000 in
set_option maxHeartbeats 1000000 in
/-- laws.markAlgebra of an algebra of the call's own, mark by mark -/
theorem markAlgebra_is (bu lo B : Nat) (R : Nat → Nat) (L : List Int) (T : List (List Int)) (k : Int) (w : World) (hrow : Row w bu L) (hb : bu < B) (hown : TabOwn w lo B R T T.length) (hi : Nat) (hR : ∀ j, j < T.length → R j < hi) (hbi : bu < hi) (k0 : 0 ≤ k) (k1 : k ≤ 1125899905794048) (hL : L.length ≤ 1048576) (hn : T.length ≤ 1048576) (hm : ∀ j : Nat, j < T.length → (rowAt T j).length ≤ 1048576) :
    Calls Tryz.prog 21 #[.agg #[.slice (some ⟨bu, 0, none⟩) L.length L.length, .slice (some ⟨B, 0, none⟩) T.length T.length], .int .i64 k] w fun e w' => e = .returned (.int .i64 (k + L.length + cum T T.length)) ∧ Marked w' bu B R L T k ∧ Mid bu hi w w' := by
  obtain ⟨w1, hw1⟩ : ∃ w1, w1 = w.alloc (.cells #[.slice (some ⟨bu, 0, none⟩) L.length L.length, .slice (some ⟨B, 0, none⟩) T.length T.length] 26) := ⟨_, rfl⟩
  have hB : Below w.heap.size w w1 := by rw [hw1]; exact (Below.refl _ _).alloc (Nat.le_refl _) _
  have hx : w1.heap[w.heap.size]? = some (.cells #[.slice (some ⟨bu, 0, none⟩) L.length L.length, .slice (some ⟨B, 0, none⟩) T.length T.length] 26 (0, 0)) := by rw [hw1]; exact heap_alloc_new w _
  obtain ⟨c0, c1⟩ := bx_cells hx
  have row1 := hrow.below hB hrow.lt
  have own1 := hown.below hB
  have hlt := hrow.lt
  have hltB := hown.lt
  have HM := Lib.hid hm
  clear hm hrow hown
  go_enter Tryz.func21, Tryz.ntmps21
  go_wp2_with (rw [← hw1]; clear hw1)
  refine (markRow_any bu L k w1 row1 k0 (by omega) (by omega)).mono ?_
  rintro e w2 ⟨rfl, row2, m2⟩
  have hx2 := (m2.block _ (lt_of_block hx) (.inr (by omega))).trans hx
  have own2 : TabOwn w2 lo B R T T.length := ⟨(m2.block _ own1.lt (.inr (by omega))).trans own1.top, own1.lo, fun j hj => (own1.row j hj).mid m2 (.inr (by have := own1.up j hj; omega)), own1.up, own1.inc⟩
  obtain ⟨d0, d1⟩ := bx_cells hx2
  go_wp2_with fail
  refine (markIntSS_is lo B R T _ w2 own2 hi hR (by omega) (by omega) hn HM.out).mono ?_
  rintro e w3 ⟨rfl, rows3, m3⟩
  have R3 := Lib.hid rows3
  clear rows3
  go_wp2
  go_ret
  have hs2 := m2.size
  have hs1 := hB.size
  have hs3 := m3.size
  refine ⟨rfl, ⟨row2.mid m3 (.inl (by omega)), (m3.block B own2.lt (.inl (by omega))).trans own2.top, R3.out⟩, m3.os.trans (m2.os.trans hB.os), m3.tape.trans (m2.tape.trans hB.tape), m3.output.trans (m2.output.trans hB.output), by omega, fun i hi2 hne => ?_⟩
  exact (m3.block i (by omega) (by omega)).trans ((m2.block i (by omega) (by omega)).trans (hB.block i hi2))
end Go.Proofs.YtpophjloedpcfaaGreatDoor

namespace Go.Proofs.YtpophjloedpcfaaGreatDoor
open Go.RowKit

set_option maxRecDepth 100000 in
set_option maxHeartbeats 1000000 in
/-- laws.heldIntSS of a marked table -/
theorem heldIntSS_is (B : Nat) (R : Nat → Nat) (T : List (List Int)) (k : Int) (w : World) (htop : w.heap[B]? = some (.cells (slTo R T T.length) 23 (0, 0))) (hrows : ∀ i : Nat, i < T.length → Row w (R i) (markL (k + cum T i) (rowAt T i).length)) (k0 : 0 ≤ k) (k1 : k ≤ 1048576) (hn : T.length ≤ 16) (hm : ∀ j : Nat, j < T.length → (rowAt T j).length ≤ 16) :
    Calls Tryz.prog 60 #[.slice (some ⟨B, 0, none⟩) T.length T.length, .int .i64 k] w fun e w' => e = .returned (.int .i64 (k + cum T T.length)) ∧ w = w' := by
  have HC := Lib.hid (cum_le T (fun j hj => by have := hm j hj; omega))
  have HM := Lib.hid hm
  have HT := Lib.hid htop
  have HR := Lib.hid hrows
  clear hm htop hrows
  go_enter Tryz.func60, Tryz.ntmps60
  go_wp2
  go_loopw [1, 5] (fun m i wr => ∃ j v : Int, 0 ≤ j ∧ j ≤ T.length ∧ i = .int .i64 j ∧ m = .int .i64 v ∧ v = k + cum T j.toNat ∧ w = wr) (fun _ i _ => ((T.length : Int) - intOf i).toNat)
  case atStart => exact ⟨0, k, by omega, by omega, rfl, rfl, by simp [cum], rfl⟩
  case round =>
    obtain ⟨j, v, j0, j1, rfl, rfl, hv, rfl⟩ := hrel
    by_cases hj : j < T.length
    · have hrow := HR.out j.toNat (by omega)
      have hm2 := HM.out j.toNat (by omega)
      have hcu := HC.out j.toNat (by omega)
      have hcs := Lib.hid (show cum T (j.toNat + 1) = cum T j.toNat + (rowAt T j.toNat).length from rfl)
      have c0 : w.cell? ⟨B, j.toNat, none⟩ = some (.slice (some ⟨R j.toNat, 0, none⟩) (rowAt T j).length (rowAt T j).length) := by
        rw [cell_of_row w B _ _ _ _ HT.out, slTo_get _ _ _ _ (by omega), if_pos (by omega), Int.toNat_of_nonneg j0]
      rw [← hv] at hrow
      rw [Int.toNat_of_nonneg j0] at hrow hm2 hcs
      have HV := Lib.hid hv
      have v0 : 0 ≤ v := by omega
      have v1 : v ≤ 1073741824 := by omega
      have hlt : ¬ v + ((rowAt T j).length : Int) < 0 := by omega
      have HW := Lib.hid hrow
      clear hv hcu hrow
      go_wp2_with fail
      refine (heldIntS_any _ _ _ _ _ HW.out.rd v0 v1 (by omega)).mono ?_
      rintro e w5 ⟨rfl, rfl⟩
      go_wp2
      go_roundw
      case rel => exact ⟨j + 1, v + (rowAt T j).length, by omega, by omega, rfl, rfl, by rw [show (j + 1).toNat = j.toNat + 1 by omega, hcs.out, HV.out]; omega, trivial⟩
      case measure => simp [intOf]; omega
    · have e : j.toNat = T.length := by omega
      rw [e] at hv
      have HV := Lib.hid hv
      clear hv
      go_wp2
      go_ret
      exact ⟨by rw [← HV.out]; rfl, rfl⟩
set_option maxRecDepth 100000 in
set_option maxHeartbeats 1000000 in
/-- laws.heldAlgebra of a marked algebra -/
theorem heldAlgebra_is (bu B : Nat) (R : Nat → Nat) (L : List Int) (T : List (List Int)) (k : Int) (w : World) (hK : Marked w bu B R L T k) (k0 : 0 ≤ k) (k1 : k ≤ 1024) (hL : L.length ≤ 1024) (hn : T.length ≤ 16) (hm : ∀ j : Nat, j < T.length → (rowAt T j).length ≤ 16) :
    Calls Tryz.prog 22 #[.agg #[.slice (some ⟨bu, 0, none⟩) L.length L.length, .slice (some ⟨B, 0, none⟩) T.length T.length], .int .i64 k] w fun e w' => e = .returned (.int .i64 (k + L.length + cum T T.length)) ∧ Below w.heap.size w w' := by
  obtain ⟨w1, hw1⟩ : ∃ w1, w1 = w.alloc (.cells #[.slice (some ⟨bu, 0, none⟩) L.length L.length, .slice (some ⟨B, 0, none⟩) T.length T.length] 26) := ⟨_, rfl⟩
  have hB : Below w.heap.size w w1 := by rw [hw1]; exact (Below.refl _ _).alloc (Nat.le_refl _) _
  have hx : w1.heap[w.heap.size]? = some (.cells #[.slice (some ⟨bu, 0, none⟩) L.length L.length, .slice (some ⟨B, 0, none⟩) T.length T.length] 26 (0, 0)) := by rw [hw1]; exact heap_alloc_new w _
  obtain ⟨c0, c1⟩ := bx_cells hx
  have K1 := Lib.hid (hK.below hB)
  have HM := Lib.hid hm
  have hcu := (cum_le T (fun j hj => by have := hm j hj; omega) T.length (Nat.le_refl _)).1
  have h1 : ¬ k + (L.length : Int) < 0 := by omega
  have h2 : ¬ k + (L.length : Int) + cum T T.length < 0 := by omega
  clear hm hK hx
  go_enter Tryz.func22, Tryz.ntmps22
  go_wp2_with (rw [← hw1]; clear hw1)
  refine (heldIntS_any _ _ _ _ _ K1.out.row.rd k0 (by omega) (by omega)).mono ?_
  rintro e w2 ⟨rfl, rfl⟩
  go_wp2_with fail
  refine (heldIntSS_is B R T _ _ K1.out.top K1.out.rows (by omega) (by omega) hn HM.out).mono ?_
  rintro e w3 ⟨rfl, rfl⟩
  go_wp2
  go_ret
  exact ⟨rfl, hB⟩
end Go.Proofs.YtpophjloedpcfaaGreatDoor

namespace Go.Proofs.YtpophjloedpcfaaGreatDoor
open Go.RowKit

/-- the blocks from lo up to hi are as they were -/
def Keep (lo hi : Nat) (w w' : World) : Prop := ∀ k, lo ≤ k → k < hi → k < w.heap.size → w'.heap[k]? = w.heap[k]?
theorem Keep.below {lo hi : Nat} {w w' : World} (h : Below w.heap.size w w') : Keep lo hi w w' := fun k _ _ h3 => h.block k h3
theorem Keep.mid {lo hi a b : Nat} {w w' : World} (h : Mid a b w w') (hd : hi ≤ a ∨ b ≤ lo) : Keep lo hi w w' := fun k h1 h2 h3 => h.block k h3 (by omega)
theorem Row.keep {lo hi b : Nat} {L : List Int} {w w' : World} (h : Row w b L) (hk : Keep lo hi w w') (h1 : lo ≤ b) (h2 : b < hi) : Row w' b L := (hk b h1 h2 h.lt).trans h
/-- an algebra that can be read -/
def RA (w : World) (s t : Value) (L : List Int) (T : List (List Int)) : Prop :=
  ∃ a ca b cb, s = .slice a L.length ca ∧ t = .slice b T.length cb ∧ Rd w a L ∧ RdT w b T
theorem RA.below {w w' : World} {s t : Value} {L : List Int} {T : List (List Int)} (h : RA w s t L T) (hb : Below w.heap.size w w') : RA w' s t L T := by
  obtain ⟨a, ca, b, cb, h1, h2, h3, h4⟩ := h
  exact ⟨a, ca, b, cb, h1, h2, h3.below hb, h4.below hb⟩
/-- a list that can be read -/
def RS (w : World) (s : Value) (L : List Int) : Prop := ∃ a c, s = .slice a L.length c ∧ Rd w a L
/-- a list of a block of its own -/
def GS (lo hi : Nat) (w : World) (s : Value) (L : List Int) : Prop := (∃ a c, s = .slice a L.length c) ∧ Own lo w s L ∧ ∀ q, s.ownBlock = some q → q < hi
def MS (w : World) (s : Value) (L : List Int) (k : Int) : Prop := ∃ a c, s = .slice a L.length c ∧ Rd w a (markL k L.length)
section
variable {lo hi : Nat} {w w' : World} {s : Value} {L : List Int}
theorem RS.below (h : RS w s L) (hb : Below w.heap.size w w') : RS w' s L := by
  obtain ⟨a, c, h1, h2⟩ := h
  exact ⟨a, c, h1, h2.below hb⟩
theorem GS.keep (h : GS lo hi w s L) (hk : Keep lo hi w w') : GS lo hi w' s L := by
  obtain ⟨h0, ⟨h1, h⟩, h2⟩ := h
  refine ⟨h0, ⟨h1, ?_⟩, h2⟩
  rcases h with h | ⟨g, cap, cur, e1, e2, hg, e3, e4, e5, e6⟩
  · exact .inl h
  · exact .inr ⟨g, cap, cur, e1, e2, (hk g e2 (h2 g (by rw [e1]; rfl)) (lt_of_block hg)).trans hg, e3, e4, e5, e6⟩
theorem GS.below (h : GS lo hi w s L) (hb : Below w.heap.size w w') : GS lo hi w' s L := h.keep (Keep.below hb)
theorem GS.mid (h : GS lo hi w s L) {a b : Nat} (hm : Mid a b w w') (hd : hi ≤ a ∨ b ≤ lo) : GS lo hi w' s L := h.keep (Keep.mid hm hd)
theorem GS.rd (h : GS lo hi w s L) : RS w s L := by
  obtain ⟨⟨a, c, rfl⟩, h1, _⟩ := h
  exact ⟨a, c, rfl, h1.rd⟩
theorem GS.of {a : Option Addr} {c : Nat} (h : Own lo w (.slice a L.length c) L) : GS lo w.heap.size w (.slice a L.length c) L := ⟨⟨a, c, rfl⟩, h, fun q hq => (World.ownsRow.lt h q hq).2⟩
theorem GS.row {b : Nat} (h : Row w b L) (h1 : lo ≤ b) (h2 : b < hi) (hm : L.length ≤ maxLen) : GS lo hi w (.slice (some ⟨b, 0, none⟩) L.length L.length) L :=
  ⟨⟨_, _, rfl⟩, Own.row h h1 hm, fun q hq => by simp only [Value.ownBlock, Option.some.injEq] at hq; omega⟩
theorem GS.wide {lo2 hi2 : Nat} (h : GS lo hi w s L) (h1 : lo2 ≤ lo) (h2 : hi ≤ hi2) : GS lo2 hi2 w s L := ⟨h.1, h.2.1.from h1, fun q hq => Nat.lt_of_lt_of_le (h.2.2 q hq) h2⟩
theorem GS.zero (lo hi : Nat) (w : World) : GS lo hi w (.slice none 0 0) [] := ⟨⟨none, 0, rfl⟩, Own.nothing _ _, fun q hq => by simp [Value.ownBlock] at hq⟩
theorem MS.keep {k : Int} (h : MS w s L k) (hk : ∀ g, s.ownBlock = some g → w'.heap[g]? = w.heap[g]?) : MS w' s L k := by
  obtain ⟨a, c, h1, h2⟩ := h
  refine ⟨a, c, h1, fun hne => ?_⟩
  obtain ⟨b, off, e, hc⟩ := h2 hne
  subst e h1
  refine ⟨b, off, rfl, fun j hj => ?_⟩
  rw [World.cell?_of_block (w := w) (hk b rfl)]
  exact hc j hj
theorem MS.below {k : Int} (h : MS w s L k) (hb : Below w.heap.size w w') : MS w' s L k := by
  obtain ⟨a, c, h1, h2⟩ := h
  exact ⟨a, c, h1, h2.below hb⟩
end
/-- a table of blocks of its own -/
def GT (lo hi : Nat) (w : World) (t : Value) (T : List (List Int)) : Prop :=
  (t = .slice none 0 0 ∧ T = []) ∨
  ∃ B R, t = .slice (some ⟨B, 0, none⟩) T.length T.length ∧ B < hi ∧ (∀ j, j < T.length → R j < hi) ∧ TabOwn w lo B R T T.length
def MT (w : World) (t : Value) (T : List (List Int)) (k : Int) : Prop :=
  (t = .slice none 0 0 ∧ T = []) ∨
  ∃ B R, t = .slice (some ⟨B, 0, none⟩) T.length T.length ∧ w.heap[B]? = some (.cells (slTo R T T.length) 23 (0, 0)) ∧ ∀ i : Nat, i < T.length → Row w (R i) (markL (k + cum T i) (rowAt T i).length)
section
variable {lo hi : Nat} {w w' : World} {t : Value} {T : List (List Int)}
theorem GT.keep (h : GT lo hi w t T) (hk : Keep lo hi w w') : GT lo hi w' t T := by
  rcases h with h | ⟨B, R, h2, h5, h6, h8⟩
  · exact .inl h
  · have := h8.lo
    exact .inr ⟨B, R, h2, h5, h6, (hk B h8.lo h5 h8.lt).trans h8.top, h8.lo, fun j hj => (h8.row j hj).keep hk (by have := h8.up j hj; omega) (h6 j hj), h8.up, h8.inc⟩
theorem GT.below (h : GT lo hi w t T) (hb : Below w.heap.size w w') : GT lo hi w' t T := h.keep (Keep.below hb)
theorem GT.mid (h : GT lo hi w t T) {a b : Nat} (hm : Mid a b w w') (hd : hi ≤ a ∨ b ≤ lo) : GT lo hi w' t T := h.keep (Keep.mid hm hd)
theorem GT.of {B : Nat} {R : Nat → Nat} (h : TabOwn w lo B R T T.length) : GT lo w.heap.size w (.slice (some ⟨B, 0, none⟩) T.length T.length) T := .inr ⟨B, R, rfl, h.lt, fun j hj => (h.row j hj).lt, h⟩
theorem GT.rd (h : GT lo hi w t T) : ∃ b c, t = .slice b T.length c ∧ RdT w b T := by
  rcases h with ⟨rfl, rfl⟩ | ⟨B, R, h2, h5, h6, h8⟩
  · exact ⟨none, 0, rfl, fun h => absurd rfl h⟩
  · exact ⟨_, _, h2, h8.rd⟩
theorem MT.below {k : Int} (h : MT w t T k) (hb : Below w.heap.size w w') : MT w' t T k := by
  rcases h with h | ⟨B, R, h1, h2, h3⟩
  · exact .inl h
  · exact .inr ⟨B, R, h1, (hb.block _ (lt_of_block h2)).trans h2, fun i hi => (h3 i hi).below hb (h3 i hi).lt⟩
end
/-- an algebra of blocks of its own, or the zero value -/
def GA (lo hi : Nat) (w : World) (s t : Value) (L : List Int) (T : List (List Int)) : Prop :=
  ∃ l1 h1 l2 h2, lo ≤ l1 ∧ h1 ≤ hi ∧ lo ≤ l2 ∧ h2 ≤ hi ∧ (h1 ≤ l2 ∨ h2 ≤ l1) ∧ GS l1 h1 w s L ∧ GT l2 h2 w t T
/-- the same, marked -/
def MA (w : World) (s t : Value) (L : List Int) (T : List (List Int)) (k : Int) : Prop := MS w s L k ∧ MT w t T (k + L.length)
section
variable {lo hi : Nat} {w w' : World} {s t : Value} {L : List Int} {T : List (List Int)}
theorem GA.keep (h : GA lo hi w s t L T) (hk : Keep lo hi w w') : GA lo hi w' s t L T := by
  obtain ⟨l1, h1, l2, h2, e1, e2, e3, e4, e5, gs, gt⟩ := h
  exact ⟨l1, h1, l2, h2, e1, e2, e3, e4, e5, gs.keep fun k a b c => hk k (by omega) (by omega) c, gt.keep fun k a b c => hk k (by omega) (by omega) c⟩
theorem GA.below (h : GA lo hi w s t L T) (hb : Below w.heap.size w w') : GA lo hi w' s t L T := h.keep (Keep.below hb)
theorem GA.mid (h : GA lo hi w s t L T) {a b : Nat} (hm : Mid a b w w') (hd : hi ≤ a ∨ b ≤ lo) : GA lo hi w' s t L T := h.keep (Keep.mid hm hd)
theorem GA.rd (h : GA lo hi w s t L T) : RA w s t L T := by
  obtain ⟨l1, h1, l2, h2, e1, e2, e3, e4, e5, gs, gt⟩ := h
  obtain ⟨a, c, x1, x2⟩ := gs.rd
  obtain ⟨b, d, y1, y2⟩ := gt.rd
  exact ⟨a, c, b, d, x1, y1, x2, y2⟩
theorem GA.zero (lo hi : Nat) (h : lo ≤ hi) (w : World) : GA lo hi w (.slice none 0 0) (.slice none 0 0) [] [] := ⟨lo, lo, lo, hi, Nat.le_refl _, h, Nat.le_refl _, Nat.le_refl _, .inl (Nat.le_refl _), GS.zero _ _ _, .inl ⟨rfl, rfl⟩⟩
theorem RA.zero (w : World) : RA w (.slice none 0 0) (.slice none 0 0) [] [] := (GA.zero 0 0 (Nat.le_refl _) w).rd
theorem RA.shape (h : RA w s t L T) : ∃ a n c b m d, s = .slice a n c ∧ t = .slice b m d := by
  obtain ⟨a, ca, b, cb, h1, h2, _⟩ := h
  exact ⟨_, _, _, _, _, _, h1, h2⟩
theorem MA.below {k : Int} (h : MA w s t L T k) (hb : Below w.heap.size w w') : MA w' s t L T k := ⟨h.1.below hb, h.2.below hb⟩
end
theorem runs_extract {P : Program} {o : Oper} {a : Act} (x : Operand) (ix : Nat) (ho : o.op = .extract x ix) (vs : Array Value) (hx : a.eval x = .tuple vs) (v : Value) (hv : vs[ix]? = some v) (w : World) : (execOp a.eval o).run P w = .ok (.value v) w := by
  unfold execOp
  simp [ho, hx, Instr.extract, hv]
/-- an algebra that a model made, in blocks of its own -/
def OA (lo : Nat) (w : World) (s t : Value) (L : List Int) (T : List (List Int)) : Prop :=
  ∃ a ca b cb, s = .slice a L.length ca ∧ t = .slice b T.length cb ∧ Own lo w (.slice a L.length ca) L ∧ RowsAt lo w (.slice b T.length cb) T
section
variable {lo : Nat} {w w' : World} {s t : Value} {L : List Int} {T : List (List Int)}
theorem OA.ra (h : OA lo w s t L T) : RA w s t L T := by
  obtain ⟨a, ca, b, cb, e1, e2, h1, h2⟩ := h
  refine ⟨a, ca, b, cb, e1, e2, h1.rd, ?_⟩
  obtain ⟨b', c', e, h⟩ := h2.rd
  injection e with e3 _ _
  rw [e3]; exact h
theorem OA.below (h : OA lo w s t L T) (hb : Below w.heap.size w w') : OA lo w' s t L T := by
  obtain ⟨a, ca, b, cb, e1, e2, h1, h2⟩ := h
  exact ⟨a, ca, b, cb, e1, e2, h1.below hb, h2.below hb⟩
theorem OA.other {e2 : TypeId} {G : Nat} {c : Array Value} {fr : Nat × Nat} (h : OA lo w s t L T) (hG : w.heap[G]? = some (.cells c e2 fr)) (n1 : 23 ≠ e2) (n2 : 3 ≠ e2) (hk : ∀ k, k ≠ G → w'.heap[k]? = w.heap[k]?) : OA lo w' s t L T := by
  obtain ⟨a, ca, b, cb, e1, e2, h1, h2⟩ := h
  exact ⟨a, ca, b, cb, e1, e2, ownsRow_other h1 hG n2 hk, RowsAt.other h2 hG n1 n2 hk⟩
theorem OA.zero (lo : Nat) (w : World) : OA lo w (.slice none 0 0) (.slice none 0 0) [] [] := ⟨none, 0, none, 0, rfl, rfl, Own.nothing _ _, RowsAt.nothing _ _⟩
end
theorem oa_of {B lo : Nat} {w : World} {a b : Option Addr} {ca cb : Nat} {L : List Int} {T : List (List Int)} (hle : lo ≤ B) (h1 : Own B w (.slice a L.length ca) L) (h2 : RowsAt B w (.slice b T.length cb) T) : OA lo w (.slice a L.length ca) (.slice b T.length cb) L T :=
  ⟨a, ca, b, cb, rfl, rfl, h1.from hle, RowsAt.from h2 hle⟩
/-- an algebra, and whether there is one -/
def RetSAb (L : List Int) (T : List (List Int)) (V : Bool) (w : World) (e : Ending) (w' : World) : Prop :=
  ∃ (a : Option Addr) (n c : Nat) (b : Option Addr) (m d : Nat), e = .returned (.tuple #[.agg #[.slice a n c, .slice b m d], .bool V]) ∧ OA w.heap.size w' (.slice a n c) (.slice b m d) L T ∧ Below w.heap.size w w'
def RetGAb (L : List Int) (T : List (List Int)) (V : Bool) (w : World) (e : Ending) (w' : World) : Prop :=
  ∃ (a : Option Addr) (n c : Nat) (b : Option Addr) (m d : Nat), e = .returned (.tuple #[.agg #[.slice a n c, .slice b m d], .bool V]) ∧ GA w.heap.size w'.heap.size w' (.slice a n c) (.slice b m d) L T ∧ Below w.heap.size w w'
/-- of a length that a law takes -/
def Sm (L : List Int) (T : List (List Int)) : Prop := L.length ≤ 1048576 ∧ T.length ≤ 1048576 ∧ ∀ j : Nat, j < T.length → (rowAt T j).length ≤ 1048576
/-- of a length that an answer has -/
def Ti (L : List Int) (T : List (List Int)) : Prop := L.length ≤ 6 ∧ T.length ≤ 6 ∧ ∀ j : Nat, j < T.length → (rowAt T j).length ≤ 6
theorem Ti.sm {L : List Int} {T : List (List Int)} (h : Ti L T) : Sm L T := ⟨by have := h.1; omega, by have := h.2.1; omega, fun j hj => by have := h.2.2 j hj; omega⟩
theorem Ti.zero : Ti [] [] := ⟨by simp, by simp, fun j hj => absurd hj (by simp)⟩
/-- how many marks an algebra takes -/
def wtA (L : List Int) (T : List (List Int)) : Int := L.length + cum T T.length
theorem wtA_le {L : List Int} {T : List (List Int)} (h : Sm L T) : 0 ≤ wtA L T ∧ wtA L T ≤ 1099512676352 := by
  have h1 := cum_le T h.2.2 T.length (Nat.le_refl _)
  have := h.1; have := h.2.1
  unfold wtA
  omega
set_option maxRecDepth 100000 in
theorem markIntS_nil (k : Int) (w : World) : Calls Tryz.prog 57 #[.slice none 0 0, .int .i64 k] w fun e w' => e = .returned (.int .i64 k) ∧ w = w' := by
  go_enter Tryz.func57, Tryz.ntmps57
  go_wp2
  go_loopw [1, 5] (fun m i wr => i = .int .i64 0 ∧ m = .int .i64 k ∧ w = wr) (fun _ _ _ => 0)
  case atStart => exact ⟨rfl, rfl, rfl⟩
  case round =>
    obtain ⟨rfl, rfl, rfl⟩ := hrel
    go_wp2
    go_ret
    exact ⟨rfl, rfl⟩
set_option maxRecDepth 100000 in
theorem markIntSS_nil (k : Int) (w : World) : Calls Tryz.prog 58 #[.slice none 0 0, .int .i64 k] w fun e w' => e = .returned (.int .i64 k) ∧ w = w' := by
  go_enter Tryz.func58, Tryz.ntmps58
  go_wp2
  go_loopw [1, 5] (fun m i wr => i = .int .i64 0 ∧ m = .int .i64 k ∧ w = wr) (fun _ _ _ => 0)
  case atStart => exact ⟨rfl, rfl, rfl⟩
  case round =>
    obtain ⟨rfl, rfl, rfl⟩ := hrel
    go_wp2
    go_ret
    exact ⟨rfl, rfl⟩
set_option maxRecDepth 100000 in
theorem heldIntSS_nil (k : Int) (w : World) : Calls Tryz.prog 60 #[.slice none 0 0, .int .i64 k] w fun e w' => e = .returned (.int .i64 k) ∧ w = w' := by
  go_enter Tryz.func60, Tryz.ntmps60
  go_wp2
  go_loopw [1, 5] (fun m i wr => i = .int .i64 0 ∧ m = .int .i64 k ∧ w = wr) (fun _ _ _ => 0)
  case atStart => exact ⟨rfl, rfl, rfl⟩
  case round =>
    obtain ⟨rfl, rfl, rfl⟩ := hrel
    go_wp2
    go_ret
    exact ⟨rfl, rfl⟩
set_option maxRecDepth 100000 in
theorem heldIntS_nil (k : Int) (w : World) : Calls Tryz.prog 59 #[.slice none 0 0, .int .i64 k] w fun e w' => e = .returned (.int .i64 k) ∧ w = w' := by
  go_enter Tryz.func59, Tryz.ntmps59
  go_wp2
  go_loopw [1, 5] (fun m i wr => i = .int .i64 0 ∧ m = .int .i64 k ∧ w = wr) (fun _ _ _ => 0)
  case atStart => exact ⟨rfl, rfl, rfl⟩
  case round =>
    obtain ⟨rfl, rfl, rfl⟩ := hrel
    go_wp2
    go_ret
    exact ⟨rfl, rfl⟩
set_option maxRecDepth 100000 in
theorem markAlgebra_nil (k : Int) (w : World) (_ : ¬ k < 0) : Calls Tryz.prog 21 #[.agg #[.slice none 0 0, .slice none 0 0], .int .i64 k] w fun e w' => e = .returned (.int .i64 k) ∧ Below w.heap.size w w' := by
  obtain ⟨w1, hw1⟩ : ∃ w1, w1 = w.alloc (.cells #[.slice none 0 0, .slice none 0 0] 26) := ⟨_, rfl⟩
  have hB : Below w.heap.size w w1 := by rw [hw1]; exact (Below.refl _ _).alloc (Nat.le_refl _) _
  have hx : w1.heap[w.heap.size]? = some (.cells #[.slice none 0 0, .slice none 0 0] 26 (0, 0)) := by rw [hw1]; exact heap_alloc_new w _
  obtain ⟨c0, c1⟩ := bx_cells hx
  clear hx
  go_enter Tryz.func21, Tryz.ntmps21
  go_wp2_with (first
    | (rw [← hw1]; clear hw1)
    | (go_at_call 57; refine (markIntS_nil k _).mono ?_; rintro e w2 ⟨rfl, rfl⟩)
    | (go_at_call 58; refine (markIntSS_nil k _).mono ?_; rintro e w2 ⟨rfl, rfl⟩))
  go_ret
  exact ⟨rfl, hB⟩
set_option maxRecDepth 100000 in
theorem heldAlgebra_nil (k : Int) (w : World) (k0 : ¬ k < 0) : Calls Tryz.prog 22 #[.agg #[.slice none 0 0, .slice none 0 0], .int .i64 k] w fun e w' => e = .returned (.int .i64 k) ∧ Below w.heap.size w w' := by
  obtain ⟨w1, hw1⟩ : ∃ w1, w1 = w.alloc (.cells #[.slice none 0 0, .slice none 0 0] 26) := ⟨_, rfl⟩
  have hB : Below w.heap.size w w1 := by rw [hw1]; exact (Below.refl _ _).alloc (Nat.le_refl _) _
  have hx : w1.heap[w.heap.size]? = some (.cells #[.slice none 0 0, .slice none 0 0] 26 (0, 0)) := by rw [hw1]; exact heap_alloc_new w _
  obtain ⟨c0, c1⟩ := bx_cells hx
  clear hx
  go_enter Tryz.func22, Tryz.ntmps22
  go_wp2_with (first
    | (rw [← hw1]; clear hw1)
    | (go_at_call 59; refine (heldIntS_nil k _).mono ?_; rintro e w2 ⟨rfl, rfl⟩)
    | (go_at_call 60; refine (heldIntSS_nil k _).mono ?_; rintro e w2 ⟨rfl, rfl⟩))
  go_ret
  exact ⟨rfl, hB⟩

theorem eqAlgebra_R (s t u v : Value) (L : List Int) (T : List (List Int)) (w : World) (h1 : RA w s t L T) (h2 : RA w u v L T) (hs : Sm L T) :
    Calls Tryz.prog 20 #[.agg #[s, t], .agg #[u, v]] w fun e w' => e = .returned (.bool true) ∧ Below w.heap.size w w' := by
  obtain ⟨a, ca, b, cb, rfl, rfl, r1, r2⟩ := h1
  obtain ⟨a', ca', b', cb', rfl, rfl, r3, r4⟩ := h2
  exact eqAlgebra_same _ _ _ _ _ _ _ _ L T w r1 r3 r2 r4 (by have := hs.1; omega) (fun j hj => by have := hs.2.2 j hj; omega) (by have := hs.2.1; omega)
theorem eqIntS_R (s u : Value) (L : List Int) (w : World) (h1 : RS w s L) (h2 : RS w u L) (hm : L.length ≤ 1048576) :
    Calls Tryz.prog 55 #[s, u] w fun e w' => e = .returned (.bool true) ∧ Below w.heap.size w w' := by
  obtain ⟨a, c, rfl, r1⟩ := h1
  obtain ⟨a', c', rfl, r2⟩ := h2
  exact (eqIntS_same _ _ _ _ L w r1 r2 (by omega)).mono fun e w' ⟨he, hd⟩ => ⟨he, hd.below _⟩
theorem markIntS_G (lo hi : Nat) (s : Value) (L : List Int) (k : Int) (w : World) (h : GS lo hi w s L) (hm : L.length ≤ 1048576) (k0 : 0 ≤ k) (k1 : k ≤ 1125899906842624) :
    Calls Tryz.prog 57 #[s, .int .i64 k] w fun e w' => e = .returned (.int .i64 (k + L.length)) ∧ MS w' s L k ∧ Mid lo hi w w' := by
  obtain ⟨⟨a, c, rfl⟩, h1, h2⟩ := h
  refine (markIntS_any a c L k w h1 k0 k1 (by omega)).mono fun e w' ⟨he, ho, hg⟩ => ⟨he, ⟨a, c, rfl, ?_⟩, hg.os, hg.tape, hg.output, hg.size, fun q hq hd => hg.block q hq fun eq => ?_⟩
  · exact Own.rd (B := lo) (cap := c) (by rw [markL_len]; exact ho)
  · have h3 := World.ownsRow.lt h1 q eq.symm
    have h4 := h2 q eq.symm
    omega
theorem heldIntS_G (s : Value) (L : List Int) (k : Int) (w : World) (h : MS w s L k) (hm : L.length ≤ 1048576) (k0 : 0 ≤ k) (k1 : k ≤ 1048576) :
    Calls Tryz.prog 59 #[s, .int .i64 k] w fun e w' => e = .returned (.int .i64 (k + L.length)) ∧ Below w.heap.size w w' := by
  obtain ⟨a, c, rfl, r⟩ := h
  exact (heldIntS_any a c L.length k w r k0 (by omega) (by omega)).mono fun e w' ⟨he, hw⟩ => ⟨he, by rw [← hw]; exact Below.refl _ _⟩
theorem markIntSS_G (lo hi : Nat) (t : Value) (T : List (List Int)) (k : Int) (w : World) (h : GT lo hi w t T) (hn : T.length ≤ 1048576) (hm : ∀ j : Nat, j < T.length → (rowAt T j).length ≤ 1048576) (k0 : 0 ≤ k) (k1 : k ≤ 1125899906842624) :
    Calls Tryz.prog 58 #[t, .int .i64 k] w fun e w' => e = .returned (.int .i64 (k + cum T T.length)) ∧ MT w' t T k ∧ Mid lo hi w w' := by
  rcases h with ⟨rfl, rfl⟩ | ⟨B, R, rfl, h5, h6, h8⟩
  · refine (markIntSS_nil k w).mono fun e w' ⟨he, hw⟩ => ⟨?_, .inl ⟨rfl, rfl⟩, by rw [← hw]; exact Mid.refl _ _ _⟩
    rw [he]; simp [cum]
  · refine (markIntSS_is lo B R T k w h8 hi h6 k0 k1 hn hm).mono fun e w' ⟨he, hr, hmid⟩ => ⟨he, .inr ⟨B, R, rfl, (hmid.block B h8.lt (.inl (by omega))).trans h8.top, hr⟩, hmid.wide (by have := h8.lo; omega) (Nat.le_refl _)⟩
theorem heldIntSS_G (t : Value) (T : List (List Int)) (k : Int) (w : World) (h : MT w t T k) (hn : T.length ≤ 16) (hm : ∀ j : Nat, j < T.length → (rowAt T j).length ≤ 16) (k0 : 0 ≤ k) (k1 : k ≤ 1048576) :
    Calls Tryz.prog 60 #[t, .int .i64 k] w fun e w' => e = .returned (.int .i64 (k + cum T T.length)) ∧ Below w.heap.size w w' := by
  rcases h with ⟨rfl, rfl⟩ | ⟨B, R, rfl, h1, h2⟩
  · refine (heldIntSS_nil k w).mono fun e w' ⟨he, hw⟩ => ⟨?_, by rw [← hw]; exact Below.refl _ _⟩
    rw [he]; simp [cum]
  · refine (heldIntSS_is B R T k w h1 h2 k0 k1 hn hm).mono fun e w' ⟨he, hw⟩ => ⟨he, by rw [← hw]; exact Below.refl _ _⟩
set_option maxRecDepth 100000 in
set_option maxHeartbeats 1000000 in
theorem markAlgebra_G (lo hi : Nat) (a : Option Addr) (n c : Nat) (b : Option Addr) (m d : Nat) (L : List Int) (T : List (List Int)) (k : Int) (w : World) (h : GA lo hi w (.slice a n c) (.slice b m d) L T) (hhi : hi ≤ w.heap.size) (hs : Sm L T) (k0 : 0 ≤ k) (k1 : k ≤ 1125899905794048) :
    Calls Tryz.prog 21 #[.agg #[.slice a n c, .slice b m d], .int .i64 k] w fun e w' => e = .returned (.int .i64 (k + wtA L T)) ∧ MA w' (.slice a n c) (.slice b m d) L T k ∧ Mid lo hi w w' := by
  obtain ⟨w1, hw1⟩ : ∃ w1, w1 = w.alloc (.cells #[.slice a n c, .slice b m d] 26) := ⟨_, rfl⟩
  have hB : Below w.heap.size w w1 := by rw [hw1]; exact (Below.refl _ _).alloc (Nat.le_refl _) _
  have hx : w1.heap[w.heap.size]? = some (.cells #[.slice a n c, .slice b m d] 26 (0, 0)) := by rw [hw1]; exact heap_alloc_new w _
  obtain ⟨c0, c1⟩ := bx_cells hx
  obtain ⟨l1, h1, l2, h2, e1, e2, e3, e4, e5, gs, gt⟩ := h
  have gs1 := Lib.hid (gs.below hB)
  have gt1 := Lib.hid (gt.below hB)
  have M3 := Lib.hid hs.2.2
  have hL := hs.1
  have hT := hs.2.1
  clear gs gt hs
  go_enter Tryz.func21, Tryz.ntmps21
  go_wp2_with (rw [← hw1]; clear hw1)
  refine (markIntS_G l1 h1 _ L k w1 gs1.out hL k0 (by omega)).mono ?_
  rintro e w2 ⟨rfl, ms2, m2⟩
  have hx2 := (m2.block _ (lt_of_block hx) (.inr (by omega))).trans hx
  have gt2 := Lib.hid (gt1.out.mid m2 e5.symm)
  obtain ⟨d0, d1⟩ := bx_cells hx2
  go_wp2_with fail
  refine (markIntSS_G l2 h2 _ T _ w2 gt2.out hT M3.out (by omega) (by omega)).mono ?_
  rintro e w3 ⟨rfl, mt3, m3⟩
  have MT3 := Lib.hid mt3
  have MS2 := Lib.hid ms2
  clear mt3 ms2
  go_wp2
  go_ret
  have hs1 := hB.size
  have hs2 := m2.size
  have hs3 := m3.size
  refine ⟨by unfold wtA; rw [Int.add_assoc]; rfl, ⟨MS2.out.keep fun g hg => ?_, MT3.out⟩, m3.os.trans (m2.os.trans hB.os), m3.tape.trans (m2.tape.trans hB.tape), m3.output.trans (m2.output.trans hB.output), by omega, fun i hi2 hne => ?_⟩
  · have hq := gs1.out.2.2 g hg
    have hq2 := World.ownsRow.lt gs1.out.2.1 g hg
    exact m3.block g (by omega) (by omega)
  · exact (m3.block i (by omega) (by omega)).trans ((m2.block i (by omega) (by omega)).trans (hB.block i hi2))
set_option maxRecDepth 100000 in
set_option maxHeartbeats 1000000 in
theorem heldAlgebra_G (a : Option Addr) (n c : Nat) (b : Option Addr) (m d : Nat) (L : List Int) (T : List (List Int)) (k : Int) (w : World) (h : MA w (.slice a n c) (.slice b m d) L T k) (hs : Ti L T) (k0 : 0 ≤ k) (k1 : k ≤ 1024) :
    Calls Tryz.prog 22 #[.agg #[.slice a n c, .slice b m d], .int .i64 k] w fun e w' => e = .returned (.int .i64 (k + wtA L T)) ∧ Below w.heap.size w w' := by
  obtain ⟨w1, hw1⟩ : ∃ w1, w1 = w.alloc (.cells #[.slice a n c, .slice b m d] 26) := ⟨_, rfl⟩
  have hB : Below w.heap.size w w1 := by rw [hw1]; exact (Below.refl _ _).alloc (Nat.le_refl _) _
  have hx : w1.heap[w.heap.size]? = some (.cells #[.slice a n c, .slice b m d] 26 (0, 0)) := by rw [hw1]; exact heap_alloc_new w _
  have Kx := Lib.hid (show ∀ wz, Below w1.heap.size w1 wz → wz.heap[w.heap.size]? = some (.cells #[.slice a n c, .slice b m d] 26 (0, 0)) from fun wz h => (h.block _ (lt_of_block hx)).trans hx)
  obtain ⟨c0, c1⟩ := bx_cells hx
  have H1 := Lib.hid (h.below hB)
  have M3 := Lib.hid hs.2.2
  have hL := hs.1
  have hT := hs.2.1
  have hcu := (cum_le T (fun j hj => by have := hs.2.2 j hj; omega) T.length (Nat.le_refl _)).1
  have g1 : ¬ k + (L.length : Int) < 0 := by omega
  have g2 : ¬ k + (L.length : Int) + cum T T.length < 0 := by omega
  clear h hs hx
  go_enter Tryz.func22, Tryz.ntmps22
  go_wp2_with (rw [← hw1]; clear hw1)
  refine (heldIntS_G _ L k w1 H1.out.1 (by omega) k0 (by omega)).mono ?_
  rintro e w2 ⟨rfl, hb2⟩
  obtain ⟨d0, d1⟩ := bx_cells (Kx.out _ hb2)
  go_wp2_with fail
  refine (heldIntSS_G _ T _ w2 (H1.out.2.below hb2) (by omega) (fun j hj => by have := M3.out j hj; omega) (by omega) (by omega)).mono ?_
  rintro e w3 ⟨rfl, hb3⟩
  go_wp2
  go_ret
  exact ⟨by unfold wtA; rw [Int.add_assoc]; rfl, hB.trans ((hb2.trans (hb3.mono hb2.size)).mono hB.size)⟩
end Go.Proofs.YtpophjloedpcfaaGreatDoor
