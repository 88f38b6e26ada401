import Derived.Test.YtpophjloedpcfaaGreatDoorY1
import Derived.Test.YtpophjloedpcfaaGreatDoorU3
import Derived.Maps.AppendAt
import Derived.Test.YtpophjloedpcfaaGreatDoorG3
import Derived.Deep.RegionHeld3
import Derived.Deep.AppendLies
import Derived.Test.YtpophjloedpcfaaGreatDoorM5
import Derived.Test.YtpophjloedpcfaaGreatDoorW4
import Derived.Test.YtpophjloedpcfaaGreatDoorH10
namespace Go.Proofs.YtpophjloedpcfaaGreatDoor
open Go.RowKit

theorem runs_move1 {P : Program} {o : Oper} {a : Act} (x : Operand) (ho : o.op = .move x) (v : Value) (hx : a.eval x = v) (w : World) : (execOp a.eval o).run P w = .ok (.value v) w := by
  subst hx
  unfold execOp
  simp [ho]
theorem rd_news {w : World} {a : Option Addr} {L : List Int} (h : Rd w a L) (hL : L ≠ []) : ∃ b off, a = some ⟨b, off, none⟩ ∧ ∀ j u, (L.map fun x => Value.int .i64 x)[j]? = some u → w.cell? ((⟨b, off, none⟩ : Addr).add j) = some u := by
  obtain ⟨b, off, rfl, hc⟩ := h hL
  refine ⟨b, off, rfl, fun j u hj => ?_⟩
  rw [List.getElem?_map] at hj
  cases hx : L[j]? with
  | none => rw [hx] at hj; simp at hj
  | some x =>
    rw [hx] at hj
    simp at hj
    subst hj
    have hlt : j < L.length := (List.getElem?_eq_some_iff.1 hx).1
    have := hc j hlt
    have hn : nth L j = x := by unfold nth; simp [hx]
    rw [hn] at this
    rcases Nat.eq_zero_or_pos j with h0 | h0
    · subst h0; simpa [Addr.add] using this
    · simpa [Addr.add, show j ≠ 0 by omega] using this
theorem old_news {w : World} {b off : Nat} {xs : List Value} (o : Obj) (h : ∀ j u, xs[j]? = some u → w.cell? ((⟨b, off, none⟩ : Addr).add j) = some u) : ∀ j u, xs[j]? = some u → (w.alloc o).cell? ((⟨b, off, none⟩ : Addr).add j) = some u := fun j u hj =>
  (((Below.refl w.heap.size w).alloc (Nat.le_refl _) o).cell (by exact block_lt_of_cell (h j u hj))).trans (h j u hj)
theorem lat_ne {L : List Int} (h : 1 ≤ num L) : L ≠ [] := fun e => by rw [e] at h; simp [num] at h
theorem ra_of {B : Nat} {w : World} {a b : Option Addr} {ca cb : Nat} {L : List Int} {T : List (List Int)} (h1 : Own B w (.slice a L.length ca) L) (h2 : RowsAt B w (.slice b T.length cb) T) : RA w (.slice a L.length ca) (.slice b T.length cb) L T :=
  ⟨a, ca, b, cb, rfl, rfl, h1.rd, by obtain ⟨b', c', e, h⟩ := h2.rd; injection e with e1 _ _; rw [e1]; exact h⟩
theorem below_setRow2 {C : Nat} {w w' : World} (h : Below C w w') {g : Nat} (hg : C ≤ g) (cs : Array Value) : Below C w (w'.setRow g cs) := below_setRow' h hg cs
theorem rs_rd {w : World} {a : Option Addr} {n c : Nat} {L : List Int} (h : RS w (.slice a n c) L) : Rd w a L := by
  obtain ⟨a', c', e, hr⟩ := h
  injection e with e1 _ _
  rw [e1]; exact hr
theorem gt_rd {lo hi : Nat} {w : World} {b : Option Addr} {n c : Nat} {T : List (List Int)} (h : GT lo hi w (.slice b n c) T) : RdT w b T := by
  obtain ⟨b', c', e, hr⟩ := h.rd
  injection e with e1 _ _
  rw [e1]; exact hr
theorem stU_len (g : Int → Int → Bool) (n : Int) : (upL g n).length = n.toNat := by simp [upL]
end Go.Proofs.YtpophjloedpcfaaGreatDoor

namespace Go.Proofs.YtpophjloedpcfaaGreatDoor
open Go.RowKit
set_option linter.unusedVariables false

/-- the rows of an order up to one -/
def upQ (g : Int → Int → Bool) (n p : Int) : List Int := (List.range p.toNat).map fun (i : Nat) => rowTo (g i) n
theorem upQ_succ (g : Int → Int → Bool) (n p : Int) (h : 0 ≤ p) : upQ g n (p + 1) = upQ g n p ++ [rowTo (g p) n] := by
  unfold upQ
  rw [show (p + 1).toNat = p.toNat + 1 by omega, List.range_succ, List.map_append]
  simp [Int.toNat_of_nonneg h]
theorem upQ_len (g : Int → Int → Bool) (n p : Int) : (upQ g n p).length = p.toNat := by simp [upQ]
theorem upQ_all (g : Int → Int → Bool) (n : Int) : upQ g n n = upL g n := rfl
theorem RowsAt.alloc {B : Nat} {w : World} {v : Value} {T : List (List Int)} (h : RowsAt B w v T) (o : Obj) : RowsAt B (w.alloc o) v T := by
  obtain ⟨vs, h1, h2⟩ := h
  exact ⟨vs, World.ownsRow.alloc h1 o, fun j hj => by obtain ⟨u, hu, ho⟩ := h2 j hj; exact ⟨u, hu, ho.alloc o⟩⟩
/-- a table by append, whose rows lie apart from a block -/
def RowsX (B : Nat) (w : World) (v : Value) (T : List (List Int)) (q : Option Nat) : Prop :=
  ∃ vs : List Value, w.ownsRow B 23 1 v T.length vs ∧ ∀ j : Nat, j < T.length → ∃ u, vs[j]? = some u ∧ Own B w u (rowAt T j) ∧ (u.ownBlock = none ∨ u.ownBlock ≠ q)
section
variable {B : Nat} {w w' : World} {v v' : Value} {T : List (List Int)} {q : Option Nat}
theorem RowsX.at (h : RowsX B w v T q) : RowsAt B w v T := by
  obtain ⟨vs, h1, h2⟩ := h
  exact ⟨vs, h1, fun j hj => by obtain ⟨u, hu, ho, _⟩ := h2 j hj; exact ⟨u, hu, ho⟩⟩
theorem RowsX.nothing (B : Nat) (w : World) (q : Option Nat) : RowsX B w (.slice none 0 0) [] q := ⟨[], World.ownsRow_nil _ _ _ _, fun j hj => absurd hj (by simp)⟩
theorem RowsX.below (h : RowsX B w v T q) (hb : Below w.heap.size w w') : RowsX B w' v T q := by
  obtain ⟨vs, h1, h2⟩ := h
  exact ⟨vs, ownsRow_below h1 hb, fun j hj => by obtain ⟨u, hu, ho, hn⟩ := h2 j hj; exact ⟨u, hu, ho.below hb, hn⟩⟩
theorem RowsX.other {e2 : TypeId} {G : Nat} {c : Array Value} {fr : Nat × Nat} (h : RowsX B w v T q) (hG : w.heap[G]? = some (.cells c e2 fr)) (n1 : 23 ≠ e2) (n2 : 3 ≠ e2) (hk : ∀ k, k ≠ G → w'.heap[k]? = w.heap[k]?) : RowsX B w' v T q := by
  obtain ⟨vs, h1, h2⟩ := h
  exact ⟨vs, ownsRow_other h1 hG n1 hk, fun j hj => by obtain ⟨u, hu, ho, hn⟩ := h2 j hj; exact ⟨u, hu, ownsRow_other ho hG n2 hk, hn⟩⟩
theorem RowsX.push {u : Value} {r : List Int} {vs : List Value} (h1 : w.ownsRow B 23 1 v T.length vs) (h2 : ∀ j : Nat, j < T.length → ∃ u, vs[j]? = some u ∧ Own B w u (rowAt T j) ∧ (u.ownBlock = none ∨ u.ownBlock ≠ q)) (hu : Own B w u r) (hn : u.ownBlock = none ∨ u.ownBlock ≠ q)
    (h3 : w'.ownsRow B 23 1 v' (T.length + 1) (vs ++ [u])) (hg : w.grownBy w' v.ownBlock) : RowsX B w' v' (T ++ [r]) q := by
  have hvl : vs.length = T.length := by have := h1.1; omega
  refine ⟨vs ++ [u], by simpa using h3, fun j hj => ?_⟩
  by_cases e : j < T.length
  · obtain ⟨u', hu', ho, hn'⟩ := h2 j e
    refine ⟨u', by rw [List.getElem?_append_left (by omega)]; exact hu', ?_, hn'⟩
    rw [rowAt_old e]
    exact World.ownsRow.kept ho hg (own_types ho h1 (by decide))
  · have e2 : j = T.length := by simp at hj; omega
    subst e2
    refine ⟨u, by rw [← hvl]; simp, ?_, hn⟩
    rw [rowAt_new]
    exact World.ownsRow.kept hu hg (own_types hu h1 (by decide))
theorem RowsX.grown {v0 : Value} {B' n : Nat} {xs : List Value} {q' : Option Nat} (h : RowsX B w v T v0.ownBlock) (hg : w.grownBy w' v0.ownBlock) (hx : w.ownsRow B' 3 1 v0 n xs) (hat : q' = v0.ownBlock ∨ q' = some w.heap.size) : RowsX B w' v T q' := by
  obtain ⟨vs, h1, h2⟩ := h
  refine ⟨vs, World.ownsRow.kept h1 hg (own_types h1 hx (by decide)), fun j hj => ?_⟩
  obtain ⟨u, hu, ho, hn⟩ := h2 j hj
  refine ⟨u, hu, World.ownsRow.kept ho hg hn, ?_⟩
  rcases hat with e | e
  · rw [e]; exact hn
  · rw [e]
    cases hq : u.ownBlock with
    | none => exact .inl rfl
    | some k =>
      right
      intro he
      have := (World.ownsRow.lt ho k hq).2
      simp only [Option.some.injEq] at he
      omega
/-- a row of new memory lies apart from what was there -/
theorem own_new {C B' n : Nat} {w0 : World} {u v0 : Value} {r : List Int} {xs : List Value} {e : TypeId} {s : Nat} (hu : Own C w u r) (hx : w0.ownsRow B' e s v0 n xs) (hC : w0.heap.size ≤ C) : u.ownBlock = none ∨ u.ownBlock ≠ v0.ownBlock := by
  cases hq : u.ownBlock with
  | none => exact .inl rfl
  | some k =>
    right
    intro he
    have h1 := (World.ownsRow.lt hu k hq).1
    have h2 := (World.ownsRow.lt hx k he.symm).2
    omega
end
theorem own_shape {w : World} {B : Nat} {e : TypeId} {s : Nat} {v : Value} {n : Nat} {xs : List Value} (h : w.ownsRow B e s v n xs) : ∃ a n c, v = .slice a n c := by
  rcases h.2 with ⟨rfl, _⟩ | ⟨g, cap, cur, rfl, _⟩
  · exact ⟨_, _, _, rfl⟩
  · exact ⟨_, _, _, rfl⟩
end Go.Proofs.YtpophjloedpcfaaGreatDoor

namespace Go.Proofs.YtpophjloedpcfaaGreatDoor
open Go.RowKit
set_option linter.unusedVariables false

/-- products of pairs -/
def caP (T U : List (List Int)) (m p q : Int) : Int := tv T (p / m) (q / m) * m + tv U (p % m) (q % m)
def caOk (L : List Int) (T : List (List Int)) (M : List Int) (U : List (List Int)) : Bool := algB L T && (algB M U && decide ((L.length : Int) * M.length ≤ 6))
def caL (L : List Int) (T : List (List Int)) (M : List Int) (U : List (List Int)) : List Int := if caOk L T M U then upL (crossG L M) ((L.length : Int) * M.length) else []
def caT (L : List Int) (T : List (List Int)) (M : List Int) (U : List (List Int)) : List (List Int) := if caOk L T M U then tabL (caP T U M.length) ((L.length : Int) * M.length) else []
section
variable {L M : List Int} {T U : List (List Int)}
theorem ca_yes (h1 : algB L T = true) (h2 : algB M U = true) (h3 : (L.length : Int) * M.length ≤ 6) : caOk L T M U = true ∧ caL L T M U = upL (crossG L M) ((L.length : Int) * M.length) ∧ caT L T M U = tabL (caP T U M.length) ((L.length : Int) * M.length) := by
  have h : caOk L T M U = true := by unfold caOk; rw [h1, h2, decide_eq_true h3]; rfl
  exact ⟨h, by unfold caL; rw [h]; rfl, by unfold caT; rw [h]; rfl⟩
theorem ca_no (h : caOk L T M U = false) : caL L T M U = [] ∧ caT L T M U = [] := ⟨by unfold caL; rw [h]; rfl, by unfold caT; rw [h]; rfl⟩
theorem ca_ti (L : List Int) (T : List (List Int)) (M : List Int) (U : List (List Int)) : Ti (caL L T M U) (caT L T M U) := by
  cases h : caOk L T M U with
  | false => rw [(ca_no h).1, (ca_no h).2]; exact Ti.zero
  | true =>
    have h3 : (L.length : Int) * M.length ≤ 6 := by
      unfold caOk at h
      exact of_decide_eq_true (Bool.and_eq_true_iff.1 (Bool.and_eq_true_iff.1 h).2).2
    unfold caL caT
    rw [h, if_pos rfl, if_pos rfl]
    refine ⟨by rw [stU_len]; omega, by rw [tabL_len]; omega, fun j hj => ?_⟩
    rw [tabL_len] at hj
    rw [tabL_rlen _ hj]; omega
theorem ca_bound {a b m : Int} (a0 : 0 ≤ a) (a6 : a ≤ 6) (m0 : 0 ≤ m) (m6 : m ≤ 6) (b0 : 0 ≤ b) (b6 : b ≤ 6) : 0 ≤ a * m ∧ a * m ≤ 36 ∧ 0 ≤ a * m + b ∧ a * m + b ≤ 42 := by
  have h := mul_le36 a0 a6 m0 m6
  omega
end
end Go.Proofs.YtpophjloedpcfaaGreatDoor

namespace Go.Proofs.YtpophjloedpcfaaGreatDoor
open Go.RowKit
set_option linter.unusedVariables false
set_option maxRecDepth 100000 in
set_option maxHeartbeats 4000000 in
theorem specCross_ff (a b : Option Addr) (ca cb : Nat) (L : List Int) (T : List (List Int)) (a2 b2 : Option Addr) (ca2 cb2 : Nat) (M : List Int) (U : List (List Int)) (w : World) (hr : Rd w a L) (hT : RdT w b T) (hr2 : Rd w a2 M) (hT2 : RdT w b2 U) (h : algB L T = false) (h2 : algB M U = false) : Calls Tryz.prog 76 #[.agg #[.slice a L.length ca, .slice b T.length cb], .agg #[.slice a2 M.length ca2, .slice b2 U.length cb2]] w (RetSAb (caL L T M U) (caT L T M U) (caOk L T M U) w) := by
  obtain ⟨w1, hw1⟩ : ∃ w1, w1 = ((w.alloc (.cells #[.slice a L.length ca, .slice b T.length cb] 26)).alloc (.cells #[.slice a2 M.length ca2, .slice b2 U.length cb2] 26)).alloc (.cells #[.slice none 0 0, .slice none 0 0] 26) := ⟨_, rfl⟩
  have hB : Below w.heap.size w w1 := by rw [hw1]; exact (((Below.refl _ _).alloc (Nat.le_refl _) _).alloc (by simp) _).alloc (by simp; omega) _
  have hx : w1.heap[w.heap.size]? = some (.cells #[.slice a L.length ca, .slice b T.length cb] 26 (0, 0)) := by
    rw [hw1, Below.heap_alloc _ _ _ (by simp; omega), Below.heap_alloc _ _ _ (by simp)]; exact heap_alloc_new w _
  have hx2 : w1.heap[w.heap.size + 1]? = some (.cells #[.slice a2 M.length ca2, .slice b2 U.length cb2] 26 (0, 0)) := by
    rw [hw1, Below.heap_alloc _ _ _ (by simp)]; exact heap_alloc2_new _ _ _
  have hz : w1.heap[w.heap.size + 1 + 1]? = some (.cells #[.slice none 0 0, .slice none 0 0] 26 (0, 0)) := by
    have := heap_alloc_new ((w.alloc (.cells #[.slice a L.length ca, .slice b T.length cb] 26)).alloc (.cells #[.slice a2 M.length ca2, .slice b2 U.length cb2] 26)) (.cells #[.slice none 0 0, .slice none 0 0] 26)
    rw [hw1]; simpa using this
  have Kx := Lib.hid (show ∀ wz, Below w1.heap.size w1 wz → wz.heap[w.heap.size]? = some (.cells #[.slice a L.length ca, .slice b T.length cb] 26 (0, 0)) from fun wz h => (h.block _ (lt_of_block hx)).trans hx)
  have Kx2 := Lib.hid (show ∀ wz, Below w1.heap.size w1 wz → wz.heap[w.heap.size + 1]? = some (.cells #[.slice a2 M.length ca2, .slice b2 U.length cb2] 26 (0, 0)) from fun wz h => (h.block _ (lt_of_block hx2)).trans hx2)
  have Kz := Lib.hid (show ∀ wz, Below w1.heap.size w1 wz → wz.heap[w.heap.size + 1 + 1]? = some (.cells #[.slice none 0 0, .slice none 0 0] 26 (0, 0)) from fun wz h => (h.block _ (lt_of_block hz)).trans hz)
  have KR := Lib.hid (show ∀ wz, Below w1.heap.size w1 wz → Rd wz a L from fun wz h => (hr.below hB).below h)
  have KT := Lib.hid (show ∀ wz, Below w1.heap.size w1 wz → RdT wz b T from fun wz h => (hT.below hB).below h)
  have KR2 := Lib.hid (show ∀ wz, Below w1.heap.size w1 wz → Rd wz a2 M from fun wz h => (hr2.below hB).below h)
  have KT2 := Lib.hid (show ∀ wz, Below w1.heap.size w1 wz → RdT wz b2 U from fun wz h => (hT2.below hB).below h)
  have hsz : w.heap.size + 1 + 1 < w1.heap.size := lt_of_block hz
  have z1 : Below w1.heap.size w1 w1 := Below.refl _ _
  clear hx hx2 hz hr hT hr2 hT2
  have HA := Lib.hid h
  have HA2 := Lib.hid h2
  have HV := Lib.hid (show caOk L T M U = false by unfold caOk; rw [h, h2]; rfl)
  clear h h2
  go_enter Tryz.func76, Tryz.ntmps76
  go_wp2_with (first
    | go_skip
    | (rw [← hw1]; clear hw1)
    | (refine wpList_load_row_w rfl 26 _ rfl w.heap.size rfl _ _ _ _ (Kx.out _ (by assumption)) Tryz.underlying26 rfl (size_Alg _ _) ?_)
    | (refine wpList_load_row_w rfl 26 _ rfl (w.heap.size + 1) rfl _ _ _ _ (Kx2.out _ (by assumption)) Tryz.underlying26 rfl (size_Alg _ _) ?_)
    | (go_at_call_of 30 (Value.agg #[.slice a L.length ca, .slice b T.length cb]); refine (ret_below (validAlgebra_any _ _ _ _ L T _ (KR.out _ z1) (KT.out _ z1)) HA.out).mono ?_; rintro e w2 ⟨rfl, h2⟩; have z2 : Below w1.heap.size w1 w2 := h2; obtain ⟨c0, c1⟩ := bx_cells (Kx.out _ z2); obtain ⟨d0, d1⟩ := bx_cells (Kx2.out _ z2); clear h2)
    | (go_at_call 30; refine (ret_below (validAlgebra_any _ _ _ _ M U _ (KR2.out _ z2) (KT2.out _ z2)) HA2.out).mono ?_; rintro e w3 ⟨rfl, h3⟩; have z3 : Below w1.heap.size w1 w3 := z2.trans (h3.mono z2.size); clear h3 c0 c1 d0 d1; obtain ⟨c0, c1⟩ := bx_cells (Kx.out _ z3); obtain ⟨d0, d1⟩ := bx_cells (Kx2.out _ z3))
    | (refine wpList_store_row rfl 26 _ _ rfl (w.heap.size + 1 + 1) #[.slice none 0 0, .slice none 0 0] rfl rfl _ _ (Kz.out _ z2) (size_Alg _ _) rfl (one_sl2 _ _ _ _ _ _) ?_))
  refine bodyPost_ret (v := .tuple #[.agg #[.slice none 0 0, .slice none 0 0], .bool false]) (results_Alg_tmp rfl _ _ (w.heap.size + 1 + 1) rfl _ _ (setRow_heap _ _ _ _ _ _ (Kz.out _ z2)) rfl) rfl ?_
  rw [HV.out, (ca_no HV.out).1, (ca_no HV.out).2]
  exact ⟨_, _, _, _, _, _, rfl, OA.zero _ _, below_setRow' (hB.trans (z2.mono hB.size)) (by omega) _⟩
set_option maxRecDepth 100000 in
set_option maxHeartbeats 4000000 in
theorem specCross_ft (a b : Option Addr) (ca cb : Nat) (L : List Int) (T : List (List Int)) (a2 b2 : Option Addr) (ca2 cb2 : Nat) (M : List Int) (U : List (List Int)) (w : World) (hr : Rd w a L) (hT : RdT w b T) (hr2 : Rd w a2 M) (hT2 : RdT w b2 U) (h : algB L T = false) (h2 : algB M U = true) : Calls Tryz.prog 76 #[.agg #[.slice a L.length ca, .slice b T.length cb], .agg #[.slice a2 M.length ca2, .slice b2 U.length cb2]] w (RetSAb (caL L T M U) (caT L T M U) (caOk L T M U) w) := by
  obtain ⟨w1, hw1⟩ : ∃ w1, w1 = ((w.alloc (.cells #[.slice a L.length ca, .slice b T.length cb] 26)).alloc (.cells #[.slice a2 M.length ca2, .slice b2 U.length cb2] 26)).alloc (.cells #[.slice none 0 0, .slice none 0 0] 26) := ⟨_, rfl⟩
  have hB : Below w.heap.size w w1 := by rw [hw1]; exact (((Below.refl _ _).alloc (Nat.le_refl _) _).alloc (by simp) _).alloc (by simp; omega) _
  have hx : w1.heap[w.heap.size]? = some (.cells #[.slice a L.length ca, .slice b T.length cb] 26 (0, 0)) := by
    rw [hw1, Below.heap_alloc _ _ _ (by simp; omega), Below.heap_alloc _ _ _ (by simp)]; exact heap_alloc_new w _
  have hx2 : w1.heap[w.heap.size + 1]? = some (.cells #[.slice a2 M.length ca2, .slice b2 U.length cb2] 26 (0, 0)) := by
    rw [hw1, Below.heap_alloc _ _ _ (by simp)]; exact heap_alloc2_new _ _ _
  have hz : w1.heap[w.heap.size + 1 + 1]? = some (.cells #[.slice none 0 0, .slice none 0 0] 26 (0, 0)) := by
    have := heap_alloc_new ((w.alloc (.cells #[.slice a L.length ca, .slice b T.length cb] 26)).alloc (.cells #[.slice a2 M.length ca2, .slice b2 U.length cb2] 26)) (.cells #[.slice none 0 0, .slice none 0 0] 26)
    rw [hw1]; simpa using this
  have Kx := Lib.hid (show ∀ wz, Below w1.heap.size w1 wz → wz.heap[w.heap.size]? = some (.cells #[.slice a L.length ca, .slice b T.length cb] 26 (0, 0)) from fun wz h => (h.block _ (lt_of_block hx)).trans hx)
  have Kx2 := Lib.hid (show ∀ wz, Below w1.heap.size w1 wz → wz.heap[w.heap.size + 1]? = some (.cells #[.slice a2 M.length ca2, .slice b2 U.length cb2] 26 (0, 0)) from fun wz h => (h.block _ (lt_of_block hx2)).trans hx2)
  have Kz := Lib.hid (show ∀ wz, Below w1.heap.size w1 wz → wz.heap[w.heap.size + 1 + 1]? = some (.cells #[.slice none 0 0, .slice none 0 0] 26 (0, 0)) from fun wz h => (h.block _ (lt_of_block hz)).trans hz)
  have KR := Lib.hid (show ∀ wz, Below w1.heap.size w1 wz → Rd wz a L from fun wz h => (hr.below hB).below h)
  have KT := Lib.hid (show ∀ wz, Below w1.heap.size w1 wz → RdT wz b T from fun wz h => (hT.below hB).below h)
  have KR2 := Lib.hid (show ∀ wz, Below w1.heap.size w1 wz → Rd wz a2 M from fun wz h => (hr2.below hB).below h)
  have KT2 := Lib.hid (show ∀ wz, Below w1.heap.size w1 wz → RdT wz b2 U from fun wz h => (hT2.below hB).below h)
  have hsz : w.heap.size + 1 + 1 < w1.heap.size := lt_of_block hz
  have z1 : Below w1.heap.size w1 w1 := Below.refl _ _
  clear hx hx2 hz hr hT hr2 hT2
  have HA := Lib.hid h
  have HA2 := Lib.hid h2
  have HV := Lib.hid (show caOk L T M U = false by unfold caOk; rw [h, h2]; rfl)
  clear h h2
  go_enter Tryz.func76, Tryz.ntmps76
  go_wp2_with (first
    | go_skip
    | (rw [← hw1]; clear hw1)
    | (refine wpList_load_row_w rfl 26 _ rfl w.heap.size rfl _ _ _ _ (Kx.out _ (by assumption)) Tryz.underlying26 rfl (size_Alg _ _) ?_)
    | (refine wpList_load_row_w rfl 26 _ rfl (w.heap.size + 1) rfl _ _ _ _ (Kx2.out _ (by assumption)) Tryz.underlying26 rfl (size_Alg _ _) ?_)
    | (go_at_call_of 30 (Value.agg #[.slice a L.length ca, .slice b T.length cb]); refine (ret_below (validAlgebra_any _ _ _ _ L T _ (KR.out _ z1) (KT.out _ z1)) HA.out).mono ?_; rintro e w2 ⟨rfl, h2⟩; have z2 : Below w1.heap.size w1 w2 := h2; obtain ⟨c0, c1⟩ := bx_cells (Kx.out _ z2); obtain ⟨d0, d1⟩ := bx_cells (Kx2.out _ z2); clear h2)
    | (go_at_call 30; refine (ret_below (validAlgebra_any _ _ _ _ M U _ (KR2.out _ z2) (KT2.out _ z2)) HA2.out).mono ?_; rintro e w3 ⟨rfl, h3⟩; have z3 : Below w1.heap.size w1 w3 := z2.trans (h3.mono z2.size); clear h3 c0 c1 d0 d1; obtain ⟨c0, c1⟩ := bx_cells (Kx.out _ z3); obtain ⟨d0, d1⟩ := bx_cells (Kx2.out _ z3))
    | (refine wpList_store_row rfl 26 _ _ rfl (w.heap.size + 1 + 1) #[.slice none 0 0, .slice none 0 0] rfl rfl _ _ (Kz.out _ z2) (size_Alg _ _) rfl (one_sl2 _ _ _ _ _ _) ?_))
  refine bodyPost_ret (v := .tuple #[.agg #[.slice none 0 0, .slice none 0 0], .bool false]) (results_Alg_tmp rfl _ _ (w.heap.size + 1 + 1) rfl _ _ (setRow_heap _ _ _ _ _ _ (Kz.out _ z2)) rfl) rfl ?_
  rw [HV.out, (ca_no HV.out).1, (ca_no HV.out).2]
  exact ⟨_, _, _, _, _, _, rfl, OA.zero _ _, below_setRow' (hB.trans (z2.mono hB.size)) (by omega) _⟩
set_option maxRecDepth 100000 in
set_option maxHeartbeats 4000000 in
theorem specCross_tf (a b : Option Addr) (ca cb : Nat) (L : List Int) (T : List (List Int)) (a2 b2 : Option Addr) (ca2 cb2 : Nat) (M : List Int) (U : List (List Int)) (w : World) (hr : Rd w a L) (hT : RdT w b T) (hr2 : Rd w a2 M) (hT2 : RdT w b2 U) (h : algB L T = true) (h2 : algB M U = false) : Calls Tryz.prog 76 #[.agg #[.slice a L.length ca, .slice b T.length cb], .agg #[.slice a2 M.length ca2, .slice b2 U.length cb2]] w (RetSAb (caL L T M U) (caT L T M U) (caOk L T M U) w) := by
  obtain ⟨w1, hw1⟩ : ∃ w1, w1 = ((w.alloc (.cells #[.slice a L.length ca, .slice b T.length cb] 26)).alloc (.cells #[.slice a2 M.length ca2, .slice b2 U.length cb2] 26)).alloc (.cells #[.slice none 0 0, .slice none 0 0] 26) := ⟨_, rfl⟩
  have hB : Below w.heap.size w w1 := by rw [hw1]; exact (((Below.refl _ _).alloc (Nat.le_refl _) _).alloc (by simp) _).alloc (by simp; omega) _
  have hx : w1.heap[w.heap.size]? = some (.cells #[.slice a L.length ca, .slice b T.length cb] 26 (0, 0)) := by
    rw [hw1, Below.heap_alloc _ _ _ (by simp; omega), Below.heap_alloc _ _ _ (by simp)]; exact heap_alloc_new w _
  have hx2 : w1.heap[w.heap.size + 1]? = some (.cells #[.slice a2 M.length ca2, .slice b2 U.length cb2] 26 (0, 0)) := by
    rw [hw1, Below.heap_alloc _ _ _ (by simp)]; exact heap_alloc2_new _ _ _
  have hz : w1.heap[w.heap.size + 1 + 1]? = some (.cells #[.slice none 0 0, .slice none 0 0] 26 (0, 0)) := by
    have := heap_alloc_new ((w.alloc (.cells #[.slice a L.length ca, .slice b T.length cb] 26)).alloc (.cells #[.slice a2 M.length ca2, .slice b2 U.length cb2] 26)) (.cells #[.slice none 0 0, .slice none 0 0] 26)
    rw [hw1]; simpa using this
  have Kx := Lib.hid (show ∀ wz, Below w1.heap.size w1 wz → wz.heap[w.heap.size]? = some (.cells #[.slice a L.length ca, .slice b T.length cb] 26 (0, 0)) from fun wz h => (h.block _ (lt_of_block hx)).trans hx)
  have Kx2 := Lib.hid (show ∀ wz, Below w1.heap.size w1 wz → wz.heap[w.heap.size + 1]? = some (.cells #[.slice a2 M.length ca2, .slice b2 U.length cb2] 26 (0, 0)) from fun wz h => (h.block _ (lt_of_block hx2)).trans hx2)
  have Kz := Lib.hid (show ∀ wz, Below w1.heap.size w1 wz → wz.heap[w.heap.size + 1 + 1]? = some (.cells #[.slice none 0 0, .slice none 0 0] 26 (0, 0)) from fun wz h => (h.block _ (lt_of_block hz)).trans hz)
  have KR := Lib.hid (show ∀ wz, Below w1.heap.size w1 wz → Rd wz a L from fun wz h => (hr.below hB).below h)
  have KT := Lib.hid (show ∀ wz, Below w1.heap.size w1 wz → RdT wz b T from fun wz h => (hT.below hB).below h)
  have KR2 := Lib.hid (show ∀ wz, Below w1.heap.size w1 wz → Rd wz a2 M from fun wz h => (hr2.below hB).below h)
  have KT2 := Lib.hid (show ∀ wz, Below w1.heap.size w1 wz → RdT wz b2 U from fun wz h => (hT2.below hB).below h)
  have hsz : w.heap.size + 1 + 1 < w1.heap.size := lt_of_block hz
  have z1 : Below w1.heap.size w1 w1 := Below.refl _ _
  clear hx hx2 hz hr hT hr2 hT2
  have HA := Lib.hid h
  have HA2 := Lib.hid h2
  have HV := Lib.hid (show caOk L T M U = false by unfold caOk; rw [h, h2]; rfl)
  clear h h2
  go_enter Tryz.func76, Tryz.ntmps76
  go_wp2_with (first
    | go_skip
    | (rw [← hw1]; clear hw1)
    | (refine wpList_load_row_w rfl 26 _ rfl w.heap.size rfl _ _ _ _ (Kx.out _ (by assumption)) Tryz.underlying26 rfl (size_Alg _ _) ?_)
    | (refine wpList_load_row_w rfl 26 _ rfl (w.heap.size + 1) rfl _ _ _ _ (Kx2.out _ (by assumption)) Tryz.underlying26 rfl (size_Alg _ _) ?_)
    | (go_at_call_of 30 (Value.agg #[.slice a L.length ca, .slice b T.length cb]); refine (ret_below (validAlgebra_any _ _ _ _ L T _ (KR.out _ z1) (KT.out _ z1)) HA.out).mono ?_; rintro e w2 ⟨rfl, h2⟩; have z2 : Below w1.heap.size w1 w2 := h2; obtain ⟨c0, c1⟩ := bx_cells (Kx.out _ z2); obtain ⟨d0, d1⟩ := bx_cells (Kx2.out _ z2); clear h2)
    | (go_at_call 30; refine (ret_below (validAlgebra_any _ _ _ _ M U _ (KR2.out _ z2) (KT2.out _ z2)) HA2.out).mono ?_; rintro e w3 ⟨rfl, h3⟩; have z3 : Below w1.heap.size w1 w3 := z2.trans (h3.mono z2.size); clear h3 c0 c1 d0 d1; obtain ⟨c0, c1⟩ := bx_cells (Kx.out _ z3); obtain ⟨d0, d1⟩ := bx_cells (Kx2.out _ z3))
    | (refine wpList_store_row rfl 26 _ _ rfl (w.heap.size + 1 + 1) #[.slice none 0 0, .slice none 0 0] rfl rfl _ _ (Kz.out _ z3) (size_Alg _ _) rfl (one_sl2 _ _ _ _ _ _) ?_))
  refine bodyPost_ret (v := .tuple #[.agg #[.slice none 0 0, .slice none 0 0], .bool false]) (results_Alg_tmp rfl _ _ (w.heap.size + 1 + 1) rfl _ _ (setRow_heap _ _ _ _ _ _ (Kz.out _ z3)) rfl) rfl ?_
  rw [HV.out, (ca_no HV.out).1, (ca_no HV.out).2]
  exact ⟨_, _, _, _, _, _, rfl, OA.zero _ _, below_setRow' (hB.trans (z3.mono hB.size)) (by omega) _⟩
set_option maxRecDepth 100000 in
set_option maxHeartbeats 4000000 in
theorem specCross_big (a b : Option Addr) (ca cb : Nat) (L : List Int) (T : List (List Int)) (a2 b2 : Option Addr) (ca2 cb2 : Nat) (M : List Int) (U : List (List Int)) (w : World) (hr : Rd w a L) (hT : RdT w b T) (hr2 : Rd w a2 M) (hT2 : RdT w b2 U) (h : algB L T = true) (h2 : algB M U = true) (h3 : ¬ ((L.length : Int) * M.length) ≤ 6) : Calls Tryz.prog 76 #[.agg #[.slice a L.length ca, .slice b T.length cb], .agg #[.slice a2 M.length ca2, .slice b2 U.length cb2]] w (RetSAb (caL L T M U) (caT L T M U) (caOk L T M U) w) := by
  obtain ⟨w1, hw1⟩ : ∃ w1, w1 = ((w.alloc (.cells #[.slice a L.length ca, .slice b T.length cb] 26)).alloc (.cells #[.slice a2 M.length ca2, .slice b2 U.length cb2] 26)).alloc (.cells #[.slice none 0 0, .slice none 0 0] 26) := ⟨_, rfl⟩
  have hB : Below w.heap.size w w1 := by rw [hw1]; exact (((Below.refl _ _).alloc (Nat.le_refl _) _).alloc (by simp) _).alloc (by simp; omega) _
  have hx : w1.heap[w.heap.size]? = some (.cells #[.slice a L.length ca, .slice b T.length cb] 26 (0, 0)) := by
    rw [hw1, Below.heap_alloc _ _ _ (by simp; omega), Below.heap_alloc _ _ _ (by simp)]; exact heap_alloc_new w _
  have hx2 : w1.heap[w.heap.size + 1]? = some (.cells #[.slice a2 M.length ca2, .slice b2 U.length cb2] 26 (0, 0)) := by
    rw [hw1, Below.heap_alloc _ _ _ (by simp)]; exact heap_alloc2_new _ _ _
  have hz : w1.heap[w.heap.size + 1 + 1]? = some (.cells #[.slice none 0 0, .slice none 0 0] 26 (0, 0)) := by
    have := heap_alloc_new ((w.alloc (.cells #[.slice a L.length ca, .slice b T.length cb] 26)).alloc (.cells #[.slice a2 M.length ca2, .slice b2 U.length cb2] 26)) (.cells #[.slice none 0 0, .slice none 0 0] 26)
    rw [hw1]; simpa using this
  have Kx := Lib.hid (show ∀ wz, Below w1.heap.size w1 wz → wz.heap[w.heap.size]? = some (.cells #[.slice a L.length ca, .slice b T.length cb] 26 (0, 0)) from fun wz h => (h.block _ (lt_of_block hx)).trans hx)
  have Kx2 := Lib.hid (show ∀ wz, Below w1.heap.size w1 wz → wz.heap[w.heap.size + 1]? = some (.cells #[.slice a2 M.length ca2, .slice b2 U.length cb2] 26 (0, 0)) from fun wz h => (h.block _ (lt_of_block hx2)).trans hx2)
  have Kz := Lib.hid (show ∀ wz, Below w1.heap.size w1 wz → wz.heap[w.heap.size + 1 + 1]? = some (.cells #[.slice none 0 0, .slice none 0 0] 26 (0, 0)) from fun wz h => (h.block _ (lt_of_block hz)).trans hz)
  have KR := Lib.hid (show ∀ wz, Below w1.heap.size w1 wz → Rd wz a L from fun wz h => (hr.below hB).below h)
  have KT := Lib.hid (show ∀ wz, Below w1.heap.size w1 wz → RdT wz b T from fun wz h => (hT.below hB).below h)
  have KR2 := Lib.hid (show ∀ wz, Below w1.heap.size w1 wz → Rd wz a2 M from fun wz h => (hr2.below hB).below h)
  have KT2 := Lib.hid (show ∀ wz, Below w1.heap.size w1 wz → RdT wz b2 U from fun wz h => (hT2.below hB).below h)
  have hsz : w.heap.size + 1 + 1 < w1.heap.size := lt_of_block hz
  have z1 : Below w1.heap.size w1 w1 := Below.refl _ _
  clear hx hx2 hz hr hT hr2 hT2
  have HA := Lib.hid h
  have HA2 := Lib.hid h2
  obtain ⟨l1, l6⟩ := lat_len (alg_lat h)
  obtain ⟨k1, k6⟩ := lat_len (alg_lat h2)
  have n6 : (L.length : Int) ≤ 6 := l6
  have m6 : (M.length : Int) ≤ 6 := k6
  have n1 : 1 ≤ (L.length : Int) := l1
  have m1 : 1 ≤ (M.length : Int) := k1
  obtain ⟨q0, q36⟩ := mul_le36 (x := (L.length : Int)) (y := (M.length : Int)) (by omega) (by omega) (by omega) (by omega)
  have kmul : IntKind.i64.wrap ((L.length : Int) * M.length) = (L.length : Int) * M.length := IntWalk.i64_in _ (by omega)
  clear l1 l6 k1 k6
  have HV := Lib.hid (show caOk L T M U = false by unfold caOk; rw [h, h2, decide_eq_false h3]; rfl)
  have kd : decide ((6 : Int) < (L.length : Int) * M.length) = true := decide_eq_true (by omega)
  clear h h2
  go_enter Tryz.func76, Tryz.ntmps76
  go_wp2_with (first
    | go_skip
    | (rw [← hw1]; clear hw1)
    | (refine wpList_load_row_w rfl 26 _ rfl w.heap.size rfl _ _ _ _ (Kx.out _ (by assumption)) Tryz.underlying26 rfl (size_Alg _ _) ?_)
    | (refine wpList_load_row_w rfl 26 _ rfl (w.heap.size + 1) rfl _ _ _ _ (Kx2.out _ (by assumption)) Tryz.underlying26 rfl (size_Alg _ _) ?_)
    | (go_at_call_of 30 (Value.agg #[.slice a L.length ca, .slice b T.length cb]); refine (ret_below (validAlgebra_any _ _ _ _ L T _ (KR.out _ z1) (KT.out _ z1)) HA.out).mono ?_; rintro e w2 ⟨rfl, h2⟩; have z2 : Below w1.heap.size w1 w2 := h2; obtain ⟨c0, c1⟩ := bx_cells (Kx.out _ z2); obtain ⟨d0, d1⟩ := bx_cells (Kx2.out _ z2); clear h2)
    | (go_at_call 30; refine (ret_below (validAlgebra_any _ _ _ _ M U _ (KR2.out _ z2) (KT2.out _ z2)) HA2.out).mono ?_; rintro e w3 ⟨rfl, h3⟩; have z3 : Below w1.heap.size w1 w3 := z2.trans (h3.mono z2.size); clear h3 c0 c1 d0 d1; obtain ⟨c0, c1⟩ := bx_cells (Kx.out _ z3); obtain ⟨d0, d1⟩ := bx_cells (Kx2.out _ z3))
    | (refine wpList_store_row rfl 26 _ _ rfl (w.heap.size + 1 + 1) #[.slice none 0 0, .slice none 0 0] rfl rfl _ _ (Kz.out _ z3) (size_Alg _ _) rfl (one_sl2 _ _ _ _ _ _) ?_))
  refine bodyPost_ret (v := .tuple #[.agg #[.slice none 0 0, .slice none 0 0], .bool false]) (results_Alg_tmp rfl _ _ (w.heap.size + 1 + 1) rfl _ _ (setRow_heap _ _ _ _ _ _ (Kz.out _ z3)) rfl) rfl ?_
  rw [HV.out, (ca_no HV.out).1, (ca_no HV.out).2]
  exact ⟨_, _, _, _, _, _, rfl, OA.zero _ _, below_setRow' (hB.trans (z3.mono hB.size)) (by omega) _⟩
theorem crossU (ab ao bb bo ca cb : Nat) (A B UL : List Int) (w : World) (hcA : Cells w ab ao A) (hcB : Cells w bb bo B) (hsA : Small A) (hsB : Small B) (a1 : 1 ≤ (A.length : Int)) (a6 : (A.length : Int) ≤ 6) (b1 : 1 ≤ (B.length : Int)) (b6 : (B.length : Int) ≤ 6) (h6 : (A.length : Int) * B.length ≤ 6) (hU : UL = upL (crossG A B) ((A.length : Int) * B.length)) :
    Calls Tryz.prog 79 #[.slice (some ⟨ab, ao, none⟩) A.length ca, .slice (some ⟨bb, bo, none⟩) B.length cb] w (RetOwn w.heap.size UL w) := by
  rw [hU]; exact cross_any ab ao bb bo ca cb A B w hcA hcB hsA hsB a1 a6 b1 b6 h6
set_option maxRecDepth 100000 in
set_option maxHeartbeats 8000000 in
theorem specCross_yes (a b : Option Addr) (ca cb : Nat) (L : List Int) (T : List (List Int)) (a2 b2 : Option Addr) (ca2 cb2 : Nat) (M : List Int) (U : List (List Int)) (w : World) (hr : Rd w a L) (hT : RdT w b T) (hr2 : Rd w a2 M) (hT2 : RdT w b2 U) (h : algB L T = true) (h2 : algB M U = true) (h36 : ((L.length : Int) * M.length) ≤ 6) : Calls Tryz.prog 76 #[.agg #[.slice a L.length ca, .slice b T.length cb], .agg #[.slice a2 M.length ca2, .slice b2 U.length cb2]] w (RetSAb (caL L T M U) (caT L T M U) (caOk L T M U) w) := by
  obtain ⟨i0, hi, hz0, hz1, hz2⟩ := info_parts info_int
  obtain ⟨i1, hi1, hy0, hy1, hy2⟩ := info_parts info_ints
  obtain ⟨l1, l6, hsA⟩ := latB_parts (alg_lat h)
  obtain ⟨k1, k6, hsB⟩ := latB_parts (alg_lat h2)
  obtain ⟨ab, ao, rfl, _⟩ := hr (lat_ne l1)
  obtain ⟨mb, mo, rfl, _⟩ := hr2 (lat_ne k1)
  obtain ⟨tb, to, rfl, _⟩ := tab_of hT (alg_shape h) l1
  obtain ⟨ub, uo, rfl, _⟩ := tab_of hT2 (alg_shape h2) k1
  obtain ⟨w1, hw1⟩ : ∃ w1, w1 = ((w.alloc (.cells #[.slice (some ⟨ab, ao, none⟩) L.length ca, .slice (some ⟨tb, to, none⟩) T.length cb] 26)).alloc (.cells #[.slice (some ⟨mb, mo, none⟩) M.length ca2, .slice (some ⟨ub, uo, none⟩) U.length cb2] 26)).alloc (.cells #[.slice none 0 0, .slice none 0 0] 26) := ⟨_, rfl⟩
  have hB : Below w.heap.size w w1 := by rw [hw1]; exact (((Below.refl _ _).alloc (Nat.le_refl _) _).alloc (by simp) _).alloc (by simp; omega) _
  have hx : w1.heap[w.heap.size]? = some (.cells #[.slice (some ⟨ab, ao, none⟩) L.length ca, .slice (some ⟨tb, to, none⟩) T.length cb] 26 (0, 0)) := by
    rw [hw1, Below.heap_alloc _ _ _ (by simp; omega), Below.heap_alloc _ _ _ (by simp)]; exact heap_alloc_new w _
  have hx2 : w1.heap[w.heap.size + 1]? = some (.cells #[.slice (some ⟨mb, mo, none⟩) M.length ca2, .slice (some ⟨ub, uo, none⟩) U.length cb2] 26 (0, 0)) := by
    rw [hw1, Below.heap_alloc _ _ _ (by simp)]; exact heap_alloc2_new _ _ _
  have hz : w1.heap[w.heap.size + 1 + 1]? = some (.cells #[.slice none 0 0, .slice none 0 0] 26 (0, 0)) := by
    have := heap_alloc_new ((w.alloc (.cells #[.slice (some ⟨ab, ao, none⟩) L.length ca, .slice (some ⟨tb, to, none⟩) T.length cb] 26)).alloc (.cells #[.slice (some ⟨mb, mo, none⟩) M.length ca2, .slice (some ⟨ub, uo, none⟩) U.length cb2] 26)) (.cells #[.slice none 0 0, .slice none 0 0] 26)
    rw [hw1]; simpa using this
  have Kx := Lib.hid (show ∀ wz, Below w1.heap.size w1 wz → wz.heap[w.heap.size]? = some (.cells #[.slice (some ⟨ab, ao, none⟩) L.length ca, .slice (some ⟨tb, to, none⟩) T.length cb] 26 (0, 0)) from fun wz h => (h.block _ (lt_of_block hx)).trans hx)
  have Kx2 := Lib.hid (show ∀ wz, Below w1.heap.size w1 wz → wz.heap[w.heap.size + 1]? = some (.cells #[.slice (some ⟨mb, mo, none⟩) M.length ca2, .slice (some ⟨ub, uo, none⟩) U.length cb2] 26 (0, 0)) from fun wz h => (h.block _ (lt_of_block hx2)).trans hx2)
  have Kz := Lib.hid (show ∀ wz, Below w1.heap.size w1 wz → wz.heap[w.heap.size + 1 + 1]? = some (.cells #[.slice none 0 0, .slice none 0 0] 26 (0, 0)) from fun wz h => (h.block _ (lt_of_block hz)).trans hz)
  have KR := Lib.hid (show ∀ wz, Below w1.heap.size w1 wz → Rd wz (some ⟨ab, ao, none⟩) L from fun wz h => (hr.below hB).below h)
  have KT := Lib.hid (show ∀ wz, Below w1.heap.size w1 wz → RdT wz (some ⟨tb, to, none⟩) T from fun wz h => (hT.below hB).below h)
  have KR2 := Lib.hid (show ∀ wz, Below w1.heap.size w1 wz → Rd wz (some ⟨mb, mo, none⟩) M from fun wz h => (hr2.below hB).below h)
  have KT2 := Lib.hid (show ∀ wz, Below w1.heap.size w1 wz → RdT wz (some ⟨ub, uo, none⟩) U from fun wz h => (hT2.below hB).below h)
  have hsz : w.heap.size + 1 + 1 < w1.heap.size := lt_of_block hz
  have z1 : Below w1.heap.size w1 w1 := Below.refl _ _
  clear hx hx2 hz hr hT hr2 hT2
  have KC := Lib.hid (show ∀ wz, Below w1.heap.size w1 wz → Cells wz ab ao L from fun wz hb => by
    obtain ⟨b', off', e, hc⟩ := (KR.out wz hb) (lat_ne l1)
    simp only [Option.some.injEq, Addr.mk.injEq] at e
    rw [e.1, e.2.1]; exact hc)
  have KC2 := Lib.hid (show ∀ wz, Below w1.heap.size w1 wz → Cells wz mb mo M from fun wz hb => by
    obtain ⟨b', off', e, hc⟩ := (KR2.out wz hb) (lat_ne k1)
    simp only [Option.some.injEq, Addr.mk.injEq] at e
    rw [e.1, e.2.1]; exact hc)
  obtain ⟨tb', to', e1, rb, ro, rc, hTA⟩ := tab_of (KT.out _ z1) (alg_shape h) l1
  obtain ⟨ub', uo', e2, sb, so, sc, hTB⟩ := tab_of (KT2.out _ z1) (alg_shape h2) k1
  simp only [Option.some.injEq, Addr.mk.injEq] at e1 e2
  obtain ⟨rfl, rfl, _⟩ := e1
  obtain ⟨rfl, rfl, _⟩ := e2
  have KA := Lib.hid (show ∀ wz, Below w1.heap.size w1 wz → TabAt wz tb to (num L) L.length rb ro rc T from fun wz hb => hTA.below hb)
  have KB := Lib.hid (show ∀ wz, Below w1.heap.size w1 wz → TabAt wz ub uo (num M) M.length sb so sc U from fun wz hb => hTB.below hb)
  have HA := Lib.hid h
  have HA2 := Lib.hid h2
  have HV := Lib.hid (ca_yes h h2 h36)
  have n6 : (L.length : Int) ≤ 6 := l6
  have n1 : 1 ≤ (L.length : Int) := l1
  have m6 : (M.length : Int) ≤ 6 := k6
  have m1 : 1 ≤ (M.length : Int) := k1
  have nl1 : num L ≤ (L.length : Int) := Int.le_refl _
  have nm1 : num M ≤ (M.length : Int) := Int.le_refl _
  have nm2 : (M.length : Int) ≤ num M := Int.le_refl _
  obtain ⟨q0, q36⟩ := mul_le36 (x := (L.length : Int)) (y := (M.length : Int)) (by omega) (by omega) (by omega) (by omega)
  have kmul : IntKind.i64.wrap ((L.length : Int) * M.length) = (L.length : Int) * M.length := IntWalk.i64_in _ (by omega)
  have kd : decide ((6 : Int) < (L.length : Int) * M.length) = false := decide_eq_false (by omega)
  obtain ⟨UL, hU⟩ : ∃ UL, UL = upL (crossG L M) ((L.length : Int) * M.length) := ⟨_, rfl⟩
  have hUl : (UL.length : Int) = (L.length : Int) * M.length := by rw [hU, stU_len]; omega
  have HU := Lib.hid hU
  have HUL := Lib.hid hUl
  have u6 : (UL.length : Int) ≤ 6 := by omega
  clear h h2 hTA hTB l1 l6 k1 k6 hU hUl
  go_enter Tryz.func76, Tryz.ntmps76
  go_wp2_with (first
    | go_skip
    | (rw [← hw1]; clear hw1)
    | (refine wpList_load_row_w rfl 26 _ rfl w.heap.size rfl _ _ _ _ (Kx.out _ (by assumption)) Tryz.underlying26 rfl (size_Alg _ _) ?_)
    | (refine wpList_load_row_w rfl 26 _ rfl (w.heap.size + 1) rfl _ _ _ _ (Kx2.out _ (by assumption)) Tryz.underlying26 rfl (size_Alg _ _) ?_)
    | (go_at_call_of 30 (Value.agg #[.slice (some ⟨ab, ao, none⟩) L.length ca, .slice (some ⟨tb, to, none⟩) T.length cb]); refine (ret_below (validAlgebra_any _ _ _ _ L T _ (KR.out _ z1) (KT.out _ z1)) HA.out).mono ?_; rintro e w2 ⟨rfl, h2⟩; have z2 : Below w1.heap.size w1 w2 := h2; obtain ⟨c0, c1⟩ := bx_cells (Kx.out _ z2); obtain ⟨d0, d1⟩ := bx_cells (Kx2.out _ z2); clear h2)
    | (go_at_call 30; refine (ret_below (validAlgebra_any _ _ _ _ M U _ (KR2.out _ z2) (KT2.out _ z2)) HA2.out).mono ?_; rintro e w3 ⟨rfl, h3⟩; have z3 : Below w1.heap.size w1 w3 := z2.trans (h3.mono z2.size); clear h3 c0 c1 d0 d1; obtain ⟨c0, c1⟩ := bx_cells (Kx.out _ z3); obtain ⟨d0, d1⟩ := bx_cells (Kx2.out _ z3))
    | (go_at_call 79; refine (crossU ab ao mb mo ca ca2 L M UL _ (KC.out _ z3) (KC2.out _ z3) hsA hsB n1 n6 m1 m6 h36 HU.out).mono ?_; intro e w4 hret; obtain ⟨ua, uc, rfl, hu4, hb4⟩ := hret.sl; have z4 : Below w1.heap.size w1 w4 := z3.trans (hb4.mono z3.size); have s3 := z3.size; have s4 := hb4.size; obtain ⟨d0', d1'⟩ := bx_cells (Kx2.out _ z4); clear c0 c1 d0 d1 hret hb4)
    | (refine wpList_store_row rfl 26 _ _ rfl w4.heap.size #[.slice ua UL.length uc, .slice none 0 0] rfl rfl _ _ (heap_alloc_new w4 (.cells #[.slice none 0 0, .slice none 0 0] 26)) (size_Alg _ _) rfl (one_sl2 _ _ _ _ _ _) ?_; rw [World.setRow_alloc_new]; obtain ⟨g, hg⟩ : ∃ g : Nat, g = w4.heap.size := ⟨_, rfl⟩; obtain ⟨w5, hw5⟩ : ∃ x : World, x = w4.alloc (.cells #[.slice ua UL.length uc, .slice none 0 0] 26) := ⟨_, rfl⟩; rw [← hw5, ← hg]; have hx5 : w5.heap[g]? = some (.cells #[.slice ua UL.length uc, .slice none 0 0] 26 (0, 0)) := (by rw [hw5, hg]; exact heap_alloc_new w4 _); have q5 : Below w4.heap.size w4 w5 := (by rw [hw5]; exact (Below.refl _ _).alloc (Nat.le_refl _) _); have hu5 := (hu4.from s3).below q5; have z5 : Below w1.heap.size w1 w5 := z4.trans (q5.mono z4.size); have hgl : w1.heap.size ≤ g := (by rw [hg]; omega); obtain ⟨e0, e1⟩ := bx_cells (Kx2.out _ z5); clear hw5 hg q5 hu4))
  clear kmul kd
  go_loopw [8, 9, 10] (fun xv _ _ wr => ∃ x : Int, 0 ≤ x ∧ x ≤ (UL.length : Int) ∧ xv = .int .i64 x ∧ (∃ v, wr.heap[g]? = some (.cells #[.slice ua UL.length uc, v] 26 (0, 0)) ∧ RowsAt w1.heap.size wr v (tabK (caP T U M.length) (UL.length : Int) x)) ∧ Own w1.heap.size wr (.slice ua UL.length uc) UL ∧ Below w1.heap.size w1 wr) (fun xv _ _ _ => (6 - intOf xv).toNat)
  case atStart => exact ⟨0, by omega, by omega, rfl, ⟨_, hx5, RowsAt.nothing _ _⟩, hu5, z5⟩
  case round =>
    obtain ⟨x, p0, p1, rfl, ⟨v, hxg, hrows⟩, hup, hbel⟩ := hrel
    obtain ⟨tb2, tc2, rfl, _⟩ := hrows.rd
    obtain ⟨f0, f1⟩ := bx_cells hxg
    by_cases hx : x < (UL.length : Int)
    · obtain ⟨wo, rfl⟩ : ∃ wo : World, wo = wr := ⟨_, rfl⟩
      have hlo := hbel.size
      obtain ⟨x0, x1, v0, v1⟩ := div_fits (n := num L) (m := num M) p0 (by omega) (by have := HUL.out; show x < (L.length : Int) * M.length; omega)
      go_wp2
      go_loopw [9, 10] (fun rv yv wr => ∃ y : Int, 0 ≤ y ∧ y ≤ (UL.length : Int) ∧ yv = .int .i64 y ∧ Own wo.heap.size wr rv (lstTo ((caP T U M.length) x) y) ∧ Below wo.heap.size wo wr) (fun _ yv _ => (6 - intOf yv).toNat)
      case atStart => exact ⟨0, by omega, by omega, rfl, Own.row (L := []) (heap_alloc_new wo _) (Nat.le_refl _) (Nat.zero_le _), (Below.refl _ _).alloc (Nat.le_refl _) _⟩
      case round =>
        obtain ⟨y, r0, r1, rfl, hown, hbi⟩ := hrel
        have hgi := (hbi.block g (lt_of_block hxg)).trans hxg
        obtain ⟨f2, f3⟩ := bx_cells hgi
        by_cases hy : y < (UL.length : Int)
        · obtain ⟨y0, y1, z0, z1'⟩ := div_fits (n := num L) (m := num M) r0 (by omega) (by have := HUL.out; show y < (L.length : Int) * M.length; omega)
          have z1 := z1'
          have hbr : Below w1.heap.size w1 wr := hbel.trans (hbi.mono hlo)
          have hsr := hbi.size
          have hsucc := Lib.hid (lstTo_succ ((caP T U M.length) x) y r0)
          have t1 : x.tdiv (M.length : Int) = x / num M := Int.tdiv_eq_ediv_of_nonneg p0
          have t2 : y.tdiv (M.length : Int) = y / num M := Int.tdiv_eq_ediv_of_nonneg r0
          have t3 : x.tmod (M.length : Int) = x % num M := Int.tmod_eq_emod_of_nonneg p0
          have t4 : y.tmod (M.length : Int) = y % num M := Int.tmod_eq_emod_of_nonneg r0
          have hv := Lib.hid (show (caP T U M.length) x y = tv T (x / num M) (y / num M) * (M.length : Int) + tv U (x % num M) (y % num M) from rfl)
          obtain ⟨X, hX⟩ : ∃ X, X = x / num M := ⟨_, rfl⟩
          obtain ⟨Y, hY⟩ : ∃ Y, Y = y / num M := ⟨_, rfl⟩
          obtain ⟨V, hV⟩ : ∃ V, V = x % num M := ⟨_, rfl⟩
          obtain ⟨Z, hZ⟩ : ∃ Z, Z = y % num M := ⟨_, rfl⟩
          rw [← hX] at x0 x1 t1 hv
          rw [← hY] at y0 y1 t2 hv
          rw [← hV] at v0 v1 t3 hv
          rw [← hZ] at z0 z1 t4 hv
          clear hX hY hV hZ z1'
          have t5 : IntKind.i64.wrap X = X := IntWalk.i64_in _ (by omega)
          have t6 : IntKind.i64.wrap Y = Y := IntWalk.i64_in _ (by omega)
          have t7 : IntKind.i64.wrap V = V := IntWalk.i64_in _ (by omega)
          have t8 : IntKind.i64.wrap Z = Z := IntWalk.i64_in _ (by omega)
          have hzz : ((M.length : Int) == 0) = false := by rw [beq_eq_false_iff_ne]; omega
          have hzz2 : (M.length : Int) ≠ 0 := by omega
          have hMe : M ≠ [] := fun e => by rw [e] at hzz2; simp at hzz2
          have hMe2 : ¬ M.length = 0 := by omega
          have hMe3 : (0 : Int) < M.length := by omega
          obtain ⟨a0, a1⟩ := tv_el HA.out (show El L X from ⟨x0, x1⟩) (show El L Y from ⟨y0, y1⟩)
          obtain ⟨b0, b1⟩ := tv_el HA2.out (show El M V from ⟨v0, v1⟩) (show El M Z from ⟨z0, z1⟩)
          obtain ⟨g0, g1, g2, g3⟩ := ca_bound (a := tv T X Y) (m := (M.length : Int)) (b := tv U V Z) a0 (by omega) (by omega) m6 b0 (by omega)
          have k1 : IntKind.i64.wrap (tv T X Y * (M.length : Int)) = tv T X Y * (M.length : Int) := IntWalk.i64_in _ (by omega)
          have k2 : IntKind.i64.wrap (tv T X Y * (M.length : Int) + tv U V Z) = tv T X Y * (M.length : Int) + tv U V Z := IntWalk.i64_in _ (by omega)
          have xt : X < (T.length : Int) := by have := shape_len (alg_shape HA.out); omega
          have vt : V < (U.length : Int) := by have := shape_len (alg_shape HA2.out); omega
          have yl : Y < (L.length : Int) := by omega
          have zl : Z < (M.length : Int) := by omega
          obtain ⟨va, vc, rfl, _⟩ := hown.slice
          have c0 : wr.cell? ⟨w.heap.size, 1, none⟩ = some (.slice (some ⟨tb, to, none⟩) T.length cb) := (bx_cells (Kx.out _ hbr)).2
          have c1 : wr.cell? ⟨w.heap.size + 1, 1, none⟩ = some (.slice (some ⟨ub, uo, none⟩) U.length cb2) := (bx_cells (Kx2.out _ hbr)).2
          have c2 : wr.cell? ⟨tb, to + X.toNat, none⟩ = some (.slice (some ⟨rb X, ro X, none⟩) L.length (rc X)) := (KA.out _ hbr).row x0 x1
          have c3 : wr.cell? ⟨rb X, ro X + Y.toNat, none⟩ = some (.int .i64 (tv T X Y)) := (KA.out _ hbr).cell x0 x1 y0 y1
          have c4 : wr.cell? ⟨ub, uo + V.toNat, none⟩ = some (.slice (some ⟨sb V, so V, none⟩) M.length (sc V)) := (KB.out _ hbr).row v0 v1
          have c5 : wr.cell? ⟨sb V, so V + Z.toNat, none⟩ = some (.int .i64 (tv U V Z)) := (KB.out _ hbr).cell v0 v1 z0 z1
          have b0' : w.heap.size < wo.heap.size := by omega
          have b1' : w.heap.size + 1 < wo.heap.size := by omega
          have b2' : tb < wo.heap.size := by have := block_lt_of_cell ((KA.out _ (Below.refl _ _)).row x0 x1); simp at this; omega
          have b3' : rb X < wo.heap.size := by have := block_lt_of_cell ((KA.out _ (Below.refl _ _)).cell x0 x1 y0 y1); simp at this; omega
          have b4' : ub < wo.heap.size := by have := block_lt_of_cell ((KB.out _ (Below.refl _ _)).row v0 v1); simp at this; omega
          have b5' : sb V < wo.heap.size := by have := block_lt_of_cell ((KB.out _ (Below.refl _ _)).cell v0 v1 z0 z1); simp at this; omega
          have hno : ∀ B, B < wo.heap.size → some B ≠ (Value.slice va (lstTo ((caP T U M.length) x) y).length vc).ownBlock := fun B hB e => by
            have := (World.ownsRow.lt hown B e.symm).1
            omega
          have HNO := Lib.hid hno
          have OW := Lib.hid hown
          clear hno hown f0 f1
          go_wp2
          go_region_held3 (fun w' => w'.cell? ⟨w.heap.size, 1, none⟩ = some (.slice (some ⟨tb, to, none⟩) T.length cb) ∧ w'.cell? ⟨w.heap.size + 1, 1, none⟩ = some (.slice (some ⟨ub, uo, none⟩) U.length cb2) ∧ w'.cell? ⟨tb, to + X.toNat, none⟩ = some (.slice (some ⟨rb X, ro X, none⟩) L.length (rc X)) ∧ w'.cell? ⟨rb X, ro X + Y.toNat, none⟩ = some (.int .i64 (tv T X Y)) ∧ w'.cell? ⟨ub, uo + V.toNat, none⟩ = some (.slice (some ⟨sb V, so V, none⟩) M.length (sc V)) ∧ w'.cell? ⟨sb V, so V + Z.toNat, none⟩ = some (.int .i64 (tv U V Z)))
            (first
              | go_keep
              | (go_split_ands
                 refine ⟨?_, ?_, ?_, ?_, ?_, ?_⟩
                 · (rw [hgrow.cell_far _ (by simp; omega) (HNO.out _ b0')]; assumption)
                 · (rw [hgrow.cell_far _ (by simp; omega) (HNO.out _ b1')]; assumption)
                 · (rw [hgrow.cell_far _ (by simp; omega) (HNO.out _ b2')]; assumption)
                 · (rw [hgrow.cell_far _ (by simp; omega) (HNO.out _ b3')]; assumption)
                 · (rw [hgrow.cell_far _ (by simp; omega) (HNO.out _ b4')]; assumption)
                 · (rw [hgrow.cell_far _ (by simp; omega) (HNO.out _ b5')]; assumption)))
            ((refine step_append_lies _ (by rfl) _ _ _ (by rfl) wo.heap.size 3 i0 _ 1 8 Tryz.underlying23 hi hz0 hz1 hz2 rfl (by omega) _ _ _ (by rfl) (World.ownsRow.drew (World.ownsRow.alloc OW.out _))
                ⟨wr.heap.size, 0, none⟩ 1 1 [.int .i64 (tv T X Y * (M.length : Int) + tv U V Z)] (by rfl) (by rfl) (World.news_of_block (cs := #[.int .i64 (tv T X Y * (M.length : Int) + tv U V Z)]) (t := 3) (fr := (0, 0)) (heap_alloc_new wr _)) (by simp [Value.oneCell'])
                (by omega) (by have := lstTo_len ((caP T U M.length) x) y r0; unfold maxLen; omega) (by have := lstTo_len ((caP T U M.length) x) y r0; omega) (by simp; omega) (wr.heap.size + 1) (by simp) ?_; intro gg cap w9 hown1 hgrow hat hlt))
          have hb9 : Below wo.heap.size wo w9 := ((hbi.alloc hsr _).drew).grown hgrow (by simp; omega) (fun q hq => (World.ownsRow.lt OW.out q hq).1)
          clear c0 c1 c2 c3 c4 c5 hgrow hat
          go_wp2
          exact ⟨⟨y + 1, by omega, by omega, rfl, by unfold Own; rw [hsucc.out, hv.out, List.map_append, List.length_append]; exact hown1, hb9⟩, by simp [intOf]; omega⟩
        · have e : y = (UL.length : Int) := by omega
          rw [e] at hown
          obtain ⟨ra, rc, rfl, _⟩ := hown.slice
          have hg1 := (hbi.block g (lt_of_block hxg)).trans hxg
          obtain ⟨d0, d1⟩ := bx_cells hg1
          obtain ⟨vs, h1v, h2v⟩ := hrows.below hbi
          obtain ⟨o4, ho4⟩ : ∃ o4, o4 = Obj.cells #[.slice ra (lstTo ((caP T U M.length) x) (UL.length : Int)).length rc] 23 := ⟨_, rfl⟩
          have h1a := World.ownsRow.alloc h1v o4
          have h2a := Lib.hid (show ∀ j : Nat, j < (tabK (caP T U M.length) (UL.length : Int) x).length → ∃ u, vs[j]? = some u ∧ Own w1.heap.size (wr.alloc o4) u (rowAt (tabK (caP T U M.length) (UL.length : Int) x) j) from fun j hj => by obtain ⟨u, hu, ho⟩ := h2v j hj; exact ⟨u, hu, ho.alloc _⟩)
          have hra := (hown.from hlo).alloc o4
          have hupa := (hup.below hbi).alloc o4
          have hga := (heap_alloc_old wr o4 (lt_of_block hg1)).trans hg1
          have hsz2 := hbi.size
          have hbb : Below w1.heap.size w1 (wr.alloc o4) := (hbel.trans (hbi.mono hlo)).alloc (by omega) _
          have tl := Lib.hid (tabK_len (caP T U M.length) (UL.length : Int) x)
          rw [ho4] at h1a hra hupa hga hbb
          rw [ho4] at h2a
          clear h2v hup hrows ho4
          go_wp2_with (first
            | (at_builtin; refine wpList_append_own _ rfl _ _ 24 rfl w1.heap.size 23 i1 (.slice none 0 0) 1 24 Tryz.underlying24 hi1 hy0 hy1 hy2 rfl (by decide) _ _ _ rfl h1a ⟨wr.heap.size, 0, none⟩ 1 1 [.slice ra (lstTo ((caP T U M.length) x) (UL.length : Int)).length rc] rfl rfl (cell_one_new _ _ _) (fun x hx => by simp at hx; subst hx; rfl) (by have := tl.out; unfold maxLen; omega) (by have := tl.out; omega) (by simp; omega) ?_; intro v' w5 hown1 hgrow _; have hg5 := grown_keep hgrow h1a hga (by decide); have hr5 := RowsAt.push h1a h2a.out hra hown1 hgrow; obtain ⟨e0, e1⟩ := bx_cells hg5; have ff := frozen_of_row w5 _ 1 _ _ hg5; obtain ⟨nb, nc, rfl, _⟩ := hr5.rd))
          have hup5 := World.ownsRow.kept hupa hgrow (own_types hupa h1a (by decide))
          have hb5 : Below w1.heap.size w1 w5 := hbb.grown hgrow (by simp; omega) (fun q hq => (World.ownsRow.lt h1a q hq).1)
          rw [show (tabK (caP T U M.length) (UL.length : Int) x ++ [lstTo ((caP T U M.length) x) (UL.length : Int)]).length = (tabK (caP T U M.length) (UL.length : Int) x).length + 1 by simp, ← tabK_succ (caP T U M.length) (UL.length : Int) x p0] at hr5
          have ho : ∀ k, k ≠ g → (w5.setCell ⟨g, 1, none⟩ (.slice nb ((tabK (caP T U M.length) (UL.length : Int) x).length + 1) nc)).heap[k]? = w5.heap[k]? := fun k hk => heap_setCell_other w5 _ k _ hk
          refine ⟨⟨x + 1, by omega, by omega, rfl, ⟨.slice nb ((tabK (caP T U M.length) (UL.length : Int) x).length + 1) nc, ?_, RowsAt.other hr5 hg5 (by decide) (by decide) ho⟩, ownsRow_other hup5 hg5 (by decide) ho, hb5.setCell (by simp; omega) _⟩, by simp [intOf]; omega⟩
          rw [setCell_eq_setRow w5 _ _ _ _ _ _ hg5, setRow_heap w5 _ _ _ _ _ hg5]
          rfl
    · have e : x = (UL.length : Int) := by omega
      rw [e] at hrows hxg
      have hz := Kz.out _ hbel
      go_wp2_with (first
        | (refine wpList_load_row_w rfl 26 _ rfl g rfl _ _ _ _ hxg Tryz.underlying26 rfl (size_Alg _ _) ?_)
        | (refine wpList_store_row rfl 26 _ _ rfl (w.heap.size + 1 + 1) #[.slice ua UL.length uc, .slice tb2 (tabK (caP T U M.length) (UL.length : Int) (UL.length : Int)).length tc2] rfl rfl _ _ hz (size_Alg _ _) rfl (one_sl2 _ _ _ _ _ _) ?_))
      refine bodyPost_ret (v := .tuple #[.agg #[.slice ua UL.length uc, .slice tb2 (tabK (caP T U M.length) (UL.length : Int) (UL.length : Int)).length tc2], .bool true]) (results_Alg_tmp rfl _ _ (w.heap.size + 1 + 1) rfl _ _ (setRow_heap _ _ _ _ _ _ hz) rfl) rfl ?_
      have hk : ∀ k, k ≠ w.heap.size + 1 + 1 → (wr.setRow (w.heap.size + 1 + 1) #[.slice ua UL.length uc, .slice tb2 (tabK (caP T U M.length) (UL.length : Int) (UL.length : Int)).length tc2]).heap[k]? = wr.heap[k]? := fun k hk => setRow_other wr _ k _ hk
      have hT6 := RowsAt.other hrows hz (by decide) (by decide) hk
      have hU6 := ownsRow_other hup hz (by decide) hk
      have hTL : tabK (caP T U M.length) (UL.length : Int) (UL.length : Int) = caT L T M U := by rw [tabK_all, HV.out.2.2, HUL.out]
      have hLL : UL = caL L T M U := by rw [HU.out, HV.out.2.1]
      rw [HV.out.1, ← hLL, ← hTL]
      exact ⟨_, _, _, _, _, _, rfl, oa_of (by have := hB.size; omega) hU6 hT6, below_setRow' (hB.trans (hbel.mono hB.size)) (by omega) _⟩
/-- spec.CrossAlgebras -/
theorem specCrossAlgebras_any (a b : Option Addr) (ca cb : Nat) (L : List Int) (T : List (List Int)) (a2 b2 : Option Addr) (ca2 cb2 : Nat) (M : List Int) (U : List (List Int)) (w : World) (hr : Rd w a L) (hT : RdT w b T) (hr2 : Rd w a2 M) (hT2 : RdT w b2 U) : Calls Tryz.prog 76 #[.agg #[.slice a L.length ca, .slice b T.length cb], .agg #[.slice a2 M.length ca2, .slice b2 U.length cb2]] w (RetSAb (caL L T M U) (caT L T M U) (caOk L T M U) w) := by
  cases h : algB L T <;> cases h2 : algB M U
  · exact specCross_ff a b ca cb L T a2 b2 ca2 cb2 M U w hr hT hr2 hT2 h h2
  · exact specCross_ft a b ca cb L T a2 b2 ca2 cb2 M U w hr hT hr2 hT2 h h2
  · exact specCross_tf a b ca cb L T a2 b2 ca2 cb2 M U w hr hT hr2 hT2 h h2
  · by_cases h3 : ((L.length : Int) * M.length) ≤ 6
    · exact specCross_yes a b ca cb L T a2 b2 ca2 cb2 M U w hr hT hr2 hT2 h h2 h3
    · exact specCross_big a b ca cb L T a2 b2 ca2 cb2 M U w hr hT hr2 hT2 h h2 h3
end Go.Proofs.YtpophjloedpcfaaGreatDoor

/- Meets as products. -/
namespace Go.Proofs.YtpophjloedpcfaaGreatDoor

theorem mt_comm2 {L : List Int} (h : latB L = true) {x y : Int} (hx : El L x) (hy : El L y) : mt L x y = mt L y x :=
  bl_anti h (mt_el h hx hy) (mt_el h hy hx) (mt_ge h hy hx (mt_el h hx hy) (mt_lb2 h hx hy) (mt_lb1 h hx hy)) (mt_ge h hx hy (mt_el h hy hx) (mt_lb2 h hy hx) (mt_lb1 h hy hx))
theorem mt_assoc2 {L : List Int} (h : latB L = true) {x y z : Int} (hx : El L x) (hy : El L y) (hz : El L z) : mt L (mt L x y) z = mt L x (mt L y z) := by
  have e1 := mt_el h hx hy
  have e2 := mt_el h hy hz
  have e3 := mt_el h e1 hz
  have e4 := mt_el h hx e2
  refine bl_anti h e3 e4 (mt_ge h hx e2 e3 ?_ (mt_ge h hy hz e3 ?_ (mt_lb2 h e1 hz))) (mt_ge h e1 hz e4 (mt_ge h hx hy e4 (mt_lb1 h hx e2) ?_) ?_)
  · exact bl_trans h e3 e1 hx (mt_lb1 h e1 hz) (mt_lb1 h hx hy)
  · exact bl_trans h e3 e1 hy (mt_lb1 h e1 hz) (mt_lb2 h hx hy)
  · exact bl_trans h e4 e2 hy (mt_lb2 h hx e2) (mt_lb1 h hy hz)
  · exact bl_trans h e4 e2 hz (mt_lb2 h hx e2) (mt_lb2 h hy hz)
end Go.Proofs.YtpophjloedpcfaaGreatDoor

namespace Go.Proofs.YtpophjloedpcfaaGreatDoor
open Go.RowKit

/-- meets as products: the rows -/
def mtT (L : List Int) : List (List Int) := tabL (mt L) (num L)
theorem mtT_tv {L : List Int} {x y : Int} (hx : El L x) (hy : El L y) : tv (mtT L) x y = mt L x y := tabL_tv _ hx.1 hx.2 hy.1 hy.2
theorem mtT_shape {L : List Int} (h : latB L = true) : shapeB L (mtT L) = true := by
  have hn := (lat_len h).1
  refine shape_t (m := num L) (by unfold mtT; rw [tabL_len]; omega) (Int.le_refl _) fun x x0 x1 => ?_
  have hr : rowAt (mtT L) x = lstTo (mt L x) (num L) := by
    have := tabL_row (mt L) (n := num L) (j := x.toNat) (by omega)
    rw [Int.toNat_of_nonneg x0] at this
    exact this
  refine rowOk_t (m := num L) (by rw [hr]; exact lstTo_len _ _ (by omega)) (Int.le_refl _) fun y y0 y1 => ?_
  have := lat_mt h x0 x1 y0 y1
  unfold cellOk
  rw [mtT_tv ⟨x0, x1⟩ ⟨y0, y1⟩, decide_eq_true this.1, decide_eq_true (show mt L x y ≤ num L - 1 by omega)]; rfl
theorem mtT_go {L : List Int} (h : latB L = true) {x y z : Int} (hx : El L x) (hy : El L y) (hz : El L z) : goQ L (mtT L) x y z = distXYZ L x y z := by
  unfold goQ distXYZ
  rw [mtT_tv hx hy, mtT_tv hx hz, mtT_tv hx (jn_el h hy hz)]
theorem mtT_as {L : List Int} (h : latB L = true) {x y z : Int} (hx : El L x) (hy : El L y) (hz : El L z) : asQ (mtT L) x y z = true := by
  unfold asQ
  rw [mtT_tv hx hy, mtT_tv hy hz, mtT_tv (mt_el h hx hy) hz, mtT_tv hx (mt_el h hy hz), mt_assoc2 h hx hy hz]
  simp
theorem mtT_kb {L : List Int} (h : latB L = true) {x : Int} (hx : El L x) : (tv (mtT L) x (num L - 1) == x && tv (mtT L) x 0 == 0) = true := by
  have hn := (lat_len h).1
  have ht : El L (num L - 1) := ⟨by omega, by omega⟩
  have h0 : El L 0 := ⟨by omega, by omega⟩
  rw [mtT_tv hx ht, mtT_tv hx h0, mt_of_le h hx ht (bl_top h hx), mt_of_ge h hx h0 (bl_low h hx)]
  simp
theorem mtT_alg {L : List Int} (h : latB L = true) : algB L (mtT L) = distB L := by
  unfold algB distB
  rw [h, mtT_shape h, Bool.true_and, Bool.true_and]
  refine allI_congr fun x x0 x1 => ?_
  unfold lwX distX
  rw [mtT_kb h ⟨x0, x1⟩, Bool.true_and]
  refine allI_congr fun y y0 y1 => ?_
  unfold lwXY distXY
  rw [mtT_tv ⟨x0, x1⟩ ⟨y0, y1⟩, mtT_tv ⟨y0, y1⟩ ⟨x0, x1⟩, mt_comm2 h ⟨x0, x1⟩ ⟨y0, y1⟩, beq_self_eq_true, Bool.true_and]
  refine allI_congr fun z z0 z1 => ?_
  unfold lwXYZ
  rw [mtT_as h ⟨x0, x1⟩ ⟨y0, y1⟩ ⟨z0, z1⟩, Bool.true_and]
  exact mtT_go h ⟨x0, x1⟩ ⟨y0, y1⟩ ⟨z0, z1⟩
end Go.Proofs.YtpophjloedpcfaaGreatDoor

namespace Go.Proofs.YtpophjloedpcfaaGreatDoor
open Go.RowKit

set_option maxRecDepth 100000 in
set_option maxHeartbeats 2000000 in
/-- spec.meetAlgebra -/
theorem specMeetA_any (a : Option Addr) (ca : Nat) (L : List Int) (w : World) (hr : Rd w a L) (h : latB L = true) :
    Calls Tryz.prog 78 #[.slice a L.length ca] w (RetRd L (tabL (mt L) L.length) w) := by
  obtain ⟨h1, h6, hs⟩ := latB_parts h
  obtain ⟨i0, hi, hz0, hz1, hz2⟩ := info_parts info_int
  obtain ⟨i1, hi1, hy0, hy1, hy2⟩ := info_parts info_ints
  obtain ⟨b, off, rfl, hn⟩ := rd_news hr (lat_ne h1)
  obtain ⟨w1, hw1⟩ : ∃ w1, w1 = w.alloc (.cells #[.slice none 0 0, .slice none 0 0] 26) := ⟨_, rfl⟩
  have hB : Below w.heap.size w w1 := by rw [hw1]; exact (Below.refl _ _).alloc (Nat.le_refl _) _
  have hz : w1.heap[w.heap.size]? = some (.cells #[.slice none 0 0, .slice none 0 0] 26 (0, 0)) := by rw [hw1]; exact heap_alloc_new w _
  have Kz := Lib.hid (show ∀ wz, Below w1.heap.size w1 wz → wz.heap[w.heap.size]? = some (.cells #[.slice none 0 0, .slice none 0 0] 26 (0, 0)) from fun wz h => (h.block _ (lt_of_block hz)).trans hz)
  have HN := Lib.hid (show ∀ j u, (L.map fun x => Value.int .i64 x)[j]? = some u → w1.cell? ((⟨b, off, none⟩ : Addr).add j) = some u from fun j u hj => (hB.cell (by exact block_lt_of_cell (hn j u hj))).trans (hn j u hj))
  have KC := Lib.hid (show ∀ wz, Below w1.heap.size w1 wz → Cells wz b off L from fun wz h => by
    obtain ⟨b', off', e, hc⟩ := ((hr.below hB).below h) (lat_ne h1)
    simp only [Option.some.injEq, Addr.mk.injEq] at e
    rw [e.1, e.2.1]; exact hc)
  have hsz := lt_of_block hz
  have HL := Lib.hid h
  have hnum : num L = L.length := rfl
  rw [hnum] at h1 h6
  clear hz hn hr hnum
  go_enter Tryz.func78, Tryz.ntmps78
  go_wp2_with (first
    | (rw [← hw1]; clear hw1)
    | (at_builtin; refine wpList_append_own _ rfl _ _ 23 rfl w1.heap.size 3 i0 (.int .i64 0) 1 8 Tryz.underlying23 hi hz0 hz1 hz2 rfl (by decide) _ _ _ rfl (Own.row (L := []) (heap_alloc_new w1 _) (Nat.le_refl _) (Nat.zero_le _)) ⟨b, off, none⟩ L.length ca (L.map fun x => Value.int .i64 x) rfl (by simp) (old_news _ HN.out) (fun x hx => by simp at hx; obtain ⟨y, _, rfl⟩ := hx; rfl) (by unfold maxLen; simp; omega) (by simp; omega) (by simp) ?_; intro v' w2 hown1 hgrow _; have hu2 : Own w1.heap.size w2 v' L := (by unfold Own; simpa using hown1); obtain ⟨ua, uc, rfl, _⟩ := hu2.slice; have hb2 := ((Below.refl w1.heap.size w1).alloc (Nat.le_refl _) _).grown hgrow (by simp) (fun q hq => (World.ownsRow.lt (Own.row (L := []) (heap_alloc_new w1 _) (Nat.le_refl _) (Nat.zero_le _)) q hq).1); clear hgrow hown1)
    | (refine wpList_store_row rfl 26 _ _ rfl w2.heap.size #[.slice ua L.length uc, .slice none 0 0] rfl rfl _ _ (heap_alloc_new w2 (.cells #[.slice none 0 0, .slice none 0 0] 26)) (size_Alg _ _) rfl (one_sl2 _ _ _ _ _ _) ?_; rw [World.setRow_alloc_new]; obtain ⟨g, hg⟩ : ∃ g, g = w2.heap.size := ⟨_, rfl⟩; obtain ⟨w3, hw3⟩ : ∃ w3, w3 = w2.alloc (.cells #[.slice ua L.length uc, .slice none 0 0] 26) := ⟨_, rfl⟩; rw [← hw3, ← hg]; have hx3 : w3.heap[g]? = some (.cells #[.slice ua L.length uc, .slice none 0 0] 26 (0, 0)) := (by rw [hw3, hg]; exact heap_alloc_new w2 _); have q3 : Below w2.heap.size w2 w3 := (by rw [hw3]; exact (Below.refl _ _).alloc (Nat.le_refl _) _); have hu3 := hu2.below q3; have z3 : Below w1.heap.size w1 w3 := hb2.trans (q3.mono hb2.size); have hgl : w1.heap.size ≤ g := (by rw [hg]; exact hb2.size); clear hw3 hg q3 hu2 hb2))
  go_loopw [4, 5, 6] (fun xv _ _ wr => ∃ x : Int, 0 ≤ x ∧ x ≤ L.length ∧ xv = .int .i64 x ∧ (∃ v, wr.heap[g]? = some (.cells #[.slice ua L.length uc, v] 26 (0, 0)) ∧ RowsAt w1.heap.size wr v (tabK (mt L) L.length x)) ∧ Own w1.heap.size wr (.slice ua L.length uc) L ∧ Below w1.heap.size w1 wr) (fun xv _ _ _ => (6 - intOf xv).toNat)
  case atStart => exact ⟨0, by omega, by omega, rfl, ⟨_, hx3, RowsAt.nothing _ _⟩, hu3, z3⟩
  case round =>
    obtain ⟨x, x0, x1, rfl, ⟨v, hxg, hrows⟩, hup, hbel⟩ := hrel
    obtain ⟨tb, tc, rfl, _⟩ := hrows.rd
    by_cases hx : x < L.length
    · obtain ⟨wo, rfl⟩ : ∃ wo : World, wo = wr := ⟨_, rfl⟩
      have hlo := hbel.size
      go_wp2
      go_loopw [5, 6] (fun rv yv wr => ∃ y : Int, 0 ≤ y ∧ y ≤ L.length ∧ yv = .int .i64 y ∧ Own wo.heap.size wr rv (lstTo (mt L x) y) ∧ Below wo.heap.size wo wr) (fun _ yv _ => (6 - intOf yv).toNat)
      case atStart => exact ⟨0, by omega, by omega, rfl, Own.row (L := []) (heap_alloc_new wo _) (Nat.le_refl _) (Nat.zero_le _), (Below.refl _ _).alloc (Nat.le_refl _) _⟩
      case round =>
        obtain ⟨y, y0, y1, rfl, hown, hbi⟩ := hrel
        by_cases hy : y < L.length
        · have hlen := lstTo_len (mt L x) y y0
          have hsucc := Lib.hid (lstTo_succ (mt L x) y y0)
          have hC := Lib.hid (meet_any b off ca L x y wr (KC.out _ (hbel.trans (hbi.mono hlo))) hs x0 hx y0 hy)
          have hm := lat_mt HL.out x0 hx y0 hy
          have hmn : num L = L.length := rfl
          rw [hmn] at hm
          clear hmn
          go_wp2_with (first
            | (go_at_call 97; refine (hC.out).mono ?_; rintro e w4 ⟨rfl, rfl⟩)
            | (at_builtin; refine wpList_append_own _ rfl _ _ 23 rfl wo.heap.size 3 i0 (.int .i64 0) 1 8 Tryz.underlying23 hi hz0 hz1 hz2 rfl (by decide) _ _ _ rfl (World.ownsRow.alloc hown _) ⟨wr.heap.size, 0, none⟩ 1 1 [.int .i64 (mt L x y)] rfl rfl (cell_one_new _ _ _) (fun x hx => by simp at hx; subst hx; rfl) (by unfold maxLen; omega) (by omega) (by have := hbi.size; simp; omega) ?_; intro v' w5 hown1 hgrow _))
          exact ⟨⟨y + 1, by omega, by omega, rfl, by unfold Own; rw [hsucc.out, List.map_append, List.length_append]; exact hown1, (hbi.alloc hbi.size _).grown hgrow (by have := hbi.size; simp; omega) (fun q hq => (World.ownsRow.lt hown q hq).1)⟩, by simp [intOf]; omega⟩
        · have e : y = L.length := by omega
          rw [e] at hown
          obtain ⟨ra, rc, rfl, _⟩ := hown.slice
          have hg1 := (hbi.block g (lt_of_block hxg)).trans hxg
          obtain ⟨d0, d1⟩ := bx_cells hg1
          obtain ⟨vs, h1v, h2v⟩ := hrows.below hbi
          obtain ⟨o4, ho4⟩ : ∃ o4, o4 = Obj.cells #[.slice ra (lstTo (mt L x) L.length).length rc] 23 := ⟨_, rfl⟩
          have h1a := World.ownsRow.alloc h1v o4
          have h2a := Lib.hid (show ∀ j : Nat, j < (tabK (mt L) L.length x).length → ∃ u, vs[j]? = some u ∧ Own w1.heap.size (wr.alloc o4) u (rowAt (tabK (mt L) L.length x) j) from fun j hj => by obtain ⟨u, hu, ho⟩ := h2v j hj; exact ⟨u, hu, ho.alloc _⟩)
          have hra := (hown.from hlo).alloc o4
          have hupa := (hup.below hbi).alloc o4
          have hga := (heap_alloc_old wr o4 (lt_of_block hg1)).trans hg1
          have hsz2 := hbi.size
          have hbb : Below w1.heap.size w1 (wr.alloc o4) := (hbel.trans (hbi.mono hlo)).alloc (by omega) _
          have tl := Lib.hid (tabK_len (mt L) L.length x)
          rw [ho4] at h1a hra hupa hga hbb
          rw [ho4] at h2a
          clear h2v hup hrows ho4
          go_wp2_with (first
            | (at_builtin; refine wpList_append_own _ rfl _ _ 24 rfl w1.heap.size 23 i1 (.slice none 0 0) 1 24 Tryz.underlying24 hi1 hy0 hy1 hy2 rfl (by decide) _ _ _ rfl h1a ⟨wr.heap.size, 0, none⟩ 1 1 [.slice ra (lstTo (mt L x) L.length).length rc] rfl rfl (cell_one_new _ _ _) (fun x hx => by simp at hx; subst hx; rfl) (by have := tl.out; unfold maxLen; omega) (by have := tl.out; omega) (by simp; omega) ?_; intro v' w5 hown1 hgrow _; have hg5 := grown_keep hgrow h1a hga (by decide); have hr5 := RowsAt.push h1a h2a.out hra hown1 hgrow; obtain ⟨e0, e1⟩ := bx_cells hg5; have ff := frozen_of_row w5 _ 1 _ _ hg5; obtain ⟨nb, nc, rfl, _⟩ := hr5.rd))
          have hup5 := World.ownsRow.kept hupa hgrow (own_types hupa h1a (by decide))
          have hb5 : Below w1.heap.size w1 w5 := hbb.grown hgrow (by simp; omega) (fun q hq => (World.ownsRow.lt h1a q hq).1)
          rw [show (tabK (mt L) L.length x ++ [lstTo (mt L x) L.length]).length = (tabK (mt L) L.length x).length + 1 by simp, ← tabK_succ (mt L) L.length x x0] at hr5
          have ho : ∀ k, k ≠ g → (w5.setCell ⟨g, 1, none⟩ (.slice nb ((tabK (mt L) L.length x).length + 1) nc)).heap[k]? = w5.heap[k]? := fun k hk => heap_setCell_other w5 _ k _ hk
          refine ⟨⟨x + 1, by omega, by omega, rfl, ⟨.slice nb ((tabK (mt L) L.length x).length + 1) nc, ?_, RowsAt.other hr5 hg5 (by decide) (by decide) ho⟩, ownsRow_other hup5 hg5 (by decide) ho, hb5.setCell (by simp; omega) _⟩, by simp [intOf]; omega⟩
          rw [setCell_eq_setRow w5 _ _ _ _ _ _ hg5, setRow_heap w5 _ _ _ _ _ hg5]
          rfl
    · have e : x = L.length := by omega
      rw [e] at hrows hxg
      have hz := Kz.out _ hbel
      go_wp2_with (first
        | (refine wpList_load_row_w rfl 26 _ rfl g rfl _ _ _ _ hxg Tryz.underlying26 rfl (size_Alg _ _) ?_)
        | (refine wpList_store_row rfl 26 _ _ rfl w.heap.size #[.slice ua (L).length uc, .slice tb (tabK (mt L) L.length L.length).length tc] rfl rfl _ _ hz (size_Alg _ _) rfl (one_sl2 _ _ _ _ _ _) ?_))
      refine bodyPost_ret (results_cell_row rfl _ _ w.heap.size _ _ _ _ rfl (setRow_heap _ _ _ _ _ _ hz) Tryz.underlying26 rfl (size_Alg _ _)) rfl ?_
      have hr6 := RowsAt.other hrows hz (by decide) (by decide) (fun k hk => setRow_other wr w.heap.size k #[.slice ua (L).length uc, .slice tb (tabK (mt L) L.length L.length).length tc] hk)
      have hu6 := ownsRow_other hup hz (by decide) (fun k hk => setRow_other wr w.heap.size k #[.slice ua (L).length uc, .slice tb (tabK (mt L) L.length L.length).length tc] hk)
      exact ⟨ua, uc, tb, tc, rfl, ownsRow_from hu6 hB.size, RowsAt.from hr6 hB.size, below_setRow' (hB.trans (hbel.mono hB.size)) (Nat.le_refl _) _⟩

/-- the algebra of meets, where there is one -/
def mtOk (L : List Int) : Bool := latB L && distB L
def mtLL (L : List Int) : List Int := if mtOk L then L else []
def mtTT (L : List Int) : List (List Int) := if mtOk L then tabL (mt L) L.length else []
theorem mt_yes {L : List Int} (h1 : latB L = true) (h2 : distB L = true) : mtOk L = true ∧ mtLL L = L ∧ mtTT L = tabL (mt L) L.length := by
  have h : mtOk L = true := by unfold mtOk; rw [h1, h2]; rfl
  exact ⟨h, by unfold mtLL; rw [h]; rfl, by unfold mtTT; rw [h]; rfl⟩
theorem mt_no {L : List Int} (h : mtOk L = false) : mtLL L = [] ∧ mtTT L = [] := ⟨by unfold mtLL; rw [h]; rfl, by unfold mtTT; rw [h]; rfl⟩
theorem mt_ti (L : List Int) : Ti (mtLL L) (mtTT L) := by
  cases h : mtOk L with
  | false => rw [(mt_no h).1, (mt_no h).2]; exact Ti.zero
  | true =>
    have h1 : latB L = true := by unfold mtOk at h; exact (Bool.and_eq_true_iff.1 h).1
    have h2 : distB L = true := by unfold mtOk at h; exact (Bool.and_eq_true_iff.1 h).2
    rw [(mt_yes h1 h2).2.1, (mt_yes h1 h2).2.2]
    have h6 := (lat_len h1).2
    have hn : num L = L.length := rfl
    refine ⟨by omega, by rw [tabL_len]; omega, fun j hj => ?_⟩
    rw [tabL_len] at hj
    rw [tabL_rlen _ hj]; omega
end Go.Proofs.YtpophjloedpcfaaGreatDoor

namespace Go.Proofs.YtpophjloedpcfaaGreatDoor
open Go.RowKit
set_option linter.unusedVariables false

end Go.Proofs.YtpophjloedpcfaaGreatDoor
