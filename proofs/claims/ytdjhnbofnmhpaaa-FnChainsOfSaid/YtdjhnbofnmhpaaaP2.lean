import Derived.Test.YtdjhnbofnmhpaaaY1
import Derived.Test.YtdjhnbofnmhpaaaU3
import Derived.Maps.AppendAt
import Derived.Test.YtdjhnbofnmhpaaaG3
import Derived.Deep.RegionHeld3
import Derived.Deep.AppendLies
import Derived.Test.YtdjhnbofnmhpaaaM5
import Derived.Test.YtdjhnbofnmhpaaaW4
import Derived.Test.YtdjhnbofnmhpaaaH10
namespace Go.Proofs.Ytdjhnbofnmhpaaa
open Go.RowKit

theorem runs_move1 {P : Program} {o : Oper} {a : Act} (x : Operand) (ho : o.op = .move x) (v : Value) (hx : a.eval x = v) (w : World) : (execOp a.eval o).run P w = .ok (.value v) w := by
  subst hx
  unfold execOp
  simp [ho]
theorem rd_news {w : World} {a : Option Addr} {L : List Int} (h : Rd w a L) (hL : L ≠ []) : ∃ b off, a = some ⟨b, off, none⟩ ∧ ∀ j u, (L.map fun x => Value.int .i64 x)[j]? = some u → w.cell? ((⟨b, off, none⟩ : Addr).add j) = some u := by
  obtain ⟨b, off, rfl, hc⟩ := h hL
  refine ⟨b, off, rfl, fun j u hj => ?_⟩
  rw [List.getElem?_map] at hj
  cases hx : L[j]? with
  | none => rw [hx] at hj; simp at hj
  | some x =>
    rw [hx] at hj
    simp at hj
    subst hj
    have hlt : j < L.length := (List.getElem?_eq_some_iff.1 hx).1
    have := hc j hlt
    have hn : nth L j = x := by unfold nth; simp [hx]
    rw [hn] at this
    rcases Nat.eq_zero_or_pos j with h0 | h0
    · subst h0; simpa [Addr.add] using this
    · simpa [Addr.add, show j ≠ 0 by omega] using this
theorem old_news {w : World} {b off : Nat} {xs : List Value} (o : Obj) (h : ∀ j u, xs[j]? = some u → w.cell? ((⟨b, off, none⟩ : Addr).add j) = some u) : ∀ j u, xs[j]? = some u → (w.alloc o).cell? ((⟨b, off, none⟩ : Addr).add j) = some u := fun j u hj =>
  (((Below.refl w.heap.size w).alloc (Nat.le_refl _) o).cell (by exact block_lt_of_cell (h j u hj))).trans (h j u hj)
theorem lat_ne {L : List Int} (h : 1 ≤ num L) : L ≠ [] := fun e => by rw [e] at h; simp [num] at h
theorem ra_of {B : Nat} {w : World} {a b : Option Addr} {ca cb : Nat} {L : List Int} {T : List (List Int)} (h1 : Own B w (.slice a L.length ca) L) (h2 : RowsAt B w (.slice b T.length cb) T) : RA w (.slice a L.length ca) (.slice b T.length cb) L T :=
  ⟨a, ca, b, cb, rfl, rfl, h1.rd, by obtain ⟨b', c', e, h⟩ := h2.rd; injection e with e1 _ _; rw [e1]; exact h⟩
theorem below_setRow2 {C : Nat} {w w' : World} (h : Below C w w') {g : Nat} (hg : C ≤ g) (cs : Array Value) : Below C w (w'.setRow g cs) := below_setRow' h hg cs
theorem rowsOf_T (f : Nat) (env : Array Value) (n : Int) (p : Int → Int → Int) (w : World) (n0 : 0 ≤ n) (n6 : n ≤ 6) (he : Enters f)
    (H : ∀ (x y : Int) (wr : World), 0 ≤ x → x < n → 0 ≤ y → y < n → Below w.heap.size w wr → Calls Try.prog f (#[.int .i64 x, .int .i64 y] ++ env) wr fun e w' => e = .returned (.int .i64 (p x y)) ∧ Below wr.heap.size wr w') :
    Calls Try.prog 29 #[.int .i64 n, .func (.func f) #[] env] w fun e w' => e = .returned (.slice (some ⟨w.heap.size, 0, none⟩) (tabL p n).length (tabL p n).length) ∧ GT w.heap.size w'.heap.size w' (.slice (some ⟨w.heap.size, 0, none⟩) (tabL p n).length (tabL p n).length) (tabL p n) ∧ Below w.heap.size w w' :=
  (rowsOf_any f env n p w n0 n6 he H).mono fun e w' ⟨he, ⟨R, hown⟩, hb⟩ => by
    rw [← tabL_len p n] at he hown
    exact ⟨he, GT.of hown, hb⟩
theorem rs_rd {w : World} {a : Option Addr} {n c : Nat} {L : List Int} (h : RS w (.slice a n c) L) : Rd w a L := by
  obtain ⟨a', c', e, hr⟩ := h
  injection e with e1 _ _
  rw [e1]; exact hr
theorem gt_rd {lo hi : Nat} {w : World} {b : Option Addr} {n c : Nat} {T : List (List Int)} (h : GT lo hi w (.slice b n c) T) : RdT w b T := by
  obtain ⟨b', c', e, hr⟩ := h.rd
  injection e with e1 _ _
  rw [e1]; exact hr
theorem stU_len (g : Int → Int → Bool) (n : Int) : (upL g n).length = n.toNat := by simp [upL]
theorem upOf_T (f : Nat) (env : Array Value) (n : Int) (g : Int → Int → Bool) (w : World) (n0 : 0 ≤ n) (n6 : n ≤ 6) (he : Enters f)
    (H : ∀ (x y : Int) (wr : World), 0 ≤ x → x < n → 0 ≤ y → y < n → Below w.heap.size w wr → Calls Try.prog f (#[.int .i64 x, .int .i64 y] ++ env) wr fun e w' => e = .returned (.bool (g x y)) ∧ Dr wr w') :
    Calls Try.prog 45 #[.int .i64 n, .func (.func f) #[] env] w fun e w' => e = .returned (.slice (some ⟨w.heap.size, 0, none⟩) (upL g n).length (upL g n).length) ∧ GS w.heap.size w'.heap.size w' (.slice (some ⟨w.heap.size, 0, none⟩) (upL g n).length (upL g n).length) (upL g n) ∧ Below w.heap.size w w' :=
  (upOf_any f env n g w n0 n6 he H).mono fun e w' ⟨he, hrow, hb⟩ => by
    rw [← stU_len g n] at he
    exact ⟨he, GS.row hrow (Nat.le_refl _) hrow.lt (by rw [stU_len]; unfold maxLen; omega), hb⟩
end Go.Proofs.Ytdjhnbofnmhpaaa

namespace Go.Proofs.Ytdjhnbofnmhpaaa
open Go.RowKit
set_option linter.unusedVariables false

/-- the rows of an order up to one -/
def upQ (g : Int → Int → Bool) (n p : Int) : List Int := (List.range p.toNat).map fun (i : Nat) => rowTo (g i) n
theorem upQ_succ (g : Int → Int → Bool) (n p : Int) (h : 0 ≤ p) : upQ g n (p + 1) = upQ g n p ++ [rowTo (g p) n] := by
  unfold upQ
  rw [show (p + 1).toNat = p.toNat + 1 by omega, List.range_succ, List.map_append]
  simp [Int.toNat_of_nonneg h]
theorem upQ_len (g : Int → Int → Bool) (n p : Int) : (upQ g n p).length = p.toNat := by simp [upQ]
theorem upQ_all (g : Int → Int → Bool) (n : Int) : upQ g n n = upL g n := rfl
theorem RowsAt.alloc {B : Nat} {w : World} {v : Value} {T : List (List Int)} (h : RowsAt B w v T) (o : Obj) : RowsAt B (w.alloc o) v T := by
  obtain ⟨vs, h1, h2⟩ := h
  exact ⟨vs, World.ownsRow.alloc h1 o, fun j hj => by obtain ⟨u, hu, ho⟩ := h2 j hj; exact ⟨u, hu, ho.alloc o⟩⟩
/-- a table by append, whose rows lie apart from a block -/
def RowsX (B : Nat) (w : World) (v : Value) (T : List (List Int)) (q : Option Nat) : Prop :=
  ∃ vs : List Value, w.ownsRow B 35 1 v T.length vs ∧ ∀ j : Nat, j < T.length → ∃ u, vs[j]? = some u ∧ Own B w u (rowAt T j) ∧ (u.ownBlock = none ∨ u.ownBlock ≠ q)
section
variable {B : Nat} {w w' : World} {v v' : Value} {T : List (List Int)} {q : Option Nat}
theorem RowsX.at (h : RowsX B w v T q) : RowsAt B w v T := by
  obtain ⟨vs, h1, h2⟩ := h
  exact ⟨vs, h1, fun j hj => by obtain ⟨u, hu, ho, _⟩ := h2 j hj; exact ⟨u, hu, ho⟩⟩
theorem RowsX.nothing (B : Nat) (w : World) (q : Option Nat) : RowsX B w (.slice none 0 0) [] q := ⟨[], World.ownsRow_nil _ _ _ _, fun j hj => absurd hj (by simp)⟩
theorem RowsX.below (h : RowsX B w v T q) (hb : Below w.heap.size w w') : RowsX B w' v T q := by
  obtain ⟨vs, h1, h2⟩ := h
  exact ⟨vs, ownsRow_below h1 hb, fun j hj => by obtain ⟨u, hu, ho, hn⟩ := h2 j hj; exact ⟨u, hu, ho.below hb, hn⟩⟩
theorem RowsX.other {e2 : TypeId} {G : Nat} {c : Array Value} {fr : Nat × Nat} (h : RowsX B w v T q) (hG : w.heap[G]? = some (.cells c e2 fr)) (n1 : 35 ≠ e2) (n2 : 3 ≠ e2) (hk : ∀ k, k ≠ G → w'.heap[k]? = w.heap[k]?) : RowsX B w' v T q := by
  obtain ⟨vs, h1, h2⟩ := h
  exact ⟨vs, ownsRow_other h1 hG n1 hk, fun j hj => by obtain ⟨u, hu, ho, hn⟩ := h2 j hj; exact ⟨u, hu, ownsRow_other ho hG n2 hk, hn⟩⟩
theorem RowsX.push {u : Value} {r : List Int} {vs : List Value} (h1 : w.ownsRow B 35 1 v T.length vs) (h2 : ∀ j : Nat, j < T.length → ∃ u, vs[j]? = some u ∧ Own B w u (rowAt T j) ∧ (u.ownBlock = none ∨ u.ownBlock ≠ q)) (hu : Own B w u r) (hn : u.ownBlock = none ∨ u.ownBlock ≠ q)
    (h3 : w'.ownsRow B 35 1 v' (T.length + 1) (vs ++ [u])) (hg : w.grownBy w' v.ownBlock) : RowsX B w' v' (T ++ [r]) q := by
  have hvl : vs.length = T.length := by have := h1.1; omega
  refine ⟨vs ++ [u], by simpa using h3, fun j hj => ?_⟩
  by_cases e : j < T.length
  · obtain ⟨u', hu', ho, hn'⟩ := h2 j e
    refine ⟨u', by rw [List.getElem?_append_left (by omega)]; exact hu', ?_, hn'⟩
    rw [rowAt_old e]
    exact World.ownsRow.kept ho hg (own_types ho h1 (by decide))
  · have e2 : j = T.length := by simp at hj; omega
    subst e2
    refine ⟨u, by rw [← hvl]; simp, ?_, hn⟩
    rw [rowAt_new]
    exact World.ownsRow.kept hu hg (own_types hu h1 (by decide))
theorem RowsX.grown {v0 : Value} {B' n : Nat} {xs : List Value} {q' : Option Nat} (h : RowsX B w v T v0.ownBlock) (hg : w.grownBy w' v0.ownBlock) (hx : w.ownsRow B' 3 1 v0 n xs) (hat : q' = v0.ownBlock ∨ q' = some w.heap.size) : RowsX B w' v T q' := by
  obtain ⟨vs, h1, h2⟩ := h
  refine ⟨vs, World.ownsRow.kept h1 hg (own_types h1 hx (by decide)), fun j hj => ?_⟩
  obtain ⟨u, hu, ho, hn⟩ := h2 j hj
  refine ⟨u, hu, World.ownsRow.kept ho hg hn, ?_⟩
  rcases hat with e | e
  · rw [e]; exact hn
  · rw [e]
    cases hq : u.ownBlock with
    | none => exact .inl rfl
    | some k =>
      right
      intro he
      have := (World.ownsRow.lt ho k hq).2
      simp only [Option.some.injEq] at he
      omega
/-- a row of new memory lies apart from what was there -/
theorem own_new {C B' n : Nat} {w0 : World} {u v0 : Value} {r : List Int} {xs : List Value} {e : TypeId} {s : Nat} (hu : Own C w u r) (hx : w0.ownsRow B' e s v0 n xs) (hC : w0.heap.size ≤ C) : u.ownBlock = none ∨ u.ownBlock ≠ v0.ownBlock := by
  cases hq : u.ownBlock with
  | none => exact .inl rfl
  | some k =>
    right
    intro he
    have h1 := (World.ownsRow.lt hu k hq).1
    have h2 := (World.ownsRow.lt hx k he.symm).2
    omega
end
theorem own_shape {w : World} {B : Nat} {e : TypeId} {s : Nat} {v : Value} {n : Nat} {xs : List Value} (h : w.ownsRow B e s v n xs) : ∃ a n c, v = .slice a n c := by
  rcases h.2 with ⟨rfl, _⟩ | ⟨g, cap, cur, rfl, _⟩
  · exact ⟨_, _, _, rfl⟩
  · exact ⟨_, _, _, rfl⟩
end Go.Proofs.Ytdjhnbofnmhpaaa

namespace Go.Proofs.Ytdjhnbofnmhpaaa
open Go.RowKit
set_option linter.unusedVariables false

/-- products of pairs -/
def caP (T U : List (List Int)) (m p q : Int) : Int := tv T (p / m) (q / m) * m + tv U (p % m) (q % m)
def caOk (L : List Int) (T : List (List Int)) (M : List Int) (U : List (List Int)) : Bool := algB L T && (algB M U && decide ((L.length : Int) * M.length ≤ 6))
def caL (L : List Int) (T : List (List Int)) (M : List Int) (U : List (List Int)) : List Int := if caOk L T M U then upL (crossG L M) ((L.length : Int) * M.length) else []
def caT (L : List Int) (T : List (List Int)) (M : List Int) (U : List (List Int)) : List (List Int) := if caOk L T M U then tabL (caP T U M.length) ((L.length : Int) * M.length) else []
section
variable {L M : List Int} {T U : List (List Int)}
theorem ca_yes (h1 : algB L T = true) (h2 : algB M U = true) (h3 : (L.length : Int) * M.length ≤ 6) : caOk L T M U = true ∧ caL L T M U = upL (crossG L M) ((L.length : Int) * M.length) ∧ caT L T M U = tabL (caP T U M.length) ((L.length : Int) * M.length) := by
  have h : caOk L T M U = true := by unfold caOk; rw [h1, h2, decide_eq_true h3]; rfl
  exact ⟨h, by unfold caL; rw [h]; rfl, by unfold caT; rw [h]; rfl⟩
theorem ca_no (h : caOk L T M U = false) : caL L T M U = [] ∧ caT L T M U = [] := ⟨by unfold caL; rw [h]; rfl, by unfold caT; rw [h]; rfl⟩
theorem ca_ti (L : List Int) (T : List (List Int)) (M : List Int) (U : List (List Int)) : Ti (caL L T M U) (caT L T M U) := by
  cases h : caOk L T M U with
  | false => rw [(ca_no h).1, (ca_no h).2]; exact Ti.zero
  | true =>
    have h3 : (L.length : Int) * M.length ≤ 6 := by
      unfold caOk at h
      exact of_decide_eq_true (Bool.and_eq_true_iff.1 (Bool.and_eq_true_iff.1 h).2).2
    unfold caL caT
    rw [h, if_pos rfl, if_pos rfl]
    refine ⟨by rw [stU_len]; omega, by rw [tabL_len]; omega, fun j hj => ?_⟩
    rw [tabL_len] at hj
    rw [tabL_rlen _ hj]; omega
theorem ca_bound {a b m : Int} (a0 : 0 ≤ a) (a6 : a ≤ 6) (m0 : 0 ≤ m) (m6 : m ≤ 6) (b0 : 0 ≤ b) (b6 : b ≤ 6) : 0 ≤ a * m ∧ a * m ≤ 36 ∧ 0 ≤ a * m + b ∧ a * m + b ≤ 42 := by
  have h := mul_le36 a0 a6 m0 m6
  omega
end
end Go.Proofs.Ytdjhnbofnmhpaaa

namespace Go.Proofs.Ytdjhnbofnmhpaaa
open Go.RowKit
set_option linter.unusedVariables false
end Go.Proofs.Ytdjhnbofnmhpaaa

/- Meets as products. -/
namespace Go.Proofs.Ytdjhnbofnmhpaaa

theorem mt_comm2 {L : List Int} (h : latB L = true) {x y : Int} (hx : El L x) (hy : El L y) : mt L x y = mt L y x :=
  bl_anti h (mt_el h hx hy) (mt_el h hy hx) (mt_ge h hy hx (mt_el h hx hy) (mt_lb2 h hx hy) (mt_lb1 h hx hy)) (mt_ge h hx hy (mt_el h hy hx) (mt_lb2 h hy hx) (mt_lb1 h hy hx))
theorem mt_assoc2 {L : List Int} (h : latB L = true) {x y z : Int} (hx : El L x) (hy : El L y) (hz : El L z) : mt L (mt L x y) z = mt L x (mt L y z) := by
  have e1 := mt_el h hx hy
  have e2 := mt_el h hy hz
  have e3 := mt_el h e1 hz
  have e4 := mt_el h hx e2
  refine bl_anti h e3 e4 (mt_ge h hx e2 e3 ?_ (mt_ge h hy hz e3 ?_ (mt_lb2 h e1 hz))) (mt_ge h e1 hz e4 (mt_ge h hx hy e4 (mt_lb1 h hx e2) ?_) ?_)
  · exact bl_trans h e3 e1 hx (mt_lb1 h e1 hz) (mt_lb1 h hx hy)
  · exact bl_trans h e3 e1 hy (mt_lb1 h e1 hz) (mt_lb2 h hx hy)
  · exact bl_trans h e4 e2 hy (mt_lb2 h hx e2) (mt_lb1 h hy hz)
  · exact bl_trans h e4 e2 hz (mt_lb2 h hx e2) (mt_lb2 h hy hz)
end Go.Proofs.Ytdjhnbofnmhpaaa

namespace Go.Proofs.Ytdjhnbofnmhpaaa
open Go.RowKit

/-- meets as products: the rows -/
def mtT (L : List Int) : List (List Int) := tabL (mt L) (num L)
theorem mtT_tv {L : List Int} {x y : Int} (hx : El L x) (hy : El L y) : tv (mtT L) x y = mt L x y := tabL_tv _ hx.1 hx.2 hy.1 hy.2
theorem mtT_shape {L : List Int} (h : latB L = true) : shapeB L (mtT L) = true := by
  have hn := (lat_len h).1
  refine shape_t (m := num L) (by unfold mtT; rw [tabL_len]; omega) (Int.le_refl _) fun x x0 x1 => ?_
  have hr : rowAt (mtT L) x = lstTo (mt L x) (num L) := by
    have := tabL_row (mt L) (n := num L) (j := x.toNat) (by omega)
    rw [Int.toNat_of_nonneg x0] at this
    exact this
  refine rowOk_t (m := num L) (by rw [hr]; exact lstTo_len _ _ (by omega)) (Int.le_refl _) fun y y0 y1 => ?_
  have := lat_mt h x0 x1 y0 y1
  unfold cellOk
  rw [mtT_tv ⟨x0, x1⟩ ⟨y0, y1⟩, decide_eq_true this.1, decide_eq_true (show mt L x y ≤ num L - 1 by omega)]; rfl
theorem mtT_go {L : List Int} (h : latB L = true) {x y z : Int} (hx : El L x) (hy : El L y) (hz : El L z) : goQ L (mtT L) x y z = distXYZ L x y z := by
  unfold goQ distXYZ
  rw [mtT_tv hx hy, mtT_tv hx hz, mtT_tv hx (jn_el h hy hz)]
theorem mtT_as {L : List Int} (h : latB L = true) {x y z : Int} (hx : El L x) (hy : El L y) (hz : El L z) : asQ (mtT L) x y z = true := by
  unfold asQ
  rw [mtT_tv hx hy, mtT_tv hy hz, mtT_tv (mt_el h hx hy) hz, mtT_tv hx (mt_el h hy hz), mt_assoc2 h hx hy hz]
  simp
theorem mtT_kb {L : List Int} (h : latB L = true) {x : Int} (hx : El L x) : (tv (mtT L) x (num L - 1) == x && tv (mtT L) x 0 == 0) = true := by
  have hn := (lat_len h).1
  have ht : El L (num L - 1) := ⟨by omega, by omega⟩
  have h0 : El L 0 := ⟨by omega, by omega⟩
  rw [mtT_tv hx ht, mtT_tv hx h0, mt_of_le h hx ht (bl_top h hx), mt_of_ge h hx h0 (bl_low h hx)]
  simp
theorem mtT_alg {L : List Int} (h : latB L = true) : algB L (mtT L) = distB L := by
  unfold algB distB
  rw [h, mtT_shape h, Bool.true_and, Bool.true_and]
  refine allI_congr fun x x0 x1 => ?_
  unfold lwX distX
  rw [mtT_kb h ⟨x0, x1⟩, Bool.true_and]
  refine allI_congr fun y y0 y1 => ?_
  unfold lwXY distXY
  rw [mtT_tv ⟨x0, x1⟩ ⟨y0, y1⟩, mtT_tv ⟨y0, y1⟩ ⟨x0, x1⟩, mt_comm2 h ⟨x0, x1⟩ ⟨y0, y1⟩, beq_self_eq_true, Bool.true_and]
  refine allI_congr fun z z0 z1 => ?_
  unfold lwXYZ
  rw [mtT_as h ⟨x0, x1⟩ ⟨y0, y1⟩ ⟨z0, z1⟩, Bool.true_and]
  exact mtT_go h ⟨x0, x1⟩ ⟨y0, y1⟩ ⟨z0, z1⟩
end Go.Proofs.Ytdjhnbofnmhpaaa

namespace Go.Proofs.Ytdjhnbofnmhpaaa
open Go.RowKit

set_option maxRecDepth 100000 in
set_option maxHeartbeats 1000000 in
/-- slices.Clone of a list that is not empty -/
theorem clone_any (a : Option Addr) (ca : Nat) (L : List Int) (w : World) (hr : Rd w a L) (hL : L ≠ []) (hm : L.length ≤ 1048576) :
    Calls Try.prog 44 #[.slice a L.length ca] w (RetSl w.heap.size L w) := by
  obtain ⟨i0, hi, hz0, hz1, hz2⟩ := info_parts info_int
  obtain ⟨b, off, rfl, hn⟩ := rd_news hr hL
  have HN := Lib.hid hn
  have hnil := nil_is
  clear hn hr hL
  go_enter Try.func44, Try.ntmps44
  go_wp2_with (at_builtin; refine wpList_append_own _ rfl _ _ 35 rfl w.heap.size 3 i0 (.int .i64 0) 1 8 Try.underlying35 hi hz0 hz1 hz2 rfl (by decide) _ _ _ rfl (Own.row (L := []) (heap_alloc_new w _) (Nat.le_refl _) (Nat.zero_le _)) ⟨b, off, none⟩ L.length ca (L.map fun x => Value.int .i64 x) rfl (by simp) (old_news _ HN.out) (fun x hx => by simp at hx; obtain ⟨y, _, rfl⟩ := hx; rfl) (by unfold maxLen; simp; omega) (by simp; omega) (by simp) ?_; intro v' w5 hown1 hgrow _; have ho5 : Own w.heap.size w5 v' L := (by unfold Own; simpa using hown1); obtain ⟨ra, rc, rfl, _⟩ := ho5.slice; have hb5 := ((Below.refl w.heap.size w).alloc (Nat.le_refl _) _).grown hgrow (by simp) (fun q hq => (World.ownsRow.lt (Own.row (L := []) (heap_alloc_new w _) (Nat.le_refl _) (Nat.zero_le _)) q hq).1); clear hgrow hown1)
  go_ret
  exact ⟨ra, rc, rfl, ho5, hb5⟩

/-- the algebra of meets, where there is one -/
def mtOk (L : List Int) : Bool := latB L && distB L
def mtLL (L : List Int) : List Int := if mtOk L then L else []
def mtTT (L : List Int) : List (List Int) := if mtOk L then tabL (mt L) L.length else []
theorem mt_yes {L : List Int} (h1 : latB L = true) (h2 : distB L = true) : mtOk L = true ∧ mtLL L = L ∧ mtTT L = tabL (mt L) L.length := by
  have h : mtOk L = true := by unfold mtOk; rw [h1, h2]; rfl
  exact ⟨h, by unfold mtLL; rw [h]; rfl, by unfold mtTT; rw [h]; rfl⟩
theorem mt_no {L : List Int} (h : mtOk L = false) : mtLL L = [] ∧ mtTT L = [] := ⟨by unfold mtLL; rw [h]; rfl, by unfold mtTT; rw [h]; rfl⟩
theorem mt_ti (L : List Int) : Ti (mtLL L) (mtTT L) := by
  cases h : mtOk L with
  | false => rw [(mt_no h).1, (mt_no h).2]; exact Ti.zero
  | true =>
    have h1 : latB L = true := by unfold mtOk at h; exact (Bool.and_eq_true_iff.1 h).1
    have h2 : distB L = true := by unfold mtOk at h; exact (Bool.and_eq_true_iff.1 h).2
    rw [(mt_yes h1 h2).2.1, (mt_yes h1 h2).2.2]
    have h6 := (lat_len h1).2
    have hn : num L = L.length := rfl
    refine ⟨by omega, by rw [tabL_len]; omega, fun j hj => ?_⟩
    rw [tabL_len] at hj
    rw [tabL_rlen _ hj]; omega
end Go.Proofs.Ytdjhnbofnmhpaaa

namespace Go.Proofs.Ytdjhnbofnmhpaaa
open Go.RowKit
set_option linter.unusedVariables false

theorem enters_mt : Enters 43 := enters_of Try.func43 (by kernel_rfl) rfl
set_option maxHeartbeats 400000 in
theorem mtClo_any (L : List Int) (bl : Nat) (x y : Int) (w : World) (hA : LatAt w bl L) (h : latB L = true) (x0 : 0 ≤ x) (x1 : x < L.length) (y0 : 0 ≤ y) (y1 : y < L.length) :
    Calls Try.prog 43 #[.int .i64 x, .int .i64 y, .pointer (some ⟨bl, 0, none⟩)] w fun e w' => e = .returned (.int .i64 (mt L x y)) ∧ Below w.heap.size w w' := by
  have h6 := (lat_len h).2
  have hn : num L = L.length := rfl
  have x6 : x < 6 := by omega
  have y6 : y < 6 := by omega
  have d0 := hA.m x0 x6 y0 y6
  rw [tabT_meet h x0 (by omega) y0 (by omega)] at d0
  clear hn h hA
  go_enter Try.func43, Try.ntmps43
  go_wp2
  go_ret
  exact ⟨rfl, Below.refl _ _⟩
set_option maxRecDepth 100000 in
set_option maxHeartbeats 2000000 in
theorem implMeet_lat (a : Option Addr) (ca : Nat) (L : List Int) (w : World) (hr : Rd w a L) (hm : L.length ≤ 1048576) (h : latB L = false) : Calls Try.prog 19 #[.slice a L.length ca] w (RetGAb (mtLL L) (mtTT L) (mtOk L) w) := by
  obtain ⟨w1, hw1⟩ : ∃ w1, w1 = w.alloc (.cells #[.slice none 0 0, .slice none 0 0] 38) := ⟨_, rfl⟩
  have hB : Below w.heap.size w w1 := by rw [hw1]; exact (Below.refl _ _).alloc (Nat.le_refl _) _
  have hz : w1.heap[w.heap.size]? = some (.cells #[.slice none 0 0, .slice none 0 0] 38 (0, 0)) := by rw [hw1]; exact heap_alloc_new w _
  have Kz := Lib.hid (show ∀ wz, Below w1.heap.size w1 wz → wz.heap[w.heap.size]? = some (.cells #[.slice none 0 0, .slice none 0 0] 38 (0, 0)) from fun wz h => (h.block _ (lt_of_block hz)).trans hz)
  have KR := Lib.hid (show ∀ wz, Below w1.heap.size w1 wz → Rd wz a L from fun wz h => (hr.below hB).below h)
  have hsz := lt_of_block hz
  have z1 : Below w1.heap.size w1 w1 := Below.refl _ _
  have HL := Lib.hid h
  have HV := Lib.hid (show mtOk L = false by unfold mtOk; rw [h]; rfl)
  clear h
  clear hz hr
  go_enter Try.func19, Try.ntmps19
  go_wp2_with (first
    | go_skip
    | (rw [← hw1]; clear hw1)
    | (go_at_call 42; refine (readLattice_no a ca L _ (KR.out _ z1) HL.out).mono ?_; rintro e w2 ⟨rfl, h2⟩; have z2 : Below w1.heap.size w1 w2 := h2; clear h2)
    | (refine wpList_store_row rfl 73 _ _ rfl w2.heap.size (zeroLat) rfl rfl _ _ (heap_alloc_new w2 (.cells zeroLat 73)) (size_lat _ _ _ _) rfl (one_lat _ _ _ _) ?_; rw [World.setRow_alloc_new]; obtain ⟨bl, hbl⟩ : ∃ b5, b5 = w2.heap.size := ⟨_, rfl⟩; obtain ⟨w3, hw3⟩ : ∃ x, x = w2.alloc (.cells (zeroLat) 73) := ⟨_, rfl⟩; rw [← hw3, ← hbl]; have q3 : Below w2.heap.size w2 w3 := (by rw [hw3]; exact (Below.refl _ _).alloc (Nat.le_refl _) _); have z3 : Below w1.heap.size w1 w3 := z2.trans (q3.mono z2.size); clear hw3 hbl q3 z2)
    | (refine wpList_store_row rfl 38 _ _ rfl w.heap.size #[.slice none 0 0, .slice none 0 0] rfl rfl _ _ (Kz.out _ z3) (size_Alg _ _) rfl (one_sl2 _ _ _ _ _ _) ?_))
  refine bodyPost_ret (v := .tuple #[.agg #[.slice none 0 0, .slice none 0 0], .bool false]) (results_Alg_tmp rfl _ _ w.heap.size rfl _ _ (setRow_heap _ _ _ _ _ _ (Kz.out _ z3)) rfl) rfl ?_
  rw [HV.out, (mt_no HV.out).1, (mt_no HV.out).2]
  have hbz := below_setRow' (hB.trans (z3.mono hB.size)) (Nat.le_refl w.heap.size) #[.slice none 0 0, .slice none 0 0]
  exact ⟨_, _, _, _, _, _, rfl, GA.zero _ _ hbz.size _, hbz⟩
set_option maxRecDepth 100000 in
set_option maxHeartbeats 2000000 in
theorem implMeet_dist (a : Option Addr) (ca : Nat) (L : List Int) (w : World) (hr : Rd w a L) (hm : L.length ≤ 1048576) (h : latB L = true) (h2 : distB L = false) : Calls Try.prog 19 #[.slice a L.length ca] w (RetGAb (mtLL L) (mtTT L) (mtOk L) w) := by
  obtain ⟨w1, hw1⟩ : ∃ w1, w1 = w.alloc (.cells #[.slice none 0 0, .slice none 0 0] 38) := ⟨_, rfl⟩
  have hB : Below w.heap.size w w1 := by rw [hw1]; exact (Below.refl _ _).alloc (Nat.le_refl _) _
  have hz : w1.heap[w.heap.size]? = some (.cells #[.slice none 0 0, .slice none 0 0] 38 (0, 0)) := by rw [hw1]; exact heap_alloc_new w _
  have Kz := Lib.hid (show ∀ wz, Below w1.heap.size w1 wz → wz.heap[w.heap.size]? = some (.cells #[.slice none 0 0, .slice none 0 0] 38 (0, 0)) from fun wz h => (h.block _ (lt_of_block hz)).trans hz)
  have KR := Lib.hid (show ∀ wz, Below w1.heap.size w1 wz → Rd wz a L from fun wz h => (hr.below hB).below h)
  have hsz := lt_of_block hz
  have z1 : Below w1.heap.size w1 w1 := Below.refl _ _
  have HL := Lib.hid h
  have HNE := Lib.hid (lat_ne (latB_parts h).1)
  have HD := Lib.hid (show algB L (tabL (mt L) L.length) = distB L from mtT_alg h)
  rw [h2] at HD
  have h6 : (L.length : Int) ≤ 6 := (lat_len h).2
  have HV := Lib.hid (show mtOk L = false by unfold mtOk; rw [h, h2]; rfl)
  clear h h2
  clear hz hr
  go_enter Try.func19, Try.ntmps19
  go_wp2_with (first
    | go_skip
    | (rw [← hw1]; clear hw1)
    | (go_at_call 42; refine (readLattice_yes a ca L _ (KR.out _ z1) HL.out).mono ?_; rintro e w2 ⟨rfl, h2⟩; have z2 : Below w1.heap.size w1 w2 := h2; clear h2)
    | (refine wpList_store_row rfl 73 _ _ rfl w2.heap.size (latOf L) rfl rfl _ _ (heap_alloc_new w2 (.cells zeroLat 73)) (size_lat _ _ _ _) rfl (one_lat _ _ _ _) ?_; rw [World.setRow_alloc_new]; obtain ⟨bl, hbl⟩ : ∃ b5, b5 = w2.heap.size := ⟨_, rfl⟩; obtain ⟨w3, hw3⟩ : ∃ x, x = w2.alloc (.cells (latOf L) 73) := ⟨_, rfl⟩; rw [← hw3, ← hbl]; have q3 : Below w2.heap.size w2 w3 := (by rw [hw3]; exact (Below.refl _ _).alloc (Nat.le_refl _) _); have hLA : LatAt w3 bl L := (by rw [hw3, hbl]; exact LatAt.new w2 L); have c0 := hLA.size; have hlt := hLA.lt; have z3 : Below w1.heap.size w1 w3 := z2.trans (q3.mono z2.size); clear hw3 hbl q3 z2)
    | (go_at_call 29; refine (rowsOf_T 43 #[.pointer (some ⟨bl, 0, none⟩)] L.length (mt L) w3 (by omega) h6 enters_mt (fun x y wr x0 x1 y0 y1 hb => mtClo_any L bl x y wr (hLA.below hb hLA.lt) HL.out x0 x1 y0 y1)).mono ?_; rintro e w4 ⟨rfl, gt4, hb4⟩; have z4 : Below w1.heap.size w1 w4 := z3.trans (hb4.mono z3.size); have s3 := z3.size; have s4 := hb4.size; obtain ⟨B, hBB⟩ : ∃ B, B = w3.heap.size := ⟨_, rfl⟩; rw [← hBB] at gt4 ⊢; have sB : w3.heap.size ≤ B := Nat.le_of_eq hBB.symm; clear hBB hb4 c0 hLA hlt)
    | (go_at_call 44; refine (clone_any a ca L _ (KR.out _ z4) HNE.out hm).mono ?_; rintro e w5 ⟨a5, c5, rfl, ho5, hb5⟩; have gs5 := GS.of ho5; have gt5 := gt4.below hb5; have s5 := hb5.size; have z5 : Below w1.heap.size w1 w5 := z4.trans (hb5.mono z4.size); clear hb5 gt4)
    | (refine wpList_store_row rfl 38 _ _ rfl w5.heap.size #[.slice a5 L.length c5, .slice (some ⟨B, 0, none⟩) (tabL (mt L) L.length).length (tabL (mt L) L.length).length] rfl rfl _ _ (heap_alloc_new w5 (.cells #[.slice none 0 0, .slice none 0 0] 38)) (size_Alg _ _) rfl (one_sl2 _ _ _ _ _ _) ?_; rw [World.setRow_alloc_new]; obtain ⟨g, hg⟩ : ∃ g, g = w5.heap.size := ⟨_, rfl⟩; obtain ⟨w6, hw6⟩ : ∃ x, x = w5.alloc (.cells #[.slice a5 L.length c5, .slice (some ⟨B, 0, none⟩) (tabL (mt L) L.length).length (tabL (mt L) L.length).length] 38) := ⟨_, rfl⟩; rw [← hw6, ← hg]; have hx6 : w6.heap[g]? = some (.cells #[.slice a5 L.length c5, .slice (some ⟨B, 0, none⟩) (tabL (mt L) L.length).length (tabL (mt L) L.length).length] 38 (0, 0)) := (by rw [hw6, hg]; exact heap_alloc_new w5 _); have q6 : Below w5.heap.size w5 w6 := (by rw [hw6]; exact (Below.refl _ _).alloc (Nat.le_refl _) _); have s6 := q6.size; have gs6 := gs5.below q6; have gt6 := gt5.below q6; have z6 : Below w1.heap.size w1 w6 := z5.trans (q6.mono z5.size); have y6 : Below w6.heap.size w6 w6 := Below.refl _ _; have K6 := Lib.hid (show ∀ wz, Below w6.heap.size w6 wz → wz.heap[g]? = some (.cells #[.slice a5 L.length c5, .slice (some ⟨B, 0, none⟩) (tabL (mt L) L.length).length (tabL (mt L) L.length).length] 38 (0, 0)) from fun wz h => (h.block _ (lt_of_block hx6)).trans hx6); clear hw6 hg q6 gs5 gt5 hx6)
    | (refine wpList_load_row_w rfl 38 _ rfl g rfl _ _ _ _ (K6.out _ (by assumption)) Try.underlying38 rfl (size_Alg _ _) ?_)
    | (go_at_call 21; refine (implValidAlgebra_any a5 (some ⟨B, 0, none⟩) c5 _ L (tabL (mt L) L.length) _ (rs_rd gs6.rd) (gt_rd gt6)).mono ?_; rintro e w7 ⟨he7, hb7⟩; rw [HD.out] at he7; subst he7; have z7 : Below w1.heap.size w1 w7 := z6.trans (hb7.mono z6.size); have gs7 := gs6.below hb7; have gt7 := gt6.below hb7; have s7 := hb7.size; have y7 : Below w6.heap.size w6 w7 := hb7; clear hb7 y6)
    | (refine wpList_store_row rfl 38 _ _ rfl w.heap.size #[.slice none 0 0, .slice none 0 0] rfl rfl _ _ (Kz.out _ z7) (size_Alg _ _) rfl (one_sl2 _ _ _ _ _ _) ?_))
  refine bodyPost_ret (v := .tuple #[.agg #[.slice none 0 0, .slice none 0 0], .bool false]) (results_Alg_tmp rfl _ _ w.heap.size rfl _ _ (setRow_heap _ _ _ _ _ _ (Kz.out _ z7)) rfl) rfl ?_
  rw [HV.out, (mt_no HV.out).1, (mt_no HV.out).2]
  have hbz := below_setRow' (hB.trans (z7.mono hB.size)) (Nat.le_refl w.heap.size) #[.slice none 0 0, .slice none 0 0]
  exact ⟨_, _, _, _, _, _, rfl, GA.zero _ _ hbz.size _, hbz⟩
set_option maxRecDepth 100000 in
set_option maxHeartbeats 2000000 in
theorem implMeet_yes (a : Option Addr) (ca : Nat) (L : List Int) (w : World) (hr : Rd w a L) (hm : L.length ≤ 1048576) (h : latB L = true) (h2 : distB L = true) : Calls Try.prog 19 #[.slice a L.length ca] w (RetGAb (mtLL L) (mtTT L) (mtOk L) w) := by
  obtain ⟨w1, hw1⟩ : ∃ w1, w1 = w.alloc (.cells #[.slice none 0 0, .slice none 0 0] 38) := ⟨_, rfl⟩
  have hB : Below w.heap.size w w1 := by rw [hw1]; exact (Below.refl _ _).alloc (Nat.le_refl _) _
  have hz : w1.heap[w.heap.size]? = some (.cells #[.slice none 0 0, .slice none 0 0] 38 (0, 0)) := by rw [hw1]; exact heap_alloc_new w _
  have Kz := Lib.hid (show ∀ wz, Below w1.heap.size w1 wz → wz.heap[w.heap.size]? = some (.cells #[.slice none 0 0, .slice none 0 0] 38 (0, 0)) from fun wz h => (h.block _ (lt_of_block hz)).trans hz)
  have KR := Lib.hid (show ∀ wz, Below w1.heap.size w1 wz → Rd wz a L from fun wz h => (hr.below hB).below h)
  have hsz := lt_of_block hz
  have z1 : Below w1.heap.size w1 w1 := Below.refl _ _
  have HL := Lib.hid h
  have HNE := Lib.hid (lat_ne (latB_parts h).1)
  have HD := Lib.hid (show algB L (tabL (mt L) L.length) = distB L from mtT_alg h)
  rw [h2] at HD
  have h6 : (L.length : Int) ≤ 6 := (lat_len h).2
  have HV := Lib.hid (mt_yes h h2)
  clear h h2
  clear hz hr
  go_enter Try.func19, Try.ntmps19
  go_wp2_with (first
    | go_skip
    | (rw [← hw1]; clear hw1)
    | (go_at_call 42; refine (readLattice_yes a ca L _ (KR.out _ z1) HL.out).mono ?_; rintro e w2 ⟨rfl, h2⟩; have z2 : Below w1.heap.size w1 w2 := h2; clear h2)
    | (refine wpList_store_row rfl 73 _ _ rfl w2.heap.size (latOf L) rfl rfl _ _ (heap_alloc_new w2 (.cells zeroLat 73)) (size_lat _ _ _ _) rfl (one_lat _ _ _ _) ?_; rw [World.setRow_alloc_new]; obtain ⟨bl, hbl⟩ : ∃ b5, b5 = w2.heap.size := ⟨_, rfl⟩; obtain ⟨w3, hw3⟩ : ∃ x, x = w2.alloc (.cells (latOf L) 73) := ⟨_, rfl⟩; rw [← hw3, ← hbl]; have q3 : Below w2.heap.size w2 w3 := (by rw [hw3]; exact (Below.refl _ _).alloc (Nat.le_refl _) _); have hLA : LatAt w3 bl L := (by rw [hw3, hbl]; exact LatAt.new w2 L); have c0 := hLA.size; have hlt := hLA.lt; have z3 : Below w1.heap.size w1 w3 := z2.trans (q3.mono z2.size); clear hw3 hbl q3 z2)
    | (go_at_call 29; refine (rowsOf_T 43 #[.pointer (some ⟨bl, 0, none⟩)] L.length (mt L) w3 (by omega) h6 enters_mt (fun x y wr x0 x1 y0 y1 hb => mtClo_any L bl x y wr (hLA.below hb hLA.lt) HL.out x0 x1 y0 y1)).mono ?_; rintro e w4 ⟨rfl, gt4, hb4⟩; have z4 : Below w1.heap.size w1 w4 := z3.trans (hb4.mono z3.size); have s3 := z3.size; have s4 := hb4.size; obtain ⟨B, hBB⟩ : ∃ B, B = w3.heap.size := ⟨_, rfl⟩; rw [← hBB] at gt4 ⊢; have sB : w3.heap.size ≤ B := Nat.le_of_eq hBB.symm; clear hBB hb4 c0 hLA hlt)
    | (go_at_call 44; refine (clone_any a ca L _ (KR.out _ z4) HNE.out hm).mono ?_; rintro e w5 ⟨a5, c5, rfl, ho5, hb5⟩; have gs5 := GS.of ho5; have gt5 := gt4.below hb5; have s5 := hb5.size; have z5 : Below w1.heap.size w1 w5 := z4.trans (hb5.mono z4.size); clear hb5 gt4)
    | (refine wpList_store_row rfl 38 _ _ rfl w5.heap.size #[.slice a5 L.length c5, .slice (some ⟨B, 0, none⟩) (tabL (mt L) L.length).length (tabL (mt L) L.length).length] rfl rfl _ _ (heap_alloc_new w5 (.cells #[.slice none 0 0, .slice none 0 0] 38)) (size_Alg _ _) rfl (one_sl2 _ _ _ _ _ _) ?_; rw [World.setRow_alloc_new]; obtain ⟨g, hg⟩ : ∃ g, g = w5.heap.size := ⟨_, rfl⟩; obtain ⟨w6, hw6⟩ : ∃ x, x = w5.alloc (.cells #[.slice a5 L.length c5, .slice (some ⟨B, 0, none⟩) (tabL (mt L) L.length).length (tabL (mt L) L.length).length] 38) := ⟨_, rfl⟩; rw [← hw6, ← hg]; have hx6 : w6.heap[g]? = some (.cells #[.slice a5 L.length c5, .slice (some ⟨B, 0, none⟩) (tabL (mt L) L.length).length (tabL (mt L) L.length).length] 38 (0, 0)) := (by rw [hw6, hg]; exact heap_alloc_new w5 _); have q6 : Below w5.heap.size w5 w6 := (by rw [hw6]; exact (Below.refl _ _).alloc (Nat.le_refl _) _); have s6 := q6.size; have gs6 := gs5.below q6; have gt6 := gt5.below q6; have z6 : Below w1.heap.size w1 w6 := z5.trans (q6.mono z5.size); have y6 : Below w6.heap.size w6 w6 := Below.refl _ _; have K6 := Lib.hid (show ∀ wz, Below w6.heap.size w6 wz → wz.heap[g]? = some (.cells #[.slice a5 L.length c5, .slice (some ⟨B, 0, none⟩) (tabL (mt L) L.length).length (tabL (mt L) L.length).length] 38 (0, 0)) from fun wz h => (h.block _ (lt_of_block hx6)).trans hx6); clear hw6 hg q6 gs5 gt5 hx6)
    | (refine wpList_load_row_w rfl 38 _ rfl g rfl _ _ _ _ (K6.out _ (by assumption)) Try.underlying38 rfl (size_Alg _ _) ?_)
    | (go_at_call 21; refine (implValidAlgebra_any a5 (some ⟨B, 0, none⟩) c5 _ L (tabL (mt L) L.length) _ (rs_rd gs6.rd) (gt_rd gt6)).mono ?_; rintro e w7 ⟨he7, hb7⟩; rw [HD.out] at he7; subst he7; have z7 : Below w1.heap.size w1 w7 := z6.trans (hb7.mono z6.size); have gs7 := gs6.below hb7; have gt7 := gt6.below hb7; have s7 := hb7.size; have y7 : Below w6.heap.size w6 w7 := hb7; clear hb7 y6)
    | (refine wpList_store_row rfl 38 _ _ rfl w.heap.size #[.slice a5 L.length c5, .slice (some ⟨B, 0, none⟩) (tabL (mt L) L.length).length (tabL (mt L) L.length).length] rfl rfl _ _ (Kz.out _ z7) (size_Alg _ _) rfl (one_sl2 _ _ _ _ _ _) ?_))
  refine bodyPost_ret (v := .tuple #[.agg #[.slice a5 L.length c5, .slice (some ⟨B, 0, none⟩) (tabL (mt L) L.length).length (tabL (mt L) L.length).length], .bool true]) (results_Alg_tmp rfl _ _ w.heap.size rfl _ _ (setRow_heap _ _ _ _ _ _ (Kz.out _ z7)) rfl) rfl ?_
  rw [HV.out.1, HV.out.2.1, HV.out.2.2]
  have hbz := below_setRow' (hB.trans (z7.mono hB.size)) (Nat.le_refl w.heap.size) #[.slice a5 L.length c5, .slice (some ⟨B, 0, none⟩) (tabL (mt L) L.length).length (tabL (mt L) L.length).length]
  have hb8 := below_setRow' (Below.refl w.heap.size w7) (Nat.le_refl w.heap.size) #[.slice a5 L.length c5, .slice (some ⟨B, 0, none⟩) (tabL (mt L) L.length).length (tabL (mt L) L.length).length]
  have hs8 := hb8.size
  have s1 := hB.size
  have hk : ∀ lo hi, w.heap.size < lo → Keep lo hi w7 (w7.setRow w.heap.size #[.slice a5 L.length c5, .slice (some ⟨B, 0, none⟩) (tabL (mt L) L.length).length (tabL (mt L) L.length).length]) := fun lo hi hlo k k1 _ _ => setRow_other w7 _ k _ (by omega)
  exact ⟨_, _, _, _, _, _, rfl, ⟨w4.heap.size, w5.heap.size, B, w4.heap.size, by omega, by omega, by omega, by omega, .inr (Nat.le_refl _), gs7.keep (hk _ _ (by omega)), gt7.keep (hk _ _ (by omega))⟩, hbz⟩
/-- impl.MeetAlgebra -/
theorem implMeetAlgebra_any (a : Option Addr) (ca : Nat) (L : List Int) (w : World) (hr : Rd w a L) (hm : L.length ≤ 1048576) : Calls Try.prog 19 #[.slice a L.length ca] w (RetGAb (mtLL L) (mtTT L) (mtOk L) w) := by
  cases h : latB L with
  | false => exact implMeet_lat a ca L w hr hm h
  | true =>
    cases h2 : distB L with
    | false => exact implMeet_dist a ca L w hr hm h h2
    | true => exact implMeet_yes a ca L w hr hm h h2
end Go.Proofs.Ytdjhnbofnmhpaaa
