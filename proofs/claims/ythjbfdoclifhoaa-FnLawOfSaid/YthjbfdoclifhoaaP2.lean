import Derived.Test.YthjbfdoclifhoaaY1
import Derived.Test.YthjbfdoclifhoaaU3
import Derived.Maps.AppendAt
import Derived.Test.YthjbfdoclifhoaaG3
import Derived.Deep.RegionHeld3
import Derived.Deep.AppendLies
import Derived.Test.YthjbfdoclifhoaaM5
import Derived.Test.YthjbfdoclifhoaaW4
import Derived.Test.YthjbfdoclifhoaaH10
namespace Go.Proofs.Ythjbfdoclifhoaa
open Go.RowKit

theorem runs_move1 {P : Program} {o : Oper} {a : Act} (x : Operand) (ho : o.op = .move x) (v : Value) (hx : a.eval x = v) (w : World) : (execOp a.eval o).run P w = .ok (.value v) w := by
  subst hx
  unfold execOp
  simp [ho]
theorem rd_news {w : World} {a : Option Addr} {L : List Int} (h : Rd w a L) (hL : L ≠ []) : ∃ b off, a = some ⟨b, off, none⟩ ∧ ∀ j u, (L.map fun x => Value.int .i64 x)[j]? = some u → w.cell? ((⟨b, off, none⟩ : Addr).add j) = some u := by
  obtain ⟨b, off, rfl, hc⟩ := h hL
  refine ⟨b, off, rfl, fun j u hj => ?_⟩
  rw [List.getElem?_map] at hj
  cases hx : L[j]? with
  | none => rw [hx] at hj; simp at hj
  | some x =>
    rw [hx] at hj
    simp at hj
    subst hj
    have hlt : j < L.length := (List.getElem?_eq_some_iff.1 hx).1
    have := hc j hlt
    have hn : nth L j = x := by unfold nth; simp [hx]
    rw [hn] at this
    rcases Nat.eq_zero_or_pos j with h0 | h0
    · subst h0; simpa [Addr.add] using this
    · simpa [Addr.add, show j ≠ 0 by omega] using this
theorem old_news {w : World} {b off : Nat} {xs : List Value} (o : Obj) (h : ∀ j u, xs[j]? = some u → w.cell? ((⟨b, off, none⟩ : Addr).add j) = some u) : ∀ j u, xs[j]? = some u → (w.alloc o).cell? ((⟨b, off, none⟩ : Addr).add j) = some u := fun j u hj =>
  (((Below.refl w.heap.size w).alloc (Nat.le_refl _) o).cell (by exact block_lt_of_cell (h j u hj))).trans (h j u hj)
theorem lat_ne {L : List Int} (h : 1 ≤ num L) : L ≠ [] := fun e => by rw [e] at h; simp [num] at h
theorem ra_of {B : Nat} {w : World} {a b : Option Addr} {ca cb : Nat} {L : List Int} {T : List (List Int)} (h1 : Own B w (.slice a L.length ca) L) (h2 : RowsAt B w (.slice b T.length cb) T) : RA w (.slice a L.length ca) (.slice b T.length cb) L T :=
  ⟨a, ca, b, cb, rfl, rfl, h1.rd, by obtain ⟨b', c', e, h⟩ := h2.rd; injection e with e1 _ _; rw [e1]; exact h⟩
theorem below_setRow2 {C : Nat} {w w' : World} (h : Below C w w') {g : Nat} (hg : C ≤ g) (cs : Array Value) : Below C w (w'.setRow g cs) := below_setRow' h hg cs
theorem rowsOf_T (f : Nat) (env : Array Value) (n : Int) (p : Int → Int → Int) (w : World) (n0 : 0 ≤ n) (n6 : n ≤ 6) (he : Enters f)
    (H : ∀ (x y : Int) (wr : World), 0 ≤ x → x < n → 0 ≤ y → y < n → Below w.heap.size w wr → Calls Try.prog f (#[.int .i64 x, .int .i64 y] ++ env) wr fun e w' => e = .returned (.int .i64 (p x y)) ∧ Below wr.heap.size wr w') :
    Calls Try.prog 20 #[.int .i64 n, .func (.func f) #[] env] w fun e w' => e = .returned (.slice (some ⟨w.heap.size, 0, none⟩) (tabL p n).length (tabL p n).length) ∧ GT w.heap.size w'.heap.size w' (.slice (some ⟨w.heap.size, 0, none⟩) (tabL p n).length (tabL p n).length) (tabL p n) ∧ Below w.heap.size w w' :=
  (rowsOf_any f env n p w n0 n6 he H).mono fun e w' ⟨he, ⟨R, hown⟩, hb⟩ => by
    rw [← tabL_len p n] at he hown
    exact ⟨he, GT.of hown, hb⟩
theorem rs_rd {w : World} {a : Option Addr} {n c : Nat} {L : List Int} (h : RS w (.slice a n c) L) : Rd w a L := by
  obtain ⟨a', c', e, hr⟩ := h
  injection e with e1 _ _
  rw [e1]; exact hr
theorem gt_rd {lo hi : Nat} {w : World} {b : Option Addr} {n c : Nat} {T : List (List Int)} (h : GT lo hi w (.slice b n c) T) : RdT w b T := by
  obtain ⟨b', c', e, hr⟩ := h.rd
  injection e with e1 _ _
  rw [e1]; exact hr
theorem stU_len (g : Int → Int → Bool) (n : Int) : (upL g n).length = n.toNat := by simp [upL]
theorem upOf_T (f : Nat) (env : Array Value) (n : Int) (g : Int → Int → Bool) (w : World) (n0 : 0 ≤ n) (n6 : n ≤ 6) (he : Enters f)
    (H : ∀ (x y : Int) (wr : World), 0 ≤ x → x < n → 0 ≤ y → y < n → Below w.heap.size w wr → Calls Try.prog f (#[.int .i64 x, .int .i64 y] ++ env) wr fun e w' => e = .returned (.bool (g x y)) ∧ Dr wr w') :
    Calls Try.prog 32 #[.int .i64 n, .func (.func f) #[] env] w fun e w' => e = .returned (.slice (some ⟨w.heap.size, 0, none⟩) (upL g n).length (upL g n).length) ∧ GS w.heap.size w'.heap.size w' (.slice (some ⟨w.heap.size, 0, none⟩) (upL g n).length (upL g n).length) (upL g n) ∧ Below w.heap.size w w' :=
  (upOf_any f env n g w n0 n6 he H).mono fun e w' ⟨he, hrow, hb⟩ => by
    rw [← stU_len g n] at he
    exact ⟨he, GS.row hrow (Nat.le_refl _) hrow.lt (by rw [stU_len]; unfold maxLen; omega), hb⟩
end Go.Proofs.Ythjbfdoclifhoaa

namespace Go.Proofs.Ythjbfdoclifhoaa
open Go.RowKit
set_option linter.unusedVariables false

/-- the rows of an order up to one -/
def upQ (g : Int → Int → Bool) (n p : Int) : List Int := (List.range p.toNat).map fun (i : Nat) => rowTo (g i) n
theorem upQ_succ (g : Int → Int → Bool) (n p : Int) (h : 0 ≤ p) : upQ g n (p + 1) = upQ g n p ++ [rowTo (g p) n] := by
  unfold upQ
  rw [show (p + 1).toNat = p.toNat + 1 by omega, List.range_succ, List.map_append]
  simp [Int.toNat_of_nonneg h]
theorem upQ_len (g : Int → Int → Bool) (n p : Int) : (upQ g n p).length = p.toNat := by simp [upQ]
theorem upQ_all (g : Int → Int → Bool) (n : Int) : upQ g n n = upL g n := rfl
theorem RowsAt.alloc {B : Nat} {w : World} {v : Value} {T : List (List Int)} (h : RowsAt B w v T) (o : Obj) : RowsAt B (w.alloc o) v T := by
  obtain ⟨vs, h1, h2⟩ := h
  exact ⟨vs, World.ownsRow.alloc h1 o, fun j hj => by obtain ⟨u, hu, ho⟩ := h2 j hj; exact ⟨u, hu, ho.alloc o⟩⟩
/-- a table by append, whose rows lie apart from a block -/
def RowsX (B : Nat) (w : World) (v : Value) (T : List (List Int)) (q : Option Nat) : Prop :=
  ∃ vs : List Value, w.ownsRow B 24 1 v T.length vs ∧ ∀ j : Nat, j < T.length → ∃ u, vs[j]? = some u ∧ Own B w u (rowAt T j) ∧ (u.ownBlock = none ∨ u.ownBlock ≠ q)
section
variable {B : Nat} {w w' : World} {v v' : Value} {T : List (List Int)} {q : Option Nat}
theorem RowsX.at (h : RowsX B w v T q) : RowsAt B w v T := by
  obtain ⟨vs, h1, h2⟩ := h
  exact ⟨vs, h1, fun j hj => by obtain ⟨u, hu, ho, _⟩ := h2 j hj; exact ⟨u, hu, ho⟩⟩
theorem RowsX.nothing (B : Nat) (w : World) (q : Option Nat) : RowsX B w (.slice none 0 0) [] q := ⟨[], World.ownsRow_nil _ _ _ _, fun j hj => absurd hj (by simp)⟩
theorem RowsX.below (h : RowsX B w v T q) (hb : Below w.heap.size w w') : RowsX B w' v T q := by
  obtain ⟨vs, h1, h2⟩ := h
  exact ⟨vs, ownsRow_below h1 hb, fun j hj => by obtain ⟨u, hu, ho, hn⟩ := h2 j hj; exact ⟨u, hu, ho.below hb, hn⟩⟩
theorem RowsX.other {e2 : TypeId} {G : Nat} {c : Array Value} {fr : Nat × Nat} (h : RowsX B w v T q) (hG : w.heap[G]? = some (.cells c e2 fr)) (n1 : 24 ≠ e2) (n2 : 3 ≠ e2) (hk : ∀ k, k ≠ G → w'.heap[k]? = w.heap[k]?) : RowsX B w' v T q := by
  obtain ⟨vs, h1, h2⟩ := h
  exact ⟨vs, ownsRow_other h1 hG n1 hk, fun j hj => by obtain ⟨u, hu, ho, hn⟩ := h2 j hj; exact ⟨u, hu, ownsRow_other ho hG n2 hk, hn⟩⟩
theorem RowsX.push {u : Value} {r : List Int} {vs : List Value} (h1 : w.ownsRow B 24 1 v T.length vs) (h2 : ∀ j : Nat, j < T.length → ∃ u, vs[j]? = some u ∧ Own B w u (rowAt T j) ∧ (u.ownBlock = none ∨ u.ownBlock ≠ q)) (hu : Own B w u r) (hn : u.ownBlock = none ∨ u.ownBlock ≠ q)
    (h3 : w'.ownsRow B 24 1 v' (T.length + 1) (vs ++ [u])) (hg : w.grownBy w' v.ownBlock) : RowsX B w' v' (T ++ [r]) q := by
  have hvl : vs.length = T.length := by have := h1.1; omega
  refine ⟨vs ++ [u], by simpa using h3, fun j hj => ?_⟩
  by_cases e : j < T.length
  · obtain ⟨u', hu', ho, hn'⟩ := h2 j e
    refine ⟨u', by rw [List.getElem?_append_left (by omega)]; exact hu', ?_, hn'⟩
    rw [rowAt_old e]
    exact World.ownsRow.kept ho hg (own_types ho h1 (by decide))
  · have e2 : j = T.length := by simp at hj; omega
    subst e2
    refine ⟨u, by rw [← hvl]; simp, ?_, hn⟩
    rw [rowAt_new]
    exact World.ownsRow.kept hu hg (own_types hu h1 (by decide))
theorem RowsX.grown {v0 : Value} {B' n : Nat} {xs : List Value} {q' : Option Nat} (h : RowsX B w v T v0.ownBlock) (hg : w.grownBy w' v0.ownBlock) (hx : w.ownsRow B' 3 1 v0 n xs) (hat : q' = v0.ownBlock ∨ q' = some w.heap.size) : RowsX B w' v T q' := by
  obtain ⟨vs, h1, h2⟩ := h
  refine ⟨vs, World.ownsRow.kept h1 hg (own_types h1 hx (by decide)), fun j hj => ?_⟩
  obtain ⟨u, hu, ho, hn⟩ := h2 j hj
  refine ⟨u, hu, World.ownsRow.kept ho hg hn, ?_⟩
  rcases hat with e | e
  · rw [e]; exact hn
  · rw [e]
    cases hq : u.ownBlock with
    | none => exact .inl rfl
    | some k =>
      right
      intro he
      have := (World.ownsRow.lt ho k hq).2
      simp only [Option.some.injEq] at he
      omega
/-- a row of new memory lies apart from what was there -/
theorem own_new {C B' n : Nat} {w0 : World} {u v0 : Value} {r : List Int} {xs : List Value} {e : TypeId} {s : Nat} (hu : Own C w u r) (hx : w0.ownsRow B' e s v0 n xs) (hC : w0.heap.size ≤ C) : u.ownBlock = none ∨ u.ownBlock ≠ v0.ownBlock := by
  cases hq : u.ownBlock with
  | none => exact .inl rfl
  | some k =>
    right
    intro he
    have h1 := (World.ownsRow.lt hu k hq).1
    have h2 := (World.ownsRow.lt hx k he.symm).2
    omega
end
theorem own_shape {w : World} {B : Nat} {e : TypeId} {s : Nat} {v : Value} {n : Nat} {xs : List Value} (h : w.ownsRow B e s v n xs) : ∃ a n c, v = .slice a n c := by
  rcases h.2 with ⟨rfl, _⟩ | ⟨g, cap, cur, rfl, _⟩
  · exact ⟨_, _, _, rfl⟩
  · exact ⟨_, _, _, rfl⟩
end Go.Proofs.Ythjbfdoclifhoaa

namespace Go.Proofs.Ythjbfdoclifhoaa
open Go.RowKit
set_option linter.unusedVariables false

/-- products of pairs -/
def caP (T U : List (List Int)) (m p q : Int) : Int := tv T (p / m) (q / m) * m + tv U (p % m) (q % m)
def caOk (L : List Int) (T : List (List Int)) (M : List Int) (U : List (List Int)) : Bool := algB L T && (algB M U && decide ((L.length : Int) * M.length ≤ 6))
def caL (L : List Int) (T : List (List Int)) (M : List Int) (U : List (List Int)) : List Int := if caOk L T M U then upL (crossG L M) ((L.length : Int) * M.length) else []
def caT (L : List Int) (T : List (List Int)) (M : List Int) (U : List (List Int)) : List (List Int) := if caOk L T M U then tabL (caP T U M.length) ((L.length : Int) * M.length) else []
section
variable {L M : List Int} {T U : List (List Int)}
theorem ca_yes (h1 : algB L T = true) (h2 : algB M U = true) (h3 : (L.length : Int) * M.length ≤ 6) : caOk L T M U = true ∧ caL L T M U = upL (crossG L M) ((L.length : Int) * M.length) ∧ caT L T M U = tabL (caP T U M.length) ((L.length : Int) * M.length) := by
  have h : caOk L T M U = true := by unfold caOk; rw [h1, h2, decide_eq_true h3]; rfl
  exact ⟨h, by unfold caL; rw [h]; rfl, by unfold caT; rw [h]; rfl⟩
theorem ca_no (h : caOk L T M U = false) : caL L T M U = [] ∧ caT L T M U = [] := ⟨by unfold caL; rw [h]; rfl, by unfold caT; rw [h]; rfl⟩
theorem ca_ti (L : List Int) (T : List (List Int)) (M : List Int) (U : List (List Int)) : Ti (caL L T M U) (caT L T M U) := by
  cases h : caOk L T M U with
  | false => rw [(ca_no h).1, (ca_no h).2]; exact Ti.zero
  | true =>
    have h3 : (L.length : Int) * M.length ≤ 6 := by
      unfold caOk at h
      exact of_decide_eq_true (Bool.and_eq_true_iff.1 (Bool.and_eq_true_iff.1 h).2).2
    unfold caL caT
    rw [h, if_pos rfl, if_pos rfl]
    refine ⟨by rw [stU_len]; omega, by rw [tabL_len]; omega, fun j hj => ?_⟩
    rw [tabL_len] at hj
    rw [tabL_rlen _ hj]; omega
theorem ca_bound {a b m : Int} (a0 : 0 ≤ a) (a6 : a ≤ 6) (m0 : 0 ≤ m) (m6 : m ≤ 6) (b0 : 0 ≤ b) (b6 : b ≤ 6) : 0 ≤ a * m ∧ a * m ≤ 36 ∧ 0 ≤ a * m + b ∧ a * m + b ≤ 42 := by
  have h := mul_le36 a0 a6 m0 m6
  omega
end
end Go.Proofs.Ythjbfdoclifhoaa

namespace Go.Proofs.Ythjbfdoclifhoaa
open Go.RowKit
set_option linter.unusedVariables false
end Go.Proofs.Ythjbfdoclifhoaa

/- Meets as products. -/
namespace Go.Proofs.Ythjbfdoclifhoaa

theorem mt_comm2 {L : List Int} (h : latB L = true) {x y : Int} (hx : El L x) (hy : El L y) : mt L x y = mt L y x :=
  bl_anti h (mt_el h hx hy) (mt_el h hy hx) (mt_ge h hy hx (mt_el h hx hy) (mt_lb2 h hx hy) (mt_lb1 h hx hy)) (mt_ge h hx hy (mt_el h hy hx) (mt_lb2 h hy hx) (mt_lb1 h hy hx))
theorem mt_assoc2 {L : List Int} (h : latB L = true) {x y z : Int} (hx : El L x) (hy : El L y) (hz : El L z) : mt L (mt L x y) z = mt L x (mt L y z) := by
  have e1 := mt_el h hx hy
  have e2 := mt_el h hy hz
  have e3 := mt_el h e1 hz
  have e4 := mt_el h hx e2
  refine bl_anti h e3 e4 (mt_ge h hx e2 e3 ?_ (mt_ge h hy hz e3 ?_ (mt_lb2 h e1 hz))) (mt_ge h e1 hz e4 (mt_ge h hx hy e4 (mt_lb1 h hx e2) ?_) ?_)
  · exact bl_trans h e3 e1 hx (mt_lb1 h e1 hz) (mt_lb1 h hx hy)
  · exact bl_trans h e3 e1 hy (mt_lb1 h e1 hz) (mt_lb2 h hx hy)
  · exact bl_trans h e4 e2 hy (mt_lb2 h hx e2) (mt_lb1 h hy hz)
  · exact bl_trans h e4 e2 hz (mt_lb2 h hx e2) (mt_lb2 h hy hz)
end Go.Proofs.Ythjbfdoclifhoaa

namespace Go.Proofs.Ythjbfdoclifhoaa
open Go.RowKit

/-- meets as products: the rows -/
def mtT (L : List Int) : List (List Int) := tabL (mt L) (num L)
theorem mtT_tv {L : List Int} {x y : Int} (hx : El L x) (hy : El L y) : tv (mtT L) x y = mt L x y := tabL_tv _ hx.1 hx.2 hy.1 hy.2
theorem mtT_shape {L : List Int} (h : latB L = true) : shapeB L (mtT L) = true := by
  have hn := (lat_len h).1
  refine shape_t (m := num L) (by unfold mtT; rw [tabL_len]; omega) (Int.le_refl _) fun x x0 x1 => ?_
  have hr : rowAt (mtT L) x = lstTo (mt L x) (num L) := by
    have := tabL_row (mt L) (n := num L) (j := x.toNat) (by omega)
    rw [Int.toNat_of_nonneg x0] at this
    exact this
  refine rowOk_t (m := num L) (by rw [hr]; exact lstTo_len _ _ (by omega)) (Int.le_refl _) fun y y0 y1 => ?_
  have := lat_mt h x0 x1 y0 y1
  unfold cellOk
  rw [mtT_tv ⟨x0, x1⟩ ⟨y0, y1⟩, decide_eq_true this.1, decide_eq_true (show mt L x y ≤ num L - 1 by omega)]; rfl
theorem mtT_go {L : List Int} (h : latB L = true) {x y z : Int} (hx : El L x) (hy : El L y) (hz : El L z) : goQ L (mtT L) x y z = distXYZ L x y z := by
  unfold goQ distXYZ
  rw [mtT_tv hx hy, mtT_tv hx hz, mtT_tv hx (jn_el h hy hz)]
theorem mtT_as {L : List Int} (h : latB L = true) {x y z : Int} (hx : El L x) (hy : El L y) (hz : El L z) : asQ (mtT L) x y z = true := by
  unfold asQ
  rw [mtT_tv hx hy, mtT_tv hy hz, mtT_tv (mt_el h hx hy) hz, mtT_tv hx (mt_el h hy hz), mt_assoc2 h hx hy hz]
  simp
theorem mtT_kb {L : List Int} (h : latB L = true) {x : Int} (hx : El L x) : (tv (mtT L) x (num L - 1) == x && tv (mtT L) x 0 == 0) = true := by
  have hn := (lat_len h).1
  have ht : El L (num L - 1) := ⟨by omega, by omega⟩
  have h0 : El L 0 := ⟨by omega, by omega⟩
  rw [mtT_tv hx ht, mtT_tv hx h0, mt_of_le h hx ht (bl_top h hx), mt_of_ge h hx h0 (bl_low h hx)]
  simp
theorem mtT_alg {L : List Int} (h : latB L = true) : algB L (mtT L) = distB L := by
  unfold algB distB
  rw [h, mtT_shape h, Bool.true_and, Bool.true_and]
  refine allI_congr fun x x0 x1 => ?_
  unfold lwX distX
  rw [mtT_kb h ⟨x0, x1⟩, Bool.true_and]
  refine allI_congr fun y y0 y1 => ?_
  unfold lwXY distXY
  rw [mtT_tv ⟨x0, x1⟩ ⟨y0, y1⟩, mtT_tv ⟨y0, y1⟩ ⟨x0, x1⟩, mt_comm2 h ⟨x0, x1⟩ ⟨y0, y1⟩, beq_self_eq_true, Bool.true_and]
  refine allI_congr fun z z0 z1 => ?_
  unfold lwXYZ
  rw [mtT_as h ⟨x0, x1⟩ ⟨y0, y1⟩ ⟨z0, z1⟩, Bool.true_and]
  exact mtT_go h ⟨x0, x1⟩ ⟨y0, y1⟩ ⟨z0, z1⟩
end Go.Proofs.Ythjbfdoclifhoaa

namespace Go.Proofs.Ythjbfdoclifhoaa
open Go.RowKit

/-- the algebra of meets, where there is one -/
def mtOk (L : List Int) : Bool := latB L && distB L
def mtLL (L : List Int) : List Int := if mtOk L then L else []
def mtTT (L : List Int) : List (List Int) := if mtOk L then tabL (mt L) L.length else []
theorem mt_yes {L : List Int} (h1 : latB L = true) (h2 : distB L = true) : mtOk L = true ∧ mtLL L = L ∧ mtTT L = tabL (mt L) L.length := by
  have h : mtOk L = true := by unfold mtOk; rw [h1, h2]; rfl
  exact ⟨h, by unfold mtLL; rw [h]; rfl, by unfold mtTT; rw [h]; rfl⟩
theorem mt_no {L : List Int} (h : mtOk L = false) : mtLL L = [] ∧ mtTT L = [] := ⟨by unfold mtLL; rw [h]; rfl, by unfold mtTT; rw [h]; rfl⟩
theorem mt_ti (L : List Int) : Ti (mtLL L) (mtTT L) := by
  cases h : mtOk L with
  | false => rw [(mt_no h).1, (mt_no h).2]; exact Ti.zero
  | true =>
    have h1 : latB L = true := by unfold mtOk at h; exact (Bool.and_eq_true_iff.1 h).1
    have h2 : distB L = true := by unfold mtOk at h; exact (Bool.and_eq_true_iff.1 h).2
    rw [(mt_yes h1 h2).2.1, (mt_yes h1 h2).2.2]
    have h6 := (lat_len h1).2
    have hn : num L = L.length := rfl
    refine ⟨by omega, by rw [tabL_len]; omega, fun j hj => ?_⟩
    rw [tabL_len] at hj
    rw [tabL_rlen _ hj]; omega
end Go.Proofs.Ythjbfdoclifhoaa

namespace Go.Proofs.Ythjbfdoclifhoaa
open Go.RowKit
set_option linter.unusedVariables false

end Go.Proofs.Ythjbfdoclifhoaa
