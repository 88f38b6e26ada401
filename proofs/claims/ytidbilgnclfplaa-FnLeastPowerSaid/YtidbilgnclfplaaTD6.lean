import Derived.Test.YtidbilgnclfplaaTD1
import Derived.Deep.AppendLies
namespace Go.Proofs.Ytidbilgnclfplaa
open Go.RowKit
set_option linter.unusedVariables false

/-- numbers that can be read are drawn, and there is a place -/
def RetNumS (C g : Nat) (m : Int) (w : World) (e : Ending) (w' : World) : Prop := ∃ (L : List Int) (b o : Nat) (c : Nat), e = .returned (.slice (some ⟨b, o, none⟩) L.length c) ∧ w.heap.size ≤ b ∧ RY w' (some ⟨b, o, none⟩) L ∧ L.length ≤ c ∧ L.length ≤ 16 ∧ w.grownBy w' (some g) ∧ Rdr w' C g m
theorem slice_tailS {B gb c : Nat} {x : Int} {t : List Int} {w : World} (h : Own B w (.slice (some ⟨gb, 0, none⟩) (t.length + 1) c) (x :: t)) : ∃ o c', t.length ≤ c' ∧ RY w (some ⟨gb, o, none⟩) t ∧ ∀ w : World, (Instr.slice 22 (.slice (some ⟨gb, 0, none⟩) (t.length + 1) c) (some (.int .i64 1)) none none).run Try.prog w = .ok (.slice (some ⟨gb, o, none⟩) t.length c') w := by
  have hc := ownCapT h
  rw [List.length_cons] at hc
  by_cases h1 : c = 1
  · have e : t = [] := List.length_eq_zero_iff.1 (by omega)
    subst e
    refine ⟨0, 0, Nat.zero_le _, fun h => absurd rfl h, fun w => ?_⟩
    rw [slice_run1 _ _ _ (by omega)]
    subst h1
    rfl
  · refine ⟨0 + 1, c - 1, by omega, (ry_of h).tail, fun w => ?_⟩
    rw [slice_run1 _ _ _ (by omega)]
    unfold sliced
    rw [if_neg h1]
    simp [Addr.add]
theorem ry_grown {w w' : World} {b o : Nat} {r : Option Nat} {L : List Int} (h : RY w (some ⟨b, o, none⟩) L) (hg : w.grownBy w' r) (hne : some b ≠ r) : RY w' (some ⟨b, o, none⟩) L := fun hL => by
  obtain ⟨b', o', c, e, hb, hc⟩ := h hL
  injection e with e
  injection e with e1 e2 _
  subst e1 e2
  have hk := hg.block b (lt_of_block hb) hne
  exact ⟨b, o, c, rfl, hk.trans hb, fun j hj => (cell_of_heap hb hk _).trans (hc j hj)⟩
/-- an append of maybe nothing, at a step of a region -/
theorem step_append_some {P : Program} {w : World} {ops : Array Oper} {o : Oper} {a : Act} {K : Act → World → Prop} {Q : Exit → Act → World → Prop} {E : Prop} (hgd : o.guard = none) (s x : Operand) (t : TypeId)
    (ho : o.op = .call { callee := .builtin .append, args := #[s, x], argTypes := #[t, t] })
    (base : Nat) (e : TypeId) (i : TypeInfo) (z : Value) (size bytes : Nat) (ht : P.underlying t = some (.slice e)) (hi : P.info? e = some i) (hz : i.zero = some z)
    (hsize : i.size = size) (hby : i.bytes = bytes) (hzs : z.cells.size = size) (hsz : 0 < size)
    (v : Value) (n : Nat) (xs : List Value) (hs : a.eval s = v) (hown : w.ownsRow base e size v n xs)
    (ad : Addr) (m c : Nat) (news : List Value) (hx : a.eval x = .slice (some ad) m c) (hl : news.length = m * size) (hnews : ∀ j u, news[j]? = some u → w.cell? (ad.add j) = some u) (h1 : ∀ u ∈ news, u.oneCell' = true)
    (hm : 0 < n + m) (h63 : n + m ≤ maxLen) (hbytes : (n + m) * bytes ≤ 140737488355328) (hbase : base ≤ w.heap.size)
    (h : ∀ g cap w', w'.ownsRow base e size (.slice (some ⟨g, 0, none⟩) (n + m) cap) (n + m) (xs ++ news) → w.grownBy w' v.ownBlock → g < w'.heap.size → K (a.put o.dst (.slice (some ⟨g, 0, none⟩) (n + m) cap)) w') :
    if Region.wanted o (yielded ops a.tmps) = true then Oper.wp P o a w K Q else E := by
  have hw : Region.wanted o (yielded ops a.tmps) = true := by simp [Region.wanted, hgd]
  rw [if_pos hw]
  obtain ⟨v', w', hr, h2, h3, _, _⟩ := run_append_own_at (P := P) w base t o.type e i z size bytes ht hi hz hsize hby hzs hsz v n xs hown ad m c news hl hnews h1 h63 hbytes hbase
  obtain ⟨g, cap, rfl, _, hlt⟩ := h2.form (by omega)
  unfold Oper.wp execOp
  simp only [ho, resolve, invoke, builtin, Sem.run_bind, Sem.run_pure, Result.andThen_ok, List.map_toArray, List.map_cons, List.map_nil, hs, hx, hr]
  exact h g cap w' h2 h3 hlt
set_option maxRecDepth 100000 in
set_option maxHeartbeats 4000000 in
/-- spec.someTerm: with a place -/
theorem someTermS_any (C g : Nat) (m : Int) (w : World) (hr : Rdr w C g m) (m1 : m ≤ 70000) :
    Calls Try.prog 75 #[.pointer (some ⟨g, 0, none⟩)] w (RetNumS C g (m + 42) w) := by
  obtain ⟨i0, hi, hz0, hz1, hz2⟩ := info_parts info_int
  have hCw : C ≤ w.heap.size := by have := hr.low; have := hr.lt; omega
  have hr2 := hr.alloc (.cells #[.int .i64 2, .int .i64 3, .int .i64 1, .int .i64 0] 3)
  have hg0 := grown_alloc (grown_refl w (some g)) (.cells #[.int .i64 2, .int .i64 3, .int .i64 1, .int .i64 0] 3)
  have hrow : Row (w.alloc (.cells #[.int .i64 2, .int .i64 3, .int .i64 1, .int .i64 0] 3)) w.heap.size [2, 3, 1, 0] := heap_alloc_new w _
  have hown := Own.row hrow (Nat.le_refl _) (by unfold maxLen; simp)
  go_enter Try.func75, Try.ntmps75
  go_wp2_with fail
  refine (one_any C g m _ _ [2, 3, 1, 0] _ hr2 (by omega) (hown.held hr2) (by simp) (by simp)).mono ?_
  rintro e w1 ⟨j, j0, j1, rfl, hg1', hr1⟩
  have hb : 0 ≤ nth [2, 3, 1, 0] j ∧ nth [2, 3, 1, 0] j ≤ 3 := by
    have hm := nth_mem' [2, 3, 1, 0] j0 j1
    simp only [List.mem_cons, List.not_mem_nil, or_false] at hm
    omega
  obtain ⟨u, hu⟩ : ∃ u, u = nth [2, 3, 1, 0] j := ⟨_, rfl⟩
  rw [← hu] at hb ⊢
  clear hu
  have hg1 := grown_trans hg0 hg1'
  have k1 := tkM_le (d := u.toNat) (by omega)
  have k2 := tkL_le (d := u.toNat) (by omega)
  go_wp2_with fail
  refine (termOf_any C g u.toNat u (m + 1) w1 (by omega) (by omega) (by omega) hr1).mono ?_
  rintro e w2 ⟨L, v, rfl, hov, l1, l2, hg2', hr3⟩
  have hr2 : Rdr w2 C g (m + 38) := hr3.more (by omega)
  have hg2 := grown_trans hg1 hg2'
  have ho : Own w.heap.size w2 v L := hov.from hg1.size
  obtain ⟨gv, cv, rfl, gl, _⟩ := ho.shape.resolve_left (fun h => by have := h.2; rw [this] at l1; simp at l1)
  have l18 : (1 : Int) ≤ L.length := by omega
  have l15 : L.length ≤ 15 := by omega
  clear hov hr3 k1 k2 l2 hown hrow
  go_wp2_with fail
  refine (pick_any C g (m + 38) 30 w2 hr2 (by omega) (by omega) (by omega)).mono ?_
  rintro e w3 ⟨k, rfl, k0, k1, hg3', hr3⟩
  have hg3 := grown_trans hg2 hg3'
  have ho3 := ho.drawn hr2 hg3'
  have hs3 := hg3.size
  by_cases e0 : k = 0
  · subst e0
    go_wp2_with (at_builtin; refine wpList_append_own _ rfl _ _ 22 rfl w.heap.size 3 i0 (.int .i64 0) 1 8 Try.underlying22 hi hz0 hz1 hz2 rfl (by decide) _ _ _ rfl (World.ownsRow.alloc ho3 _) ⟨w3.heap.size, 0, none⟩ 1 1 [.int .i64 0] rfl rfl (cell_one_new _ _ _) (fun x hx => by simp at hx; subst hx; rfl) (by unfold maxLen; omega) (by omega) (by simp; omega) ?_; intro v4 w4 hown hgrow _; have ho4 : Own w.heap.size w4 v4 (L ++ [0]) := (by unfold Own; rw [List.map_append, List.length_append]; exact hown); have hr4 := (hr3.alloc (.cells #[.int .i64 0] 3)).app (ho3.alloc _) hCw hgrow; have hg4 := grown_app (grown_alloc hg3 (.cells #[.int .i64 0] 3)) hgrow (fun q hq => (World.ownsRow.lt ho3 q hq).1); obtain ⟨va, vc, rfl, gva, _⟩ := ho4.shape.resolve_left (fun h => (by have := h.2; simp at this)))
    go_ret
    exact ⟨_, va, 0, vc, by rw [List.length_append]; rfl, gva, ry_of ho4, ownCapT ho4, by simp; omega, hg4, hr4.more (by omega)⟩
  · have f0 : (k == 0) = false := by rw [beq_eq_false_iff_ne]; exact e0
    by_cases e1 : k = 1
    · subst e1
      go_wp2_with fail
      refine (pick_any C g (m + 38 + 1) L.length w3 hr3 (by omega) l18 (by omega)).mono ?_
      rintro e w4 ⟨q, rfl, q0, q1, hg4', hr4⟩
      have hg4 := grown_trans hg3 hg4'
      have ho4 := ho3.drawn hr3 hg4'
      have hrow : Row (w4.alloc (.cells #[.int .i64 3, .int .i64 17, .int .i64 (-1), .int .i64 12] 3)) w4.heap.size [3, 17, -1, 12] := heap_alloc_new w4 _
      have hown := Own.row hrow (Nat.le_refl _) (by unfold maxLen; simp)
      have hr5 := hr4.alloc (.cells #[.int .i64 3, .int .i64 17, .int .i64 (-1), .int .i64 12] 3)
      have hg5 := grown_alloc hg4 (.cells #[.int .i64 3, .int .i64 17, .int .i64 (-1), .int .i64 12] 3)
      have ho5 := ho4.alloc (.cells #[.int .i64 3, .int .i64 17, .int .i64 (-1), .int .i64 12] 3)
      go_wp2_with fail
      refine (one_any C g (m + 38 + 1 + 1) _ _ [3, 17, -1, 12] _ hr5 (by omega) (hown.held hr5) (by simp) (by simp)).mono ?_
      rintro e w6 ⟨i, i0', i1, rfl, hg6', hr6⟩
      obtain ⟨z, hz⟩ : ∃ u, u = nth [3, 17, -1, 12] i := ⟨_, rfl⟩
      rw [← hz]
      clear hz
      have hg6 := grown_trans hg5 hg6'
      have ho6 := ho5.drawn hr5 hg6'
      have hfr := ho6.freeAt q.toNat
      have hce := ho6.cellAt q0 q1
      obtain ⟨ho7, hg7'⟩ := ho6.stored q.toNat z
      have hg7 : w.grownBy (w6.setCell ⟨gv, q.toNat, none⟩ (.int .i64 z)) (some g) := grown_app hg6 hg7' (fun q hq => by injection hq with hq; omega)
      have hr7 : Rdr (w6.setCell ⟨gv, q.toNat, none⟩ (.int .i64 z)) C g (m + 42) := (hr6.app ho6 hCw hg7').more (by omega)
      have hll : (L.set q.toNat z).length = L.length := List.length_set
      have HLL := Lib.hid hll
      have hcap := ownCapT ho7
      clear hll
      go_wp2
      go_ret
      exact ⟨L.set q.toNat z, _, _, cv, by rw [HLL.out]; rfl, gl, ry_of ho7, hcap, by rw [HLL.out]; omega, hg7, hr7⟩
    · have f1 : (k == 1) = false := by rw [beq_eq_false_iff_ne]; exact e1
      by_cases e2 : k = 2
      · subst e2
        cases L with
        | nil => simp at l1
        | cons x t =>
          rw [List.length_cons] at ho3 l15 ⊢
          obtain ⟨o', c', hc', hry, hsl⟩ := slice_tailS ho3
          go_wp2
          go_ret
          exact ⟨t, gv, o', c', rfl, gl, hry, hc', by omega, hg3, hr3.more (by omega)⟩
      · have f2 : (k == 2) = false := by rw [beq_eq_false_iff_ne]; exact e2
        go_wp2
        go_ret
        exact ⟨L, _, _, cv, rfl, gl, ry_of ho3, ownCapT ho3, by omega, hg3, hr3.more (by omega)⟩
end Go.Proofs.Ytidbilgnclfplaa
