import Derived.Test.YthjbfdoclifhoaaCH5
import Derived.Test.YthjbfdoclifhoaaI5
import Derived.Test.YthjbfdoclifhoaaG11
import Derived.Test.YthjbfdoclifhoaaY1
/- The program's search for chains, step by step, and what it finds: by the kernel. -/
namespace Go.Proofs.Ythjbfdoclifhoaa
set_option linter.unusedVariables false

/-- the places of a draft, in their order -/
def plN (n : Nat) : List (Nat × Nat) := (List.range (n - 1)).flatMap fun x => ((List.range (n - 1)).filter fun y => decide (1 ≤ x) && decide (x ≤ y)).map fun y => (x, y)
def plX (n k : Nat) : Nat := ((plN n).getD k (0, 0)).1
def plY (n k : Nat) : Nat := ((plN n).getD k (0, 0)).2
/-- the draft's table at its beginning -/
def drC (n x y : Nat) : Int := if x = n - 1 then (if y < n then y else 0) else if y = n - 1 then (if x < n then x else 0) else if 1 ≤ x ∧ x < n - 1 ∧ 1 ≤ y ∧ y < n - 1 then -1 else 0
def dr0 (n : Nat) : List (List Int) := (List.range 6).map fun x => (List.range 6).map fun y => drC n x y
def sm3 (T : List (List Int)) (x y z : Int) : Bool := (tv T x y == -1 || tv T y z == -1) || ((tv T (tv T x y) z == -1 || tv T x (tv T y z) == -1) || tv T (tv T x y) z == tv T x (tv T y z))
def sameD (n : Nat) (T : List (List Int)) : Bool := allI n fun x => allI n fun y => allI n fun z => sm3 T x y z
def leastD (T : List (List Int)) (x y : Nat) : Int := if tv T ((x : Int) - 1) y < tv T x ((y : Int) - 1) then tv T x ((y : Int) - 1) else tv T ((x : Int) - 1) y
/-- where the search stands: at a new place (0), at a product to be tried (1), on its way back (2) -/
structure DS where
  m : Nat
  T : List (List Int)
  k : Nat
  z : Int
  R : List (List (List Int))
def stepD (n : Nat) (s : DS) : DS :=
  if s.m = 0 then (if s.k = (plN n).length then ⟨2, s.T, s.k, s.z, s.R ++ [s.T]⟩ else ⟨1, s.T, s.k, leastD s.T (plX n s.k) (plY n s.k), s.R⟩)
  else if s.m = 1 then (if (plX n s.k : Int) < s.z then ⟨2, s.T, s.k, s.z, s.R⟩ else if sameD n (set2 s.T (plX n s.k) (plY n s.k) s.z) then ⟨0, set2 s.T (plX n s.k) (plY n s.k) s.z, s.k + 1, s.z, s.R⟩ else ⟨1, s.T, s.k, s.z + 1, s.R⟩)
  else ⟨1, set2 s.T (plX n (s.k - 1)) (plY n (s.k - 1)) (-1), s.k - 1, tv s.T (plX n (s.k - 1)) (plY n (s.k - 1)) + 1, s.R⟩
def runD (n : Nat) : Nat → DS → Option (List (List (List Int)))
  | 0, _ => none
  | f + 1, s => if s.m = 2 ∧ s.k = 0 then some s.R else runD n f (stepD n s)
def rowsD (n : Nat) (t : List (List Int)) : List (List Int) := tabL (tv t) n
/-- what all steps keep -/
def okD (n : Nat) (s : DS) : Bool := decide (s.k ≤ (plN n).length) && (decide (-1 ≤ s.z) && (decide (s.z ≤ 6) && (decide (s.T.length = 6) && (s.T.all (fun r => decide (r.length = 6) && r.all fun v => decide (-1 ≤ v) && decide (v ≤ 5)) && (decide (s.m = 1 → s.k < (plN n).length) && decide (s.R.length ≤ 1000))))))
def runOk (n : Nat) : Nat → DS → Bool
  | 0, _ => false
  | f + 1, s => okD n s && (decide (s.m = 2 ∧ s.k = 0) || runOk n f (stepD n s))
def finD (n : Nat) : Bool := match runD n 1000 ⟨0, dr0 n, 0, 0, []⟩ with | none => false | some R => decide (R.map (rowsD n) = chT n)
set_option maxRecDepth 100000 in
theorem finD_1 : finD 1 = true := by decide +kernel
set_option maxRecDepth 100000 in
theorem finD_2 : finD 2 = true := by decide +kernel
set_option maxRecDepth 100000 in
theorem finD_3 : finD 3 = true := by decide +kernel
set_option maxRecDepth 100000 in
theorem finD_4 : finD 4 = true := by decide +kernel
set_option maxRecDepth 100000 in
theorem finD_5 : finD 5 = true := by decide +kernel
set_option maxRecDepth 100000 in
theorem runOk_1 : runOk 1 1000 ⟨0, dr0 1, 0, 0, []⟩ = true := by decide +kernel
set_option maxRecDepth 100000 in
theorem runOk_2 : runOk 2 1000 ⟨0, dr0 2, 0, 0, []⟩ = true := by decide +kernel
set_option maxRecDepth 100000 in
theorem runOk_3 : runOk 3 1000 ⟨0, dr0 3, 0, 0, []⟩ = true := by decide +kernel
set_option maxRecDepth 100000 in
theorem runOk_4 : runOk 4 1000 ⟨0, dr0 4, 0, 0, []⟩ = true := by decide +kernel
set_option maxRecDepth 100000 in
theorem runOk_5 : runOk 5 1000 ⟨0, dr0 5, 0, 0, []⟩ = true := by decide +kernel
end Go.Proofs.Ythjbfdoclifhoaa

/- A draft as the program keeps it. -/
namespace Go.Proofs.Ythjbfdoclifhoaa
open Go.RowKit
set_option linter.unusedVariables false

/-- the cells of a draft -/
def drA (n : Int) (f : Int → Int → Value) (pv kv : Value) : Array Value := #[.int .i64 n] ++ (tab2 f ++ #[pv, kv])
section
variable (n : Int) (f : Int → Int → Value) (pv kv : Value)
theorem drA_size : (drA n f pv kv).size = 39 := by simp [drA, tab2_size]
theorem drA_n : (drA n f pv kv)[0]? = some (.int .i64 n) := by
  unfold drA
  rw [Array.getElem?_append_left (by simp)]
  rfl
theorem drA_t {x y : Int} (x0 : 0 ≤ x) (x1 : x < 6) (y0 : 0 ≤ y) (y1 : y < 6) : (drA n f pv kv)[1 + x.toNat * 6 + y.toNat]? = some (f x y) := by
  have h : x.toNat * 6 + y.toNat < 36 := by omega
  unfold drA
  rw [Array.getElem?_append_right (by simp; omega), Array.getElem?_append_left (by rw [tab2_size]; simp; omega)]
  rw [show 1 + x.toNat * 6 + y.toNat - (#[Value.int IntKind.i64 n] : Array Value).size = x.toNat * 6 + y.toNat by simp; omega]
  exact tab2_get f x0 x1 y0 y1
theorem drA_p : (drA n f pv kv)[37]? = some pv := by
  unfold drA
  rw [Array.getElem?_append_right (by simp), Array.getElem?_append_right (by rw [tab2_size]; simp)]
  simp [tab2_size]
theorem drA_k : (drA n f pv kv)[38]? = some kv := by
  unfold drA
  rw [Array.getElem?_append_right (by simp), Array.getElem?_append_right (by rw [tab2_size]; simp)]
  simp [tab2_size]
theorem drA_setT {x y : Int} (v : Value) (x0 : 0 ≤ x) (x1 : x < 6) (y0 : 0 ≤ y) (y1 : y < 6) : (drA n f pv kv).setIfInBounds (1 + x.toNat * 6 + y.toNat) v = drA n (upd2 f x y v) pv kv := by
  have h : x.toNat * 6 + y.toNat < 36 := by omega
  unfold drA
  rw [Array.setIfInBounds_append_right (by simp; omega), Array.setIfInBounds_append_left (by rw [tab2_size]; simp; omega)]
  rw [show 1 + x.toNat * 6 + y.toNat - (#[Value.int IntKind.i64 n] : Array Value).size = x.toNat * 6 + y.toNat by simp; omega, tab2_set f v x0 x1 y0 y1]
theorem drA_setP (v : Value) : (drA n f pv kv).setIfInBounds 37 v = drA n f v kv := by
  unfold drA
  rw [Array.setIfInBounds_append_right (by simp), Array.setIfInBounds_append_right (by rw [tab2_size]; simp)]
  simp [tab2_size]
theorem drA_setK (v : Value) : (drA n f pv kv).setIfInBounds 38 v = drA n f pv v := by
  unfold drA
  rw [Array.setIfInBounds_append_right (by simp), Array.setIfInBounds_append_right (by rw [tab2_size]; simp)]
  simp [tab2_size]
end
/-- a draft lies in the block d -/
def DrB (w : World) (d : Nat) (n : Int) (f : Int → Int → Value) (pv kv : Value) : Prop := w.heap[d]? = some (.cells (drA n f pv kv) 90 (0, 0))
section
variable {w : World} {d : Nat} {n : Int} {f : Int → Int → Value} {pv kv : Value}
theorem DrB.lt (h : DrB w d n f pv kv) : d < w.heap.size := lt_of_block h
theorem DrB.cn (h : DrB w d n f pv kv) : w.cell? ⟨d, 0, none⟩ = some (.int .i64 n) := by rw [cell_of_row w d _ _ _ _ h]; exact drA_n ..
theorem DrB.ct (h : DrB w d n f pv kv) {x y : Int} (x0 : 0 ≤ x) (x1 : x < 6) (y0 : 0 ≤ y) (y1 : y < 6) : w.cell? ⟨d, 1 + x.toNat * 6 + y.toNat, none⟩ = some (f x y) := by rw [cell_of_row w d _ _ _ _ h]; exact drA_t _ _ _ _ x0 x1 y0 y1
theorem DrB.cp (h : DrB w d n f pv kv) : w.cell? ⟨d, 37, none⟩ = some pv := by rw [cell_of_row w d _ _ _ _ h]; exact drA_p ..
theorem DrB.ck (h : DrB w d n f pv kv) : w.cell? ⟨d, 38, none⟩ = some kv := by rw [cell_of_row w d _ _ _ _ h]; exact drA_k ..
theorem DrB.free (h : DrB w d n f pv kv) (j : Nat) : w.frozen? ⟨d, j, none⟩ = false := frozen_of_row w d j _ _ h
theorem DrB.setT (h : DrB w d n f pv kv) {x y : Int} (v : Value) (x0 : 0 ≤ x) (x1 : x < 6) (y0 : 0 ≤ y) (y1 : y < 6) : DrB (w.setCell ⟨d, 1 + x.toNat * 6 + y.toNat, none⟩ v) d n (upd2 f x y v) pv kv := by
  unfold DrB at *
  rw [setCell_eq_setRow w d _ _ _ _ v h, drA_setT _ _ _ _ v x0 x1 y0 y1]
  exact setRow_heap _ _ _ _ _ _ h
theorem DrB.setP (h : DrB w d n f pv kv) (v : Value) : DrB (w.setCell ⟨d, 37, none⟩ v) d n f v kv := by
  unfold DrB at *
  rw [setCell_eq_setRow w d _ _ _ _ v h, drA_setP]
  exact setRow_heap _ _ _ _ _ _ h
theorem DrB.setK (h : DrB w d n f pv kv) (v : Value) : DrB (w.setCell ⟨d, 38, none⟩ v) d n f pv v := by
  unfold DrB at *
  rw [setCell_eq_setRow w d _ _ _ _ v h, drA_setK]
  exact setRow_heap _ _ _ _ _ _ h
theorem DrB.same {w' : World} (h : DrB w d n f pv kv) (e : w'.heap[d]? = w.heap[d]?) : DrB w' d n f pv kv := e.trans h
theorem DrB.below {w' : World} (h : DrB w d n f pv kv) (hb : Below w.heap.size w w') : DrB w' d n f pv kv := h.same (hb.block _ h.lt)
end
section
variable {P : Program} {ops : Array Oper} {md : Region.Mode} {Q : Exit → Act → World → Prop} {C : World → Prop}
/-- a store that alone is ready -/
theorem anyC_store {i : Nat} {o : Oper} {fuel : Nat} {listed : Array Bool} {a : Act} {w w' : World} (hi : ops[i]? = some o)
    (hr : Region.ready md ops listed = [i]) (hw : Region.wanted o (yielded ops a.tmps) = true) (hx : (execOp a.eval o).run P w = .ok .skip w') (hC : C w)
    (h : wpAnyC P md ops Q C fuel (listed.setIfInBounds i true) (a.put o.dst undef) w') : wpAnyC P md ops Q C (fuel + 1) listed a w := by
  refine ⟨hC, fun h0 => (by rw [hr] at h0; cases h0), fun j hj => ?_⟩
  rw [hr, List.mem_singleton] at hj
  subst hj
  unfold wpOp
  simp only [hi, hw, if_true, Oper.wp, hx, Oper.upon]
  exact .inl h
end
end Go.Proofs.Ythjbfdoclifhoaa

namespace Go.Proofs.Ythjbfdoclifhoaa
open Go.RowKit
set_option linter.unusedVariables false

theorem runs_moveY {P : Program} {o : Oper} {a : Act} (x : Operand) (ho : o.op = .move x) (v : Value) (hx : a.eval x = v) (w : World) : (execOp a.eval o).run P w = .ok (.value v) w := by
  subst hx
  unfold execOp
  simp [ho]
theorem two_cells {w : World} {g : Nat} {x y : Value} {t : TypeId} (h : w.heap[g]? = some (.cells #[x, y] t (0, 0))) : w.cell? ⟨g, 0, none⟩ = some x ∧ w.cell? ⟨g, 1, none⟩ = some y :=
  ⟨by rw [cell_of_row w g 0 _ _ _ h]; rfl, by rw [cell_of_row w g 1 _ _ _ h]; rfl⟩
theorem grown_cell {w w' : World} {d o : Nat} {v : Value} (h : w.grownBy w' (some d)) : w.grownBy (w'.setCell ⟨d, o, none⟩ v) (some d) :=
  ⟨h.os, h.tape, h.output, by have := h.size; simpa [World.setCell] using this, fun k hk hne => (Below.heap_setCell _ _ _ _ (by show k ≠ d; intro e; exact hne (by rw [e]))).trans (h.block k hk hne)⟩
theorem grown_dr0 {w w' : World} {r : Option Nat} (h : w.grownBy w' r) : w.grownBy w'.drew r := ⟨h.os, h.tape, h.output, h.size, h.block⟩
set_option maxRecDepth 100000 in
set_option maxHeartbeats 4000000 in
/-- (*impl.draft).write -/
theorem drWrite_any (d : Nat) (n : Int) (f : Int → Int → Value) (pv kv : Value) (x y z : Int) (w : World) (h : DrB w d n f pv kv) (x0 : 0 ≤ x) (x1 : x < 6) (y0 : 0 ≤ y) (y1 : y < 6) :
    Calls Try.prog 41 #[.pointer (some ⟨d, 0, none⟩), .agg #[.int .i64 x, .int .i64 y], .int .i64 z] w fun e w' => e = .returned (.tuple #[]) ∧ DrB w' d n (upd2 (upd2 f x y (.int .i64 z)) y x (.int .i64 z)) pv kv ∧ w.grownBy w' (some d) := by
  have ld := h.lt
  obtain ⟨w1, hw1⟩ : ∃ w1, w1 = w.alloc (.cells #[.int .i64 x, .int .i64 y] 93) := ⟨_, rfl⟩
  have hB : Below w.heap.size w w1 := by rw [hw1]; exact (Below.refl _ _).alloc (Nat.le_refl _) _
  have hx : w1.heap[w.heap.size]? = some (.cells #[.int .i64 x, .int .i64 y] 93 (0, 0)) := by rw [hw1]; exact heap_alloc_new w _
  have h1 := h.below hB
  have cc := two_cells hx
  go_enter Try.func41, Try.ntmps41
  go_wp2_with (rw [← hw1]; clear hw1)
  refine wp_region_any (by kernel_rfl) ?_
  refine any_of_C (C := fun w' => w'.cell? ⟨w.heap.size, 0, none⟩ = some (.int .i64 x) ∧ w'.cell? ⟨w.heap.size, 1, none⟩ = some (.int .i64 y)) _ _ _ _ ?_
  refine anyC_take (i := 0) (oi := ⟨_, _, _, _, _, _⟩) (v := .pointer (some ⟨d, 0, none⟩)) rfl (by kernel_rfl) (by kernel_rfl) (by kernel_rfl) (fun _ _ _ h => h) (.inl ⟨by kernel_rfl, fun wz hz => by apply runs_moveY <;> rfl⟩) ?_
  refine anyC_take (i := 1) (oi := ⟨_, _, _, _, _, _⟩) (v := .pointer (some ⟨w.heap.size, 0, none⟩)) rfl (by kernel_rfl) (by kernel_rfl) (by kernel_rfl) (fun _ _ _ h => h) (.inl ⟨by kernel_rfl, fun wz hz => by obtain ⟨c0, c1⟩ := hz; go_simp⟩) ?_
  refine anyC_take (i := 2) (oi := ⟨_, _, _, _, _, _⟩) (v := .int .i64 x) rfl (by kernel_rfl) (by kernel_rfl) (by kernel_rfl) (fun _ _ _ h => h) (.inl ⟨by kernel_rfl, fun wz hz => by obtain ⟨c0, c1⟩ := hz; go_simp⟩) ?_
  (try simp only [Act.put, List.setIfInBounds_toArray, List.set_cons_zero, List.set_cons_succ])
  refine anyC_take (i := 3) (oi := ⟨_, _, _, _, _, _⟩) (v := .pointer (some ⟨w.heap.size, 1, none⟩)) rfl (by kernel_rfl) (by kernel_rfl) (by kernel_rfl) (fun _ _ _ h => h) (.inl ⟨by kernel_rfl, fun wz hz => by obtain ⟨c0, c1⟩ := hz; go_simp⟩) ?_
  refine anyC_take (i := 4) (oi := ⟨_, _, _, _, _, _⟩) (v := .int .i64 y) rfl (by kernel_rfl) (by kernel_rfl) (by kernel_rfl) (fun _ _ _ h => h) (.inl ⟨by kernel_rfl, fun wz hz => by obtain ⟨c0, c1⟩ := hz; go_simp⟩) ?_
  refine anyC_take (i := 5) (oi := ⟨_, _, _, _, _, _⟩) (v := .pointer (some ⟨d, 0, none⟩)) rfl (by kernel_rfl) (by kernel_rfl) (by kernel_rfl) (fun _ _ _ h => h) (.inl ⟨by kernel_rfl, fun wz hz => by apply runs_moveY <;> rfl⟩) ?_
  (try simp only [Act.put, List.setIfInBounds_toArray, List.set_cons_zero, List.set_cons_succ])
  refine anyC_take (i := 6) (oi := ⟨_, _, _, _, _, _⟩) (v := .pointer (some ⟨w.heap.size, 1, none⟩)) rfl (by kernel_rfl) (by kernel_rfl) (by kernel_rfl) (fun _ _ _ h => h) (.inl ⟨by kernel_rfl, fun wz hz => by obtain ⟨c0, c1⟩ := hz; go_simp⟩) ?_
  refine anyC_take (i := 7) (oi := ⟨_, _, _, _, _, _⟩) (v := .int .i64 y) rfl (by kernel_rfl) (by kernel_rfl) (by kernel_rfl) (fun _ _ _ h => h) (.inl ⟨by kernel_rfl, fun wz hz => by obtain ⟨c0, c1⟩ := hz; go_simp⟩) ?_
  refine anyC_take (i := 8) (oi := ⟨_, _, _, _, _, _⟩) (v := .pointer (some ⟨w.heap.size, 0, none⟩)) rfl (by kernel_rfl) (by kernel_rfl) (by kernel_rfl) (fun _ _ _ h => h) (.inl ⟨by kernel_rfl, fun wz hz => by obtain ⟨c0, c1⟩ := hz; go_simp⟩) ?_
  (try simp only [Act.put, List.setIfInBounds_toArray, List.set_cons_zero, List.set_cons_succ])
  refine anyC_take (i := 9) (oi := ⟨_, _, _, _, _, _⟩) (v := .int .i64 x) rfl (by kernel_rfl) (by kernel_rfl) (by kernel_rfl) (fun _ _ _ h => h) (.inl ⟨by kernel_rfl, fun wz hz => by obtain ⟨c0, c1⟩ := hz; go_simp⟩) ?_
  refine anyC_take (i := 10) (oi := ⟨_, _, _, _, _, _⟩) (v := .int .i64 z) rfl (by kernel_rfl) (by kernel_rfl) (by kernel_rfl) (fun _ _ _ h => h) (.inl ⟨by kernel_rfl, fun wz hz => by apply runs_moveY <;> rfl⟩) ?_
  refine anyC_take (i := 11) (oi := ⟨_, _, _, _, _, _⟩) (v := .int .i64 z) rfl (by kernel_rfl) (by kernel_rfl) (by kernel_rfl) (fun _ _ _ h => h) (.inl ⟨by kernel_rfl, fun wz hz => by apply runs_moveY <;> rfl⟩) ?_
  (try simp only [Act.put, List.setIfInBounds_toArray, List.set_cons_zero, List.set_cons_succ])
  refine anyC_take (i := 12) (oi := ⟨_, _, _, _, _, _⟩) (v := .pointer (some ⟨d, 0, none⟩)) rfl (by kernel_rfl) (by kernel_rfl) (by kernel_rfl) (fun _ _ _ h => h) (.inl ⟨by kernel_rfl, fun wz hz => by obtain ⟨c0, c1⟩ := hz; go_simp⟩) ?_
  refine anyC_take (i := 13) (oi := ⟨_, _, _, _, _, _⟩) (v := .pointer (some ⟨d, 1, none⟩)) rfl (by kernel_rfl) (by kernel_rfl) (by kernel_rfl) (fun _ _ _ h => h) (.inl ⟨by kernel_rfl, fun wz hz => by obtain ⟨c0, c1⟩ := hz; go_simp⟩) ?_
  refine anyC_take (i := 14) (oi := ⟨_, _, _, _, _, _⟩) (v := .pointer (some ⟨d, 1 + x.toNat * 6, none⟩)) rfl (by kernel_rfl) (by kernel_rfl) (by kernel_rfl) (fun _ _ _ h => h) (.inl ⟨by kernel_rfl, fun wz hz => by obtain ⟨c0, c1⟩ := hz; go_simp⟩) ?_
  (try simp only [Act.put, List.setIfInBounds_toArray, List.set_cons_zero, List.set_cons_succ])
  refine anyC_take (i := 15) (oi := ⟨_, _, _, _, _, _⟩) (v := .pointer (some ⟨d, 1 + x.toNat * 6 + y.toNat, none⟩)) rfl (by kernel_rfl) (by kernel_rfl) (by kernel_rfl) (fun _ _ _ h => h) (.inl ⟨by kernel_rfl, fun wz hz => by obtain ⟨c0, c1⟩ := hz; go_simp⟩) ?_
  refine anyC_take (i := 17) (oi := ⟨_, _, _, _, _, _⟩) (v := .pointer (some ⟨d, 0, none⟩)) rfl (by kernel_rfl) (by kernel_rfl) (by kernel_rfl) (fun _ _ _ h => h) (.inl ⟨by kernel_rfl, fun wz hz => by obtain ⟨c0, c1⟩ := hz; go_simp⟩) ?_
  refine anyC_take (i := 18) (oi := ⟨_, _, _, _, _, _⟩) (v := .pointer (some ⟨d, 1, none⟩)) rfl (by kernel_rfl) (by kernel_rfl) (by kernel_rfl) (fun _ _ _ h => h) (.inl ⟨by kernel_rfl, fun wz hz => by obtain ⟨c0, c1⟩ := hz; go_simp⟩) ?_
  (try simp only [Act.put, List.setIfInBounds_toArray, List.set_cons_zero, List.set_cons_succ])
  refine anyC_take (i := 19) (oi := ⟨_, _, _, _, _, _⟩) (v := .pointer (some ⟨d, 1 + y.toNat * 6, none⟩)) rfl (by kernel_rfl) (by kernel_rfl) (by kernel_rfl) (fun _ _ _ h => h) (.inl ⟨by kernel_rfl, fun wz hz => by obtain ⟨c0, c1⟩ := hz; go_simp⟩) ?_
  (try simp only [Act.put, List.setIfInBounds_toArray, List.set_cons_zero, List.set_cons_succ])
  have hd1 : DrB w1.drew d n f pv kv := h1
  have q1 := hd1.ct x0 x1 y0 y1
  have q2 := hd1.free (1 + x.toNat * 6 + y.toNat)
  refine anyC_store (i := 16) (o := ⟨_, _, _, _, _, _⟩) (w' := w1.drew.setCell ⟨d, 1 + x.toNat * 6 + y.toNat, none⟩ (.int .i64 z)) rfl (by kernel_rfl) (by kernel_rfl) (by go_simp) cc ?_
  (try simp only [Act.put])
  refine anyC_take (i := 20) (oi := ⟨_, _, _, _, _, _⟩) (v := .pointer (some ⟨d, 1 + y.toNat * 6 + x.toNat, none⟩)) rfl (by kernel_rfl) (by kernel_rfl) (by kernel_rfl) (fun _ _ _ h => h) (.inl ⟨by kernel_rfl, fun wz hz => by obtain ⟨c0, c1⟩ := hz; go_simp⟩) ?_
  (try simp only [Act.put, List.setIfInBounds_toArray, List.set_cons_zero, List.set_cons_succ])
  have hd2 := hd1.setT (.int .i64 z) x0 x1 y0 y1
  have r1 := (h1.setT (.int .i64 z) x0 x1 y0 y1).ct y0 y1 x0 x1
  have r2 := h1.free (1 + y.toNat * 6 + x.toNat)
  have cc2 : (w1.drew.setCell ⟨d, 1 + x.toNat * 6 + y.toNat, none⟩ (.int .i64 z)).cell? ⟨w.heap.size, 0, none⟩ = some (.int .i64 x) ∧ (w1.drew.setCell ⟨d, 1 + x.toNat * 6 + y.toNat, none⟩ (.int .i64 z)).cell? ⟨w.heap.size, 1, none⟩ = some (.int .i64 y) := two_cells ((Below.heap_setCell _ _ _ _ (by show w.heap.size ≠ d; omega)).trans hx)
  refine anyC_store (i := 21) (o := ⟨_, _, _, _, _, _⟩) (w' := (w1.drew.setCell ⟨d, 1 + x.toNat * 6 + y.toNat, none⟩ (.int .i64 z)).setCell ⟨d, 1 + y.toNat * 6 + x.toNat, none⟩ (.int .i64 z)) rfl (by kernel_rfl) (by kernel_rfl) (by go_simp) cc2 ?_
  (try simp only [Act.put])
  refine anyC_done (by kernel_rfl) (two_cells ((Below.heap_setCell _ _ _ _ (by show w.heap.size ≠ d; omega)).trans ((Below.heap_setCell _ _ _ _ (by show w.heap.size ≠ d; omega)).trans hx))) ?_ _
  go_end0
  refine ⟨rfl, (h1.setT (.int .i64 z) x0 x1 y0 y1).setT (.int .i64 z) y0 y1 x0 x1, ?_⟩
  exact grown_cell (grown_cell (grown_dr0 (grown_of_below hB)))
/-- the places of a draft -/
def PlB (w : World) (p m : Nat) (X Y : Nat → Int) : Prop := ∃ (cs : Array Value) (t : TypeId), w.heap[p]? = some (.cells cs t (0, 0)) ∧ ∀ j : Nat, j < m → cs[j * 2]? = some (.int .i64 (X j)) ∧ cs[j * 2 + 1]? = some (.int .i64 (Y j))
theorem PlB.at {w : World} {p m : Nat} {X Y : Nat → Int} (h : PlB w p m X Y) {j : Nat} (hj : j < m) : w.cell? ⟨p, j * 2, none⟩ = some (.int .i64 (X j)) ∧ w.cell? ⟨p, j * 2 + 1, none⟩ = some (.int .i64 (Y j)) := by
  obtain ⟨cs, t, hb, hc⟩ := h
  rw [cell_of_row w p _ _ _ _ hb, cell_of_row w p _ _ _ _ hb]
  exact hc j hj
theorem PlB.lt {w : World} {p m : Nat} {X Y : Nat → Int} (h : PlB w p m X Y) : p < w.heap.size := by
  obtain ⟨cs, t, hb, hc⟩ := h
  exact lt_of_block hb
theorem PlB.same {w w' : World} {p m : Nat} {X Y : Nat → Int} (h : PlB w p m X Y) (e : w'.heap[p]? = w.heap[p]?) : PlB w' p m X Y := by
  obtain ⟨cs, t, hb, hc⟩ := h
  exact ⟨cs, t, e.trans hb, hc⟩
theorem PlB.grown {w w' : World} {p m d : Nat} {X Y : Nat → Int} (h : PlB w p m X Y) (hg : w.grownBy w' (some d)) (hne : p ≠ d) : PlB w' p m X Y := h.same (hg.block p h.lt (fun e => hne (Option.some.inj e)))
theorem DrB.alloc {w : World} {d : Nat} {n : Int} {f : Int → Int → Value} {pv kv : Value} (h : DrB w d n f pv kv) (o : Obj) : DrB (w.alloc o) d n f pv kv := h.below ((Below.refl _ _).alloc (Nat.le_refl _) _)
set_option maxRecDepth 100000 in
set_option maxHeartbeats 4000000 in
/-- (*impl.draft).isFull -/
theorem drIsFull_any (d m c : Nat) (pa : Option Addr) (n : Int) (f : Int → Int → Value) (j : Nat) (w : World) (h : DrB w d n f (.slice pa m c) (.int .i64 (j : Int))) :
    Calls Try.prog 42 #[.pointer (some ⟨d, 0, none⟩)] w fun e w' => e = .returned (.bool ((j : Int) == (m : Int))) ∧ w' = w.drew := by
  have c7 := h.cp
  have c8 := h.ck
  go_enter Try.func42, Try.ntmps42
  go_wp2
  refine wp_region_any (by kernel_rfl) ?_
  refine any_of_C (C := fun w' => w' = w.drew) _ _ _ _ ?_
  refine anyC_take (i := 0) (oi := ⟨_, _, _, _, _, _⟩) (v := .pointer (some ⟨d, 0, none⟩)) rfl (by kernel_rfl) (by kernel_rfl) (by kernel_rfl) (fun _ _ _ h => h) (.inl ⟨by kernel_rfl, fun wz hz => by apply runs_moveY <;> rfl⟩) ?_
  refine anyC_take (i := 1) (oi := ⟨_, _, _, _, _, _⟩) (v := .pointer (some ⟨d, 0, none⟩)) rfl (by kernel_rfl) (by kernel_rfl) (by kernel_rfl) (fun _ _ _ h => h) (.inl ⟨by kernel_rfl, fun wz hz => by subst hz; go_simp⟩) ?_
  refine anyC_take (i := 2) (oi := ⟨_, _, _, _, _, _⟩) (v := .pointer (some ⟨d, 38, none⟩)) rfl (by kernel_rfl) (by kernel_rfl) (by kernel_rfl) (fun _ _ _ h => h) (.inl ⟨by kernel_rfl, fun wz hz => by subst hz; go_simp⟩) ?_
  (try simp only [Act.put, List.setIfInBounds_toArray, List.set_cons_zero, List.set_cons_succ])
  refine anyC_take (i := 3) (oi := ⟨_, _, _, _, _, _⟩) (v := .int .i64 (j : Int)) rfl (by kernel_rfl) (by kernel_rfl) (by kernel_rfl) (fun _ _ _ h => h) (.inl ⟨by kernel_rfl, fun wz hz => by subst hz; go_simp⟩) ?_
  refine anyC_take (i := 4) (oi := ⟨_, _, _, _, _, _⟩) (v := .pointer (some ⟨d, 0, none⟩)) rfl (by kernel_rfl) (by kernel_rfl) (by kernel_rfl) (fun _ _ _ h => h) (.inl ⟨by kernel_rfl, fun wz hz => by apply runs_moveY <;> rfl⟩) ?_
  refine anyC_take (i := 5) (oi := ⟨_, _, _, _, _, _⟩) (v := .pointer (some ⟨d, 0, none⟩)) rfl (by kernel_rfl) (by kernel_rfl) (by kernel_rfl) (fun _ _ _ h => h) (.inl ⟨by kernel_rfl, fun wz hz => by subst hz; go_simp⟩) ?_
  (try simp only [Act.put, List.setIfInBounds_toArray, List.set_cons_zero, List.set_cons_succ])
  refine anyC_take (i := 6) (oi := ⟨_, _, _, _, _, _⟩) (v := .pointer (some ⟨d, 37, none⟩)) rfl (by kernel_rfl) (by kernel_rfl) (by kernel_rfl) (fun _ _ _ h => h) (.inl ⟨by kernel_rfl, fun wz hz => by subst hz; go_simp⟩) ?_
  refine anyC_take (i := 7) (oi := ⟨_, _, _, _, _, _⟩) (v := .slice pa m c) rfl (by kernel_rfl) (by kernel_rfl) (by kernel_rfl) (fun _ _ _ h => h) (.inl ⟨by kernel_rfl, fun wz hz => by subst hz; go_simp⟩) ?_
  refine anyC_take (i := 8) (oi := ⟨_, _, _, _, _, _⟩) (v := .int .i64 (m : Int)) rfl (by kernel_rfl) (by kernel_rfl) (by kernel_rfl) (fun _ _ _ h => h) (.inl ⟨by kernel_rfl, fun wz hz => by subst hz; go_simp⟩) ?_
  (try simp only [Act.put, List.setIfInBounds_toArray, List.set_cons_zero, List.set_cons_succ])
  refine anyC_take (i := 9) (oi := ⟨_, _, _, _, _, _⟩) (v := .bool ((j : Int) == (m : Int))) rfl (by kernel_rfl) (by kernel_rfl) (by kernel_rfl) (fun _ _ _ h => h) (.inl ⟨by kernel_rfl, fun wz hz => by subst hz; go_simp⟩) ?_
  (try simp only [Act.put, List.setIfInBounds_toArray, List.set_cons_zero, List.set_cons_succ])
  refine anyC_take (i := 10) (oi := ⟨_, _, _, _, _, _⟩) (v := .bool ((j : Int) == (m : Int))) rfl (by kernel_rfl) (by kernel_rfl) (by kernel_rfl) (fun _ _ _ h => h) (.inl ⟨by kernel_rfl, fun wz hz => by apply runs_assign <;> rfl⟩) ?_
  (try simp only [Act.put, List.setIfInBounds_toArray, List.set_cons_zero, List.set_cons_succ])
  refine anyC_done (C := fun w' => w' = w.drew) (by kernel_rfl) rfl ?_ _
  go_wp2
  go_ret
  exact ⟨rfl, rfl⟩
set_option maxRecDepth 100000 in
set_option maxHeartbeats 4000000 in
/-- (*impl.draft).most -/
theorem drMost_any (d p m c : Nat) (n : Int) (f : Int → Int → Value) (X Y : Nat → Int) (j : Nat) (w : World) (hj : j < m) (h : DrB w d n f (.slice (some ⟨p, 0, none⟩) m c) (.int .i64 (j : Int))) (hp : PlB w p m X Y) :
    Calls Try.prog 44 #[.pointer (some ⟨d, 0, none⟩)] w fun e w' => e = .returned (.int .i64 (X j)) ∧ w' = w.drew := by
  have c7 := h.cp
  have c8 := h.ck
  obtain ⟨x7, x8⟩ := hp.at hj
  have hj1 : (j : Int) < m := by omega
  go_enter Try.func44, Try.ntmps44
  go_wp2
  refine wp_region_any (by kernel_rfl) ?_
  refine any_of_C (C := fun w' => w' = w.drew) _ _ _ _ ?_
  refine anyC_take (i := 0) (oi := ⟨_, _, _, _, _, _⟩) (v := .pointer (some ⟨d, 0, none⟩)) rfl (by kernel_rfl) (by kernel_rfl) (by kernel_rfl) (fun _ _ _ h => h) (.inl ⟨by kernel_rfl, fun wz hz => by apply runs_moveY <;> rfl⟩) ?_
  refine anyC_take (i := 1) (oi := ⟨_, _, _, _, _, _⟩) (v := .pointer (some ⟨d, 0, none⟩)) rfl (by kernel_rfl) (by kernel_rfl) (by kernel_rfl) (fun _ _ _ h => h) (.inl ⟨by kernel_rfl, fun wz hz => by subst hz; go_simp⟩) ?_
  refine anyC_take (i := 2) (oi := ⟨_, _, _, _, _, _⟩) (v := .pointer (some ⟨d, 37, none⟩)) rfl (by kernel_rfl) (by kernel_rfl) (by kernel_rfl) (fun _ _ _ h => h) (.inl ⟨by kernel_rfl, fun wz hz => by subst hz; go_simp⟩) ?_
  (try simp only [Act.put, List.setIfInBounds_toArray, List.set_cons_zero, List.set_cons_succ])
  refine anyC_take (i := 3) (oi := ⟨_, _, _, _, _, _⟩) (v := .slice (some ⟨p, 0, none⟩) m c) rfl (by kernel_rfl) (by kernel_rfl) (by kernel_rfl) (fun _ _ _ h => h) (.inl ⟨by kernel_rfl, fun wz hz => by subst hz; go_simp⟩) ?_
  refine anyC_take (i := 4) (oi := ⟨_, _, _, _, _, _⟩) (v := .pointer (some ⟨d, 0, none⟩)) rfl (by kernel_rfl) (by kernel_rfl) (by kernel_rfl) (fun _ _ _ h => h) (.inl ⟨by kernel_rfl, fun wz hz => by apply runs_moveY <;> rfl⟩) ?_
  refine anyC_take (i := 5) (oi := ⟨_, _, _, _, _, _⟩) (v := .pointer (some ⟨d, 0, none⟩)) rfl (by kernel_rfl) (by kernel_rfl) (by kernel_rfl) (fun _ _ _ h => h) (.inl ⟨by kernel_rfl, fun wz hz => by subst hz; go_simp⟩) ?_
  (try simp only [Act.put, List.setIfInBounds_toArray, List.set_cons_zero, List.set_cons_succ])
  refine anyC_take (i := 6) (oi := ⟨_, _, _, _, _, _⟩) (v := .pointer (some ⟨d, 38, none⟩)) rfl (by kernel_rfl) (by kernel_rfl) (by kernel_rfl) (fun _ _ _ h => h) (.inl ⟨by kernel_rfl, fun wz hz => by subst hz; go_simp⟩) ?_
  refine anyC_take (i := 7) (oi := ⟨_, _, _, _, _, _⟩) (v := .int .i64 (j : Int)) rfl (by kernel_rfl) (by kernel_rfl) (by kernel_rfl) (fun _ _ _ h => h) (.inl ⟨by kernel_rfl, fun wz hz => by subst hz; go_simp⟩) ?_
  refine anyC_take (i := 8) (oi := ⟨_, _, _, _, _, _⟩) (v := .pointer (some ⟨p, j * 2, none⟩)) rfl (by kernel_rfl) (by kernel_rfl) (by kernel_rfl) (fun _ _ _ h => h) (.inl ⟨by kernel_rfl, fun wz hz => by subst hz; go_simp⟩) ?_
  (try simp only [Act.put, List.setIfInBounds_toArray, List.set_cons_zero, List.set_cons_succ])
  refine anyC_take (i := 9) (oi := ⟨_, _, _, _, _, _⟩) (v := .pointer (some ⟨p, j * 2, none⟩)) rfl (by kernel_rfl) (by kernel_rfl) (by kernel_rfl) (fun _ _ _ h => h) (.inl ⟨by kernel_rfl, fun wz hz => by subst hz; go_simp⟩) ?_
  refine anyC_take (i := 10) (oi := ⟨_, _, _, _, _, _⟩) (v := .int .i64 (X j)) rfl (by kernel_rfl) (by kernel_rfl) (by kernel_rfl) (fun _ _ _ h => h) (.inl ⟨by kernel_rfl, fun wz hz => by subst hz; go_simp⟩) ?_
  (try simp only [Act.put, List.setIfInBounds_toArray, List.set_cons_zero, List.set_cons_succ])
  refine anyC_take (i := 11) (oi := ⟨_, _, _, _, _, _⟩) (v := .int .i64 (X j)) rfl (by kernel_rfl) (by kernel_rfl) (by kernel_rfl) (fun _ _ _ h => h) (.inl ⟨by kernel_rfl, fun wz hz => by apply runs_assign <;> rfl⟩) ?_
  (try simp only [Act.put, List.setIfInBounds_toArray, List.set_cons_zero, List.set_cons_succ])
  refine anyC_done (C := fun w' => w' = w.drew) (by kernel_rfl) rfl ?_ _
  go_wp2
  go_ret
  exact ⟨rfl, rfl⟩
end Go.Proofs.Ythjbfdoclifhoaa

namespace Go.Proofs.Ythjbfdoclifhoaa
open Go.RowKit
set_option linter.unusedVariables false

section
variable {P : Program} {ops : Array Oper} {md : Region.Mode} {Q : Exit → Act → World → Prop} {C : World → Prop}
/-- an operation that alone is ready, and yields in a world of its own -/
theorem anyC_val {i : Nat} {o : Oper} {fuel : Nat} {listed : Array Bool} {a : Act} {w w' : World} {v : Value} (hi : ops[i]? = some o)
    (hr : Region.ready md ops listed = [i]) (hw : Region.wanted o (yielded ops a.tmps) = true) (hx : (execOp a.eval o).run P w = .ok (.value v) w') (hC : C w)
    (h : wpAnyC P md ops Q C fuel (listed.setIfInBounds i true) (a.put o.dst v) w') : wpAnyC P md ops Q C (fuel + 1) listed a w := by
  refine ⟨hC, fun h0 => (by rw [hr] at h0; cases h0), fun j hj => ?_⟩
  rw [hr, List.mem_singleton] at hj
  subst hj
  unfold wpOp
  simp only [hi, hw, if_true, Oper.wp, hx, Oper.upon]
  exact .inl h
theorem runs_store_row {o : Oper} {a : Act} (ty : TypeId) (x y : Operand) (ho : o.op = .store ty x y) (g : Nat) (cells : Array Value) (hx : a.eval x = .pointer (some ⟨g, 0, none⟩)) (hy : a.eval y = .agg cells)
    (w : World) (t : TypeId) (old : Array Value) (hg : w.heap[g]? = some (.cells old t (0, 0))) (hi : (P.info? ty).map (·.size) = some cells.size) (hold : old.size = cells.size) (h1 : cells.all (·.oneCell') = true) :
    (execOp a.eval o).run P w = .ok .skip (w.setRow g cells) := by
  unfold execOp
  simp [ho, hx, hy, Instr.storeAt, Instr.sureAddr, run_storeVar_row w g t ty old cells hg hi hold h1]
end
theorem size_Pl (x y : Value) : (Try.prog.info? 93).map (·.size) = some (#[x, y] : Array Value).size := by
  show (Try.prog.info? 93).map (·.size) = some 2
  kernel_rfl
theorem one_int2 (x y : Int) : (#[.int .i64 x, .int .i64 y] : Array Value).all (·.oneCell') = true := by simp [Value.oneCell']
set_option maxRecDepth 100000 in
set_option maxHeartbeats 4000000 in
/-- (*impl.draft).last -/
theorem drLast_any (d p m c : Nat) (n : Int) (f : Int → Int → Value) (X Y : Nat → Int) (j : Nat) (k z : Int) (w : World) (hj : j < m) (h : DrB w d n f (.slice (some ⟨p, 0, none⟩) m c) (.int .i64 k)) (hp : PlB w p m X Y) (hk : k = j + 1) (hj6 : j ≤ 1000)
    (x0 : 0 ≤ X j) (x1 : X j < 6) (y0 : 0 ≤ Y j) (y1 : Y j < 6) (hz : f (X j) (Y j) = .int .i64 z) :
    Calls Try.prog 47 #[.pointer (some ⟨d, 0, none⟩)] w fun e w' => e = .returned (.int .i64 z) ∧ Below w.heap.size w w' := by
  have c7 := h.cp
  have c8 := h.ck
  obtain ⟨x7, x8⟩ := hp.at hj
  have hj1 : (j : Int) < m := by omega
  have kw : IntKind.i64.wrap (k - 1) = (j : Int) := by rw [hk]; rw [show (j : Int) + 1 - 1 = j by omega]; exact IntWalk.i64_in _ (by omega)
  clear hk
  go_enter Try.func47, Try.ntmps47
  go_wp2
  refine wp_region_any (by kernel_rfl) ?_
  refine any_of_C (C := fun w' => w'.cell? ⟨d, 37, none⟩ = some (.slice (some ⟨p, 0, none⟩) m c) ∧ w'.cell? ⟨d, 38, none⟩ = some (.int .i64 k) ∧ w'.cell? ⟨p, j * 2, none⟩ = some (.int .i64 (X j)) ∧ w'.cell? ⟨p, j * 2 + 1, none⟩ = some (.int .i64 (Y j))) _ _ _ _ ?_
  refine anyC_take (i := 0) (oi := ⟨_, _, _, _, _, _⟩) (v := .pointer (some ⟨d, 0, none⟩)) rfl (by kernel_rfl) (by kernel_rfl) (by kernel_rfl) (fun _ _ _ h => h) (.inl ⟨by kernel_rfl, fun wz hz => by apply runs_moveY <;> rfl⟩) ?_
  refine anyC_take (i := 1) (oi := ⟨_, _, _, _, _, _⟩) (v := .pointer (some ⟨d, 0, none⟩)) rfl (by kernel_rfl) (by kernel_rfl) (by kernel_rfl) (fun _ _ _ h => h) (.inl ⟨by kernel_rfl, fun wz hz => by obtain ⟨c0, c1, c2, c3⟩ := hz; go_simp⟩) ?_
  refine anyC_take (i := 2) (oi := ⟨_, _, _, _, _, _⟩) (v := .pointer (some ⟨d, 37, none⟩)) rfl (by kernel_rfl) (by kernel_rfl) (by kernel_rfl) (fun _ _ _ h => h) (.inl ⟨by kernel_rfl, fun wz hz => by obtain ⟨c0, c1, c2, c3⟩ := hz; go_simp⟩) ?_
  (try simp only [Act.put, List.setIfInBounds_toArray, List.set_cons_zero, List.set_cons_succ])
  refine anyC_take (i := 3) (oi := ⟨_, _, _, _, _, _⟩) (v := .slice (some ⟨p, 0, none⟩) m c) rfl (by kernel_rfl) (by kernel_rfl) (by kernel_rfl) (fun _ _ _ h => h) (.inl ⟨by kernel_rfl, fun wz hz => by obtain ⟨c0, c1, c2, c3⟩ := hz; go_simp⟩) ?_
  refine anyC_take (i := 4) (oi := ⟨_, _, _, _, _, _⟩) (v := .pointer (some ⟨d, 0, none⟩)) rfl (by kernel_rfl) (by kernel_rfl) (by kernel_rfl) (fun _ _ _ h => h) (.inl ⟨by kernel_rfl, fun wz hz => by apply runs_moveY <;> rfl⟩) ?_
  refine anyC_take (i := 5) (oi := ⟨_, _, _, _, _, _⟩) (v := .pointer (some ⟨d, 0, none⟩)) rfl (by kernel_rfl) (by kernel_rfl) (by kernel_rfl) (fun _ _ _ h => h) (.inl ⟨by kernel_rfl, fun wz hz => by obtain ⟨c0, c1, c2, c3⟩ := hz; go_simp⟩) ?_
  (try simp only [Act.put, List.setIfInBounds_toArray, List.set_cons_zero, List.set_cons_succ])
  refine anyC_take (i := 6) (oi := ⟨_, _, _, _, _, _⟩) (v := .pointer (some ⟨d, 38, none⟩)) rfl (by kernel_rfl) (by kernel_rfl) (by kernel_rfl) (fun _ _ _ h => h) (.inl ⟨by kernel_rfl, fun wz hz => by obtain ⟨c0, c1, c2, c3⟩ := hz; go_simp⟩) ?_
  refine anyC_take (i := 7) (oi := ⟨_, _, _, _, _, _⟩) (v := .int .i64 k) rfl (by kernel_rfl) (by kernel_rfl) (by kernel_rfl) (fun _ _ _ h => h) (.inl ⟨by kernel_rfl, fun wz hz => by obtain ⟨c0, c1, c2, c3⟩ := hz; go_simp⟩) ?_
  refine anyC_take (i := 8) (oi := ⟨_, _, _, _, _, _⟩) (v := .int .i64 (j : Int)) rfl (by kernel_rfl) (by kernel_rfl) (by kernel_rfl) (fun _ _ _ h => h) (.inl ⟨by kernel_rfl, fun wz hz => by obtain ⟨c0, c1, c2, c3⟩ := hz; go_simp⟩) ?_
  (try simp only [Act.put, List.setIfInBounds_toArray, List.set_cons_zero, List.set_cons_succ])
  refine anyC_take (i := 9) (oi := ⟨_, _, _, _, _, _⟩) (v := .pointer (some ⟨p, j * 2, none⟩)) rfl (by kernel_rfl) (by kernel_rfl) (by kernel_rfl) (fun _ _ _ h => h) (.inl ⟨by kernel_rfl, fun wz hz => by obtain ⟨c0, c1, c2, c3⟩ := hz; go_simp⟩) ?_
  refine anyC_take (i := 10) (oi := ⟨_, _, _, _, _, _⟩) (v := .agg #[.int .i64 (X j), .int .i64 (Y j)]) rfl (by kernel_rfl) (by kernel_rfl) (by kernel_rfl) (fun _ _ _ h => h) (.inl ⟨by kernel_rfl, fun wz hz => by obtain ⟨c0, c1, c2, c3⟩ := hz; go_simp⟩) ?_
  (try simp only [Act.put, List.setIfInBounds_toArray, List.set_cons_zero, List.set_cons_succ])
  have HC := Lib.hid (show ∀ w' : World, Below w.heap.size w w' → w'.cell? ⟨d, 37, none⟩ = some (.slice (some ⟨p, 0, none⟩) m c) ∧ w'.cell? ⟨d, 38, none⟩ = some (.int .i64 k) ∧ w'.cell? ⟨p, j * 2, none⟩ = some (.int .i64 (X j)) ∧ w'.cell? ⟨p, j * 2 + 1, none⟩ = some (.int .i64 (Y j)) from fun w' hb => ⟨(h.below hb).cp, (h.below hb).ck, ((hp.same (hb.block _ hp.lt)).at hj).1, ((hp.same (hb.block _ hp.lt)).at hj).2⟩)
  have hdb : Below w.heap.size w w.drew := Dr.below ⟨1, rfl⟩ _
  refine anyC_val (i := 11) (o := ⟨_, _, _, _, _, _⟩) (v := .pointer (some ⟨w.heap.size, 0, none⟩)) (w' := w.drew.alloc (.cells #[.int .i64 0, .int .i64 0] 93)) rfl (by kernel_rfl) (by kernel_rfl) (by go_simp) ⟨c7, c8, x7, x8⟩ ?_
  (try simp only [Act.put, List.setIfInBounds_toArray, List.set_cons_zero, List.set_cons_succ])
  refine anyC_store (i := 12) (o := ⟨_, _, _, _, _, _⟩) (w' := (w.drew.alloc (.cells #[.int .i64 0, .int .i64 0] 93)).setRow w.drew.heap.size #[.int .i64 (X j), .int .i64 (Y j)]) rfl (by kernel_rfl) (by kernel_rfl) (runs_store_row 93 _ _ rfl w.heap.size #[.int .i64 (X j), .int .i64 (Y j)] rfl rfl _ _ _ (heap_alloc_new w.drew _) (size_Pl _ _) rfl (one_int2 _ _)) (HC.out _ (hdb.alloc (Nat.le_refl _) _)) ?_
  (try simp only [Act.put])
  rw [World.setRow_alloc_new]
  obtain ⟨w2, hw2⟩ : ∃ x : World, x = w.drew.alloc (.cells #[.int .i64 (X j), .int .i64 (Y j)] 93) := ⟨_, rfl⟩
  rw [← hw2]
  have hb2 : Below w.heap.size w w2 := by rw [hw2]; exact hdb.alloc (Nat.le_refl _) _
  have hg2 : w2.heap[w.heap.size]? = some (.cells #[.int .i64 (X j), .int .i64 (Y j)] 93 (0, 0)) := by rw [hw2]; exact heap_alloc_new w.drew _
  clear hw2
  refine anyC_done (C := fun w' => w'.cell? ⟨d, 37, none⟩ = some (.slice (some ⟨p, 0, none⟩) m c) ∧ w'.cell? ⟨d, 38, none⟩ = some (.int .i64 k) ∧ w'.cell? ⟨p, j * 2, none⟩ = some (.int .i64 (X j)) ∧ w'.cell? ⟨p, j * 2 + 1, none⟩ = some (.int .i64 (Y j))) (by kernel_rfl) (HC.out _ hb2) ?_ _
  obtain ⟨g, hg⟩ : ∃ g : Nat, g = w.heap.size := ⟨_, rfl⟩
  rw [← hg] at hg2 ⊢
  obtain ⟨g0, g1⟩ := two_cells hg2
  have h2 := h.below hb2
  clear hg c7 c8 x7 x8 HC hdb
  go_wp2
  refine wp_region_any (by kernel_rfl) ?_
  refine any_of_C (C := fun w' => w' = w2.drew) _ _ _ _ ?_
  refine anyC_take (i := 0) (oi := ⟨_, _, _, _, _, _⟩) (v := .pointer (some ⟨d, 0, none⟩)) rfl (by kernel_rfl) (by kernel_rfl) (by kernel_rfl) (fun _ _ _ h => h) (.inl ⟨by kernel_rfl, fun wz hz => by apply runs_moveY <;> rfl⟩) ?_
  refine anyC_take (i := 1) (oi := ⟨_, _, _, _, _, _⟩) (v := .pointer (some ⟨g, 0, none⟩)) rfl (by kernel_rfl) (by kernel_rfl) (by kernel_rfl) (fun _ _ _ h => h) (.inl ⟨by kernel_rfl, fun wz hz => by subst hz; go_simp⟩) ?_
  refine anyC_take (i := 2) (oi := ⟨_, _, _, _, _, _⟩) (v := .int .i64 (X j)) rfl (by kernel_rfl) (by kernel_rfl) (by kernel_rfl) (fun _ _ _ h => h) (.inl ⟨by kernel_rfl, fun wz hz => by subst hz; go_simp⟩) ?_
  (try simp only [Act.put, List.setIfInBounds_toArray, List.set_cons_zero, List.set_cons_succ])
  refine anyC_take (i := 3) (oi := ⟨_, _, _, _, _, _⟩) (v := .pointer (some ⟨g, 1, none⟩)) rfl (by kernel_rfl) (by kernel_rfl) (by kernel_rfl) (fun _ _ _ h => h) (.inl ⟨by kernel_rfl, fun wz hz => by subst hz; go_simp⟩) ?_
  refine anyC_take (i := 4) (oi := ⟨_, _, _, _, _, _⟩) (v := .int .i64 (Y j)) rfl (by kernel_rfl) (by kernel_rfl) (by kernel_rfl) (fun _ _ _ h => h) (.inl ⟨by kernel_rfl, fun wz hz => by subst hz; go_simp⟩) ?_
  refine anyC_take (i := 5) (oi := ⟨_, _, _, _, _, _⟩) (v := .pointer (some ⟨d, 0, none⟩)) rfl (by kernel_rfl) (by kernel_rfl) (by kernel_rfl) (fun _ _ _ h => h) (.inl ⟨by kernel_rfl, fun wz hz => by subst hz; go_simp⟩) ?_
  (try simp only [Act.put, List.setIfInBounds_toArray, List.set_cons_zero, List.set_cons_succ])
  refine anyC_take (i := 6) (oi := ⟨_, _, _, _, _, _⟩) (v := .pointer (some ⟨d, 1, none⟩)) rfl (by kernel_rfl) (by kernel_rfl) (by kernel_rfl) (fun _ _ _ h => h) (.inl ⟨by kernel_rfl, fun wz hz => by subst hz; go_simp⟩) ?_
  refine anyC_take (i := 7) (oi := ⟨_, _, _, _, _, _⟩) (v := .pointer (some ⟨d, 1 + (X j).toNat * 6, none⟩)) rfl (by kernel_rfl) (by kernel_rfl) (by kernel_rfl) (fun _ _ _ h => h) (.inl ⟨by kernel_rfl, fun wz hz => by subst hz; go_simp⟩) ?_
  refine anyC_take (i := 8) (oi := ⟨_, _, _, _, _, _⟩) (v := .pointer (some ⟨d, 1 + (X j).toNat * 6 + (Y j).toNat, none⟩)) rfl (by kernel_rfl) (by kernel_rfl) (by kernel_rfl) (fun _ _ _ h => h) (.inl ⟨by kernel_rfl, fun wz hz => by subst hz; go_simp⟩) ?_
  (try simp only [Act.put, List.setIfInBounds_toArray, List.set_cons_zero, List.set_cons_succ])
  refine anyC_take (i := 9) (oi := ⟨_, _, _, _, _, _⟩) (v := .int .i64 z) rfl (by kernel_rfl) (by kernel_rfl) (by kernel_rfl) (fun _ _ _ h => h) (.inl ⟨by kernel_rfl, fun wz hz => by subst hz; have q := h2.ct x0 x1 y0 y1; rw [hz] at q; go_simp⟩) ?_
  (try simp only [Act.put, List.setIfInBounds_toArray, List.set_cons_zero, List.set_cons_succ])
  refine anyC_take (i := 10) (oi := ⟨_, _, _, _, _, _⟩) (v := .int .i64 z) rfl (by kernel_rfl) (by kernel_rfl) (by kernel_rfl) (fun _ _ _ h => h) (.inl ⟨by kernel_rfl, fun wz hz => by apply runs_assign <;> rfl⟩) ?_
  (try simp only [Act.put, List.setIfInBounds_toArray, List.set_cons_zero, List.set_cons_succ])
  refine anyC_done (C := fun w' => w' = w2.drew) (by kernel_rfl) rfl ?_ _
  go_wp2
  go_ret
  exact ⟨rfl, hb2.trans ((Dr.below ⟨1, rfl⟩ _ : Below w2.heap.size w2 w2.drew).mono hb2.size)⟩
set_option maxRecDepth 100000 in
set_option maxHeartbeats 4000000 in
/-- (*impl.draft).least -/
theorem drLeast_any (d p m c : Nat) (n : Int) (f : Int → Int → Value) (X Y : Nat → Int) (j : Nat) (k u v r xm ym : Int) (w : World) (hj : j < m) (h : DrB w d n f (.slice (some ⟨p, 0, none⟩) m c) (.int .i64 k)) (hp : PlB w p m X Y) (hk : k = j)
    (hxm : X j = xm + 1) (hym : Y j = ym + 1) (xm0 : 0 ≤ xm) (x1 : X j < 6) (ym0 : 0 ≤ ym) (y1 : Y j < 6) (hu : f xm (Y j) = .int .i64 u) (hv : f (X j) ym = .int .i64 v) (hr : r = if u < v then v else u) :
    Calls Try.prog 43 #[.pointer (some ⟨d, 0, none⟩)] w fun e w' => e = .returned (.int .i64 r) ∧ Below w.heap.size w w' := by
  have c7 := h.cp
  have c8 := h.ck
  obtain ⟨x7, x8⟩ := hp.at hj
  have hj1 : (j : Int) < m := by omega
  have x0 : 0 ≤ X j := by omega
  have y0 : 0 ≤ Y j := by omega
  have xm1 : xm < 6 := by omega
  have ym1 : ym < 6 := by omega
  have kx : IntKind.i64.wrap (X j - 1) = xm := by rw [show X j - 1 = xm by omega]; exact IntWalk.i64_in _ (by omega)
  have ky : IntKind.i64.wrap (Y j - 1) = ym := by rw [show Y j - 1 = ym by omega]; exact IntWalk.i64_in _ (by omega)
  clear hxm hym
  have HR := Lib.hid hr
  clear hr
  go_enter Try.func43, Try.ntmps43
  go_wp2
  refine wp_region_any (by kernel_rfl) ?_
  refine any_of_C (C := fun w' => w'.cell? ⟨d, 37, none⟩ = some (.slice (some ⟨p, 0, none⟩) m c) ∧ w'.cell? ⟨d, 38, none⟩ = some (.int .i64 k) ∧ w'.cell? ⟨p, j * 2, none⟩ = some (.int .i64 (X j)) ∧ w'.cell? ⟨p, j * 2 + 1, none⟩ = some (.int .i64 (Y j))) _ _ _ _ ?_
  refine anyC_take (i := 0) (oi := ⟨_, _, _, _, _, _⟩) (v := .pointer (some ⟨d, 0, none⟩)) rfl (by kernel_rfl) (by kernel_rfl) (by kernel_rfl) (fun _ _ _ h => h) (.inl ⟨by kernel_rfl, fun wz hz => by apply runs_moveY <;> rfl⟩) ?_
  refine anyC_take (i := 1) (oi := ⟨_, _, _, _, _, _⟩) (v := .pointer (some ⟨d, 0, none⟩)) rfl (by kernel_rfl) (by kernel_rfl) (by kernel_rfl) (fun _ _ _ h => h) (.inl ⟨by kernel_rfl, fun wz hz => by obtain ⟨c0, c1, c2, c3⟩ := hz; go_simp⟩) ?_
  refine anyC_take (i := 2) (oi := ⟨_, _, _, _, _, _⟩) (v := .pointer (some ⟨d, 37, none⟩)) rfl (by kernel_rfl) (by kernel_rfl) (by kernel_rfl) (fun _ _ _ h => h) (.inl ⟨by kernel_rfl, fun wz hz => by obtain ⟨c0, c1, c2, c3⟩ := hz; go_simp⟩) ?_
  (try simp only [Act.put, List.setIfInBounds_toArray, List.set_cons_zero, List.set_cons_succ])
  refine anyC_take (i := 3) (oi := ⟨_, _, _, _, _, _⟩) (v := .slice (some ⟨p, 0, none⟩) m c) rfl (by kernel_rfl) (by kernel_rfl) (by kernel_rfl) (fun _ _ _ h => h) (.inl ⟨by kernel_rfl, fun wz hz => by obtain ⟨c0, c1, c2, c3⟩ := hz; go_simp⟩) ?_
  refine anyC_take (i := 4) (oi := ⟨_, _, _, _, _, _⟩) (v := .pointer (some ⟨d, 0, none⟩)) rfl (by kernel_rfl) (by kernel_rfl) (by kernel_rfl) (fun _ _ _ h => h) (.inl ⟨by kernel_rfl, fun wz hz => by apply runs_moveY <;> rfl⟩) ?_
  refine anyC_take (i := 5) (oi := ⟨_, _, _, _, _, _⟩) (v := .pointer (some ⟨d, 0, none⟩)) rfl (by kernel_rfl) (by kernel_rfl) (by kernel_rfl) (fun _ _ _ h => h) (.inl ⟨by kernel_rfl, fun wz hz => by obtain ⟨c0, c1, c2, c3⟩ := hz; go_simp⟩) ?_
  (try simp only [Act.put, List.setIfInBounds_toArray, List.set_cons_zero, List.set_cons_succ])
  refine anyC_take (i := 6) (oi := ⟨_, _, _, _, _, _⟩) (v := .pointer (some ⟨d, 38, none⟩)) rfl (by kernel_rfl) (by kernel_rfl) (by kernel_rfl) (fun _ _ _ h => h) (.inl ⟨by kernel_rfl, fun wz hz => by obtain ⟨c0, c1, c2, c3⟩ := hz; go_simp⟩) ?_
  refine anyC_take (i := 7) (oi := ⟨_, _, _, _, _, _⟩) (v := .int .i64 k) rfl (by kernel_rfl) (by kernel_rfl) (by kernel_rfl) (fun _ _ _ h => h) (.inl ⟨by kernel_rfl, fun wz hz => by obtain ⟨c0, c1, c2, c3⟩ := hz; go_simp⟩) ?_
  refine anyC_take (i := 8) (oi := ⟨_, _, _, _, _, _⟩) (v := .pointer (some ⟨p, j * 2, none⟩)) rfl (by kernel_rfl) (by kernel_rfl) (by kernel_rfl) (fun _ _ _ h => h) (.inl ⟨by kernel_rfl, fun wz hz => by obtain ⟨c0, c1, c2, c3⟩ := hz; go_simp⟩) ?_
  (try simp only [Act.put, List.setIfInBounds_toArray, List.set_cons_zero, List.set_cons_succ])
  refine anyC_take (i := 9) (oi := ⟨_, _, _, _, _, _⟩) (v := .agg #[.int .i64 (X j), .int .i64 (Y j)]) rfl (by kernel_rfl) (by kernel_rfl) (by kernel_rfl) (fun _ _ _ h => h) (.inl ⟨by kernel_rfl, fun wz hz => by obtain ⟨c0, c1, c2, c3⟩ := hz; go_simp⟩) ?_
  (try simp only [Act.put, List.setIfInBounds_toArray, List.set_cons_zero, List.set_cons_succ])
  have HC := Lib.hid (show ∀ w' : World, Below w.heap.size w w' → w'.cell? ⟨d, 37, none⟩ = some (.slice (some ⟨p, 0, none⟩) m c) ∧ w'.cell? ⟨d, 38, none⟩ = some (.int .i64 k) ∧ w'.cell? ⟨p, j * 2, none⟩ = some (.int .i64 (X j)) ∧ w'.cell? ⟨p, j * 2 + 1, none⟩ = some (.int .i64 (Y j)) from fun w' hb => ⟨(h.below hb).cp, (h.below hb).ck, ((hp.same (hb.block _ hp.lt)).at hj).1, ((hp.same (hb.block _ hp.lt)).at hj).2⟩)
  have hdb : Below w.heap.size w w.drew := Dr.below ⟨1, rfl⟩ _
  refine anyC_val (i := 10) (o := ⟨_, _, _, _, _, _⟩) (v := .pointer (some ⟨w.heap.size, 0, none⟩)) (w' := w.drew.alloc (.cells #[.int .i64 0, .int .i64 0] 93)) rfl (by kernel_rfl) (by kernel_rfl) (by go_simp) ⟨c7, c8, x7, x8⟩ ?_
  (try simp only [Act.put, List.setIfInBounds_toArray, List.set_cons_zero, List.set_cons_succ])
  refine anyC_store (i := 11) (o := ⟨_, _, _, _, _, _⟩) (w' := (w.drew.alloc (.cells #[.int .i64 0, .int .i64 0] 93)).setRow w.drew.heap.size #[.int .i64 (X j), .int .i64 (Y j)]) rfl (by kernel_rfl) (by kernel_rfl) (runs_store_row 93 _ _ rfl w.heap.size #[.int .i64 (X j), .int .i64 (Y j)] rfl rfl _ _ _ (heap_alloc_new w.drew _) (size_Pl _ _) rfl (one_int2 _ _)) (HC.out _ (hdb.alloc (Nat.le_refl _) _)) ?_
  (try simp only [Act.put])
  rw [World.setRow_alloc_new]
  obtain ⟨w2, hw2⟩ : ∃ x : World, x = w.drew.alloc (.cells #[.int .i64 (X j), .int .i64 (Y j)] 93) := ⟨_, rfl⟩
  rw [← hw2]
  have hb2 : Below w.heap.size w w2 := by rw [hw2]; exact hdb.alloc (Nat.le_refl _) _
  have hg2 : w2.heap[w.heap.size]? = some (.cells #[.int .i64 (X j), .int .i64 (Y j)] 93 (0, 0)) := by rw [hw2]; exact heap_alloc_new w.drew _
  clear hw2
  refine anyC_done (C := fun w' => w'.cell? ⟨d, 37, none⟩ = some (.slice (some ⟨p, 0, none⟩) m c) ∧ w'.cell? ⟨d, 38, none⟩ = some (.int .i64 k) ∧ w'.cell? ⟨p, j * 2, none⟩ = some (.int .i64 (X j)) ∧ w'.cell? ⟨p, j * 2 + 1, none⟩ = some (.int .i64 (Y j))) (by kernel_rfl) (HC.out _ hb2) ?_ _
  obtain ⟨g, hg⟩ : ∃ g : Nat, g = w.heap.size := ⟨_, rfl⟩
  rw [← hg] at hg2 ⊢
  obtain ⟨g0, g1⟩ := two_cells hg2
  have h2 := h.below hb2
  clear hg c7 c8 x7 x8 HC hdb
  go_wp2
  refine wp_region_any (by kernel_rfl) ?_
  refine any_of_C (C := fun w' => w' = w2.drew) _ _ _ _ ?_
  refine anyC_take (i := 0) (oi := ⟨_, _, _, _, _, _⟩) (v := .pointer (some ⟨d, 0, none⟩)) rfl (by kernel_rfl) (by kernel_rfl) (by kernel_rfl) (fun _ _ _ h => h) (.inl ⟨by kernel_rfl, fun wz hz => by apply runs_moveY <;> rfl⟩) ?_
  refine anyC_take (i := 1) (oi := ⟨_, _, _, _, _, _⟩) (v := .pointer (some ⟨g, 0, none⟩)) rfl (by kernel_rfl) (by kernel_rfl) (by kernel_rfl) (fun _ _ _ h => h) (.inl ⟨by kernel_rfl, fun wz hz => by subst hz; go_simp⟩) ?_
  refine anyC_take (i := 2) (oi := ⟨_, _, _, _, _, _⟩) (v := .int .i64 (X j)) rfl (by kernel_rfl) (by kernel_rfl) (by kernel_rfl) (fun _ _ _ h => h) (.inl ⟨by kernel_rfl, fun wz hz => by subst hz; go_simp⟩) ?_
  (try simp only [Act.put, List.setIfInBounds_toArray, List.set_cons_zero, List.set_cons_succ])
  refine anyC_take (i := 3) (oi := ⟨_, _, _, _, _, _⟩) (v := .int .i64 xm) rfl (by kernel_rfl) (by kernel_rfl) (by kernel_rfl) (fun _ _ _ h => h) (.inl ⟨by kernel_rfl, fun wz hz => by subst hz; go_simp⟩) ?_
  refine anyC_take (i := 4) (oi := ⟨_, _, _, _, _, _⟩) (v := .pointer (some ⟨g, 1, none⟩)) rfl (by kernel_rfl) (by kernel_rfl) (by kernel_rfl) (fun _ _ _ h => h) (.inl ⟨by kernel_rfl, fun wz hz => by subst hz; go_simp⟩) ?_
  refine anyC_take (i := 5) (oi := ⟨_, _, _, _, _, _⟩) (v := .int .i64 (Y j)) rfl (by kernel_rfl) (by kernel_rfl) (by kernel_rfl) (fun _ _ _ h => h) (.inl ⟨by kernel_rfl, fun wz hz => by subst hz; go_simp⟩) ?_
  (try simp only [Act.put, List.setIfInBounds_toArray, List.set_cons_zero, List.set_cons_succ])
  refine anyC_take (i := 6) (oi := ⟨_, _, _, _, _, _⟩) (v := .pointer (some ⟨d, 0, none⟩)) rfl (by kernel_rfl) (by kernel_rfl) (by kernel_rfl) (fun _ _ _ h => h) (.inl ⟨by kernel_rfl, fun wz hz => by subst hz; go_simp⟩) ?_
  refine anyC_take (i := 7) (oi := ⟨_, _, _, _, _, _⟩) (v := .pointer (some ⟨d, 1, none⟩)) rfl (by kernel_rfl) (by kernel_rfl) (by kernel_rfl) (fun _ _ _ h => h) (.inl ⟨by kernel_rfl, fun wz hz => by subst hz; go_simp⟩) ?_
  refine anyC_take (i := 8) (oi := ⟨_, _, _, _, _, _⟩) (v := .pointer (some ⟨d, 1 + xm.toNat * 6, none⟩)) rfl (by kernel_rfl) (by kernel_rfl) (by kernel_rfl) (fun _ _ _ h => h) (.inl ⟨by kernel_rfl, fun wz hz => by subst hz; go_simp⟩) ?_
  (try simp only [Act.put, List.setIfInBounds_toArray, List.set_cons_zero, List.set_cons_succ])
  refine anyC_take (i := 9) (oi := ⟨_, _, _, _, _, _⟩) (v := .pointer (some ⟨d, 1 + xm.toNat * 6 + (Y j).toNat, none⟩)) rfl (by kernel_rfl) (by kernel_rfl) (by kernel_rfl) (fun _ _ _ h => h) (.inl ⟨by kernel_rfl, fun wz hz => by subst hz; go_simp⟩) ?_
  refine anyC_take (i := 10) (oi := ⟨_, _, _, _, _, _⟩) (v := .int .i64 u) rfl (by kernel_rfl) (by kernel_rfl) (by kernel_rfl) (fun _ _ _ h => h) (.inl ⟨by kernel_rfl, fun wz hz => by subst hz; have q := h2.ct xm0 xm1 y0 y1; rw [hu] at q; go_simp⟩) ?_
  refine anyC_take (i := 11) (oi := ⟨_, _, _, _, _, _⟩) (v := .pointer (some ⟨d, 0, none⟩)) rfl (by kernel_rfl) (by kernel_rfl) (by kernel_rfl) (fun _ _ _ h => h) (.inl ⟨by kernel_rfl, fun wz hz => by apply runs_moveY <;> rfl⟩) ?_
  (try simp only [Act.put, List.setIfInBounds_toArray, List.set_cons_zero, List.set_cons_succ])
  refine anyC_take (i := 12) (oi := ⟨_, _, _, _, _, _⟩) (v := .pointer (some ⟨g, 0, none⟩)) rfl (by kernel_rfl) (by kernel_rfl) (by kernel_rfl) (fun _ _ _ h => h) (.inl ⟨by kernel_rfl, fun wz hz => by subst hz; go_simp⟩) ?_
  refine anyC_take (i := 13) (oi := ⟨_, _, _, _, _, _⟩) (v := .int .i64 (X j)) rfl (by kernel_rfl) (by kernel_rfl) (by kernel_rfl) (fun _ _ _ h => h) (.inl ⟨by kernel_rfl, fun wz hz => by subst hz; go_simp⟩) ?_
  refine anyC_take (i := 14) (oi := ⟨_, _, _, _, _, _⟩) (v := .pointer (some ⟨g, 1, none⟩)) rfl (by kernel_rfl) (by kernel_rfl) (by kernel_rfl) (fun _ _ _ h => h) (.inl ⟨by kernel_rfl, fun wz hz => by subst hz; go_simp⟩) ?_
  (try simp only [Act.put, List.setIfInBounds_toArray, List.set_cons_zero, List.set_cons_succ])
  refine anyC_take (i := 15) (oi := ⟨_, _, _, _, _, _⟩) (v := .int .i64 (Y j)) rfl (by kernel_rfl) (by kernel_rfl) (by kernel_rfl) (fun _ _ _ h => h) (.inl ⟨by kernel_rfl, fun wz hz => by subst hz; go_simp⟩) ?_
  refine anyC_take (i := 16) (oi := ⟨_, _, _, _, _, _⟩) (v := .int .i64 ym) rfl (by kernel_rfl) (by kernel_rfl) (by kernel_rfl) (fun _ _ _ h => h) (.inl ⟨by kernel_rfl, fun wz hz => by subst hz; go_simp⟩) ?_
  refine anyC_take (i := 17) (oi := ⟨_, _, _, _, _, _⟩) (v := .pointer (some ⟨d, 0, none⟩)) rfl (by kernel_rfl) (by kernel_rfl) (by kernel_rfl) (fun _ _ _ h => h) (.inl ⟨by kernel_rfl, fun wz hz => by subst hz; go_simp⟩) ?_
  (try simp only [Act.put, List.setIfInBounds_toArray, List.set_cons_zero, List.set_cons_succ])
  refine anyC_take (i := 18) (oi := ⟨_, _, _, _, _, _⟩) (v := .pointer (some ⟨d, 1, none⟩)) rfl (by kernel_rfl) (by kernel_rfl) (by kernel_rfl) (fun _ _ _ h => h) (.inl ⟨by kernel_rfl, fun wz hz => by subst hz; go_simp⟩) ?_
  refine anyC_take (i := 19) (oi := ⟨_, _, _, _, _, _⟩) (v := .pointer (some ⟨d, 1 + (X j).toNat * 6, none⟩)) rfl (by kernel_rfl) (by kernel_rfl) (by kernel_rfl) (fun _ _ _ h => h) (.inl ⟨by kernel_rfl, fun wz hz => by subst hz; go_simp⟩) ?_
  refine anyC_take (i := 20) (oi := ⟨_, _, _, _, _, _⟩) (v := .pointer (some ⟨d, 1 + (X j).toNat * 6 + ym.toNat, none⟩)) rfl (by kernel_rfl) (by kernel_rfl) (by kernel_rfl) (fun _ _ _ h => h) (.inl ⟨by kernel_rfl, fun wz hz => by subst hz; go_simp⟩) ?_
  (try simp only [Act.put, List.setIfInBounds_toArray, List.set_cons_zero, List.set_cons_succ])
  refine anyC_take (i := 21) (oi := ⟨_, _, _, _, _, _⟩) (v := .int .i64 v) rfl (by kernel_rfl) (by kernel_rfl) (by kernel_rfl) (fun _ _ _ h => h) (.inl ⟨by kernel_rfl, fun wz hz => by subst hz; have q := h2.ct x0 x1 ym0 ym1; rw [hv] at q; go_simp⟩) ?_
  refine anyC_take (i := 22) (oi := ⟨_, _, _, _, _, _⟩) (v := .int .i64 r) rfl (by kernel_rfl) (by kernel_rfl) (by kernel_rfl) (fun _ _ _ h => h) (.inl ⟨by kernel_rfl, fun wz hz => by subst hz; rw [HR.out]; go_simp⟩) ?_
  (try simp only [Act.put, List.setIfInBounds_toArray, List.set_cons_zero, List.set_cons_succ])
  refine anyC_take (i := 23) (oi := ⟨_, _, _, _, _, _⟩) (v := .int .i64 r) rfl (by kernel_rfl) (by kernel_rfl) (by kernel_rfl) (fun _ _ _ h => h) (.inl ⟨by kernel_rfl, fun wz hz => by apply runs_assign <;> rfl⟩) ?_
  (try simp only [Act.put, List.setIfInBounds_toArray, List.set_cons_zero, List.set_cons_succ])
  refine anyC_done (C := fun w' => w' = w2.drew) (by kernel_rfl) rfl ?_ _
  go_wp2
  go_ret
  exact ⟨rfl, hb2.trans ((Dr.below ⟨1, rfl⟩ _ : Below w2.heap.size w2 w2.drew).mono hb2.size)⟩
end Go.Proofs.Ythjbfdoclifhoaa

namespace Go.Proofs.Ythjbfdoclifhoaa
open Go.RowKit
set_option linter.unusedVariables false

set_option maxRecDepth 100000 in
set_option maxHeartbeats 4000000 in
/-- (*impl.draft).put -/
theorem drPut_any (d p m c : Nat) (n : Int) (f : Int → Int → Value) (X Y : Nat → Int) (j : Nat) (z : Int) (w : World) (hj : j < m) (h : DrB w d n f (.slice (some ⟨p, 0, none⟩) m c) (.int .i64 (j : Int))) (hp : PlB w p m X Y) (hj6 : j ≤ 1000) (hne : p ≠ d)
    (x0 : 0 ≤ X j) (x1 : X j < 6) (y0 : 0 ≤ Y j) (y1 : Y j < 6) :
    Calls Try.prog 46 #[.pointer (some ⟨d, 0, none⟩), .int .i64 z] w fun e w' => e = .returned (.tuple #[]) ∧ DrB w' d n (upd2 (upd2 f (X j) (Y j) (.int .i64 z)) (Y j) (X j) (.int .i64 z)) (.slice (some ⟨p, 0, none⟩) m c) (.int .i64 ((j : Int) + 1)) ∧ PlB w' p m X Y ∧ w.grownBy w' (some d) := by
  have c7 := h.cp
  have c8 := h.ck
  obtain ⟨x7, x8⟩ := hp.at hj
  have hj1 : (j : Int) < m := by omega
  have kw : IntKind.i64.wrap ((j : Int) + 1) = (j : Int) + 1 := IntWalk.i64_in _ (by omega)
  have hA : DrB w.drew d n f (.slice (some ⟨p, 0, none⟩) m c) (.int .i64 (j : Int)) := h
  have hpA : PlB w.drew p m X Y := hp
  go_enter Try.func46, Try.ntmps46
  go_wp2
  refine wp_region_any (by kernel_rfl) ?_
  refine any_of_C (C := fun w' => w'.cell? ⟨d, 37, none⟩ = some (.slice (some ⟨p, 0, none⟩) m c) ∧ w'.cell? ⟨d, 38, none⟩ = some (.int .i64 (j : Int)) ∧ w'.cell? ⟨p, j * 2, none⟩ = some (.int .i64 (X j)) ∧ w'.cell? ⟨p, j * 2 + 1, none⟩ = some (.int .i64 (Y j))) _ _ _ _ ?_
  refine anyC_take (i := 0) (oi := ⟨_, _, _, _, _, _⟩) (v := .pointer (some ⟨d, 0, none⟩)) rfl (by kernel_rfl) (by kernel_rfl) (by kernel_rfl) (fun _ _ _ h => h) (.inl ⟨by kernel_rfl, fun wz hz => by apply runs_moveY <;> rfl⟩) ?_
  refine anyC_take (i := 1) (oi := ⟨_, _, _, _, _, _⟩) (v := .pointer (some ⟨d, 0, none⟩)) rfl (by kernel_rfl) (by kernel_rfl) (by kernel_rfl) (fun _ _ _ h => h) (.inl ⟨by kernel_rfl, fun wz hz => by apply runs_moveY <;> rfl⟩) ?_
  refine anyC_take (i := 2) (oi := ⟨_, _, _, _, _, _⟩) (v := .pointer (some ⟨d, 0, none⟩)) rfl (by kernel_rfl) (by kernel_rfl) (by kernel_rfl) (fun _ _ _ h => h) (.inl ⟨by kernel_rfl, fun wz hz => by obtain ⟨c0, c1, c2, c3⟩ := hz; go_simp⟩) ?_
  (try simp only [Act.put, List.setIfInBounds_toArray, List.set_cons_zero, List.set_cons_succ])
  refine anyC_take (i := 3) (oi := ⟨_, _, _, _, _, _⟩) (v := .pointer (some ⟨d, 37, none⟩)) rfl (by kernel_rfl) (by kernel_rfl) (by kernel_rfl) (fun _ _ _ h => h) (.inl ⟨by kernel_rfl, fun wz hz => by obtain ⟨c0, c1, c2, c3⟩ := hz; go_simp⟩) ?_
  refine anyC_take (i := 4) (oi := ⟨_, _, _, _, _, _⟩) (v := .slice (some ⟨p, 0, none⟩) m c) rfl (by kernel_rfl) (by kernel_rfl) (by kernel_rfl) (fun _ _ _ h => h) (.inl ⟨by kernel_rfl, fun wz hz => by obtain ⟨c0, c1, c2, c3⟩ := hz; go_simp⟩) ?_
  refine anyC_take (i := 5) (oi := ⟨_, _, _, _, _, _⟩) (v := .pointer (some ⟨d, 0, none⟩)) rfl (by kernel_rfl) (by kernel_rfl) (by kernel_rfl) (fun _ _ _ h => h) (.inl ⟨by kernel_rfl, fun wz hz => by apply runs_moveY <;> rfl⟩) ?_
  (try simp only [Act.put, List.setIfInBounds_toArray, List.set_cons_zero, List.set_cons_succ])
  refine anyC_take (i := 6) (oi := ⟨_, _, _, _, _, _⟩) (v := .pointer (some ⟨d, 0, none⟩)) rfl (by kernel_rfl) (by kernel_rfl) (by kernel_rfl) (fun _ _ _ h => h) (.inl ⟨by kernel_rfl, fun wz hz => by obtain ⟨c0, c1, c2, c3⟩ := hz; go_simp⟩) ?_
  refine anyC_take (i := 7) (oi := ⟨_, _, _, _, _, _⟩) (v := .pointer (some ⟨d, 38, none⟩)) rfl (by kernel_rfl) (by kernel_rfl) (by kernel_rfl) (fun _ _ _ h => h) (.inl ⟨by kernel_rfl, fun wz hz => by obtain ⟨c0, c1, c2, c3⟩ := hz; go_simp⟩) ?_
  refine anyC_take (i := 8) (oi := ⟨_, _, _, _, _, _⟩) (v := .int .i64 (j : Int)) rfl (by kernel_rfl) (by kernel_rfl) (by kernel_rfl) (fun _ _ _ h => h) (.inl ⟨by kernel_rfl, fun wz hz => by obtain ⟨c0, c1, c2, c3⟩ := hz; go_simp⟩) ?_
  (try simp only [Act.put, List.setIfInBounds_toArray, List.set_cons_zero, List.set_cons_succ])
  refine anyC_take (i := 9) (oi := ⟨_, _, _, _, _, _⟩) (v := .pointer (some ⟨p, j * 2, none⟩)) rfl (by kernel_rfl) (by kernel_rfl) (by kernel_rfl) (fun _ _ _ h => h) (.inl ⟨by kernel_rfl, fun wz hz => by obtain ⟨c0, c1, c2, c3⟩ := hz; go_simp⟩) ?_
  refine anyC_take (i := 10) (oi := ⟨_, _, _, _, _, _⟩) (v := .agg #[.int .i64 (X j), .int .i64 (Y j)]) rfl (by kernel_rfl) (by kernel_rfl) (by kernel_rfl) (fun _ _ _ h => h) (.inl ⟨by kernel_rfl, fun wz hz => by obtain ⟨c0, c1, c2, c3⟩ := hz; go_simp⟩) ?_
  (try simp only [Act.put, List.setIfInBounds_toArray, List.set_cons_zero, List.set_cons_succ])
  refine anyC_take (i := 11) (oi := ⟨_, _, _, _, _, _⟩) (v := .int .i64 z) rfl (by kernel_rfl) (by kernel_rfl) (by kernel_rfl) (fun _ _ _ h => h) (.inl ⟨by kernel_rfl, fun wz hz => by apply runs_moveY <;> rfl⟩) ?_
  (try simp only [Act.put, List.setIfInBounds_toArray, List.set_cons_zero, List.set_cons_succ])
  refine anyC_call (i := 12) (o := ⟨_, _, _, _, _, _⟩) (f := 41) (args := #[.pointer (some ⟨d, 0, none⟩), .agg #[.int .i64 (X j), .int .i64 (Y j)], .int .i64 z]) rfl (by kernel_rfl) (by kernel_rfl) (by apply runs_call3 (he := enters_of Try.func41 (by kernel_rfl) rfl) <;> rfl) ⟨hA.cp, hA.ck, (hpA.at hj).1, (hpA.at hj).2⟩ ?_
  refine (drWrite_any d n f _ _ (X j) (Y j) z _ hA x0 x1 y0 y1).mono ?_
  rintro e wz ⟨rfl, hd, hg⟩
  refine ⟨_, rfl, ?_⟩
  (try simp only [Act.put, List.setIfInBounds_toArray, List.set_cons_zero, List.set_cons_succ])
  have hpz := hpA.grown hg hne
  refine anyC_done (C := fun w' => w'.cell? ⟨d, 37, none⟩ = some (.slice (some ⟨p, 0, none⟩) m c) ∧ w'.cell? ⟨d, 38, none⟩ = some (.int .i64 (j : Int)) ∧ w'.cell? ⟨p, j * 2, none⟩ = some (.int .i64 (X j)) ∧ w'.cell? ⟨p, j * 2 + 1, none⟩ = some (.int .i64 (Y j))) (by kernel_rfl) ⟨hd.cp, hd.ck, (hpz.at hj).1, (hpz.at hj).2⟩ ?_ _
  have e8 := hd.ck
  have f8 := hd.free 38
  go_wp2
  go_end0
  exact ⟨rfl, hd.setK _, hpz.same (Below.heap_setCell _ _ _ _ (by show p ≠ d; exact hne)), grown_cell (grown_trans (grown_dr0 (grown_refl w _)) hg)⟩
set_option maxRecDepth 100000 in
set_option maxHeartbeats 4000000 in
/-- (*impl.draft).takeBack -/
theorem drTakeBack_any (d p m c : Nat) (n : Int) (f : Int → Int → Value) (X Y : Nat → Int) (j : Nat) (k : Int) (w : World) (hj : j < m) (h : DrB w d n f (.slice (some ⟨p, 0, none⟩) m c) (.int .i64 k)) (hp : PlB w p m X Y) (hk : k = j + 1) (hj6 : j ≤ 1000) (hne : p ≠ d)
    (x0 : 0 ≤ X j) (x1 : X j < 6) (y0 : 0 ≤ Y j) (y1 : Y j < 6) :
    Calls Try.prog 48 #[.pointer (some ⟨d, 0, none⟩)] w fun e w' => e = .returned (.tuple #[]) ∧ DrB w' d n (upd2 (upd2 f (X j) (Y j) (.int .i64 (-1))) (Y j) (X j) (.int .i64 (-1))) (.slice (some ⟨p, 0, none⟩) m c) (.int .i64 (j : Int)) ∧ PlB w' p m X Y ∧ w.grownBy w' (some d) := by
  have c7 := h.cp
  have c8 := h.ck
  have f8 := h.free 38
  have hj1 : (j : Int) < m := by omega
  have kw : IntKind.i64.wrap (k - 1) = (j : Int) := by rw [hk]; rw [show (j : Int) + 1 - 1 = j by omega]; exact IntWalk.i64_in _ (by omega)
  clear hk
  go_enter Try.func48, Try.ntmps48
  go_wp2
  obtain ⟨w1, hw1⟩ : ∃ w1 : World, w1 = w.setCell ⟨d, 38, none⟩ (.int .i64 (j : Int)) := ⟨_, rfl⟩
  rw [← hw1]
  have h1 : DrB w1 d n f (.slice (some ⟨p, 0, none⟩) m c) (.int .i64 (j : Int)) := by rw [hw1]; exact h.setK _
  have hp1 : PlB w1 p m X Y := by rw [hw1]; exact hp.same (Below.heap_setCell _ _ _ _ (by show p ≠ d; exact hne))
  have hg1 : w.grownBy w1 (some d) := by rw [hw1]; exact grown_cell (grown_refl w _)
  clear hw1 c7 c8 f8
  have hA : DrB w1.drew d n f (.slice (some ⟨p, 0, none⟩) m c) (.int .i64 (j : Int)) := h1
  have hpA : PlB w1.drew p m X Y := hp1
  refine wp_region_any (by kernel_rfl) ?_
  refine any_of_C (C := fun w' => w'.cell? ⟨d, 37, none⟩ = some (.slice (some ⟨p, 0, none⟩) m c) ∧ w'.cell? ⟨d, 38, none⟩ = some (.int .i64 (j : Int)) ∧ w'.cell? ⟨p, j * 2, none⟩ = some (.int .i64 (X j)) ∧ w'.cell? ⟨p, j * 2 + 1, none⟩ = some (.int .i64 (Y j))) _ _ _ _ ?_
  refine anyC_take (i := 0) (oi := ⟨_, _, _, _, _, _⟩) (v := .pointer (some ⟨d, 0, none⟩)) rfl (by kernel_rfl) (by kernel_rfl) (by kernel_rfl) (fun _ _ _ h => h) (.inl ⟨by kernel_rfl, fun wz hz => by apply runs_moveY <;> rfl⟩) ?_
  refine anyC_take (i := 1) (oi := ⟨_, _, _, _, _, _⟩) (v := .pointer (some ⟨d, 0, none⟩)) rfl (by kernel_rfl) (by kernel_rfl) (by kernel_rfl) (fun _ _ _ h => h) (.inl ⟨by kernel_rfl, fun wz hz => by apply runs_moveY <;> rfl⟩) ?_
  refine anyC_take (i := 2) (oi := ⟨_, _, _, _, _, _⟩) (v := .pointer (some ⟨d, 0, none⟩)) rfl (by kernel_rfl) (by kernel_rfl) (by kernel_rfl) (fun _ _ _ h => h) (.inl ⟨by kernel_rfl, fun wz hz => by obtain ⟨c0, c1, c2, c3⟩ := hz; go_simp⟩) ?_
  (try simp only [Act.put, List.setIfInBounds_toArray, List.set_cons_zero, List.set_cons_succ])
  refine anyC_take (i := 3) (oi := ⟨_, _, _, _, _, _⟩) (v := .pointer (some ⟨d, 37, none⟩)) rfl (by kernel_rfl) (by kernel_rfl) (by kernel_rfl) (fun _ _ _ h => h) (.inl ⟨by kernel_rfl, fun wz hz => by obtain ⟨c0, c1, c2, c3⟩ := hz; go_simp⟩) ?_
  refine anyC_take (i := 4) (oi := ⟨_, _, _, _, _, _⟩) (v := .slice (some ⟨p, 0, none⟩) m c) rfl (by kernel_rfl) (by kernel_rfl) (by kernel_rfl) (fun _ _ _ h => h) (.inl ⟨by kernel_rfl, fun wz hz => by obtain ⟨c0, c1, c2, c3⟩ := hz; go_simp⟩) ?_
  refine anyC_take (i := 5) (oi := ⟨_, _, _, _, _, _⟩) (v := .pointer (some ⟨d, 0, none⟩)) rfl (by kernel_rfl) (by kernel_rfl) (by kernel_rfl) (fun _ _ _ h => h) (.inl ⟨by kernel_rfl, fun wz hz => by apply runs_moveY <;> rfl⟩) ?_
  (try simp only [Act.put, List.setIfInBounds_toArray, List.set_cons_zero, List.set_cons_succ])
  refine anyC_take (i := 6) (oi := ⟨_, _, _, _, _, _⟩) (v := .pointer (some ⟨d, 0, none⟩)) rfl (by kernel_rfl) (by kernel_rfl) (by kernel_rfl) (fun _ _ _ h => h) (.inl ⟨by kernel_rfl, fun wz hz => by obtain ⟨c0, c1, c2, c3⟩ := hz; go_simp⟩) ?_
  refine anyC_take (i := 7) (oi := ⟨_, _, _, _, _, _⟩) (v := .pointer (some ⟨d, 38, none⟩)) rfl (by kernel_rfl) (by kernel_rfl) (by kernel_rfl) (fun _ _ _ h => h) (.inl ⟨by kernel_rfl, fun wz hz => by obtain ⟨c0, c1, c2, c3⟩ := hz; go_simp⟩) ?_
  refine anyC_take (i := 8) (oi := ⟨_, _, _, _, _, _⟩) (v := .int .i64 (j : Int)) rfl (by kernel_rfl) (by kernel_rfl) (by kernel_rfl) (fun _ _ _ h => h) (.inl ⟨by kernel_rfl, fun wz hz => by obtain ⟨c0, c1, c2, c3⟩ := hz; go_simp⟩) ?_
  (try simp only [Act.put, List.setIfInBounds_toArray, List.set_cons_zero, List.set_cons_succ])
  refine anyC_take (i := 9) (oi := ⟨_, _, _, _, _, _⟩) (v := .pointer (some ⟨p, j * 2, none⟩)) rfl (by kernel_rfl) (by kernel_rfl) (by kernel_rfl) (fun _ _ _ h => h) (.inl ⟨by kernel_rfl, fun wz hz => by obtain ⟨c0, c1, c2, c3⟩ := hz; go_simp⟩) ?_
  refine anyC_take (i := 10) (oi := ⟨_, _, _, _, _, _⟩) (v := .agg #[.int .i64 (X j), .int .i64 (Y j)]) rfl (by kernel_rfl) (by kernel_rfl) (by kernel_rfl) (fun _ _ _ h => h) (.inl ⟨by kernel_rfl, fun wz hz => by obtain ⟨c0, c1, c2, c3⟩ := hz; go_simp⟩) ?_
  (try simp only [Act.put, List.setIfInBounds_toArray, List.set_cons_zero, List.set_cons_succ])
  refine anyC_call (i := 11) (o := ⟨_, _, _, _, _, _⟩) (f := 41) (args := #[.pointer (some ⟨d, 0, none⟩), .agg #[.int .i64 (X j), .int .i64 (Y j)], .int .i64 (-1)]) rfl (by kernel_rfl) (by kernel_rfl) (by apply runs_call3 (he := enters_of Try.func41 (by kernel_rfl) rfl) <;> rfl) ⟨hA.cp, hA.ck, (hpA.at hj).1, (hpA.at hj).2⟩ ?_
  refine (drWrite_any d n f _ _ (X j) (Y j) (-1) _ hA x0 x1 y0 y1).mono ?_
  rintro e wz ⟨rfl, hd, hg⟩
  refine ⟨_, rfl, ?_⟩
  (try simp only [Act.put, List.setIfInBounds_toArray, List.set_cons_zero, List.set_cons_succ])
  have hpz := hpA.grown hg hne
  refine anyC_done (C := fun w' => w'.cell? ⟨d, 37, none⟩ = some (.slice (some ⟨p, 0, none⟩) m c) ∧ w'.cell? ⟨d, 38, none⟩ = some (.int .i64 (j : Int)) ∧ w'.cell? ⟨p, j * 2, none⟩ = some (.int .i64 (X j)) ∧ w'.cell? ⟨p, j * 2 + 1, none⟩ = some (.int .i64 (Y j))) (by kernel_rfl) ⟨hd.cp, hd.ck, (hpz.at hj).1, (hpz.at hj).2⟩ ?_ _
  go_end0
  exact ⟨rfl, hd, hpz, grown_trans (grown_dr0 hg1) hg⟩
end Go.Proofs.Ythjbfdoclifhoaa
