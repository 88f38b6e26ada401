import Derived.Test.YtpfnfglaokiipabI4
namespace Go.Proofs.Ytpfnfglaokiipab
open Go.RowKit

section
variable {P : Program} {C : World → Prop} {o : Oper} {a : Act}
/-- a load of a whole array, in a region that draws its order -/
theorem quiet_load_row {K : Act → Prop} (ty : TypeId) (x : Operand) (ho : o.op = .load ty x) (g : Nat) (hx : a.eval x = .pointer (some ⟨g, 0, none⟩)) (t : TypeId) (cs : Array Value) (fr : Nat × Nat) (d : TypeDesc)
    (hg : ∀ w, C w → w.heap[g]? = some (.cells cs t fr)) (hu : P.underlying ty = some d) (hd : (match d with | .struct _ | .array _ _ => true | _ => false) = true) (hi : (P.info? ty).map (·.size) = some cs.size)
    (h : K (a.put o.dst (.agg cs))) : o.quiet P a C K :=
  ⟨_, fun w hw => by
    unfold Oper.quietAt execOp
    simp only [ho, hx, Instr.loadAt, Instr.sureAddr, Sem.run_bind, Sem.run_pure, Result.andThen_ok, run_loadVar_row w g t ty cs fr d (hg w hw) hu hd hi]
    exact ⟨rfl, rfl⟩, h⟩
/-- a world of a class -/
structure In (C : World → Prop) where
  w : World
  h : C w
/-- a region that draws its order, its operations written out, at whatever class of worlds -/
theorem region_in {id : Nat} {Q : Exit → Act → World → Prop} {w : World} {l : List Oper} (C : World → Prop) (hm : P.follows .mixedOrders = true) (hB : Region.lexB .any l.toArray = true) (hC : C (w.drewN 1))
    (h : Nonempty (In C) → wpQuiet P l.toArray (fun w' => ∃ s : In C, w' = s.w) (fun a' => ∀ s : In C, Q .normal a' s.w) l a) : (Code.region id l.toArray true).wp P Q a w :=
  wp_region_quiet (C := fun w' => ∃ s : In C, w' = s.w) hm hB ⟨⟨_, hC⟩, rfl⟩ (by
    have := h ⟨⟨_, hC⟩⟩
    have e : (fun a' => ∀ w', (∃ s : In C, w' = s.w) → Q .normal a' w') = (fun a' => ∀ s : In C, Q .normal a' s.w) := by
      funext a'
      exact propext ⟨fun h s => h _ ⟨s, rfl⟩, fun h w' ⟨s, hs⟩ => by rw [hs]; exact h s⟩
    rw [e]
    simpa using this)
/-- a callee's contract, met in a region that draws its order: it makes memory, no more -/
theorem in_below {f : FuncId} {args : Array Value} {w1 : World} {v : Value} {B : Nat} (s : In (Below B w1)) (hB : B ≤ w1.heap.size)
    (h : Calls P f args s.w fun e w'' => e = .returned v ∧ Below s.w.heap.size s.w w'') : Calls P f args s.w fun e w'' => e = .returned v ∧ ∃ s' : In (Below B w1), w'' = s'.w :=
  h.mono fun _ w'' h => ⟨h.1, ⟨w'', s.h.trans (h.2.mono (Nat.le_trans hB s.h.size))⟩, rfl⟩
end

theorem guard_order : Try.prog.eqGuardType Try.prog.depth 55 = false := by kernel_rfl
/-- '==' on two such arrays, in a region that draws its order -/
theorem quiet_eql_order {C : World → Prop} {o : Oper} {a : Act} {K : Act → Prop} (x y : Operand) (ho : o.op = .binOp .eql 55 x y 55) (f g : Int → Int → Bool) (b : Bool) (hb : sameG f g = b)
    (hx : a.eval x = .agg (tab2 (bv f))) (hy : a.eval y = .agg (tab2 (bv g))) (h : K (a.put o.dst (.bool b))) : o.quiet Try.prog a C K :=
  ⟨_, fun w _ => by
    unfold Oper.quietAt execOp
    simp only [ho, hx, hy, Sem.run_bind, run_eqGuard_agg (P := Try.prog) w .eql 55 x y _ _ guard_order, Result.andThen_ok, run_eql_struct, run_equalIn_order, hb, Sem.run_pure]
    exact ⟨rfl, rfl⟩, h⟩
def isOrderB (g : Int → Int → Bool) (n : Int) : Bool := sameG (bothG g) (eqG n) && sameG (twoG g) g

set_option maxRecDepth 100000 in
set_option maxHeartbeats 1000000 in
theorem isOrder_any (g : Int → Int → Bool) (n : Int) (w : World) (n0 : 0 ≤ n) (n6 : n ≤ 6) :
    Calls Try.prog 103 #[.agg (tab2 (bv g)), .int .i64 n] w fun e w' => e = .returned (.bool (isOrderB g n)) ∧ Below w.heap.size w w' := by
  have hv := Lib.hid (show isOrderB g n = (sameG (bothG g) (eqG n) && sameG (twoG g) g) from rfl)
  cases hA : sameG (bothG g) (eqG n)
  all_goals
    rw [hA] at hv
    go_enter Try.func103, Try.ntmps103
    go_wp2
    obtain ⟨w1, hw1⟩ : ∃ w1, w1 = w.alloc (Obj.cells (tab2 (bv g)) 55) := ⟨_, rfl⟩
    rw [← hw1]
    have hb : Blk w1 w.heap.size 55 (bv g) := by rw [hw1]; exact Blk.new w rfl
    have hbel : Below w.heap.size w w1 := by rw [hw1]; exact (Below.refl _ _).alloc (Nat.le_refl _) _
    have hlt := hb.lt
    clear hw1
    refine region_in (Below w1.heap.size w1) (by kernel_rfl) (by kernel_rfl) (Dr.below ⟨1, rfl⟩ _) fun hne => ?_
    repeat (first
      | (go_big_quiet_want; refine quiet_load_row 55 _ rfl w.heap.size rfl _ _ _ _ (fun w' ⟨s, hs⟩ => by rw [hs]; exact (hb.below s.h hlt).heap) Try.underlying55 rfl (size_order _) ?_; simp only [Act.put, List.setIfInBounds_toArray, List.set_cons_succ, List.set_cons_zero]; go_big_quiet_on)
      | (go_big_quiet_want; refine quiet_eql_order _ _ rfl (bothG g) (eqG n) _ hA rfl rfl ?_; simp only [Act.put, List.setIfInBounds_toArray, List.set_cons_succ, List.set_cons_zero]; go_big_quiet_on)
      | (go_big_quiet_want; refine quiet_eql_order _ _ rfl (twoG g) g _ rfl rfl rfl ?_; simp only [Act.put, List.setIfInBounds_toArray, List.set_cons_succ, List.set_cons_zero]; go_big_quiet_on)
      | go_big_quiet_step ((first | (go_at_call 118; exact in_below _ (Nat.le_refl _) (bothWays_any _ _)) | (go_at_call 119; exact in_below _ (Nat.le_refl _) (equality_any _ _ n0 n6)) | (go_at_call 120; exact in_below _ (Nat.le_refl _) (inTwoSteps_any _ _)))))
    refine wpQuiet_nil ?_
    intro s
    have hw2 := s.h
    obtain ⟨w2, hw2'⟩ : ∃ w2, w2 = s.w := ⟨_, rfl⟩
    rw [← hw2'] at hw2 ⊢
    go_wp2
    go_ret
    exact ⟨ret_bool hv.out.symm, hbel.trans (hw2.mono (Nat.le_of_lt hlt))⟩
end Go.Proofs.Ytpfnfglaokiipab
