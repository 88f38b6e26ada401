import Derived.Test.YtjcambkjcagcoaaB5
import Derived.Great.BuildSlice
import Derived.Test.YtjcambkjcagcoaaK1
import Derived.Test.YtjcambkjcagcoaaG11
import Derived.Test.YtjcambkjcagcoaaN7
namespace Go.Proofs.Ytjcambkjcagcoaa
open Go.RowKit

theorem AlgAt.mr {w : World} {b : Nat} {L : List Int} {T : List (List Int)} (h : AlgAt w b L T) : w.rangeAt b 37 (tab2 (iv (tabM L))).toList := fun j v hv => by
  have hj : j < (tab2 (iv (tabM L))).toList.length := (List.getElem?_eq_some_iff.1 hv).1
  have hj' : j < 36 := by simpa [tab2] using hj
  refine h.part (37 + j) ?_
  unfold latOf latA
  rw [List.getElem?_toArray, List.getElem?_append_left (by simp [tab2]; omega), List.getElem?_append_right (by simp [tab2]), show 37 + j - (Value.int .i64 L.length :: (tab2 (bv (ordG L))).toList).length = j by simp [tab2]]
  exact hv
theorem AlgAt.jr {w : World} {b : Nat} {L : List Int} {T : List (List Int)} (h : AlgAt w b L T) : w.rangeAt b 73 (tab2 (iv (tabJ L))).toList := fun j v hv => by
  have hj : j < (tab2 (iv (tabJ L))).toList.length := (List.getElem?_eq_some_iff.1 hv).1
  refine h.part (73 + j) ?_
  unfold latOf latA
  rw [List.getElem?_toArray, List.getElem?_append_right (by simp [tab2]), show 73 + j - ((Value.int .i64 L.length :: (tab2 (bv (ordG L))).toList) ++ (tab2 (iv (tabT (ordG L) L.length))).toList).length = j by simp [tab2]]
  exact hv
theorem AlgAt.tr {w : World} {b : Nat} {L : List Int} {T : List (List Int)} (h : AlgAt w b L T) : w.rangeAt b 109 (tab2 (iv (timG L T))).toList := fun j v hv => by
  have hj : j < (tab2 (iv (timG L T))).toList.length := (List.getElem?_eq_some_iff.1 hv).1
  have hj' : j < 36 := by simpa [tab2] using hj
  rw [cell_of_row w b _ _ _ _ h]
  unfold algOf algA
  have hl : (latA L.length (ordG L) (tabM L) (tabJ L)).toList.length = 109 := by simpa using latA_size L.length (ordG L) (tabM L) (tabJ L)
  rw [List.getElem?_toArray, List.getElem?_append_left (by rw [List.length_append, hl]; simp [tab2]; omega), List.getElem?_append_right (by rw [hl]; omega), hl, show 109 + j - 109 = j by omega]
  exact hv
theorem AlgAt.ir {w : World} {b : Nat} {L : List Int} {T : List (List Int)} (h : AlgAt w b L T) : w.rangeAt b 145 (tab2 (iv (impG L T))).toList := fun j v hv => by
  rw [cell_of_row w b _ _ _ _ h]
  unfold algOf algA
  have hl : ((latA L.length (ordG L) (tabM L) (tabJ L)).toList ++ (tab2 (iv (timG L T))).toList).length = 145 := by
    have := latA_size L.length (ordG L) (tabM L) (tabJ L)
    rw [List.length_append, Array.length_toList, this]; simp [tab2]
  rw [List.getElem?_toArray, List.getElem?_append_right (by rw [hl]; omega), hl, show 145 + j - 145 = j by omega]
  exact hv
/-- the four operations, one behind the other -/
def opV (L : List Int) (T : List (List Int)) : List Value := [.agg (tab2 (iv (tabM L))), .agg (tab2 (iv (tabJ L))), .agg (tab2 (iv (timG L T))), .agg (tab2 (iv (impG L T)))]
def opsC (L : List Int) (T : List (List Int)) : Array Value := ((opV L T).flatMap fun v => v.cells.toList).toArray
theorem opV_size (L : List Int) (T : List (List Int)) : ∀ v ∈ opV L T, v.cells.size = 36 := by
  intro v hv
  simp only [opV, List.mem_cons, List.not_mem_nil, or_false] at hv
  rcases hv with rfl | rfl | rfl | rfl <;> simp [Value.cells, tab2_size]
/-- block g holds the four operations -/
def OpsAt (w : World) (g : Nat) (L : List Int) (T : List (List Int)) : Prop := w.heap[g]? = some (.cells (opsC L T) 65 (0, 0))
theorem OpsAt.lt {w : World} {g : Nat} {L : List Int} {T : List (List Int)} (h : OpsAt w g L T) : g < w.heap.size := lt_of_block h
theorem OpsAt.below {w w' : World} {g : Nat} {L : List Int} {T : List (List Int)} (h : OpsAt w g L T) (hb : Below w.heap.size w w') : OpsAt w' g L T := (hb.block _ h.lt).trans h
theorem OpsAt.range {w : World} {g : Nat} {L : List Int} {T : List (List Int)} (h : OpsAt w g L T) {k : Nat} {t : Int → Int → Value} (hk : (opV L T)[k]? = some (.agg (tab2 t))) {o : Nat} (ho : o = k * 36) : w.rangeAt g o (tab2 t).toList := fun j v hv => by
  have hj : j < (tab2 t).toList.length := (List.getElem?_eq_some_iff.1 hv).1
  have hj' : j < 36 := by simpa [tab2_size] using hj
  subst ho
  rw [cell_of_row w g _ _ _ _ h]
  unfold opsC
  rw [List.getElem?_toArray, Great.flat_get (s := 36) (by omega) _ (opV_size L T), show (k * 36 + j) / 36 = k by omega, show (k * 36 + j) % 36 = j by omega, hk]
  simpa [Value.cells] using hv
theorem fill_ops (L : List Int) (T : List (List Int)) (z : Value) (n : Nat) (hn : n = 36) : Instr.fill (fun i => some (i * n, n)) ((Array.range (4 * n)).map (z.cells[· % z.cells.size]!)) [(0, .agg (tab2 (iv (tabM L)))), (1, .agg (tab2 (iv (tabJ L)))), (2, .agg (tab2 (iv (timG L T)))), (3, .agg (tab2 (iv (impG L T))))] = some (opsC L T) := by
  subst hn
  exact Great.fill_whole (s := 36) (by omega) (opV L T) _ (opV_size L T) (by simp [opV])
theorem info_tab : (Try.prog.info? 65).map (fun i => (i.zero, i.size, i.bytes)) = some (some (.agg (tab2 (iv zeroI))), 36, 288) := by kernel_rfl
set_option maxRecDepth 100000 in
set_option maxHeartbeats 2000000 in
/-- impl.algebra.operations -/
theorem operations_any (L : List Int) (T : List (List Int)) (w : World) :
    Calls Try.prog 123 #[.agg (algOf L T)] w fun e w' => ∃ g, e = .returned (.slice (some ⟨g, 0, none⟩) 4 4) ∧ w.heap.size ≤ g ∧ OpsAt w' g L T ∧ Below w.heap.size w w' := by
  obtain ⟨w1, hw1⟩ : ∃ w1, w1 = w.alloc (.cells (algOf L T) 69) := ⟨_, rfl⟩
  have hB : Below w.heap.size w w1 := by rw [hw1]; exact (Below.refl _ _).alloc (Nat.le_refl _) _
  have hA : AlgAt w1 w.heap.size L T := by rw [hw1]; exact AlgAt.new w L T
  obtain ⟨i0, hi, hz0, hz1, hz2⟩ := info_parts info_tab
  go_enter Try.func123, Try.ntmps123
  go_wp2_with (first
    | (rw [← hw1]; clear hw1)
    | (refine wpList_load_mid_w rfl 65 _ rfl w.heap.size 37 rfl (tab2 (iv (tabM L))) _ hA.mr Try.underlying65 rfl (size_table _) ?_)
    | (refine wpList_load_mid_w rfl 65 _ rfl w.heap.size 73 rfl (tab2 (iv (tabJ L))) _ hA.jr Try.underlying65 rfl (size_table _) ?_)
    | (refine wpList_load_mid_w rfl 65 _ rfl w.heap.size 109 rfl (tab2 (iv (timG L T))) _ hA.tr Try.underlying65 rfl (size_table _) ?_)
    | (refine wpList_load_mid_w rfl 65 _ rfl w.heap.size 145 rfl (tab2 (iv (impG L T))) _ hA.ir Try.underlying65 rfl (size_table _) ?_)
    | (refine wpList_buildSlice rfl 123 65 4 _ rfl (opsC L T) i0 _ Try.underlying123 hi hz0 (by rw [hz1]; omega) (by rw [hz1]; omega) (Eq.trans (congrArg (Instr.fill (fun i => some (i * i0.size, i0.size)) ((Array.range (4 * i0.size)).map ((Value.agg (tab2 (iv zeroI))).cells[· % (Value.agg (tab2 (iv zeroI))).cells.size]!))) (by kernel_rfl : _ = [(0, .agg (tab2 (iv (tabM L)))), (1, .agg (tab2 (iv (tabJ L)))), (2, .agg (tab2 (iv (timG L T)))), (3, .agg (tab2 (iv (impG L T))))])) (fill_ops L T _ _ hz1)) ?_))
  go_ret
  exact ⟨_, rfl, hB.size, heap_alloc_new w1 _, hB.alloc hB.size _⟩
end Go.Proofs.Ytjcambkjcagcoaa

namespace Go.Proofs.Ytjcambkjcagcoaa
open Go.RowKit

def opF (L : List Int) (T : List (List Int)) : Nat → Int → Int → Int
  | 0 => tabM L
  | 1 => tabJ L
  | 2 => timG L T
  | _ => impG L T
theorem opF_get (L : List Int) (T : List (List Int)) {k : Nat} (h : k < 4) : (opV L T)[k]? = some (.agg (tab2 (iv (opF L T k)))) := by
  rcases k with _ | _ | _ | _ | k
  · rfl
  · rfl
  · rfl
  · rfl
  · omega
theorem fit_imp {L : List Int} (T : List (List Int)) (h : latB L = true) : FitG L.length (impG L T) := fun x y x0 x1 y0 y1 => by
  rw [impG_in (show x < num L from x1) (show y < num L from y1)]; exact imp_lt T x y h
theorem fit_op {L : List Int} {T : List (List Int)} (h : algB L T = true) (k : Nat) : FitG L.length (opF L T k) := by
  rcases k with _ | _ | _ | k
  · exact fit_meet (alg_lat h)
  · exact fit_join (alg_lat h)
  · exact fit_tim (alg_shape h)
  · exact fit_imp T (alg_lat h)
theorem opB_congr {n : Int} {t u : Int → Int → Int} (f : Int) (h : ∀ x y, 0 ≤ x → x < n → 0 ≤ y → y < n → t x y = u x y) : opB n t f = opB n u f := by
  unfold opB
  refine all2_congr fun x y x0 x1 y0 y1 => ?_
  unfold opQ; rw [h x y x0 x1 y0 y1]
theorem one_tab2 (f : Int → Int → Int) : (tab2 (iv f)).all (·.oneCell') = true := by simp [tab2, iv, Value.oneCell']
/-- the tests of a part, one by one -/
theorem prt_ops {L : List Int} {T : List (List Int)} (h : algB L T = true) (f : Int) : prtB L T f = ((ib f 0 && ib f (num L - 1)) && allI 4 fun k => opB L.length (opF L T k.toNat) f) := by
  have hl := alg_lat h
  have e : (allI 4 fun k => opB L.length (opF L T k.toNat) f) = (opB L.length (tabM L) f && (opB L.length (tabJ L) f && (opB L.length (timG L T) f && opB L.length (impG L T) f))) := by
    show (((List.range 4).all _) = _)
    simp [List.range_succ, opF]
  rw [e]
  unfold prtB
  rw [opB_congr (n := L.length) (t := tabM L) (u := mt L) f (fun x y x0 x1 y0 y1 => tabT_meet hl x0 x1 y0 y1), opB_congr (n := L.length) (t := tabJ L) (u := jn L) f (fun x y x0 x1 y0 y1 => tabT_join hl x0 x1 y0 y1), opB_congr (n := L.length) (t := timG L T) (u := tv T) f (fun x y _ x1 _ y1 => timG_in x1 y1), opB_congr (n := L.length) (t := impG L T) (u := imp L T) f (fun x y _ x1 _ y1 => impG_in x1 y1)]
  rfl
end Go.Proofs.Ytjcambkjcagcoaa

namespace Go.Proofs.Ytjcambkjcagcoaa
open Go.RowKit

theorem prB_f {L : List Int} {T : List (List Int)} {f x y : Int} (x0 : 0 ≤ x) (x1 : x < num L) (y0 : 0 ≤ y) (y1 : y < num L) (h : ptQ L T f x y = false) : prB L T f = false := by
  unfold prB all2
  rw [allI_false x x0 x1 (allI_false y y0 y1 h), Bool.and_false]
end Go.Proofs.Ytjcambkjcagcoaa

namespace Go.Proofs.Ytjcambkjcagcoaa
open Go.RowKit

end Go.Proofs.Ytjcambkjcagcoaa
