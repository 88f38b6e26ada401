import Derived.Test.YtljnbhnnjfnjeaaB5
import Derived.Great.BuildSlice
import Derived.Test.YtljnbhnnjfnjeaaK1
import Derived.Test.YtljnbhnnjfnjeaaG11
import Derived.Test.YtljnbhnnjfnjeaaN7
namespace Go.Proofs.Ytljnbhnnjfnjeaa
open Go.RowKit

theorem AlgAt.mr {w : World} {b : Nat} {L : List Int} {T : List (List Int)} (h : AlgAt w b L T) : w.rangeAt b 37 (tab2 (iv (tabM L))).toList := fun j v hv => by
  have hj : j < (tab2 (iv (tabM L))).toList.length := (List.getElem?_eq_some_iff.1 hv).1
  have hj' : j < 36 := by simpa [tab2] using hj
  refine h.part (37 + j) ?_
  unfold latOf latA
  rw [List.getElem?_toArray, List.getElem?_append_left (by simp [tab2]; omega), List.getElem?_append_right (by simp [tab2]), show 37 + j - (Value.int .i64 L.length :: (tab2 (bv (ordG L))).toList).length = j by simp [tab2]]
  exact hv
theorem AlgAt.jr {w : World} {b : Nat} {L : List Int} {T : List (List Int)} (h : AlgAt w b L T) : w.rangeAt b 73 (tab2 (iv (tabJ L))).toList := fun j v hv => by
  have hj : j < (tab2 (iv (tabJ L))).toList.length := (List.getElem?_eq_some_iff.1 hv).1
  refine h.part (73 + j) ?_
  unfold latOf latA
  rw [List.getElem?_toArray, List.getElem?_append_right (by simp [tab2]), show 73 + j - ((Value.int .i64 L.length :: (tab2 (bv (ordG L))).toList) ++ (tab2 (iv (tabT (ordG L) L.length))).toList).length = j by simp [tab2]]
  exact hv
theorem AlgAt.tr {w : World} {b : Nat} {L : List Int} {T : List (List Int)} (h : AlgAt w b L T) : w.rangeAt b 109 (tab2 (iv (timG L T))).toList := fun j v hv => by
  have hj : j < (tab2 (iv (timG L T))).toList.length := (List.getElem?_eq_some_iff.1 hv).1
  have hj' : j < 36 := by simpa [tab2] using hj
  rw [cell_of_row w b _ _ _ _ h]
  unfold algOf algA
  have hl : (latA L.length (ordG L) (tabM L) (tabJ L)).toList.length = 109 := by simpa using latA_size L.length (ordG L) (tabM L) (tabJ L)
  rw [List.getElem?_toArray, List.getElem?_append_left (by rw [List.length_append, hl]; simp [tab2]; omega), List.getElem?_append_right (by rw [hl]; omega), hl, show 109 + j - 109 = j by omega]
  exact hv
theorem AlgAt.ir {w : World} {b : Nat} {L : List Int} {T : List (List Int)} (h : AlgAt w b L T) : w.rangeAt b 145 (tab2 (iv (impG L T))).toList := fun j v hv => by
  rw [cell_of_row w b _ _ _ _ h]
  unfold algOf algA
  have hl : ((latA L.length (ordG L) (tabM L) (tabJ L)).toList ++ (tab2 (iv (timG L T))).toList).length = 145 := by
    have := latA_size L.length (ordG L) (tabM L) (tabJ L)
    rw [List.length_append, Array.length_toList, this]; simp [tab2]
  rw [List.getElem?_toArray, List.getElem?_append_right (by rw [hl]; omega), hl, show 145 + j - 145 = j by omega]
  exact hv
/-- the four operations, one behind the other -/
def opV (L : List Int) (T : List (List Int)) : List Value := [.agg (tab2 (iv (tabM L))), .agg (tab2 (iv (tabJ L))), .agg (tab2 (iv (timG L T))), .agg (tab2 (iv (impG L T)))]
def opsC (L : List Int) (T : List (List Int)) : Array Value := ((opV L T).flatMap fun v => v.cells.toList).toArray
theorem opV_size (L : List Int) (T : List (List Int)) : ∀ v ∈ opV L T, v.cells.size = 36 := by
  intro v hv
  simp only [opV, List.mem_cons, List.not_mem_nil, or_false] at hv
  rcases hv with rfl | rfl | rfl | rfl <;> simp [Value.cells, tab2_size]
/-- block g holds the four operations -/
def OpsAt (w : World) (g : Nat) (L : List Int) (T : List (List Int)) : Prop := w.heap[g]? = some (.cells (opsC L T) 48 (0, 0))
theorem OpsAt.lt {w : World} {g : Nat} {L : List Int} {T : List (List Int)} (h : OpsAt w g L T) : g < w.heap.size := lt_of_block h
theorem OpsAt.below {w w' : World} {g : Nat} {L : List Int} {T : List (List Int)} (h : OpsAt w g L T) (hb : Below w.heap.size w w') : OpsAt w' g L T := (hb.block _ h.lt).trans h
theorem OpsAt.range {w : World} {g : Nat} {L : List Int} {T : List (List Int)} (h : OpsAt w g L T) {k : Nat} {t : Int → Int → Value} (hk : (opV L T)[k]? = some (.agg (tab2 t))) {o : Nat} (ho : o = k * 36) : w.rangeAt g o (tab2 t).toList := fun j v hv => by
  have hj : j < (tab2 t).toList.length := (List.getElem?_eq_some_iff.1 hv).1
  have hj' : j < 36 := by simpa [tab2_size] using hj
  subst ho
  rw [cell_of_row w g _ _ _ _ h]
  unfold opsC
  rw [List.getElem?_toArray, Great.flat_get (s := 36) (by omega) _ (opV_size L T), show (k * 36 + j) / 36 = k by omega, show (k * 36 + j) % 36 = j by omega, hk]
  simpa [Value.cells] using hv
theorem fill_ops (L : List Int) (T : List (List Int)) (z : Value) (n : Nat) (hn : n = 36) : Instr.fill (fun i => some (i * n, n)) ((Array.range (4 * n)).map (z.cells[· % z.cells.size]!)) [(0, .agg (tab2 (iv (tabM L)))), (1, .agg (tab2 (iv (tabJ L)))), (2, .agg (tab2 (iv (timG L T)))), (3, .agg (tab2 (iv (impG L T))))] = some (opsC L T) := by
  subst hn
  exact Great.fill_whole (s := 36) (by omega) (opV L T) _ (opV_size L T) (by simp [opV])
theorem info_tab : (Try.prog.info? 48).map (fun i => (i.zero, i.size, i.bytes)) = some (some (.agg (tab2 (iv zeroI))), 36, 288) := by kernel_rfl
set_option maxRecDepth 100000 in
set_option maxHeartbeats 2000000 in
/-- impl.algebra.operations -/
theorem operations_any (L : List Int) (T : List (List Int)) (w : World) :
    Calls Try.prog 57 #[.agg (algOf L T)] w fun e w' => ∃ g, e = .returned (.slice (some ⟨g, 0, none⟩) 4 4) ∧ w.heap.size ≤ g ∧ OpsAt w' g L T ∧ Below w.heap.size w w' := by
  obtain ⟨w1, hw1⟩ : ∃ w1, w1 = w.alloc (.cells (algOf L T) 52) := ⟨_, rfl⟩
  have hB : Below w.heap.size w w1 := by rw [hw1]; exact (Below.refl _ _).alloc (Nat.le_refl _) _
  have hA : AlgAt w1 w.heap.size L T := by rw [hw1]; exact AlgAt.new w L T
  obtain ⟨i0, hi, hz0, hz1, hz2⟩ := info_parts info_tab
  go_enter Try.func57, Try.ntmps57
  go_wp2_with (first
    | (rw [← hw1]; clear hw1)
    | (refine wpList_load_mid_w rfl 48 _ rfl w.heap.size 37 rfl (tab2 (iv (tabM L))) _ hA.mr Try.underlying48 rfl (size_table _) ?_)
    | (refine wpList_load_mid_w rfl 48 _ rfl w.heap.size 73 rfl (tab2 (iv (tabJ L))) _ hA.jr Try.underlying48 rfl (size_table _) ?_)
    | (refine wpList_load_mid_w rfl 48 _ rfl w.heap.size 109 rfl (tab2 (iv (timG L T))) _ hA.tr Try.underlying48 rfl (size_table _) ?_)
    | (refine wpList_load_mid_w rfl 48 _ rfl w.heap.size 145 rfl (tab2 (iv (impG L T))) _ hA.ir Try.underlying48 rfl (size_table _) ?_)
    | (refine wpList_buildSlice rfl 81 48 4 _ rfl (opsC L T) i0 _ Try.underlying81 hi hz0 (by rw [hz1]; omega) (by rw [hz1]; omega) (Eq.trans (congrArg (Instr.fill (fun i => some (i * i0.size, i0.size)) ((Array.range (4 * i0.size)).map ((Value.agg (tab2 (iv zeroI))).cells[· % (Value.agg (tab2 (iv zeroI))).cells.size]!))) (by kernel_rfl : _ = [(0, .agg (tab2 (iv (tabM L)))), (1, .agg (tab2 (iv (tabJ L)))), (2, .agg (tab2 (iv (timG L T)))), (3, .agg (tab2 (iv (impG L T))))])) (fill_ops L T _ _ hz1)) ?_))
  go_ret
  exact ⟨_, rfl, hB.size, heap_alloc_new w1 _, hB.alloc hB.size _⟩
theorem enters_clo : Enters 105 := enters_of Try.func105 (by kernel_rfl) rfl
set_option maxRecDepth 100000 in
set_option maxHeartbeats 4000000 in
theorem closClo_any (f : Int → Int → Int) (bs bt : Nat) (n set x y : Int) (w : World) (hb : Blk w bt 48 (iv f)) (hs : w.heap[bs]? = some (.cells #[.int .i64 set] 3 (0, 0))) (hF : FitG n f) (n6 : n ≤ 6) (s0 : 0 ≤ set) (s6 : set ≤ 63) (x0 : 0 ≤ x) (x1 : x < n) (y0 : 0 ≤ y) (y1 : y < n) :
    Calls Try.prog 105 #[.int .i64 x, .int .i64 y, .pointer (some ⟨bs, 0, none⟩), .pointer (some ⟨bt, 0, none⟩)] w fun e w' => e = .returned (.bool (opQ f set x y)) ∧ Dr w w' := by
  have x6 : x < 6 := by omega
  have y6 : y < 6 := by omega
  have cs := cell_of_one hs
  have d1 : w.cell? ⟨bt, x.toNat * 6 + y.toNat, none⟩ = some (.int .i64 (f x y)) := hb.cell x0 x6 y0 y6
  obtain ⟨t0, t1⟩ := hF x y x0 x1 y0 y1
  have hq := Lib.hid (show opQ f set x y = (!ib set x || !ib set y || ib set (f x y)) from rfl)
  clear hF hb
  cases hX : ib set x <;> cases hY : ib set y <;> cases hZ : ib set (f x y)
  all_goals
    rw [hX, hY, hZ] at hq
    have HX := Lib.hid hX
    have HY := Lib.hid hY
    have HZ := Lib.hid hZ
    clear hX hY hZ
    go_enter Try.func105, Try.ntmps105
    go_wp2
    go_quiet (first
      | (go_at_call_of 42 (Value.int .i64 x); exact q_dr (isIn_dr x set _ x0 (by omega) s0 (by omega) HX.out))
      | (go_at_call_of 42 (Value.int .i64 y); exact q_dr (isIn_dr y set _ y0 (by omega) s0 (by omega) HY.out))
      | (go_at_call_of 42 (Value.int .i64 (f x y)); exact q_dr (isIn_dr (f x y) set _ t0 (by omega) s0 (by omega) HZ.out)))
    go_wp2
    go_ret
    exact ⟨ret_bool (by rw [hq.out]; rfl), ⟨_, rfl⟩⟩
set_option maxRecDepth 100000 in
set_option maxHeartbeats 2000000 in
/-- impl.table.isClosed -/
theorem isClosed_any (f : Int → Int → Int) (n set : Int) (w : World) (hF : FitG n f) (n0 : 0 ≤ n) (n6 : n ≤ 6) (s0 : 0 ≤ set) (s6 : set ≤ 63) :
    Calls Try.prog 74 #[.agg (tab2 (iv f)), .int .i64 n, .int .i64 set] w fun e w' => e = .returned (.bool (opB n f set)) ∧ Below w.heap.size w w' := by
  obtain ⟨w1, hw1⟩ : ∃ w1, w1 = (w.alloc (.cells (tab2 (iv f)) 48)).alloc (.cells #[.int .i64 set] 3) := ⟨_, rfl⟩
  have hB : Below w.heap.size w w1 := by rw [hw1]; exact ((Below.refl _ _).alloc (Nat.le_refl _) _).alloc (by simp) _
  have hb : Blk w1 w.heap.size 48 (iv f) := by rw [hw1]; exact (Blk.new w rfl).alloc _
  have hs : w1.heap[w.heap.size + 1]? = some (.cells #[.int .i64 set] 3 (0, 0)) := by rw [hw1]; exact heap_alloc2_new _ _ _
  have Q := Lib.hid (show ∀ wz, Below w1.heap.size w1 wz → Blk wz w.heap.size 48 (iv f) from fun wz hz => hb.below hz hb.lt)
  have S := Lib.hid (show ∀ wz, Below w1.heap.size w1 wz → wz.heap[w.heap.size + 1]? = some (.cells #[.int .i64 set] 3 (0, 0)) from fun wz hz => (hz.block _ (lt_of_block hs)).trans hs)
  have HF := Lib.hid hF
  clear hb hs hF
  go_enter Try.func74, Try.ntmps74
  go_wp2_with (first
    | (rw [← hw1]; clear hw1)
    | (go_at_call 88; refine (allTwo_any 105 #[.pointer (some ⟨w.heap.size + 1, 0, none⟩), .pointer (some ⟨w.heap.size, 0, none⟩)] n (opQ f set) _ n0 n6 enters_clo fun x y wr x0 x1 y0 y1 hb => (by rw [append2p]; exact (closClo_any f _ _ n set x y wr (Q.out _ hb) (S.out _ hb) HF.out n6 s0 s6 x0 x1 y0 y1).mono fun _ _ h => ⟨h.1, h.2.below _⟩)).mono ?_; rintro e w3 ⟨rfl, h3⟩))
  go_ret
  exact ⟨rfl, hB.trans (h3.mono hB.size)⟩
end Go.Proofs.Ytljnbhnnjfnjeaa

namespace Go.Proofs.Ytljnbhnnjfnjeaa
open Go.RowKit

def opF (L : List Int) (T : List (List Int)) : Nat → Int → Int → Int
  | 0 => tabM L
  | 1 => tabJ L
  | 2 => timG L T
  | _ => impG L T
theorem opF_get (L : List Int) (T : List (List Int)) {k : Nat} (h : k < 4) : (opV L T)[k]? = some (.agg (tab2 (iv (opF L T k)))) := by
  rcases k with _ | _ | _ | _ | k
  · rfl
  · rfl
  · rfl
  · rfl
  · omega
theorem fit_imp {L : List Int} (T : List (List Int)) (h : latB L = true) : FitG L.length (impG L T) := fun x y x0 x1 y0 y1 => by
  rw [impG_in (show x < num L from x1) (show y < num L from y1)]; exact imp_lt T x y h
theorem fit_op {L : List Int} {T : List (List Int)} (h : algB L T = true) (k : Nat) : FitG L.length (opF L T k) := by
  rcases k with _ | _ | _ | k
  · exact fit_meet (alg_lat h)
  · exact fit_join (alg_lat h)
  · exact fit_tim (alg_shape h)
  · exact fit_imp T (alg_lat h)
theorem opB_congr {n : Int} {t u : Int → Int → Int} (f : Int) (h : ∀ x y, 0 ≤ x → x < n → 0 ≤ y → y < n → t x y = u x y) : opB n t f = opB n u f := by
  unfold opB
  refine all2_congr fun x y x0 x1 y0 y1 => ?_
  unfold opQ; rw [h x y x0 x1 y0 y1]
theorem one_tab2 (f : Int → Int → Int) : (tab2 (iv f)).all (·.oneCell') = true := by simp [tab2, iv, Value.oneCell']
/-- the tests of a part, one by one -/
theorem prt_ops {L : List Int} {T : List (List Int)} (h : algB L T = true) (f : Int) : prtB L T f = ((ib f 0 && ib f (num L - 1)) && allI 4 fun k => opB L.length (opF L T k.toNat) f) := by
  have hl := alg_lat h
  have e : (allI 4 fun k => opB L.length (opF L T k.toNat) f) = (opB L.length (tabM L) f && (opB L.length (tabJ L) f && (opB L.length (timG L T) f && opB L.length (impG L T) f))) := by
    show (((List.range 4).all _) = _)
    simp [List.range_succ, opF]
  rw [e]
  unfold prtB
  rw [opB_congr (n := L.length) (t := tabM L) (u := mt L) f (fun x y x0 x1 y0 y1 => tabT_meet hl x0 x1 y0 y1), opB_congr (n := L.length) (t := tabJ L) (u := jn L) f (fun x y x0 x1 y0 y1 => tabT_join hl x0 x1 y0 y1), opB_congr (n := L.length) (t := timG L T) (u := tv T) f (fun x y _ x1 _ y1 => timG_in x1 y1), opB_congr (n := L.length) (t := impG L T) (u := imp L T) f (fun x y _ x1 _ y1 => impG_in x1 y1)]
  rfl
set_option maxRecDepth 100000 in
set_option maxHeartbeats 4000000 in
/-- impl.algebra.isPart -/
theorem isPartM_any (L : List Int) (T : List (List Int)) (set : Int) (w : World) (h : algB L T = true) (s0 : 0 ≤ set) (s6 : set ≤ 63) :
    Calls Try.prog 47 #[.agg (algOf L T), .int .i64 set] w fun e w' => e = .returned (.bool (prtB L T set)) ∧ Below w.heap.size w w' := by
  obtain ⟨n1, n6⟩ := lat_len (alg_lat h)
  have hnl : num L = L.length := rfl
  have n6' : (L.length : Int) ≤ 6 := n6
  have n1' : (1 : Int) ≤ L.length := n1
  obtain ⟨w1, hw1⟩ : ∃ w1, w1 = w.alloc (.cells (algOf L T) 52) := ⟨_, rfl⟩
  have hB : Below w.heap.size w w1 := by rw [hw1]; exact (Below.refl _ _).alloc (Nat.le_refl _) _
  have hA : AlgAt w1 w.heap.size L T := by rw [hw1]; exact AlgAt.new w L T
  have Q := Lib.hid (show ∀ wz, Below w1.heap.size w1 wz → AlgAt wz w.heap.size L T from fun wz hz => hA.below hz hA.lt)
  have hv := Lib.hid (show prtB L T set = ((ib set 0 && ib set ((L.length : Int) - 1)) && allI 4 fun k => opB L.length (opF L T k.toNat) set) from prt_ops h set)
  have FIT := Lib.hid (fun k => fit_op h k)
  have z1 : Below w1.heap.size w1 w1 := Below.refl _ _
  clear hA h
  cases hX : ib set 0 with
  | false =>
    rw [hX] at hv
    have HX := Lib.hid hX
    clear hX
    go_enter Try.func47, Try.ntmps47
    go_wp2_with (first
      | go_skip
      | (rw [← hw1]; clear hw1)
      | (go_at_call 42; refine (isIn_is 0 set _ (by omega) (by omega) s0 (by omega) HX.out).mono ?_; rintro e w2 ⟨rfl, rfl⟩))
    go_ret
    exact ⟨ret_bool (by rw [hv.out]; rfl), hB⟩
  | true =>
    rw [hX] at hv
    have HX := Lib.hid hX
    clear hX
    cases hY : ib set ((L.length : Int) - 1) with
    | false =>
      rw [hY] at hv
      have HY := Lib.hid hY
      clear hY
      go_enter Try.func47, Try.ntmps47
      go_wp2_with (first
        | go_skip
        | (rw [← hw1]; clear hw1)
        | (refine wpList_load_mid_w rfl 50 _ rfl w.heap.size 0 rfl (latOf L) _ (Q.out _ (by assumption)).lat Try.underlying50 rfl (size_latOf L) ?_)
        | (go_at_call 56; refine (greatest_any L _ n6').mono ?_; rintro e w3 ⟨rfl, h3⟩; have z3 : Below w1.heap.size w1 w3 := h3)
        | (go_at_call_of 42 (Value.int .i64 0); refine (isIn_is 0 set _ (by omega) (by omega) s0 (by omega) HX.out).mono ?_; rintro e w2 ⟨rfl, rfl⟩)
        | (go_at_call 42; refine (isIn_is ((L.length : Int) - 1) set _ (by omega) (by omega) s0 (by omega) HY.out).mono ?_; rintro e w4 ⟨rfl, rfl⟩))
      go_ret
      exact ⟨ret_bool (by rw [hv.out]; rfl), hB.trans (z3.mono hB.size)⟩
    | true =>
      rw [hY] at hv
      have HY := Lib.hid hY
      clear hY
      go_enter Try.func47, Try.ntmps47
      go_wp2_with (first
        | go_skip
        | (rw [← hw1]; clear hw1)
        | (refine wpList_load_mid_w rfl 50 _ rfl w.heap.size 0 rfl (latOf L) _ (Q.out _ (by assumption)).lat Try.underlying50 rfl (size_latOf L) ?_)
        | (go_at_call 56; refine (greatest_any L _ n6').mono ?_; rintro e w3 ⟨rfl, h3⟩; have z3 : Below w1.heap.size w1 w3 := h3)
        | (go_at_call_of 42 (Value.int .i64 0); refine (isIn_is 0 set _ (by omega) (by omega) s0 (by omega) HX.out).mono ?_; rintro e w2 ⟨rfl, rfl⟩)
        | (go_at_call 42; refine (isIn_is ((L.length : Int) - 1) set _ (by omega) (by omega) s0 (by omega) HY.out).mono ?_; rintro e w4 ⟨rfl, rfl⟩)
        | (refine wpList_load_row_w rfl 52 _ rfl w.heap.size rfl _ _ _ _ (Q.out _ (by assumption)) Try.underlying52 rfl (size_alg _ _ _ _ _ _) ?_)
        | (go_at_call 57; refine (operations_any L T _).mono ?_; rintro e w5 ⟨g, rfl, hg, hop, h5⟩; have z5 : Below w1.heap.size w1 w5 := z3.trans (h5.mono z3.size)))
      have G := Lib.hid (show ∀ wz, Below w5.heap.size w5 wz → OpsAt wz g L T from fun wz hz => hop.below hz)
      have y5 : Below w5.heap.size w5 w5 := Below.refl _ _
      obtain ⟨wo, hwo⟩ : ∃ wo : World, wo = w5 := ⟨_, rfl⟩
      clear hop
      go_loopw [6, 21] (fun _ c wr => ∃ k : Int, 0 ≤ k ∧ k ≤ 4 ∧ c = .int .i64 k ∧ AllTo k (fun k => opB L.length (opF L T k.toNat) set) ∧ Below w1.heap.size w1 wr ∧ Below w5.heap.size w5 wr) (fun _ c _ => (4 - intOf c).toNat)
      case atStart => exact ⟨0, by omega, by omega, rfl, AllTo.zero _, z5, y5⟩
      case round =>
        clear hwo z5 y5 z3 z1
        obtain ⟨k, k0, k4, rfl, hak, z5, y5⟩ := hrel
        by_cases hk : k < 4
        · have hr := (G.out _ y5).range (opF_get L T (show k.toNat < 4 by omega)) rfl
          have hq := Lib.hid (show (fun k : Int => opB L.length (opF L T k.toNat) set) k = opB L.length (opF L T k.toNat) set from rfl)
          obtain ⟨F, hF⟩ : ∃ F, F = opF L T k.toNat := ⟨_, rfl⟩
          have fit : FitG L.length F := by rw [hF]; exact FIT.out _
          rw [← hF] at hr hq
          cases hC : opB L.length F set with
          | false =>
            rw [hC] at hq
            have HC := Lib.hid hC
            clear hC hF
            go_wp2_with (first
              | go_skip
              | (refine wpList_load_mid_w rfl 48 _ rfl g (k.toNat * 36) rfl (tab2 (iv F)) _ hr Try.underlying48 rfl (size_table _) ?_)
              | (refine wpList_store_row rfl 48 _ _ rfl wr.heap.size (tab2 (iv F)) rfl rfl _ _ (heap_alloc_new wr _) (size_table _) (by rw [tab2_size]; rfl) (one_tab2 _) ?_; rw [World.setRow_alloc_new]; obtain ⟨g7, hg7⟩ : ∃ g7, g7 = wr.heap.size := ⟨_, rfl⟩; obtain ⟨w7, hw7⟩ : ∃ w7, w7 = wr.alloc (.cells (tab2 (iv F)) 48) := ⟨_, rfl⟩; rw [← hw7, ← hg7]; have b7 : Blk w7 g7 48 (iv F) := (by rw [hw7, hg7]; exact Blk.new wr rfl); have z7 : Below w1.heap.size w1 w7 := (by rw [hw7]; exact z5.alloc z5.size _); have y7 : Below w5.heap.size w5 w7 := (by rw [hw7]; exact y5.alloc y5.size _); have c7 := (Q.out _ z7).size; clear hw7 hg7)
              | (refine wpList_load_row_w rfl 48 _ rfl g7 rfl _ _ _ _ b7.heap Try.underlying48 rfl (size_table _) ?_)
              | (go_at_call 74; refine (ret_below (isClosed_any F L.length set _ fit (by omega) n6' s0 s6) HC.out).mono ?_; rintro e w8 ⟨rfl, h8⟩; have z8 : Below w1.heap.size w1 w8 := z7.trans (h8.mono z7.size)))
            go_ret
            exact ⟨ret_bool (by rw [hv.out, allI_false k k0 hk hq.out]; rfl), hB.trans (z8.mono hB.size)⟩
          | true =>
            rw [hC] at hq
            have HC := Lib.hid hC
            clear hC hF
            go_wp2_with (first
              | go_skip
              | (refine wpList_load_mid_w rfl 48 _ rfl g (k.toNat * 36) rfl (tab2 (iv F)) _ hr Try.underlying48 rfl (size_table _) ?_)
              | (refine wpList_store_row rfl 48 _ _ rfl wr.heap.size (tab2 (iv F)) rfl rfl _ _ (heap_alloc_new wr _) (size_table _) (by rw [tab2_size]; rfl) (one_tab2 _) ?_; rw [World.setRow_alloc_new]; obtain ⟨g7, hg7⟩ : ∃ g7, g7 = wr.heap.size := ⟨_, rfl⟩; obtain ⟨w7, hw7⟩ : ∃ w7, w7 = wr.alloc (.cells (tab2 (iv F)) 48) := ⟨_, rfl⟩; rw [← hw7, ← hg7]; have b7 : Blk w7 g7 48 (iv F) := (by rw [hw7, hg7]; exact Blk.new wr rfl); have z7 : Below w1.heap.size w1 w7 := (by rw [hw7]; exact z5.alloc z5.size _); have y7 : Below w5.heap.size w5 w7 := (by rw [hw7]; exact y5.alloc y5.size _); have c7 := (Q.out _ z7).size; clear hw7 hg7)
              | (refine wpList_load_row_w rfl 48 _ rfl g7 rfl _ _ _ _ b7.heap Try.underlying48 rfl (size_table _) ?_)
              | (go_at_call 74; refine (ret_below (isClosed_any F L.length set _ fit (by omega) n6' s0 s6) HC.out).mono ?_; rintro e w8 ⟨rfl, h8⟩; have z8 : Below w1.heap.size w1 w8 := z7.trans (h8.mono z7.size); have y8 := y7.trans (h8.mono y7.size)))
            go_roundw
            case rel => exact ⟨k + 1, by omega, by omega, rfl, hak.succ hq.out, z8, y8⟩
            case measure => simp [intOf]; omega
        · have ht := Lib.hid (show (allI 4 fun k => opB L.length (opF L T k.toNat) set) = true from hak.all (by omega))
          go_wp2
          go_ret
          exact ⟨ret_bool (by rw [hv.out, ht.out]; rfl), hB.trans (z5.mono hB.size)⟩
end Go.Proofs.Ytljnbhnnjfnjeaa

namespace Go.Proofs.Ytljnbhnnjfnjeaa
open Go.RowKit

theorem prB_f {L : List Int} {T : List (List Int)} {f x y : Int} (x0 : 0 ≤ x) (x1 : x < num L) (y0 : 0 ≤ y) (y1 : y < num L) (h : ptQ L T f x y = false) : prB L T f = false := by
  unfold prB all2
  rw [allI_false x x0 x1 (allI_false y y0 y1 h), Bool.and_false]
end Go.Proofs.Ytljnbhnnjfnjeaa

namespace Go.Proofs.Ytljnbhnnjfnjeaa
open Go.RowKit

set_option maxRecDepth 100000 in
set_option maxHeartbeats 2000000 in
theorem implPartsOf_no (a b : Option Addr) (ca cb : Nat) (L : List Int) (T : List (List Int)) (w : World) (hr : Rd w a L) (hT : RdT w b T) (h : algB L T = false) :
    Calls Try.prog 21 #[.agg #[.slice a L.length ca, .slice b T.length cb]] w (RetSl w.heap.size (algV L T (prts L T)) w) := by
  obtain ⟨w1, hw1⟩ : ∃ w1, w1 = w.alloc (.cells #[.slice a L.length ca, .slice b T.length cb] 26) := ⟨_, rfl⟩
  have hB : Below w.heap.size w w1 := by rw [hw1]; exact (Below.refl _ _).alloc (Nat.le_refl _) _
  have hx : w1.heap[w.heap.size]? = some (.cells #[.slice a L.length ca, .slice b T.length cb] 26 (0, 0)) := by rw [hw1]; exact heap_alloc_new w _
  obtain ⟨c0, c1⟩ := bx_cells hx
  have Kx := Lib.hid (show ∀ wz, Below w1.heap.size w1 wz → wz.heap[w.heap.size]? = some (.cells #[.slice a L.length ca, .slice b T.length cb] 26 (0, 0)) from fun wz h => (h.block _ (lt_of_block hx)).trans hx)
  have KR := Lib.hid (show ∀ wz, Below w1.heap.size w1 wz → Rd wz a L from fun wz h => (hr.below hB).below h)
  have KT := Lib.hid (show ∀ wz, Below w1.heap.size w1 wz → RdT wz b T from fun wz h => (hT.below hB).below h)
  have z1 : Below w1.heap.size w1 w1 := Below.refl _ _
  clear hr hT hx
  have hv := Lib.hid (algV_f (V := prts L T) h)
  have HA := Lib.hid h
  clear h
  go_enter Try.func21, Try.ntmps21
  go_wp2_with (first
    | go_skip
    | (rw [← hw1]; clear hw1)
    | (refine wpList_load_row_w rfl 26 _ rfl w.heap.size rfl _ _ _ _ (Kx.out _ (by assumption)) Try.underlying26 rfl (size_Alg _ _) ?_)
    | (go_at_call 46; refine (readAlgebra_no _ _ _ _ L T _ (KR.out _ z1) (KT.out _ z1) HA.out).mono ?_; rintro e w2 ⟨rfl, h2⟩; have z2 : Below w1.heap.size w1 w2 := h2)
    | (refine wpList_store_row rfl 52 _ _ rfl w2.heap.size zeroAlg rfl rfl _ _ (heap_alloc_new w2 (.cells zeroAlg 52)) size_zeroAlg rfl one_zeroAlg ?_; rw [World.setRow_alloc_new]; obtain ⟨bl, hbl⟩ : ∃ bl, bl = w2.heap.size := ⟨_, rfl⟩; obtain ⟨w9, hw9⟩ : ∃ w9, w9 = w2.alloc (.cells zeroAlg 52) := ⟨_, rfl⟩; rw [← hw9, ← hbl]; have B9 : Below w1.heap.size w1 w9 := (by rw [hw9]; exact z2.alloc z2.size _); clear hw9 hbl))
  go_ret
  rw [hv.out]
  exact ⟨none, 0, rfl, Own.nothing _ _, hB.trans (B9.mono hB.size)⟩
set_option maxRecDepth 100000 in
set_option maxHeartbeats 4000000 in
theorem implPartsOf_yes (a b : Option Addr) (ca cb : Nat) (L : List Int) (T : List (List Int)) (w : World) (hr : Rd w a L) (hT : RdT w b T) (h : algB L T = true) :
    Calls Try.prog 21 #[.agg #[.slice a L.length ca, .slice b T.length cb]] w (RetSl w.heap.size (algV L T (prts L T)) w) := by
  have n1 := (lat_len (alg_lat h)).1
  have n6 := (lat_len (alg_lat h)).2
  have n6' : (L.length : Int) ≤ 6 := n6
  obtain ⟨p1, p64⟩ := pw_6 n6
  have hM2 : pw (num L) = wrap64 (2 ^ L.length) := by rw [wrap_pw L.length (by omega)]; rfl
  rw [hM2] at p1 p64
  have HP := Lib.hid hM2
  obtain ⟨w1, hw1⟩ : ∃ w1, w1 = w.alloc (.cells #[.slice a L.length ca, .slice b T.length cb] 26) := ⟨_, rfl⟩
  have hB : Below w.heap.size w w1 := by rw [hw1]; exact (Below.refl _ _).alloc (Nat.le_refl _) _
  have hx : w1.heap[w.heap.size]? = some (.cells #[.slice a L.length ca, .slice b T.length cb] 26 (0, 0)) := by rw [hw1]; exact heap_alloc_new w _
  obtain ⟨c0, c1⟩ := bx_cells hx
  have Kx := Lib.hid (show ∀ wz, Below w1.heap.size w1 wz → wz.heap[w.heap.size]? = some (.cells #[.slice a L.length ca, .slice b T.length cb] 26 (0, 0)) from fun wz h => (h.block _ (lt_of_block hx)).trans hx)
  have KR := Lib.hid (show ∀ wz, Below w1.heap.size w1 wz → Rd wz a L from fun wz h => (hr.below hB).below h)
  have KT := Lib.hid (show ∀ wz, Below w1.heap.size w1 wz → RdT wz b T from fun wz h => (hT.below hB).below h)
  have z1 : Below w1.heap.size w1 w1 := Below.refl _ _
  clear hr hT hx
  have hs1 := hB.size
  have hv := Lib.hid (algV_t (V := prts L T) h)
  have HA := Lib.hid h
  obtain ⟨i0, hi, hz0, hz1, hz2⟩ := info_parts info_int
  clear h hM2
  go_enter Try.func21, Try.ntmps21
  go_wp2_with (first
    | go_skip
    | (rw [← hw1]; clear hw1)
    | (refine wpList_load_row_w rfl 26 _ rfl w.heap.size rfl _ _ _ _ (Kx.out _ (by assumption)) Try.underlying26 rfl (size_Alg _ _) ?_)
    | (go_at_call 46; refine (readAlgebra_yes _ _ _ _ L T _ (KR.out _ z1) (KT.out _ z1) HA.out).mono ?_; rintro e w2 ⟨rfl, h2⟩; have z2 : Below w1.heap.size w1 w2 := h2)
    | (refine wpList_store_row rfl 52 _ _ rfl w2.heap.size (algOf L T) rfl rfl _ _ (heap_alloc_new w2 (.cells zeroAlg 52)) (size_alg _ _ _ _ _ _) rfl (one_alg _ _ _ _ _ _) ?_; rw [World.setRow_alloc_new]; obtain ⟨bl, hbl⟩ : ∃ bl, bl = w2.heap.size := ⟨_, rfl⟩; obtain ⟨w9, hw9⟩ : ∃ w9, w9 = w2.alloc (.cells (algOf L T) 52) := ⟨_, rfl⟩; rw [← hw9, ← hbl]; have hA : AlgAt w9 bl L T := (by rw [hw9, hbl]; exact AlgAt.new w2 L T); have B9 : Below w1.heap.size w1 w9 := (by rw [hw9]; exact z2.alloc z2.size _); have hbl9 : w1.heap.size ≤ bl := (by rw [hbl]; exact z2.size); have a0 := hA.size; clear hw9 hbl))
  have Q := Lib.hid (show ∀ wz, Below w9.heap.size w9 wz → AlgAt wz bl L T from fun wz hz => hA.below hz hA.lt)
  have y9 : Below w9.heap.size w9 w9 := Below.refl _ _
  clear a0 hA
  go_loopw [5, 6, 18] (fun v _ c wr => ∃ x : Int, 0 ≤ x ∧ x ≤ wrap64 (2 ^ L.length) ∧ c = .int .i64 x ∧ Own w9.heap.size wr v (filtTo (prtB L T) x) ∧ Below w1.heap.size w1 wr ∧ Below w9.heap.size w9 wr) (fun _ _ c _ => (64 - intOf c).toNat)
  case atStart => exact ⟨0, by omega, by omega, rfl, Own.nothing _ _, B9, y9⟩
  case round =>
    have hb19 := B9
    clear z1 z2 c0 c1 B9 y9
    obtain ⟨x, x0, x1, rfl, hown, z3, y3⟩ := hrel
    have hA := Q.out _ y3
    by_cases hx : x < wrap64 (2 ^ L.length)
    · have hlen := filtTo_len (prtB L T) x
      have hsu := Lib.hid (filtTo_succ (prtB L T) x x0)
      cases hC : prtB L T x
      case true =>
        have hsu2 := Lib.hid (show filtTo (prtB L T) (x + 1) = filtTo (prtB L T) x ++ [x] by rw [hsu.out, hC]; rfl)
        have HC := Lib.hid hC
        clear hC
        go_wp2_with (first
          | (refine wpList_load_row_w rfl 52 _ rfl bl rfl _ _ _ _ hA Try.underlying52 rfl (size_alg _ _ _ _ _ _) ?_)
          | (go_at_call 47; refine (ret_below (isPartM_any L T x _ HA.out x0 (by omega)) HC.out).mono ?_; rintro e w7 ⟨rfl, h7⟩; replace hown := hown.below h7; replace z3 := z3.trans (h7.mono z3.size); replace y3 := y3.trans (h7.mono y3.size))
          | (at_builtin; refine wpList_append_own _ rfl _ _ 23 rfl w9.heap.size 3 i0 (.int .i64 0) 1 8 Try.underlying23 hi hz0 hz1 hz2 rfl (by decide) _ _ _ rfl (World.ownsRow.alloc hown _) ⟨w7.heap.size, 0, none⟩ 1 1 [.int .i64 (x)] rfl rfl (cell_one_new _ _ _) (fun x hx => by simp at hx; subst hx; rfl) (by unfold maxLen; omega) (by omega) (by have := y3.size; simp; omega) ?_; intro v' w8 hown1 hgrow _))
        go_roundw
        case rel => exact ⟨x + 1, by omega, by omega, rfl, by unfold Own; rw [hsu2.out, List.map_append, List.length_append]; exact hown1, (z3.alloc z3.size _).grown hgrow (by have := z3.size; simp; omega) (fun q hq => by have := (World.ownsRow.lt hown q hq).1; have := hb19.size; omega), (y3.alloc y3.size _).grown hgrow (by have := y3.size; simp; omega) (fun q hq => (World.ownsRow.lt hown q hq).1)⟩
        case measure => simp [intOf]; omega
      case false =>
        have hsu2 := Lib.hid (show filtTo (prtB L T) (x + 1) = filtTo (prtB L T) x by rw [hsu.out, hC]; rfl)
        have HC := Lib.hid hC
        clear hC
        go_wp2_with (first
          | (refine wpList_load_row_w rfl 52 _ rfl bl rfl _ _ _ _ hA Try.underlying52 rfl (size_alg _ _ _ _ _ _) ?_)
          | (go_at_call 47; refine (ret_below (isPartM_any L T x _ HA.out x0 (by omega)) HC.out).mono ?_; rintro e w7 ⟨rfl, h7⟩; replace hown := hown.below h7; replace z3 := z3.trans (h7.mono z3.size); replace y3 := y3.trans (h7.mono y3.size)))
        go_roundw
        case rel => exact ⟨x + 1, by omega, by omega, rfl, by rw [hsu2.out]; exact hown, z3, y3⟩
        case measure => simp [intOf]; omega
    · have e : x = pw (num L) := by rw [HP.out]; omega
      clear hA
      go_wp2
      go_ret
      rw [hv.out]
      refine RetOwn.sl ⟨_, rfl, ?_, hB.trans (z3.mono hB.size)⟩
      unfold prts
      rw [← e]
      exact hown.from (by have := hb19.size; omega)
theorem implPartsOf_any (a b : Option Addr) (ca cb : Nat) (L : List Int) (T : List (List Int)) (w : World) (hr : Rd w a L) (hT : RdT w b T) :
    Calls Try.prog 21 #[.agg #[.slice a L.length ca, .slice b T.length cb]] w (RetSl w.heap.size (algV L T (prts L T)) w) := by
  by_cases h : algB L T = true
  · exact implPartsOf_yes a b ca cb L T w hr hT h
  · exact implPartsOf_no a b ca cb L T w hr hT (by simpa using h)
end Go.Proofs.Ytljnbhnnjfnjeaa
