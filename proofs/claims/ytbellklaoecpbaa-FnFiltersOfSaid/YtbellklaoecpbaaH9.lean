import Derived.Test.YtbellklaoecpbaaH8
namespace Go.Proofs.Ytbellklaoecpbaa
open Go.RowKit

theorem readAlgebra_yes (a b : Option Addr) (ca cb : Nat) (L : List Int) (T : List (List Int)) (w : World) (hr : Rd w a L) (hT : RdT w b T) (h : algB L T = true) :
    Calls Try.prog 66 #[.agg #[.slice a L.length ca, .slice b T.length cb]] w fun e w' => e = .returned (.tuple #[.agg (algOf L T), .bool true]) ∧ Below w.heap.size w w' := by
  obtain ⟨h1, h2, h3⟩ := algB_parts h
  exact readAlgebra_good a b ca cb L T w hr hT h1 h2 (by rw [areG_eq h1 h2]; exact h3.all (Int.le_refl _))
theorem readAlgebra_no (a b : Option Addr) (ca cb : Nat) (L : List Int) (T : List (List Int)) (w : World) (hr : Rd w a L) (hT : RdT w b T) (h : algB L T = false) :
    Calls Try.prog 66 #[.agg #[.slice a L.length ca, .slice b T.length cb]] w fun e w' => e = .returned (.tuple #[.agg zeroAlg, .bool false]) ∧ Below w.heap.size w w' := by
  cases h1 : latB L with
  | false => exact readAlgebra_lat a b ca cb L T w hr h1
  | true =>
    cases h2 : shapeB L T with
    | false => exact readAlgebra_shape a b ca cb L T w hr hT h1 h2
    | true =>
      refine readAlgebra_laws a b ca cb L T w hr hT h1 h2 ?_
      rw [areG_eq h1 h2]
      unfold algB at h
      rw [h1, h2] at h
      exact h
/-- Block b holds the algebra that the numbers are read as. -/
def AlgAt (w : World) (b : Nat) (L : List Int) (T : List (List Int)) : Prop := w.heap[b]? = some (.cells (algOf L T) 63 (0, 0))
section
variable {w : World} {b : Nat} {L : List Int} {T : List (List Int)}
theorem AlgAt.lt (h : AlgAt w b L T) : b < w.heap.size := lt_of_block h
theorem AlgAt.below (h : AlgAt w b L T) {w' : World} {C : Nat} (hb : Below C w w') (hB : b < C) : AlgAt w' b L T := by
  unfold AlgAt; rw [hb.block b hB]; exact h
theorem AlgAt.dr (h : AlgAt w b L T) {w' : World} (hd : Dr w w') : AlgAt w' b L T := h.below (hd.below w.heap.size) h.lt
theorem AlgAt.new (w : World) (L : List Int) (T : List (List Int)) : AlgAt (w.alloc (.cells (algOf L T) 63)) w.heap.size L T := heap_alloc_new w _
theorem AlgAt.lat (h : AlgAt w b L T) : w.rangeAt b 0 (latOf L).toList := fun j v hv => by
  have hj : j < (latOf L).toList.length := (List.getElem?_eq_some_iff.1 hv).1
  rw [Nat.zero_add, cell_of_row w b _ _ _ _ h]
  unfold algOf algA
  rw [List.getElem?_toArray, List.getElem?_append_left (by simp only [List.length_append]; exact Nat.lt_of_lt_of_le hj (Nat.le_add_right _ _))]
  exact (List.getElem?_append_left (l₁ := (latOf L).toList) hj).trans hv
theorem AlgAt.part (h : AlgAt w b L T) (k : Nat) {v : Value} (hv : (latOf L)[k]? = some v) : w.cell? ⟨b, k, none⟩ = some v := by
  have := h.lat k v (by simpa using hv)
  rwa [Nat.zero_add] at this
theorem AlgAt.size (h : AlgAt w b L T) : w.cell? ⟨b, 0, none⟩ = some (.int .i64 L.length) := h.part 0 rfl
theorem AlgAt.g (h : AlgAt w b L T) {x y : Int} (x0 : 0 ≤ x) (x1 : x < 6) (y0 : 0 ≤ y) (y1 : y < 6) : w.cell? ⟨b, 1 + x.toNat * 6 + y.toNat, none⟩ = some (.bool (ordG L x y)) := h.part _ (latA_g _ _ _ _ x0 x1 y0 y1)
theorem AlgAt.m (h : AlgAt w b L T) {x y : Int} (x0 : 0 ≤ x) (x1 : x < 6) (y0 : 0 ≤ y) (y1 : y < 6) : w.cell? ⟨b, 37 + x.toNat * 6 + y.toNat, none⟩ = some (.int .i64 (tabM L x y)) := h.part _ (latA_m _ _ _ _ x0 x1 y0 y1)
theorem AlgAt.j (h : AlgAt w b L T) {x y : Int} (x0 : 0 ≤ x) (x1 : x < 6) (y0 : 0 ≤ y) (y1 : y < 6) : w.cell? ⟨b, 73 + x.toNat * 6 + y.toNat, none⟩ = some (.int .i64 (tabJ L x y)) := h.part _ (latA_j _ _ _ _ x0 x1 y0 y1)
theorem AlgAt.t (h : AlgAt w b L T) {x y : Int} (x0 : 0 ≤ x) (x1 : x < 6) (y0 : 0 ≤ y) (y1 : y < 6) : w.cell? ⟨b, 109 + x.toNat * 6 + y.toNat, none⟩ = some (.int .i64 (timG L T x y)) := by
  rw [cell_of_row w b _ _ _ _ h]
  have hg := tab2_get (iv (timG L T)) x0 x1 y0 y1
  unfold algOf algA
  have hl : (latA L.length (ordG L) (tabM L) (tabJ L)).toList.length = 109 := by simpa using latA_size L.length (ordG L) (tabM L) (tabJ L)
  rw [List.getElem?_toArray, List.getElem?_append_left (by rw [List.length_append, hl]; simp [tab2]; omega), List.getElem?_append_right (by rw [hl]; omega), hl, show 109 + x.toNat * 6 + y.toNat - 109 = x.toNat * 6 + y.toNat by omega, Array.getElem?_toList, hg]
  rfl
theorem AlgAt.i (h : AlgAt w b L T) {x y : Int} (x0 : 0 ≤ x) (x1 : x < 6) (y0 : 0 ≤ y) (y1 : y < 6) : w.cell? ⟨b, 145 + x.toNat * 6 + y.toNat, none⟩ = some (.int .i64 (impG L T x y)) := by
  rw [cell_of_row w b _ _ _ _ h]
  have hg := tab2_get (iv (impG L T)) x0 x1 y0 y1
  unfold algOf algA
  have hl : ((latA L.length (ordG L) (tabM L) (tabJ L)).toList ++ (tab2 (iv (timG L T))).toList).length = 145 := by
    have := latA_size L.length (ordG L) (tabM L) (tabJ L)
    rw [List.length_append, Array.length_toList, this]; simp [tab2]
  rw [List.getElem?_toArray, List.getElem?_append_right (by rw [hl]; omega), hl, show 145 + x.toNat * 6 + y.toNat - 145 = x.toNat * 6 + y.toNat by omega, Array.getElem?_toList, hg]
  rfl
end
theorem size_Alg (x y : Value) : (Try.prog.info? 26).map (·.size) = some (#[x, y] : Array Value).size := by
  have : (Try.prog.info? 26).map (·.size) = some 2 := by kernel_rfl
  rw [this]; rfl
theorem size_latOf (L : List Int) : (Try.prog.info? 61).map (·.size) = some (latOf L).size := size_lat _ _ _ _
/-- what impl.readAlgebraWith hands back -/
def awA (L : List Int) (T : List (List Int)) (r : Bool) : Array Value := if r then algOf L T else zeroAlg
def awB (L : List Int) (T : List (List Int)) (E : List Int) : Bool := algB L T && withB L E
set_option maxRecDepth 100000 in
set_option maxHeartbeats 2000000 in
theorem readAW_alg (a b a2 : Option Addr) (ca cb c2 : Nat) (L : List Int) (T : List (List Int)) (E : List Int) (w : World) (hr : Rd w a L) (hT : RdT w b T) (_hr2 : Rd w a2 E) (_hE : E.length ≤ 1048576) (ha : algB L T = false) :
    Calls Try.prog 71 #[.agg #[.slice a L.length ca, .slice b T.length cb], .slice a2 E.length c2] w fun e w' => e = .returned (.tuple #[.agg zeroAlg, .bool false]) ∧ Below w.heap.size w w' := by
  have hB1 : Below w.heap.size w ((w.alloc (.cells #[.slice a L.length ca, .slice b T.length cb] 26)).alloc (.cells zeroAlg 63)) := ((Below.refl _ _).alloc (Nat.le_refl _) _).alloc (by simp) _
  have hr1 := hr.below hB1
  have hT1 := hT.below hB1
  have hz1 : ((w.alloc (.cells #[.slice a L.length ca, .slice b T.length cb] 26)).alloc (.cells zeroAlg 63)).heap[w.heap.size + 1]? = some (.cells zeroAlg 63 (0, 0)) := heap_alloc2_new _ _ _
  have hx1 : ((w.alloc (.cells #[.slice a L.length ca, .slice b T.length cb] 26)).alloc (.cells zeroAlg 63)).heap[w.heap.size]? = some (.cells #[.slice a L.length ca, .slice b T.length cb] 26 (0, 0)) := by rw [Below.heap_alloc _ _ _ (by simp)]; exact heap_alloc_new w _
  have HA := Lib.hid ha
  clear hr hT ha
  go_enter Try.func71, Try.ntmps71
  go_wp2_with (first
    | go_skip
    | (refine wpList_load_row_w rfl 26 _ rfl w.heap.size rfl _ _ _ _ hx1 Try.underlying26 rfl (size_Alg _ _) ?_)
    | (go_at_call 66; refine (readAlgebra_no a b ca cb L T _ hr1 hT1 HA.out).mono ?_; rintro e w2 ⟨rfl, h2⟩; have hz := (h2.block _ (lt_of_block hz1)).trans hz1; have hB := hB1.trans (h2.mono hB1.size); clear h2)
    | (refine wpList_store_row rfl 63 _ _ rfl w2.heap.size zeroAlg rfl rfl _ _ (heap_alloc_new w2 (.cells zeroAlg 63)) size_zeroAlg rfl one_zeroAlg ?_; rw [World.setRow_alloc_new]; obtain ⟨bl, hbl⟩ : ∃ bl, bl = w2.heap.size := ⟨_, rfl⟩; obtain ⟨w3, hw3⟩ : ∃ w3, w3 = w2.alloc (.cells zeroAlg 63) := ⟨_, rfl⟩; rw [← hw3, ← hbl]; have q3 : Below w2.heap.size w2 w3 := (by rw [hw3]; exact (Below.refl _ _).alloc (Nat.le_refl _) _); replace hz := (q3.block _ (lt_of_block hz)).trans hz; replace hB := hB.trans (q3.mono hB.size); clear hw3 hbl q3)
    | (refine wpList_store_row rfl 63 _ _ rfl (w.heap.size + 1) zeroAlg rfl rfl _ _ hz size_zeroAlg rfl one_zeroAlg ?_))
  exact bodyPost_ret (v := .tuple #[.agg zeroAlg, .bool false]) (results_alg_tmp rfl _ _ (w.heap.size + 1) rfl _ (algA_size _ _ _ _ _ _) (setRow_heap _ _ _ _ _ _ hz) rfl) rfl ⟨rfl, below_setRow' hB (by omega) _⟩

set_option maxRecDepth 100000 in
set_option maxHeartbeats 2000000 in
theorem readAW_el (a b a2 : Option Addr) (ca cb c2 : Nat) (L : List Int) (T : List (List Int)) (E : List Int) (w : World) (hr : Rd w a L) (hT : RdT w b T) (hr2 : Rd w a2 E) (hE : E.length ≤ 1048576) (ha : algB L T = true) (hw : withB L E = false) :
    Calls Try.prog 71 #[.agg #[.slice a L.length ca, .slice b T.length cb], .slice a2 E.length c2] w fun e w' => e = .returned (.tuple #[.agg zeroAlg, .bool false]) ∧ Below w.heap.size w w' := by
  have hB1 : Below w.heap.size w ((w.alloc (.cells #[.slice a L.length ca, .slice b T.length cb] 26)).alloc (.cells zeroAlg 63)) := ((Below.refl _ _).alloc (Nat.le_refl _) _).alloc (by simp) _
  have hr1 := hr.below hB1
  have hT1 := hT.below hB1
  have hz1 : ((w.alloc (.cells #[.slice a L.length ca, .slice b T.length cb] 26)).alloc (.cells zeroAlg 63)).heap[w.heap.size + 1]? = some (.cells zeroAlg 63 (0, 0)) := heap_alloc2_new _ _ _
  have hx1 : ((w.alloc (.cells #[.slice a L.length ca, .slice b T.length cb] 26)).alloc (.cells zeroAlg 63)).heap[w.heap.size]? = some (.cells #[.slice a L.length ca, .slice b T.length cb] 26 (0, 0)) := by rw [Below.heap_alloc _ _ _ (by simp)]; exact heap_alloc_new w _
  have HW := Lib.hid hw
  clear hw
  have HA := Lib.hid ha
  clear hr hT ha
  go_enter Try.func71, Try.ntmps71
  go_wp2_with (first
    | go_skip
    | (refine wpList_load_row_w rfl 26 _ rfl w.heap.size rfl _ _ _ _ hx1 Try.underlying26 rfl (size_Alg _ _) ?_)
    | (go_at_call 66; refine (readAlgebra_yes a b ca cb L T _ hr1 hT1 HA.out).mono ?_; rintro e w2 ⟨rfl, h2⟩; have hz := (h2.block _ (lt_of_block hz1)).trans hz1; have hB := hB1.trans (h2.mono hB1.size); clear h2)
    | (refine wpList_store_row rfl 63 _ _ rfl w2.heap.size (algOf L T) rfl rfl _ _ (heap_alloc_new w2 (.cells zeroAlg 63)) (size_alg _ _ _ _ _ _) rfl (one_alg _ _ _ _ _ _) ?_; rw [World.setRow_alloc_new]; obtain ⟨bl, hbl⟩ : ∃ bl, bl = w2.heap.size := ⟨_, rfl⟩; obtain ⟨w3, hw3⟩ : ∃ w3, w3 = w2.alloc (.cells (algOf L T) 63) := ⟨_, rfl⟩; rw [← hw3, ← hbl]; have hA : AlgAt w3 bl L T := (by rw [hw3, hbl]; exact AlgAt.new w2 L T); have q3 : Below w2.heap.size w2 w3 := (by rw [hw3]; exact (Below.refl _ _).alloc (Nat.le_refl _) _); replace hz := (q3.block _ (lt_of_block hz)).trans hz; replace hB := hB.trans (q3.mono hB.size); clear hw3 hbl q3)
    | (refine wpList_load_mid_w rfl 61 _ rfl bl 0 rfl _ _ hA.lat Try.underlying61 rfl (size_latOf L) ?_)
    | (go_at_call 113; refine (ret_below (has_any a2 c2 L E _ (hr2.below hB) hE) HW.out).mono ?_; rintro e w4 ⟨rfl, h4⟩; replace hA := hA.below h4 hA.lt; replace hz := (h4.block _ (lt_of_block hz)).trans hz; replace hB := hB.trans (h4.mono hB.size); clear h4)
    | (refine wpList_store_row rfl 63 _ _ rfl (w.heap.size + 1) zeroAlg rfl rfl _ _ hz size_zeroAlg rfl one_zeroAlg ?_))
  exact bodyPost_ret (v := .tuple #[.agg zeroAlg, .bool false]) (results_alg_tmp rfl _ _ (w.heap.size + 1) rfl _ (algA_size _ _ _ _ _ _) (setRow_heap _ _ _ _ _ _ hz) rfl) rfl ⟨rfl, below_setRow' hB (by omega) _⟩

set_option maxRecDepth 100000 in
set_option maxHeartbeats 2000000 in
theorem readAW_yes (a b a2 : Option Addr) (ca cb c2 : Nat) (L : List Int) (T : List (List Int)) (E : List Int) (w : World) (hr : Rd w a L) (hT : RdT w b T) (hr2 : Rd w a2 E) (hE : E.length ≤ 1048576) (ha : algB L T = true) (hw : withB L E = true) :
    Calls Try.prog 71 #[.agg #[.slice a L.length ca, .slice b T.length cb], .slice a2 E.length c2] w fun e w' => e = .returned (.tuple #[.agg (algOf L T), .bool true]) ∧ Below w.heap.size w w' := by
  have hB1 : Below w.heap.size w ((w.alloc (.cells #[.slice a L.length ca, .slice b T.length cb] 26)).alloc (.cells zeroAlg 63)) := ((Below.refl _ _).alloc (Nat.le_refl _) _).alloc (by simp) _
  have hr1 := hr.below hB1
  have hT1 := hT.below hB1
  have hz1 : ((w.alloc (.cells #[.slice a L.length ca, .slice b T.length cb] 26)).alloc (.cells zeroAlg 63)).heap[w.heap.size + 1]? = some (.cells zeroAlg 63 (0, 0)) := heap_alloc2_new _ _ _
  have hx1 : ((w.alloc (.cells #[.slice a L.length ca, .slice b T.length cb] 26)).alloc (.cells zeroAlg 63)).heap[w.heap.size]? = some (.cells #[.slice a L.length ca, .slice b T.length cb] 26 (0, 0)) := by rw [Below.heap_alloc _ _ _ (by simp)]; exact heap_alloc_new w _
  have HW := Lib.hid hw
  clear hw
  have HA := Lib.hid ha
  clear hr hT ha
  go_enter Try.func71, Try.ntmps71
  go_wp2_with (first
    | go_skip
    | (refine wpList_load_row_w rfl 26 _ rfl w.heap.size rfl _ _ _ _ hx1 Try.underlying26 rfl (size_Alg _ _) ?_)
    | (go_at_call 66; refine (readAlgebra_yes a b ca cb L T _ hr1 hT1 HA.out).mono ?_; rintro e w2 ⟨rfl, h2⟩; have hz := (h2.block _ (lt_of_block hz1)).trans hz1; have hB := hB1.trans (h2.mono hB1.size); clear h2)
    | (refine wpList_store_row rfl 63 _ _ rfl w2.heap.size (algOf L T) rfl rfl _ _ (heap_alloc_new w2 (.cells zeroAlg 63)) (size_alg _ _ _ _ _ _) rfl (one_alg _ _ _ _ _ _) ?_; rw [World.setRow_alloc_new]; obtain ⟨bl, hbl⟩ : ∃ bl, bl = w2.heap.size := ⟨_, rfl⟩; obtain ⟨w3, hw3⟩ : ∃ w3, w3 = w2.alloc (.cells (algOf L T) 63) := ⟨_, rfl⟩; rw [← hw3, ← hbl]; have hA : AlgAt w3 bl L T := (by rw [hw3, hbl]; exact AlgAt.new w2 L T); have q3 : Below w2.heap.size w2 w3 := (by rw [hw3]; exact (Below.refl _ _).alloc (Nat.le_refl _) _); replace hz := (q3.block _ (lt_of_block hz)).trans hz; replace hB := hB.trans (q3.mono hB.size); clear hw3 hbl q3)
    | (refine wpList_load_mid_w rfl 61 _ rfl bl 0 rfl _ _ hA.lat Try.underlying61 rfl (size_latOf L) ?_)
    | (go_at_call 113; refine (ret_below (has_any a2 c2 L E _ (hr2.below hB) hE) HW.out).mono ?_; rintro e w4 ⟨rfl, h4⟩; replace hA := hA.below h4 hA.lt; replace hz := (h4.block _ (lt_of_block hz)).trans hz; replace hB := hB.trans (h4.mono hB.size); clear h4)
    | (refine wpList_load_row_w rfl 63 _ rfl bl rfl _ _ _ _ hA Try.underlying63 rfl (size_alg _ _ _ _ _ _) ?_)
    | (refine wpList_store_row rfl 63 _ _ rfl (w.heap.size + 1) (algOf L T) rfl rfl _ _ hz (size_alg _ _ _ _ _ _) rfl (one_alg _ _ _ _ _ _) ?_))
  exact bodyPost_ret (v := .tuple #[.agg (algOf L T), .bool true]) (results_alg_tmp rfl _ _ (w.heap.size + 1) rfl _ (algA_size _ _ _ _ _ _) (setRow_heap _ _ _ _ _ _ hz) rfl) rfl ⟨rfl, below_setRow' hB (by omega) _⟩

theorem readAW_no (a b a2 : Option Addr) (ca cb c2 : Nat) (L : List Int) (T : List (List Int)) (E : List Int) (w : World) (hr : Rd w a L) (hT : RdT w b T) (hr2 : Rd w a2 E) (hE : E.length ≤ 1048576) (h : awB L T E = false) :
    Calls Try.prog 71 #[.agg #[.slice a L.length ca, .slice b T.length cb], .slice a2 E.length c2] w fun e w' => e = .returned (.tuple #[.agg zeroAlg, .bool false]) ∧ Below w.heap.size w w' := by
  cases ha : algB L T with
  | false => exact readAW_alg a b a2 ca cb c2 L T E w hr hT hr2 hE ha
  | true =>
    unfold awB at h
    rw [ha, Bool.true_and] at h
    exact readAW_el a b a2 ca cb c2 L T E w hr hT hr2 hE ha h
end Go.Proofs.Ytbellklaoecpbaa
