import Derived.Test.YtipbjhjflbciiaaDoorG11
import Derived.Test.YtipbjhjflbciiaaDoorG3
import Derived.BigQuiet
import Derived.Deep.RegionWith
import Derived.Test.YtipbjhjflbciiaaDoorL5
namespace Go.Proofs.YtipbjhjflbciiaaDoor
open Go.RowKit

theorem readTimes_is (b : Option Addr) (cb : Nat) (L : List Int) (T : List (List Int)) (w : World) (hT : RdT w b T) (n1 : 1 ≤ num L) (n6 : num L ≤ 6) {r : Bool} (hs : shapeB L T = r) :
    Calls Tryd.prog 34 #[.slice b T.length cb, .agg (latOf L)] w fun e w' => e = .returned (.tuple #[.agg (tab2 (iv (if r then timG L T else zeroI))), .bool r]) ∧ Below w.heap.size w w' := by
  have := readTimes_any b cb L T w hT n1 n6
  subst hs
  exact this
/-- a struct or an array is built, in a region that draws its order -/
theorem quiet_build {P : Program} {C : World → Prop} {o : Oper} {a : Act} {K : Act → Prop} (t : TypeId) (parts : Array (Nat × Operand)) (ho : o.op = .build t parts) (cells : Array Value)
    (hc : P.built t (parts.map fun (i, x) => (i, a.eval x)).toList = some cells) (h : K (a.put o.dst (.agg cells))) : o.quiet P a C K :=
  ⟨_, fun w _ => by
    unfold Oper.quietAt execOp
    simp only [ho, Sem.run_bind, run_build w t _ cells hc, Result.andThen_ok]
    exact ⟨rfl, rfl⟩, h⟩
theorem built_alg' {a : Act} {p0 p1 p2 : Operand} {n : Int} {g : Int → Int → Bool} {m j f i : Int → Int → Int} (h0 : a.eval p0 = .agg (latA n g m j)) (h1 : a.eval p1 = .agg (tab2 (iv f))) (h2 : a.eval p2 = .agg (tab2 (iv i))) :
    Tryd.prog.built 57 ((#[(0, p0), (1, p1), (2, p2)] : Array (Nat × Operand)).map fun ((i, x) : Nat × Operand) => (i, a.eval x)).toList = some (algA n g m j f i) := by
  have e : ((#[(0, p0), (1, p1), (2, p2)] : Array (Nat × Operand)).map fun ((i, x) : Nat × Operand) => (i, a.eval x)).toList = [(0, .agg (latA n g m j)), (1, .agg (tab2 (iv f))), (2, .agg (tab2 (iv i)))] := by simp [h0, h1, h2]
  exact (congrArg _ e).trans (built_alg n g m j f i)
set_option maxRecDepth 100000 in
set_option maxHeartbeats 2000000 in
theorem readAlgebra_shape (a b : Option Addr) (ca cb : Nat) (L : List Int) (T : List (List Int)) (w : World) (hr : Rd w a L) (hT : RdT w b T) (hlat : latB L = true) (hs : shapeB L T = false) :
    Calls Tryd.prog 25 #[.agg #[.slice a L.length ca, .slice b T.length cb]] w fun e w' => e = .returned (.tuple #[.agg zeroAlg, .bool false]) ∧ Below w.heap.size w w' := by
  have hB1 : Below w.heap.size w ((w.alloc (.cells #[.slice a L.length ca, .slice b T.length cb] 28)).alloc (.cells zeroAlg 57)) := ((Below.refl _ _).alloc (Nat.le_refl _) _).alloc (by simp) _
  have hr1 := hr.below hB1
  have hT1 := hT.below hB1
  have hz1 : ((w.alloc (.cells #[.slice a L.length ca, .slice b T.length cb] 28)).alloc (.cells zeroAlg 57)).heap[w.heap.size + 1]? = some (.cells zeroAlg 57 (0, 0)) := heap_alloc2_new _ _ _
  have hx1 : ((w.alloc (.cells #[.slice a L.length ca, .slice b T.length cb] 28)).alloc (.cells zeroAlg 57)).heap[w.heap.size]? = some (.cells #[.slice a L.length ca, .slice b T.length cb] 28 (0, 0)) := by rw [Below.heap_alloc _ _ _ (by simp)]; exact heap_alloc_new w _
  obtain ⟨n1, n6⟩ := lat_len hlat
  have n1' : 1 ≤ (L.length : Int) := n1
  have n6' : (L.length : Int) ≤ 6 := n6
  have HLAT := Lib.hid hlat
  have HS := Lib.hid hs
  clear hs hlat hr hT
  go_enter Tryd.func25, Tryd.ntmps25
  go_wp2_with (first
    | go_skip
    | (go_at_call 33; refine (readLattice_yes _ _ L _ hr1 HLAT.out).mono ?_; rintro e w2 ⟨rfl, h2⟩; have hz := (h2.block _ (lt_of_block hz1)).trans hz1; have hx := (h2.block _ (lt_of_block hx1)).trans hx1; have hB := hB1.trans (h2.mono hB1.size); have hT2 := hT1.below h2; clear h2)
    | (refine wpList_store_row rfl 55 _ _ rfl w2.heap.size (latOf L) rfl rfl _ _ (heap_alloc_new w2 (.cells zeroLat 55)) (size_lat _ _ _ _) rfl (one_lat _ _ _ _) ?_; rw [World.setRow_alloc_new]; obtain ⟨bl, hbl⟩ : ∃ bl, bl = w2.heap.size := ⟨_, rfl⟩; obtain ⟨w3, hw3⟩ : ∃ w3, w3 = w2.alloc (.cells (latOf L) 55) := ⟨_, rfl⟩; rw [← hw3, ← hbl]; have hL : LatAt w3 bl L := (by rw [hw3, hbl]; exact LatAt.new w2 L); have q3 : Below w2.heap.size w2 w3 := (by rw [hw3]; exact (Below.refl _ _).alloc (Nat.le_refl _) _); replace hz := (q3.block _ (lt_of_block hz)).trans hz; replace hx := (q3.block _ (lt_of_block hx)).trans hx; replace hB := hB.trans (q3.mono hB.size); have hT3 := hT2.below q3; obtain ⟨cx0, cx1⟩ := bx_cells hx; clear hw3 hbl q3 hT2)
    | (refine wpList_load_row_w rfl 55 _ rfl bl rfl _ _ _ _ hL Tryd.underlying55 rfl (size_lat _ _ _ _) ?_)
    | (go_at_call 34; refine (readTimes_is b cb L T _ hT3 n1 n6 HS.out).mono ?_; rintro e w4 ⟨rfl, h4⟩; replace hL := hL.below h4 hL.lt; replace hz := (h4.block _ (lt_of_block hz)).trans hz; replace hB := hB.trans (h4.mono hB.size); clear h4 cx0 cx1 hx hT3)
    | (refine wpList_store_row rfl 53 _ _ rfl w4.heap.size (tab2 (iv (zeroI))) rfl rfl _ _ (heap_alloc_new w4 (.cells (tab2 (iv zeroI)) 53)) (size_table _) rfl (one_iv _) ?_; rw [World.setRow_alloc_new]; obtain ⟨bt, hbt⟩ : ∃ bt, bt = w4.heap.size := ⟨_, rfl⟩; obtain ⟨w5, hw5⟩ : ∃ w5, w5 = w4.alloc (.cells (tab2 (iv (zeroI))) 53) := ⟨_, rfl⟩; rw [← hw5, ← hbt]; have ht : Blk w5 bt 53 (iv (zeroI)) := (by rw [hw5, hbt]; exact Blk.new w4 rfl); have q5 : Below w4.heap.size w4 w5 := (by rw [hw5]; exact (Below.refl _ _).alloc (Nat.le_refl _) _); replace hL := hL.below q5 hL.lt; replace hz := (q5.block _ (lt_of_block hz)).trans hz; replace hB := hB.trans (q5.mono hB.size); clear hw5 hbt q5)
    | (refine wpList_store_row rfl 57 _ _ rfl (w.heap.size + 1) zeroAlg rfl rfl _ _ hz size_zeroAlg rfl one_zeroAlg ?_))
  exact bodyPost_ret (v := .tuple #[.agg zeroAlg, .bool false]) (results_alg_tmp rfl _ _ (w.heap.size + 1) rfl _ (algA_size _ _ _ _ _ _) (setRow_heap _ _ _ _ _ _ hz) rfl) rfl ⟨rfl, below_setRow' hB (by omega) _⟩

set_option maxRecDepth 100000 in
set_option maxHeartbeats 2000000 in
theorem readAlgebra_laws (a b : Option Addr) (ca cb : Nat) (L : List Int) (T : List (List Int)) (w : World) (hr : Rd w a L) (hT : RdT w b T) (hlat : latB L = true) (hs : shapeB L T = true) (hre : areG L.length (timG L T) (tabJ L) = false) :
    Calls Tryd.prog 25 #[.agg #[.slice a L.length ca, .slice b T.length cb]] w fun e w' => e = .returned (.tuple #[.agg zeroAlg, .bool false]) ∧ Below w.heap.size w w' := by
  have hB1 : Below w.heap.size w ((w.alloc (.cells #[.slice a L.length ca, .slice b T.length cb] 28)).alloc (.cells zeroAlg 57)) := ((Below.refl _ _).alloc (Nat.le_refl _) _).alloc (by simp) _
  have hr1 := hr.below hB1
  have hT1 := hT.below hB1
  have hz1 : ((w.alloc (.cells #[.slice a L.length ca, .slice b T.length cb] 28)).alloc (.cells zeroAlg 57)).heap[w.heap.size + 1]? = some (.cells zeroAlg 57 (0, 0)) := heap_alloc2_new _ _ _
  have hx1 : ((w.alloc (.cells #[.slice a L.length ca, .slice b T.length cb] 28)).alloc (.cells zeroAlg 57)).heap[w.heap.size]? = some (.cells #[.slice a L.length ca, .slice b T.length cb] 28 (0, 0)) := by rw [Below.heap_alloc _ _ _ (by simp)]; exact heap_alloc_new w _
  obtain ⟨n1, n6⟩ := lat_len hlat
  have n1' : 1 ≤ (L.length : Int) := n1
  have n6' : (L.length : Int) ≤ 6 := n6
  have HLAT := Lib.hid hlat
  have FT := Lib.hid (fit_tim hs)
  have FJ := Lib.hid (fit_join hlat)
  have HR := Lib.hid hre
  clear hre
  have HS := Lib.hid hs
  clear hs hlat hr hT
  go_enter Tryd.func25, Tryd.ntmps25
  go_wp2_with (first
    | go_skip
    | (go_at_call 33; refine (readLattice_yes _ _ L _ hr1 HLAT.out).mono ?_; rintro e w2 ⟨rfl, h2⟩; have hz := (h2.block _ (lt_of_block hz1)).trans hz1; have hx := (h2.block _ (lt_of_block hx1)).trans hx1; have hB := hB1.trans (h2.mono hB1.size); have hT2 := hT1.below h2; clear h2)
    | (refine wpList_store_row rfl 55 _ _ rfl w2.heap.size (latOf L) rfl rfl _ _ (heap_alloc_new w2 (.cells zeroLat 55)) (size_lat _ _ _ _) rfl (one_lat _ _ _ _) ?_; rw [World.setRow_alloc_new]; obtain ⟨bl, hbl⟩ : ∃ bl, bl = w2.heap.size := ⟨_, rfl⟩; obtain ⟨w3, hw3⟩ : ∃ w3, w3 = w2.alloc (.cells (latOf L) 55) := ⟨_, rfl⟩; rw [← hw3, ← hbl]; have hL : LatAt w3 bl L := (by rw [hw3, hbl]; exact LatAt.new w2 L); have q3 : Below w2.heap.size w2 w3 := (by rw [hw3]; exact (Below.refl _ _).alloc (Nat.le_refl _) _); replace hz := (q3.block _ (lt_of_block hz)).trans hz; replace hx := (q3.block _ (lt_of_block hx)).trans hx; replace hB := hB.trans (q3.mono hB.size); have hT3 := hT2.below q3; obtain ⟨cx0, cx1⟩ := bx_cells hx; clear hw3 hbl q3 hT2)
    | (refine wpList_load_row_w rfl 55 _ rfl bl rfl _ _ _ _ hL Tryd.underlying55 rfl (size_lat _ _ _ _) ?_)
    | (go_at_call 34; refine (readTimes_is b cb L T _ hT3 n1 n6 HS.out).mono ?_; rintro e w4 ⟨rfl, h4⟩; replace hL := hL.below h4 hL.lt; replace hz := (h4.block _ (lt_of_block hz)).trans hz; replace hB := hB.trans (h4.mono hB.size); clear h4 cx0 cx1 hx hT3)
    | (refine wpList_store_row rfl 53 _ _ rfl w4.heap.size (tab2 (iv (timG L T))) rfl rfl _ _ (heap_alloc_new w4 (.cells (tab2 (iv zeroI)) 53)) (size_table _) rfl (one_iv _) ?_; rw [World.setRow_alloc_new]; obtain ⟨bt, hbt⟩ : ∃ bt, bt = w4.heap.size := ⟨_, rfl⟩; obtain ⟨w5, hw5⟩ : ∃ w5, w5 = w4.alloc (.cells (tab2 (iv (timG L T))) 53) := ⟨_, rfl⟩; rw [← hw5, ← hbt]; have ht : Blk w5 bt 53 (iv (timG L T)) := (by rw [hw5, hbt]; exact Blk.new w4 rfl); have q5 : Below w4.heap.size w4 w5 := (by rw [hw5]; exact (Below.refl _ _).alloc (Nat.le_refl _) _); replace hL := hL.below q5 hL.lt; replace hz := (q5.block _ (lt_of_block hz)).trans hz; replace hB := hB.trans (q5.mono hB.size); clear hw5 hbt q5)
    | (refine wpList_load_row_w rfl 53 _ rfl bt rfl _ _ _ _ ht.heap Tryd.underlying53 rfl (size_table _) ?_)
    | (go_at_call 35; refine (ret_below (areProducts_any (timG L T) L _ FT.out FJ.out n1' n6') HR.out).mono ?_; rintro e w6 ⟨rfl, h6⟩; replace hL := hL.below h6 hL.lt; replace ht := ht.below h6 ht.lt; replace hz := (h6.block _ (lt_of_block hz)).trans hz; replace hB := hB.trans (h6.mono hB.size); clear h6)
    | (refine wpList_store_row rfl 57 _ _ rfl (w.heap.size + 1) zeroAlg rfl rfl _ _ hz size_zeroAlg rfl one_zeroAlg ?_))
  exact bodyPost_ret (v := .tuple #[.agg zeroAlg, .bool false]) (results_alg_tmp rfl _ _ (w.heap.size + 1) rfl _ (algA_size _ _ _ _ _ _) (setRow_heap _ _ _ _ _ _ hz) rfl) rfl ⟨rfl, below_setRow' hB (by omega) _⟩

set_option maxRecDepth 100000 in
set_option maxHeartbeats 2000000 in
theorem readAlgebra_good (a b : Option Addr) (ca cb : Nat) (L : List Int) (T : List (List Int)) (w : World) (hr : Rd w a L) (hT : RdT w b T) (hlat : latB L = true) (hs : shapeB L T = true) (hre : areG L.length (timG L T) (tabJ L) = true) :
    Calls Tryd.prog 25 #[.agg #[.slice a L.length ca, .slice b T.length cb]] w fun e w' => e = .returned (.tuple #[.agg (algOf L T), .bool true]) ∧ Below w.heap.size w w' := by
  have hB1 : Below w.heap.size w ((w.alloc (.cells #[.slice a L.length ca, .slice b T.length cb] 28)).alloc (.cells zeroAlg 57)) := ((Below.refl _ _).alloc (Nat.le_refl _) _).alloc (by simp) _
  have hr1 := hr.below hB1
  have hT1 := hT.below hB1
  have hz1 : ((w.alloc (.cells #[.slice a L.length ca, .slice b T.length cb] 28)).alloc (.cells zeroAlg 57)).heap[w.heap.size + 1]? = some (.cells zeroAlg 57 (0, 0)) := heap_alloc2_new _ _ _
  have hx1 : ((w.alloc (.cells #[.slice a L.length ca, .slice b T.length cb] 28)).alloc (.cells zeroAlg 57)).heap[w.heap.size]? = some (.cells #[.slice a L.length ca, .slice b T.length cb] 28 (0, 0)) := by rw [Below.heap_alloc _ _ _ (by simp)]; exact heap_alloc_new w _
  obtain ⟨n1, n6⟩ := lat_len hlat
  have n1' : 1 ≤ (L.length : Int) := n1
  have n6' : (L.length : Int) ≤ 6 := n6
  have HLAT := Lib.hid hlat
  have FT := Lib.hid (fit_tim hs)
  have FJ := Lib.hid (fit_join hlat)
  have HR := Lib.hid hre
  clear hre
  have HS := Lib.hid hs
  clear hs hlat hr hT
  go_enter Tryd.func25, Tryd.ntmps25
  go_wp2_with (first
    | go_skip
    | (go_at_call 33; refine (readLattice_yes _ _ L _ hr1 HLAT.out).mono ?_; rintro e w2 ⟨rfl, h2⟩; have hz := (h2.block _ (lt_of_block hz1)).trans hz1; have hx := (h2.block _ (lt_of_block hx1)).trans hx1; have hB := hB1.trans (h2.mono hB1.size); have hT2 := hT1.below h2; clear h2)
    | (refine wpList_store_row rfl 55 _ _ rfl w2.heap.size (latOf L) rfl rfl _ _ (heap_alloc_new w2 (.cells zeroLat 55)) (size_lat _ _ _ _) rfl (one_lat _ _ _ _) ?_; rw [World.setRow_alloc_new]; obtain ⟨bl, hbl⟩ : ∃ bl, bl = w2.heap.size := ⟨_, rfl⟩; obtain ⟨w3, hw3⟩ : ∃ w3, w3 = w2.alloc (.cells (latOf L) 55) := ⟨_, rfl⟩; rw [← hw3, ← hbl]; have hL : LatAt w3 bl L := (by rw [hw3, hbl]; exact LatAt.new w2 L); have q3 : Below w2.heap.size w2 w3 := (by rw [hw3]; exact (Below.refl _ _).alloc (Nat.le_refl _) _); replace hz := (q3.block _ (lt_of_block hz)).trans hz; replace hx := (q3.block _ (lt_of_block hx)).trans hx; replace hB := hB.trans (q3.mono hB.size); have hT3 := hT2.below q3; obtain ⟨cx0, cx1⟩ := bx_cells hx; clear hw3 hbl q3 hT2)
    | (refine wpList_load_row_w rfl 55 _ rfl bl rfl _ _ _ _ hL Tryd.underlying55 rfl (size_lat _ _ _ _) ?_)
    | (go_at_call 34; refine (readTimes_is b cb L T _ hT3 n1 n6 HS.out).mono ?_; rintro e w4 ⟨rfl, h4⟩; replace hL := hL.below h4 hL.lt; replace hz := (h4.block _ (lt_of_block hz)).trans hz; replace hB := hB.trans (h4.mono hB.size); clear h4 cx0 cx1 hx hT3)
    | (refine wpList_store_row rfl 53 _ _ rfl w4.heap.size (tab2 (iv (timG L T))) rfl rfl _ _ (heap_alloc_new w4 (.cells (tab2 (iv zeroI)) 53)) (size_table _) rfl (one_iv _) ?_; rw [World.setRow_alloc_new]; obtain ⟨bt, hbt⟩ : ∃ bt, bt = w4.heap.size := ⟨_, rfl⟩; obtain ⟨w5, hw5⟩ : ∃ w5, w5 = w4.alloc (.cells (tab2 (iv (timG L T))) 53) := ⟨_, rfl⟩; rw [← hw5, ← hbt]; have ht : Blk w5 bt 53 (iv (timG L T)) := (by rw [hw5, hbt]; exact Blk.new w4 rfl); have q5 : Below w4.heap.size w4 w5 := (by rw [hw5]; exact (Below.refl _ _).alloc (Nat.le_refl _) _); replace hL := hL.below q5 hL.lt; replace hz := (q5.block _ (lt_of_block hz)).trans hz; replace hB := hB.trans (q5.mono hB.size); clear hw5 hbt q5)
    | (refine wpList_load_row_w rfl 53 _ rfl bt rfl _ _ _ _ ht.heap Tryd.underlying53 rfl (size_table _) ?_)
    | (go_at_call 35; refine (ret_below (areProducts_any (timG L T) L _ FT.out FJ.out n1' n6') HR.out).mono ?_; rintro e w6 ⟨rfl, h6⟩; replace hL := hL.below h6 hL.lt; replace ht := ht.below h6 ht.lt; replace hz := (h6.block _ (lt_of_block hz)).trans hz; replace hB := hB.trans (h6.mono hB.size); clear h6))
  refine region_tail 6 (Below w6.heap.size w6) (by kernel_rfl) (by kernel_rfl) (Dr.below ⟨1, rfl⟩ _) fun hne => ?_
  simp only [List.take_succ_cons, List.take_zero, List.drop_succ_cons, List.drop_zero]
  repeat (first
    | (go_big_quiet_want; refine quiet_load_row 55 _ rfl bl rfl _ _ _ _ (fun w' ⟨s, hs⟩ => by rw [hs]; exact hL.below s.h hL.lt) Tryd.underlying55 rfl (size_lat _ _ _ _) ?_; simp only [Act.put, List.setIfInBounds_toArray, List.set_cons_succ, List.set_cons_zero]; go_big_quiet_on)
    | (go_big_quiet_want; refine quiet_load_row 53 _ rfl bt rfl _ _ _ _ (fun w' ⟨s, hs⟩ => by rw [hs]; exact (ht.below s.h ht.lt).heap) Tryd.underlying53 rfl (size_table _) ?_; simp only [Act.put, List.setIfInBounds_toArray, List.set_cons_succ, List.set_cons_zero]; go_big_quiet_on)
    | (go_big_quiet_want; refine quiet_build 57 _ rfl (algOf L T) (built_alg' rfl rfl rfl) ?_; simp only [Act.put, List.setIfInBounds_toArray, List.set_cons_succ, List.set_cons_zero]; go_big_quiet_on)
    | go_big_quiet_step ((first | (go_at_call 36; exact in_below _ (Nat.le_refl _) (implications_any L T _ HLAT.out HS.out)))))
  refine wpQuiet_nil ?_
  intro s
  have hw2 := s.h
  obtain ⟨w7, hw2'⟩ : ∃ w7, w7 = s.w := ⟨_, rfl⟩
  rw [← hw2'] at hw2 ⊢
  clear hw2'
  replace hz := (hw2.block _ (lt_of_block hz)).trans hz
  replace hB := hB.trans (hw2.mono hB.size)
  go_wp2_with (refine wpList_store_row rfl 57 _ _ rfl (w.heap.size + 1) (algOf L T) rfl rfl _ _ hz (size_alg _ _ _ _ _ _) rfl (one_alg _ _ _ _ _ _) ?_)
  exact bodyPost_ret (v := .tuple #[.agg (algOf L T), .bool true]) (results_alg_tmp rfl _ _ (w.heap.size + 1) rfl _ (algA_size _ _ _ _ _ _) (setRow_heap _ _ _ _ _ _ hz) rfl) rfl ⟨rfl, below_setRow' hB (by omega) _⟩
end Go.Proofs.YtipbjhjflbciiaaDoor

namespace Go.Proofs.YtipbjhjflbciiaaDoor
open Go.RowKit

theorem readAlgebra_yes (a b : Option Addr) (ca cb : Nat) (L : List Int) (T : List (List Int)) (w : World) (hr : Rd w a L) (hT : RdT w b T) (h : algB L T = true) :
    Calls Tryd.prog 25 #[.agg #[.slice a L.length ca, .slice b T.length cb]] w fun e w' => e = .returned (.tuple #[.agg (algOf L T), .bool true]) ∧ Below w.heap.size w w' := by
  obtain ⟨h1, h2, h3⟩ := algB_parts h
  exact readAlgebra_good a b ca cb L T w hr hT h1 h2 (by rw [areG_eq h1 h2]; exact h3.all (Int.le_refl _))
theorem readAlgebra_no (a b : Option Addr) (ca cb : Nat) (L : List Int) (T : List (List Int)) (w : World) (hr : Rd w a L) (hT : RdT w b T) (h : algB L T = false) :
    Calls Tryd.prog 25 #[.agg #[.slice a L.length ca, .slice b T.length cb]] w fun e w' => e = .returned (.tuple #[.agg zeroAlg, .bool false]) ∧ Below w.heap.size w w' := by
  cases h1 : latB L with
  | false => exact readAlgebra_lat a b ca cb L T w hr h1
  | true =>
    cases h2 : shapeB L T with
    | false => exact readAlgebra_shape a b ca cb L T w hr hT h1 h2
    | true =>
      refine readAlgebra_laws a b ca cb L T w hr hT h1 h2 ?_
      rw [areG_eq h1 h2]
      unfold algB at h
      rw [h1, h2] at h
      exact h
/-- Block b holds the algebra that the numbers are read as. -/
def AlgAt (w : World) (b : Nat) (L : List Int) (T : List (List Int)) : Prop := w.heap[b]? = some (.cells (algOf L T) 57 (0, 0))
section
variable {w : World} {b : Nat} {L : List Int} {T : List (List Int)}
theorem AlgAt.lt (h : AlgAt w b L T) : b < w.heap.size := lt_of_block h
theorem AlgAt.below (h : AlgAt w b L T) {w' : World} {C : Nat} (hb : Below C w w') (hB : b < C) : AlgAt w' b L T := by
  unfold AlgAt; rw [hb.block b hB]; exact h
theorem AlgAt.dr (h : AlgAt w b L T) {w' : World} (hd : Dr w w') : AlgAt w' b L T := h.below (hd.below w.heap.size) h.lt
theorem AlgAt.new (w : World) (L : List Int) (T : List (List Int)) : AlgAt (w.alloc (.cells (algOf L T) 57)) w.heap.size L T := heap_alloc_new w _
theorem AlgAt.lat (h : AlgAt w b L T) : w.rangeAt b 0 (latOf L).toList := fun j v hv => by
  have hj : j < (latOf L).toList.length := (List.getElem?_eq_some_iff.1 hv).1
  rw [Nat.zero_add, cell_of_row w b _ _ _ _ h]
  unfold algOf algA
  rw [List.getElem?_toArray, List.getElem?_append_left (by simp only [List.length_append]; exact Nat.lt_of_lt_of_le hj (Nat.le_add_right _ _))]
  exact (List.getElem?_append_left (l₁ := (latOf L).toList) hj).trans hv
theorem AlgAt.part (h : AlgAt w b L T) (k : Nat) {v : Value} (hv : (latOf L)[k]? = some v) : w.cell? ⟨b, k, none⟩ = some v := by
  have := h.lat k v (by simpa using hv)
  rwa [Nat.zero_add] at this
theorem AlgAt.size (h : AlgAt w b L T) : w.cell? ⟨b, 0, none⟩ = some (.int .i64 L.length) := h.part 0 rfl
theorem AlgAt.g (h : AlgAt w b L T) {x y : Int} (x0 : 0 ≤ x) (x1 : x < 6) (y0 : 0 ≤ y) (y1 : y < 6) : w.cell? ⟨b, 1 + x.toNat * 6 + y.toNat, none⟩ = some (.bool (ordG L x y)) := h.part _ (latA_g _ _ _ _ x0 x1 y0 y1)
theorem AlgAt.m (h : AlgAt w b L T) {x y : Int} (x0 : 0 ≤ x) (x1 : x < 6) (y0 : 0 ≤ y) (y1 : y < 6) : w.cell? ⟨b, 37 + x.toNat * 6 + y.toNat, none⟩ = some (.int .i64 (tabM L x y)) := h.part _ (latA_m _ _ _ _ x0 x1 y0 y1)
theorem AlgAt.j (h : AlgAt w b L T) {x y : Int} (x0 : 0 ≤ x) (x1 : x < 6) (y0 : 0 ≤ y) (y1 : y < 6) : w.cell? ⟨b, 73 + x.toNat * 6 + y.toNat, none⟩ = some (.int .i64 (tabJ L x y)) := h.part _ (latA_j _ _ _ _ x0 x1 y0 y1)
theorem AlgAt.t (h : AlgAt w b L T) {x y : Int} (x0 : 0 ≤ x) (x1 : x < 6) (y0 : 0 ≤ y) (y1 : y < 6) : w.cell? ⟨b, 109 + x.toNat * 6 + y.toNat, none⟩ = some (.int .i64 (timG L T x y)) := by
  rw [cell_of_row w b _ _ _ _ h]
  have hg := tab2_get (iv (timG L T)) x0 x1 y0 y1
  unfold algOf algA
  have hl : (latA L.length (ordG L) (tabM L) (tabJ L)).toList.length = 109 := by simpa using latA_size L.length (ordG L) (tabM L) (tabJ L)
  rw [List.getElem?_toArray, List.getElem?_append_left (by rw [List.length_append, hl]; simp [tab2]; omega), List.getElem?_append_right (by rw [hl]; omega), hl, show 109 + x.toNat * 6 + y.toNat - 109 = x.toNat * 6 + y.toNat by omega, Array.getElem?_toList, hg]
  rfl
theorem AlgAt.i (h : AlgAt w b L T) {x y : Int} (x0 : 0 ≤ x) (x1 : x < 6) (y0 : 0 ≤ y) (y1 : y < 6) : w.cell? ⟨b, 145 + x.toNat * 6 + y.toNat, none⟩ = some (.int .i64 (impG L T x y)) := by
  rw [cell_of_row w b _ _ _ _ h]
  have hg := tab2_get (iv (impG L T)) x0 x1 y0 y1
  unfold algOf algA
  have hl : ((latA L.length (ordG L) (tabM L) (tabJ L)).toList ++ (tab2 (iv (timG L T))).toList).length = 145 := by
    have := latA_size L.length (ordG L) (tabM L) (tabJ L)
    rw [List.length_append, Array.length_toList, this]; simp [tab2]
  rw [List.getElem?_toArray, List.getElem?_append_right (by rw [hl]; omega), hl, show 145 + x.toNat * 6 + y.toNat - 145 = x.toNat * 6 + y.toNat by omega, Array.getElem?_toList, hg]
  rfl
end
theorem size_Alg (x y : Value) : (Tryd.prog.info? 28).map (·.size) = some (#[x, y] : Array Value).size := by
  have : (Tryd.prog.info? 28).map (·.size) = some 2 := by kernel_rfl
  rw [this]; rfl
theorem size_latOf (L : List Int) : (Tryd.prog.info? 55).map (·.size) = some (latOf L).size := size_lat _ _ _ _
/-- what impl.readAlgebraWith hands back -/
def awA (L : List Int) (T : List (List Int)) (r : Bool) : Array Value := if r then algOf L T else zeroAlg
def awB (L : List Int) (T : List (List Int)) (E : List Int) : Bool := algB L T && withB L E
end Go.Proofs.YtipbjhjflbciiaaDoor

namespace Go.Proofs.YtipbjhjflbciiaaDoor
open Go.RowKit

set_option maxHeartbeats 1000000 in
/-- laws.szIntS -/
theorem szIntS_any (a : Option Addr) (n c : Nat) (left : Int) (w : World) (h0 : 0 ≤ left) (h1 : left ≤ 1048576) (hn : (n : Int) ≤ 9223372036854775807) :
    Calls Tryd.prog 9 #[.slice a n c, .int .i64 left] w fun e w' => (∃ v, e = .returned (.int .i64 v) ∧ v ≤ left ∧ -1 ≤ v ∧ (0 ≤ v → v + n = left)) ∧ w = w' := by
  have k1 : IntKind.i64.wrap (left - n) = left - n := IntWalk.i64_in _ (by omega)
  by_cases hl : left - n < 0
  · go_enter Tryd.func9, Tryd.ntmps9
    go_wp2
    go_ret
    exact ⟨⟨-1, rfl, by omega, by omega, fun h => absurd h (by omega)⟩, rfl⟩
  · go_enter Tryd.func9, Tryd.ntmps9
    go_wp2
    go_ret
    exact ⟨⟨left - n, rfl, by omega, by omega, fun _ => by omega⟩, rfl⟩

set_option maxRecDepth 100000 in
set_option maxHeartbeats 1000000 in
/-- laws.szIntSS -/
theorem szIntSS_any (b : Option Addr) (c : Nat) (T : List (List Int)) (left : Int) (w : World) (hT : RdT w b T) (h0 : 0 ≤ left) (h1 : left ≤ 1048576) (hm : ∀ j : Nat, j < T.length → ((rowAt T j).length : Int) ≤ 9223372036854775807) (hn : (T.length : Int) ≤ 9223372036854775807) :
    Calls Tryd.prog 10 #[.slice b T.length c, .int .i64 left] w fun e w' => (∃ v, e = .returned (.int .i64 v) ∧ v ≤ left ∧ -1 ≤ v ∧ (0 ≤ v → (T.length : Int) ≤ left ∧ ∀ j : Nat, j < T.length → ((rowAt T j).length : Int) ≤ left)) ∧ w = w' := by
  have k1 : IntKind.i64.wrap (left - T.length) = left - T.length := IntWalk.i64_in _ (by omega)
  by_cases hl : left - T.length < 0
  · go_enter Tryd.func10, Tryd.ntmps10
    go_wp2
    go_ret
    exact ⟨⟨-1, rfl, by omega, by omega, fun h => absurd h (by omega)⟩, rfl⟩
  · have HM := Lib.hid hm
    have HT := Lib.hid hT
    clear hm hT
    go_enter Tryd.func10, Tryd.ntmps10
    go_wp2
    clear k1
    go_loopw [1, 5] (fun l i wr => ∃ k v : Int, 0 ≤ k ∧ k ≤ T.length ∧ i = .int .i64 k ∧ l = .int .i64 v ∧ 0 ≤ v ∧ v ≤ left ∧ (∀ j : Nat, (j : Int) < k → ((rowAt T j).length : Int) ≤ left) ∧ w = wr) (fun _ i _ => ((T.length : Int) - intOf i).toNat)
    case atStart => exact ⟨0, left - T.length, by omega, by omega, rfl, rfl, by omega, by omega, fun j hj => by omega, rfl⟩
    case round =>
      obtain ⟨k, v, k0, k1, rfl, rfl, v0, v1, hr, rfl⟩ := hrel
      by_cases hk : k < T.length
      · obtain ⟨B, off, rfl, hc⟩ := HT.out (by intro e; rw [e] at hk; simp at hk; omega)
        obtain ⟨ra, rc, d0, _⟩ := RdT.row hc k0 hk
        have hm2 := HM.out k.toNat (by omega)
        rw [Int.toNat_of_nonneg k0] at hm2
        have HR := Lib.hid hr
        clear hc hr
        go_wp2_with fail
        refine (szIntS_any ra _ rc v w v0 (by omega) hm2).mono ?_
        rintro e w9 ⟨⟨u, rfl, u1, u2, u3⟩, rfl⟩
        by_cases hu : u < 0
        · go_wp2
          go_ret
          exact ⟨⟨-1, rfl, by omega, by omega, fun h => absurd h (by omega)⟩, rfl⟩
        · go_wp2
          go_roundw
          case rel =>
            refine ⟨k + 1, u, by omega, by omega, rfl, rfl, by omega, by omega, fun j hj => ?_, trivial⟩
            by_cases e : (j : Int) = k
            · rw [e]; have := u3 (by omega); omega
            · exact HR.out j (by omega)
          case measure => simp [intOf]; omega
      · go_wp2
        go_ret
        exact ⟨⟨v, rfl, by omega, by omega, fun _ => ⟨by omega, fun j hj => hr j (by omega)⟩⟩, rfl⟩

theorem size_LAlg (x y : Value) : (Tryd.prog.info? 25).map (·.size) = some (#[x, y] : Array Value).size := by
  have : (Tryd.prog.info? 25).map (·.size) = some 2 := by kernel_rfl
  rw [this]; rfl
theorem bxL_cells {w : World} {g : Nat} {x y : Value} (h : w.heap[g]? = some (.cells #[x, y] 25 (0, 0))) : w.cell? ⟨g, 0, none⟩ = some x ∧ w.cell? ⟨g, 1, none⟩ = some y :=
  ⟨by rw [cell_of_row w g 0 _ _ _ h]; rfl, by rw [cell_of_row w g 1 _ _ _ h]; rfl⟩
set_option maxRecDepth 100000 in
set_option maxHeartbeats 1000000 in
/-- laws.szAlgebra -/
theorem szAlgebra_any (a b : Option Addr) (ca cb : Nat) (L : List Int) (T : List (List Int)) (left : Int) (w : World) (hT : RdT w b T) (h0 : 0 ≤ left) (h1 : left ≤ 1048576) (hL : (L.length : Int) ≤ 9223372036854775807) (hm : ∀ j : Nat, j < T.length → ((rowAt T j).length : Int) ≤ 9223372036854775807) (hn : (T.length : Int) ≤ 9223372036854775807) :
    Calls Tryd.prog 4 #[.agg #[.slice a L.length ca, .slice b T.length cb], .int .i64 left] w fun e w' => (∃ v, e = .returned (.int .i64 v) ∧ v ≤ left ∧ -1 ≤ v ∧ (0 ≤ v → (L.length : Int) ≤ left ∧ (T.length : Int) ≤ left ∧ ∀ j : Nat, j < T.length → ((rowAt T j).length : Int) ≤ left)) ∧ Below w.heap.size w w' := by
  have hB : Below w.heap.size w (w.alloc (.cells #[.slice a L.length ca, .slice b T.length cb] 25)) := (Below.refl _ _).alloc (Nat.le_refl _) _
  have hx : (w.alloc (.cells #[.slice a L.length ca, .slice b T.length cb] 25)).heap[w.heap.size]? = some (.cells #[.slice a L.length ca, .slice b T.length cb] 25 (0, 0)) := heap_alloc_new w _
  obtain ⟨w1, hw1⟩ : ∃ w1, w1 = w.alloc (.cells #[.slice a L.length ca, .slice b T.length cb] 25) := ⟨_, rfl⟩
  rw [← hw1] at hB hx
  obtain ⟨c0, c1⟩ := bxL_cells hx
  have hT1 := hT.below hB
  have HM := Lib.hid hm
  have HT := Lib.hid hT1
  clear hm hT hT1 hx
  go_enter Tryd.func4, Tryd.ntmps4
  go_wp2_with (rw [← hw1]; clear hw1)
  refine (szIntS_any a _ ca left w1 h0 h1 hL).mono ?_
  rintro e w9 ⟨⟨u, rfl, u1, u2, u3⟩, rfl⟩
  by_cases hu : u < 0
  · go_wp2
    go_ret
    exact ⟨⟨-1, rfl, by omega, by omega, fun h => absurd h (by omega)⟩, hB⟩
  · go_wp2_with fail
    refine (szIntSS_any b cb T u w1 HT.out (by omega) (by omega) HM.out hn).mono ?_
    rintro e w9 ⟨⟨v, rfl, v1, v2, v3⟩, rfl⟩
    by_cases hv : v < 0
    · go_wp2
      go_ret
      exact ⟨⟨-1, rfl, by omega, by omega, fun h => absurd h (by omega)⟩, hB⟩
    · go_wp2
      go_ret
      refine ⟨⟨v, rfl, by omega, by omega, fun _ => ?_⟩, hB⟩
      obtain ⟨q1, q2⟩ := v3 (by omega)
      have := u3 (by omega)
      exact ⟨by omega, by omega, fun j hj => by have := q2 j hj; omega⟩

theorem eqIntS_same (a1 a2 : Option Addr) (c1 c2 : Nat) (A : List Int) (w : World) (h1 : Rd w a1 A) (h2 : Rd w a2 A) (hm : A.length ≤ 1073741824) :
    Calls Tryd.prog 19 #[.slice a1 A.length c1, .slice a2 A.length c2] w fun e w' => e = .returned (.bool true) ∧ Dr w w' := by
  have h := eqIntS_any a1 a2 c1 c2 A A w h1 h2 hm
  rwa [show eqL A A = true from decide_eq_true rfl] at h
set_option maxRecDepth 100000 in
set_option maxHeartbeats 1000000 in
/-- laws.eqIntSS, of two that read the same -/
theorem eqIntSS_same (b1 b2 : Option Addr) (c1 c2 : Nat) (T : List (List Int)) (w : World) (h1 : RdT w b1 T) (h2 : RdT w b2 T) (hm : ∀ j : Nat, j < T.length → (rowAt T j).length ≤ 1073741824) (hn : T.length ≤ 1073741824) :
    Calls Tryd.prog 20 #[.slice b1 T.length c1, .slice b2 T.length c2] w fun e w' => e = .returned (.bool true) ∧ Dr w w' := by
  have hne : ((T.length : Int) != (T.length : Int)) = false := by simp
  have HM := Lib.hid hm
  have H1 := Lib.hid h1
  have H2 := Lib.hid h2
  clear hm h1 h2
  go_enter Tryd.func20, Tryd.ntmps20
  go_wp2
  go_loopw [5] (fun i wr => ∃ k : Int, 0 ≤ k ∧ k ≤ T.length ∧ i = .int .i64 k ∧ Dr w wr) (fun i _ => ((T.length : Int) - intOf i).toNat)
  case atStart => exact ⟨0, by omega, by omega, rfl, Dr.refl _⟩
  case round =>
    obtain ⟨k, k0, k1, rfl, hd⟩ := hrel
    by_cases hk : k < T.length
    · have hne2 : T ≠ [] := by intro e; rw [e] at hk; simp at hk; omega
      obtain ⟨B1, o1, rfl, q1⟩ := (H1.out.dr hd) hne2
      obtain ⟨B2, o2, rfl, q2⟩ := (H2.out.dr hd) hne2
      obtain ⟨ra1, rc1, d1, r1⟩ := RdT.row q1 k0 hk
      obtain ⟨ra2, rc2, d2, r2⟩ := RdT.row q2 k0 hk
      have hm2 := HM.out k.toNat (by omega)
      rw [Int.toNat_of_nonneg k0] at hm2
      have R1 := Lib.hid r1
      have R2 := Lib.hid r2
      have HM2 := Lib.hid hm2
      clear q1 q2 hne2 r1 r2 hm2
      go_wp2
      go_quiet (first | (go_at_call 19; exact q_dr (eqIntS_same _ _ _ _ _ _ (Dr.rd ⟨_, rfl⟩ R1.out) (Dr.rd ⟨_, rfl⟩ R2.out) HM2.out)))
      go_wp2
      go_roundw
      case rel => exact ⟨k + 1, by omega, by omega, rfl, hd.more _⟩
      case measure => simp [intOf]; omega
    · go_wp2
      go_ret
      exact ⟨rfl, hd⟩

set_option maxRecDepth 100000 in
set_option maxHeartbeats 1000000 in
/-- laws.eqAlgebra, of two that read the same -/
theorem eqAlgebra_same (a1 a2 b1 b2 : Option Addr) (ca1 ca2 cb1 cb2 : Nat) (L : List Int) (T : List (List Int)) (w : World) (h1 : Rd w a1 L) (h2 : Rd w a2 L) (t1 : RdT w b1 T) (t2 : RdT w b2 T) (hL : L.length ≤ 1073741824) (hm : ∀ j : Nat, j < T.length → (rowAt T j).length ≤ 1073741824) (hn : T.length ≤ 1073741824) :
    Calls Tryd.prog 8 #[.agg #[.slice a1 L.length ca1, .slice b1 T.length cb1], .agg #[.slice a2 L.length ca2, .slice b2 T.length cb2]] w fun e w' => e = .returned (.bool true) ∧ Below w.heap.size w w' := by
  obtain ⟨w1, hw1⟩ : ∃ w1, w1 = (w.alloc (.cells #[.slice a1 L.length ca1, .slice b1 T.length cb1] 28)).alloc (.cells #[.slice a2 L.length ca2, .slice b2 T.length cb2] 28) := ⟨_, rfl⟩
  have hB : Below w.heap.size w w1 := by rw [hw1]; exact ((Below.refl _ _).alloc (Nat.le_refl _) _).alloc (by simp) _
  have x1 : w1.heap[w.heap.size]? = some (.cells #[.slice a1 L.length ca1, .slice b1 T.length cb1] 28 (0, 0)) := by rw [hw1, Below.heap_alloc _ _ _ (by simp)]; exact heap_alloc_new w _
  have x2 : w1.heap[w.heap.size + 1]? = some (.cells #[.slice a2 L.length ca2, .slice b2 T.length cb2] 28 (0, 0)) := by rw [hw1]; exact heap_alloc2_new _ _ _
  obtain ⟨c0, c1⟩ := bx_cells x1
  obtain ⟨c2, c3⟩ := bx_cells x2
  have R1 := Lib.hid (h1.below hB)
  have R2 := Lib.hid (h2.below hB)
  have S1 := Lib.hid (t1.below hB)
  have S2 := Lib.hid (t2.below hB)
  have HM := Lib.hid hm
  clear h1 h2 t1 t2 hm x1 x2
  go_enter Tryd.func8, Tryd.ntmps8
  go_wp2_with (first
    | (rw [← hw1]; clear hw1)
    | (go_at_call 19; refine (eqIntS_same _ _ _ _ _ _ R1.out R2.out hL).mono ?_; rintro e w2 ⟨rfl, hd⟩; have c4 := hd.cell c1; have c5 := hd.cell c3)
    | (go_at_call 20; refine (eqIntSS_same _ _ _ _ _ _ (S1.out.dr hd) (S2.out.dr hd) HM.out hn).mono ?_; rintro e w3 ⟨rfl, hd2⟩))
  go_ret
  exact ⟨rfl, hB.trans ((hd.trans hd2).below _)⟩
end Go.Proofs.YtipbjhjflbciiaaDoor

namespace Go.Proofs.YtipbjhjflbciiaaDoor
open Go.RowKit

/-- The cells of a row of slices: the first k are the rows, the others nil. -/
def slTo (R : Nat → Nat) (T : List (List Int)) (k : Nat) : Array Value :=
  ((List.range T.length).map fun (i : Nat) => if i < k then Value.slice (some ⟨R i, 0, none⟩) (rowAt T i).length (rowAt T i).length else Value.slice none 0 0).toArray
def slA (R : Nat → Nat) (T : List (List Int)) : Array Value := slTo R T T.length
theorem slTo_size (R : Nat → Nat) (T : List (List Int)) (k : Nat) : (slTo R T k).size = T.length := by simp [slTo]
theorem slTo_get (R : Nat → Nat) (T : List (List Int)) (k j : Nat) (h : j < T.length) : (slTo R T k)[j]? = some (if j < k then Value.slice (some ⟨R j, 0, none⟩) (rowAt T j).length (rowAt T j).length else Value.slice none 0 0) := by
  unfold slTo
  rw [List.getElem?_toArray, List.getElem?_map, List.getElem?_range h]
  rfl
theorem slTo_zero (R : Nat → Nat) (T : List (List Int)) : slTo R T 0 = (List.replicate T.length (Value.slice none 0 0)).toArray := by
  apply Array.ext
  · simp [slTo]
  · intro i h1 h2
    simp [slTo]
theorem slTo_set (R : Nat → Nat) (T : List (List Int)) (k b : Nat) : (slTo R T k).setIfInBounds k (.slice (some ⟨b, 0, none⟩) (rowAt T k).length (rowAt T k).length) = slTo (fun i => if i = k then b else R i) T (k + 1) := by
  apply Array.ext
  · simp [slTo]
  · intro i h1 h2
    rw [slTo_size] at h2
    rw [Array.getElem_setIfInBounds (by rw [slTo_size]; exact h2)]
    have a1 : ∀ R k, (slTo R T k)[i]'(by rw [slTo_size]; exact h2) = if i < k then Value.slice (some ⟨R i, 0, none⟩) (rowAt T i).length (rowAt T i).length else Value.slice none 0 0 := fun R k => by simp [slTo]
    rw [a1, a1]
    by_cases e : k = i
    · subst e; rw [if_pos rfl, if_pos (by omega), if_pos rfl]
    · rw [if_neg e]
      by_cases h3 : i < k
      · rw [if_pos h3, if_pos (by omega), if_neg (by omega)]
      · rw [if_neg h3, if_neg (by omega)]
/-- A table of the call's own: the block of its rows' slices, and a block for each row, later ones behind earlier ones. -/
structure TabOwn (w : World) (lo B : Nat) (R : Nat → Nat) (T : List (List Int)) (k : Nat) : Prop where
  top : w.heap[B]? = some (.cells (slTo R T k) 22 (0, 0))
  lo : lo ≤ B
  row : ∀ j, j < k → Row w (R j) (rowAt T j)
  up : ∀ j, j < k → B < R j
  inc : ∀ i j, i < j → j < k → R i < R j
section
variable {w w' : World} {lo B k : Nat} {R : Nat → Nat} {T : List (List Int)}
theorem Row.rowOther {b : Nat} {L : List Int} (h : Row w b L) {G : Nat} (cs : Array Value) (hp : b ≠ G) : Row (w.setRow G cs) b L := by
  unfold Row; rw [setRow_other w G b cs hp]; exact h
theorem TabOwn.lt (h : TabOwn w lo B R T k) : B < w.heap.size := lt_of_block h.top
theorem TabOwn.below (h : TabOwn w lo B R T k) (hb : Below w.heap.size w w') : TabOwn w' lo B R T k :=
  ⟨(hb.block _ h.lt).trans h.top, h.lo, fun j hj => (h.row j hj).below hb (h.row j hj).lt, h.up, h.inc⟩
theorem TabOwn.other (h : TabOwn w lo B R T k) {p : Addr} (hp : p.block < B) (v : Value) : TabOwn (w.setCell p v) lo B R T k :=
  ⟨by rw [heap_setCell_other w p B v (by omega)]; exact h.top, h.lo, fun j hj => (h.row j hj).other v (by have := h.up j hj; omega), h.up, h.inc⟩
theorem TabOwn.rowOther (h : TabOwn w lo B R T k) {G C : Nat} (hp : G < B) (hC : C ≤ lo) (cs : Array Value) : TabOwn (w.setRow G cs) C B R T k :=
  ⟨by rw [setRow_other w G B cs (by omega)]; exact h.top, Nat.le_trans hC h.lo, fun j hj => (h.row j hj).rowOther cs (by have := h.up j hj; omega), h.up, h.inc⟩
theorem TabOwn.rd (h : TabOwn w lo B R T T.length) : RdT w (some ⟨B, 0, none⟩) T := fun _ => ⟨B, 0, rfl, fun j hj => by
  refine ⟨some ⟨R j, 0, none⟩, (rowAt T j).length, ?_, (h.row j hj).rd⟩
  rw [Nat.zero_add, cell_of_row w B j _ _ _ h.top, slTo_get _ _ _ _ hj, if_pos hj]⟩
end
theorem one_sl2 (a b : Option Addr) (n c m d : Nat) : (#[.slice a n c, .slice b m d] : Array Value).all (·.oneCell') = true := by
  refine all_oneCell_toArray (cs := [.slice a n c, .slice b m d]) fun v hv => ?_
  simp only [List.mem_cons, List.not_mem_nil, or_false] at hv
  rcases hv with rfl | rfl <;> rfl
theorem info_ints : (Tryd.prog.info? 22).map (fun i => (i.zero, i.size, i.bytes)) = some (some (.slice none 0 0), 1, 24) := by kernel_rfl
theorem made_ints (n : Nat) : madeCells #[.slice none 0 0] n = (List.replicate n (Value.slice none 0 0)).toArray := by
  apply Array.ext
  · simp [madeCells]
  · intro i h1 h2
    simp [madeCells, Nat.mod_one]
theorem run_make_rows (n : Nat) (hn : n ≤ 16777216) (w : World) :
    (Instr.makeSlice 23 (.int .i64 n) (.int .i64 n)).run Tryd.prog w = .ok (.slice (some ⟨w.heap.size, 0, none⟩) n n) (w.alloc (.cells (List.replicate n (Value.slice none 0 0)).toArray 22)) := by
  obtain ⟨i0, hi, hz0, hz1, hz2⟩ := info_parts info_ints
  have := run_make (P := Tryd.prog) w 23 22 i0 (.slice none 0 0) Tryd.underlying23 hi hz0 .i64 .i64 n n (by omega) (Int.le_refl _) (by rw [hz2]; omega) (by omega)
  rw [this, hz1]
  simp [Value.cells, made_ints]

set_option maxRecDepth 100000 in
set_option maxHeartbeats 2000000 in
/-- laws.toIntSS: a copy in new memory -/
theorem toIntSS_any (b : Option Addr) (c : Nat) (T : List (List Int)) (w : World) (hT : RdT w b T) (hn : T.length ≤ 1048576) (hm : ∀ j : Nat, j < T.length → (rowAt T j).length ≤ 1048576) :
    Calls Tryd.prog 15 #[.slice b T.length c] w fun e w' => e = .returned (.slice (some ⟨w.heap.size, 0, none⟩) T.length T.length) ∧ (∃ R, TabOwn w' w.heap.size w.heap.size R T T.length) ∧ Below w.heap.size w w' := by
  have hmk := run_make_rows T.length (by omega)
  have HT := Lib.hid hT
  have HM := Lib.hid hm
  clear hT hm
  go_enter Tryd.func15, Tryd.ntmps15
  go_wp2
  clear hmk
  go_loopw [4] (fun i wr => ∃ k : Int, 0 ≤ k ∧ k ≤ T.length ∧ i = .int .i64 k ∧ (∃ R, TabOwn wr w.heap.size w.heap.size R T k.toNat) ∧ Below w.heap.size w wr) (fun i _ => ((T.length : Int) - intOf i).toNat)
  case atStart => exact ⟨0, by omega, by omega, rfl, ⟨fun _ => 0, by rw [show (0 : Int).toNat = 0 from rfl, slTo_zero]; exact heap_alloc_new w _, Nat.le_refl _, fun j hj => absurd hj (by omega), fun j hj => absurd hj (by omega), fun i j _ hj => absurd hj (by omega)⟩, (Below.refl _ _).alloc (Nat.le_refl _) _⟩
  case round =>
    obtain ⟨k, k0, k1, rfl, ⟨R, hown⟩, hbel⟩ := hrel
    by_cases hk : k < T.length
    · obtain ⟨B, off, rfl, hc⟩ := (HT.out) (by intro e; rw [e] at hk; simp at hk; omega)
      obtain ⟨ra, rc, d0, r0⟩ := RdT.row hc k0 hk
      have d1 : wr.cell? ⟨B, off + k.toNat, none⟩ = some (.slice ra (rowAt T k).length rc) := by rw [hbel.cell (by exact block_lt_of_cell d0)]; exact d0
      have hm2 := HM.out k.toNat (by omega)
      rw [Int.toNat_of_nonneg k0] at hm2
      have R0 := Lib.hid (r0.below hbel)
      have hset := Lib.hid (slTo_set R T k.toNat wr.heap.size)
      clear hc d0 r0
      go_wp2_with (go_at_call 14; refine (toIntS_any _ _ (rowAt T k) _ R0.out hm2).mono ?_; rintro e w5 ⟨rfl, hrow, hb5⟩; have own5 := hown.below hb5; have cc : w5.cell? ⟨w.heap.size, k.toNat, none⟩ = some (.slice none 0 0) := (by rw [cell_of_row w5 _ _ _ _ _ own5.top, slTo_get _ _ _ _ (by omega), if_neg (by omega)]); have ff : w5.frozen? ⟨w.heap.size, k.toNat, none⟩ = false := frozen_of_row w5 _ _ _ _ own5.top)
      go_roundw
      case rel =>
        refine ⟨k + 1, by omega, by omega, rfl, ⟨fun i => if i = k.toNat then wr.heap.size else R i, ?_⟩, (hbel.trans (hb5.mono hbel.size)).setCell (by simp) _⟩
        have hzz := hown.lt
        have ek : (k + 1).toNat = k.toNat + 1 := by omega
        have er : rowAt T ((k.toNat : Nat) : Int) = rowAt T k := by rw [Int.toNat_of_nonneg k0]
        rw [ek]
        refine ⟨?_, Nat.le_refl _, fun j hj => ?_, fun j hj => ?_, fun i j hij hj => ?_⟩
        · rw [setCell_eq_setRow w5 _ _ _ _ _ _ own5.top, setRow_heap w5 _ _ _ _ _ own5.top]
          have := hset.out
          rw [er] at this
          rw [this]
        · show Row _ (if j = k.toNat then wr.heap.size else R j) (rowAt T j)
          by_cases e : j = k.toNat
          · rw [if_pos e, e, er]; exact hrow.other _ (by simp; omega)
          · rw [if_neg e]; exact (own5.row j (by omega)).other _ (by have := hown.up j (by omega); simp; omega)
        · show w.heap.size < (if j = k.toNat then wr.heap.size else R j)
          by_cases e : j = k.toNat
          · rw [if_pos e]; omega
          · rw [if_neg e]; exact hown.up j (by omega)
        · show (if i = k.toNat then wr.heap.size else R i) < (if j = k.toNat then wr.heap.size else R j)
          rw [if_neg (by omega)]
          by_cases e : j = k.toNat
          · rw [if_pos e]; exact (hown.row i (by omega)).lt
          · rw [if_neg e]; exact hown.inc i j hij (by omega)
      case measure => simp [intOf]; omega
    · have e : k.toNat = T.length := by omega
      rw [e] at hown
      go_wp2
      go_ret
      exact ⟨rfl, ⟨R, hown⟩, hbel⟩

set_option maxRecDepth 100000 in
set_option maxHeartbeats 2000000 in
/-- laws.toAlgebra: a copy in new memory -/
theorem toAlgebra_any (a b : Option Addr) (ca cb : Nat) (L : List Int) (T : List (List Int)) (w : World) (hr : Rd w a L) (hT : RdT w b T) (hL : L.length ≤ 1048576) (hn : T.length ≤ 1048576) (hm : ∀ j : Nat, j < T.length → (rowAt T j).length ≤ 1048576) :
    Calls Tryd.prog 6 #[.agg #[.slice a L.length ca, .slice b T.length cb]] w fun e w' => ∃ bu B R, e = .returned (.agg #[.slice (some ⟨bu, 0, none⟩) L.length L.length, .slice (some ⟨B, 0, none⟩) T.length T.length]) ∧ w.heap.size ≤ bu ∧ bu < B ∧ Row w' bu L ∧ TabOwn w' w.heap.size B R T T.length ∧ Below w.heap.size w w' := by
  obtain ⟨w1, hw1⟩ : ∃ w1, w1 = ((w.alloc (.cells #[.slice a L.length ca, .slice b T.length cb] 25)).alloc (.cells #[.slice none 0 0, .slice none 0 0] 28)).alloc (.cells #[.slice none 0 0, .slice none 0 0] 28) := ⟨_, rfl⟩
  have hB : Below w.heap.size w w1 := by rw [hw1]; exact (((Below.refl _ _).alloc (Nat.le_refl _) _).alloc (by simp) _).alloc (by simp; omega) _
  have hx : w1.heap[w.heap.size]? = some (.cells #[.slice a L.length ca, .slice b T.length cb] 25 (0, 0)) := by
    rw [hw1, Below.heap_alloc _ _ _ (by simp; omega), Below.heap_alloc _ _ _ (by simp)]; exact heap_alloc_new w _
  have hy : w1.heap[w.heap.size + 1]? = some (.cells #[.slice none 0 0, .slice none 0 0] 28 (0, 0)) := by
    rw [hw1, Below.heap_alloc _ _ _ (by simp)]; exact heap_alloc2_new _ _ _
  have hz : w1.heap[w.heap.size + 1 + 1]? = some (.cells #[.slice none 0 0, .slice none 0 0] 28 (0, 0)) := by
    have := heap_alloc_new ((w.alloc (.cells #[.slice a L.length ca, .slice b T.length cb] 25)).alloc (.cells #[.slice none 0 0, .slice none 0 0] 28)) (.cells #[.slice none 0 0, .slice none 0 0] 28)
    rw [hw1]; simpa using this
  obtain ⟨c0, c1⟩ := bxL_cells hx
  have R1 := Lib.hid (hr.below hB)
  have HT0 := Lib.hid hT
  have HM := Lib.hid hm
  have hsz : w.heap.size + 1 + 1 < w1.heap.size := lt_of_block hz
  have hlw := hB.size
  clear hr hT hm
  go_enter Tryd.func6, Tryd.ntmps6
  go_wp2_with (first
    | (rw [← hw1]; clear hw1)
    | (go_at_call 14; refine (toIntS_any _ _ L _ R1.out hL).mono ?_; rintro e w2 ⟨rfl, hrow, hb2⟩; obtain ⟨bu, hbu⟩ : ∃ bu, bu = w1.heap.size := ⟨_, rfl⟩; rw [← hbu] at hrow ⊢; have hbl : w1.heap.size ≤ bu := Nat.le_of_eq hbu.symm; clear hbu; have x2 := (hb2.block _ (lt_of_block hx)).trans hx; have y2 := (hb2.block _ (lt_of_block hy)).trans hy; have z2 := (hb2.block _ (lt_of_block hz)).trans hz; have B2 : Below w.heap.size w w2 := hB.trans (hb2.mono hB.size); clear hx hy hz c0 c1; obtain ⟨c0, c1⟩ := bxL_cells x2; obtain ⟨d0, d1⟩ := bx_cells z2; have g0 := frozen_of_row w2 _ 0 _ _ z2)
    | (obtain ⟨w3, hw3⟩ : ∃ w3, w3 = w2.setCell ⟨w.heap.size + 1 + 1, 0, none⟩ (.slice (some ⟨bu, 0, none⟩) L.length L.length) := ⟨_, rfl⟩; rw [← hw3]; have z3 : w3.heap[w.heap.size + 1 + 1]? = some (.cells #[.slice (some ⟨bu, 0, none⟩) L.length L.length, .slice none 0 0] 28 (0, 0)) := (by rw [hw3, setCell_eq_setRow _ _ _ _ _ _ _ z2]; exact setRow_heap _ _ _ _ _ _ z2); have y3 : w3.heap[w.heap.size + 1]? = some (.cells #[.slice none 0 0, .slice none 0 0] 28 (0, 0)) := (by rw [hw3, heap_setCell_other _ _ _ _ (by simp)]; exact y2); have x3 : w3.heap[w.heap.size]? = some (.cells #[.slice a L.length ca, .slice b T.length cb] 25 (0, 0)) := (by rw [hw3, heap_setCell_other _ _ _ _ (by simp; omega)]; exact x2); have r3 : Row w3 bu L := (by rw [hw3]; exact hrow.other _ (by simp; omega)); have B3 : Below w.heap.size w w3 := (by rw [hw3]; exact B2.setCell (by simp; omega) _); clear hw3 c0 c1 d0 d1 g0 x2 y2 z2; have c1 := (bxL_cells x3).2; have T3 := Lib.hid (HT0.out.below B3))
    | (go_at_call 15; refine (toIntSS_any _ _ T _ T3.out hn HM.out).mono ?_; rintro e w4 ⟨rfl, ⟨R, hown⟩, hb4⟩; obtain ⟨Bt, hBt⟩ : ∃ Bt, Bt = w3.heap.size := ⟨_, rfl⟩; rw [← hBt] at hown ⊢; have hbt : bu < Bt := (by rw [hBt]; exact r3.lt); have z4 := (hb4.block _ (lt_of_block z3)).trans z3; have y4 := (hb4.block _ (lt_of_block y3)).trans y3; have r4 := r3.below hb4 r3.lt; have B4 : Below w.heap.size w w4 := B3.trans (hb4.mono B3.size); have hlb : w.heap.size + 1 + 1 < Bt := (by rw [hBt]; exact lt_of_block z3); clear hBt; have d1 := (bx_cells z4).2; have g1 := frozen_of_row w4 _ 1 _ _ z4)
    | (obtain ⟨w5, hw5⟩ : ∃ w5, w5 = w4.setCell ⟨w.heap.size + 1 + 1, 1, none⟩ (.slice (some ⟨Bt, 0, none⟩) T.length T.length) := ⟨_, rfl⟩; rw [← hw5]; have z5 : w5.heap[w.heap.size + 1 + 1]? = some (.cells #[.slice (some ⟨bu, 0, none⟩) L.length L.length, .slice (some ⟨Bt, 0, none⟩) T.length T.length] 28 (0, 0)) := (by rw [hw5, setCell_eq_setRow _ _ _ _ _ _ _ z4]; exact setRow_heap _ _ _ _ _ _ z4); have y5 : w5.heap[w.heap.size + 1]? = some (.cells #[.slice none 0 0, .slice none 0 0] 28 (0, 0)) := (by rw [hw5, heap_setCell_other _ _ _ _ (by simp)]; exact y4); have r5 : Row w5 bu L := (by rw [hw5]; exact r4.other _ (by simp; omega)); have o5 : TabOwn w5 Bt Bt R T T.length := (by rw [hw5]; exact hown.other (by simp; omega) _); have B5 : Below w.heap.size w w5 := (by rw [hw5]; exact B4.setCell (by simp; omega) _); clear hw5 d1 g1)
    | (refine wpList_load_row_w rfl 28 _ rfl (w.heap.size + 1 + 1) rfl _ _ _ _ z5 Tryd.underlying28 rfl (size_Alg _ _) ?_)
    | (refine wpList_store_row rfl 28 _ _ rfl (w.heap.size + 1) #[.slice (some ⟨bu, 0, none⟩) L.length L.length, .slice (some ⟨Bt, 0, none⟩) T.length T.length] rfl rfl _ _ y5 (size_Alg _ _) rfl (one_sl2 _ _ _ _ _ _) ?_))
  refine bodyPost_ret (results_cell_row rfl _ _ (w.heap.size + 1) _ _ _ _ rfl (setRow_heap _ _ _ _ _ _ y5) Tryd.underlying28 rfl (size_Alg _ _)) rfl ?_
  exact ⟨bu, Bt, R, rfl, by omega, hbt, r5.rowOther _ (by omega), o5.rowOther (by omega) (by omega) _, below_setRow' B5 (by omega) _⟩
end Go.Proofs.YtipbjhjflbciiaaDoor

namespace Go.Proofs.YtipbjhjflbciiaaDoor
open Go.RowKit

/-- Nothing that was there has turned but the blocks from lo up to hi. -/
structure Mid (lo hi : Nat) (w w' : World) : Prop where
  os : w'.os = w.os
  tape : w'.tape = w.tape
  output : w'.output = w.output
  size : w.heap.size ≤ w'.heap.size
  block : ∀ k, k < w.heap.size → (k < lo ∨ hi ≤ k) → w'.heap[k]? = w.heap[k]?
section
variable {lo hi : Nat} {w w' : World}
theorem Mid.refl (lo hi : Nat) (w : World) : Mid lo hi w w := ⟨rfl, rfl, rfl, Nat.le_refl _, fun _ _ _ => rfl⟩
theorem Mid.trans {a b c : World} (h : Mid lo hi a b) (k : Mid lo hi b c) : Mid lo hi a c :=
  ⟨k.os.trans h.os, k.tape.trans h.tape, k.output.trans h.output, Nat.le_trans h.size k.size, fun i hi' hne => (k.block i (Nat.lt_of_lt_of_le hi' h.size) hne).trans (h.block i hi' hne)⟩
theorem Mid.wide {lo2 hi2 : Nat} (h : Mid lo hi w w') (h1 : lo2 ≤ lo) (h2 : hi ≤ hi2) : Mid lo2 hi2 w w' :=
  ⟨h.os, h.tape, h.output, h.size, fun k hk hn => h.block k hk (by omega)⟩
theorem Mid.setCell {a : World} (h : Mid lo hi a w) {p : Addr} (h1 : lo ≤ p.block) (h2 : p.block < hi) (v : Value) : Mid lo hi a (w.setCell p v) := by
  have hb : Below p.block w (w.setCell p v) := (Below.refl _ _).setCell (Nat.le_refl _) v
  exact ⟨hb.os.trans h.os, hb.tape.trans h.tape, hb.output.trans h.output, Nat.le_trans h.size hb.size, fun k hk hn => by rw [heap_setCell_other w p k v (by omega)]; exact h.block k hk hn⟩
theorem Mid.of {C : Nat} (h : Below C w w') (hC : w.heap.size ≤ C) : Mid lo hi w w' := ⟨h.os, h.tape, h.output, h.size, fun k hk _ => h.block k (by omega)⟩
theorem Mid.below (h : Mid lo hi w w') {C : Nat} (h1 : C ≤ lo) (h2 : C ≤ w.heap.size) : Below C w w' := ⟨h.os, h.tape, h.output, h.size, fun k hk => h.block k (by omega) (.inl (by omega))⟩
theorem Row.mid {b : Nat} {L : List Int} (h : Row w b L) (hm : Mid lo hi w w') (hb : b < lo ∨ hi ≤ b) : Row w' b L := (hm.block b h.lt hb).trans h
theorem Own.mid {B : Nat} {v : Value} {L : List Int} (h : Own B w v L) (hm : Mid lo hi w w') (hq : ∀ q, v.ownBlock = some q → q < lo ∨ hi ≤ q) : Own B w' v L := by
  obtain ⟨h1, h⟩ := h
  refine ⟨h1, ?_⟩
  rcases h with h | ⟨g, cap, cur, e1, e2, hg, e3, e4, e5, e6⟩
  · exact .inl h
  · exact .inr ⟨g, cap, cur, e1, e2, (hm.block g (lt_of_block hg) (hq g (by rw [e1]; rfl))).trans hg, e3, e4, e5, e6⟩
end

end Go.Proofs.YtipbjhjflbciiaaDoor
