import Derived.Test.YtpophjloedpcfaaGreatDoorG11
import Derived.Test.YtpophjloedpcfaaGreatDoorG3
import Derived.BigQuiet
import Derived.Deep.RegionWith
import Derived.Test.YtpophjloedpcfaaGreatDoorL5
namespace Go.Proofs.YtpophjloedpcfaaGreatDoor
open Go.RowKit

theorem readTimes_is (b : Option Addr) (cb : Nat) (L : List Int) (T : List (List Int)) (w : World) (hT : RdT w b T) (n1 : 1 ≤ num L) (n6 : num L ≤ 6) {r : Bool} (hs : shapeB L T = r) :
    Calls Tryz.prog 68 #[.slice b T.length cb, .agg (latOf L)] w fun e w' => e = .returned (.tuple #[.agg (tab2 (iv (if r then timG L T else zeroI))), .bool r]) ∧ Below w.heap.size w w' := by
  have := readTimes_any b cb L T w hT n1 n6
  subst hs
  exact this
/-- a struct or an array is built, in a region that draws its order -/
theorem quiet_build {P : Program} {C : World → Prop} {o : Oper} {a : Act} {K : Act → Prop} (t : TypeId) (parts : Array (Nat × Operand)) (ho : o.op = .build t parts) (cells : Array Value)
    (hc : P.built t (parts.map fun (i, x) => (i, a.eval x)).toList = some cells) (h : K (a.put o.dst (.agg cells))) : o.quiet P a C K :=
  ⟨_, fun w _ => by
    unfold Oper.quietAt execOp
    simp only [ho, Sem.run_bind, run_build w t _ cells hc, Result.andThen_ok]
    exact ⟨rfl, rfl⟩, h⟩
theorem built_alg' {a : Act} {p0 p1 p2 : Operand} {n : Int} {g : Int → Int → Bool} {m j f i : Int → Int → Int} (h0 : a.eval p0 = .agg (latA n g m j)) (h1 : a.eval p1 = .agg (tab2 (iv f))) (h2 : a.eval p2 = .agg (tab2 (iv i))) :
    Tryz.prog.built 61 ((#[(0, p0), (1, p1), (2, p2)] : Array (Nat × Operand)).map fun ((i, x) : Nat × Operand) => (i, a.eval x)).toList = some (algA n g m j f i) := by
  have e : ((#[(0, p0), (1, p1), (2, p2)] : Array (Nat × Operand)).map fun ((i, x) : Nat × Operand) => (i, a.eval x)).toList = [(0, .agg (latA n g m j)), (1, .agg (tab2 (iv f))), (2, .agg (tab2 (iv i)))] := by simp [h0, h1, h2]
  exact (congrArg _ e).trans (built_alg n g m j f i)
set_option maxRecDepth 100000 in
set_option maxHeartbeats 2000000 in
theorem readAlgebra_shape (a b : Option Addr) (ca cb : Nat) (L : List Int) (T : List (List Int)) (w : World) (hr : Rd w a L) (hT : RdT w b T) (hlat : latB L = true) (hs : shapeB L T = false) :
    Calls Tryz.prog 33 #[.agg #[.slice a L.length ca, .slice b T.length cb]] w fun e w' => e = .returned (.tuple #[.agg zeroAlg, .bool false]) ∧ Below w.heap.size w w' := by
  have hB1 : Below w.heap.size w ((w.alloc (.cells #[.slice a L.length ca, .slice b T.length cb] 26)).alloc (.cells zeroAlg 61)) := ((Below.refl _ _).alloc (Nat.le_refl _) _).alloc (by simp) _
  have hr1 := hr.below hB1
  have hT1 := hT.below hB1
  have hz1 : ((w.alloc (.cells #[.slice a L.length ca, .slice b T.length cb] 26)).alloc (.cells zeroAlg 61)).heap[w.heap.size + 1]? = some (.cells zeroAlg 61 (0, 0)) := heap_alloc2_new _ _ _
  have hx1 : ((w.alloc (.cells #[.slice a L.length ca, .slice b T.length cb] 26)).alloc (.cells zeroAlg 61)).heap[w.heap.size]? = some (.cells #[.slice a L.length ca, .slice b T.length cb] 26 (0, 0)) := by rw [Below.heap_alloc _ _ _ (by simp)]; exact heap_alloc_new w _
  obtain ⟨n1, n6⟩ := lat_len hlat
  have n1' : 1 ≤ (L.length : Int) := n1
  have n6' : (L.length : Int) ≤ 6 := n6
  have HLAT := Lib.hid hlat
  have HS := Lib.hid hs
  clear hs hlat hr hT
  go_enter Tryz.func33, Tryz.ntmps33
  go_wp2_with (first
    | go_skip
    | (go_at_call 67; refine (readLattice_yes _ _ L _ hr1 HLAT.out).mono ?_; rintro e w2 ⟨rfl, h2⟩; have hz := (h2.block _ (lt_of_block hz1)).trans hz1; have hx := (h2.block _ (lt_of_block hx1)).trans hx1; have hB := hB1.trans (h2.mono hB1.size); have hT2 := hT1.below h2; clear h2)
    | (refine wpList_store_row rfl 59 _ _ rfl w2.heap.size (latOf L) rfl rfl _ _ (heap_alloc_new w2 (.cells zeroLat 59)) (size_lat _ _ _ _) rfl (one_lat _ _ _ _) ?_; rw [World.setRow_alloc_new]; obtain ⟨bl, hbl⟩ : ∃ bl, bl = w2.heap.size := ⟨_, rfl⟩; obtain ⟨w3, hw3⟩ : ∃ w3, w3 = w2.alloc (.cells (latOf L) 59) := ⟨_, rfl⟩; rw [← hw3, ← hbl]; have hL : LatAt w3 bl L := (by rw [hw3, hbl]; exact LatAt.new w2 L); have q3 : Below w2.heap.size w2 w3 := (by rw [hw3]; exact (Below.refl _ _).alloc (Nat.le_refl _) _); replace hz := (q3.block _ (lt_of_block hz)).trans hz; replace hx := (q3.block _ (lt_of_block hx)).trans hx; replace hB := hB.trans (q3.mono hB.size); have hT3 := hT2.below q3; obtain ⟨cx0, cx1⟩ := bx_cells hx; clear hw3 hbl q3 hT2)
    | (refine wpList_load_row_w rfl 59 _ rfl bl rfl _ _ _ _ hL Tryz.underlying59 rfl (size_lat _ _ _ _) ?_)
    | (go_at_call 68; refine (readTimes_is b cb L T _ hT3 n1 n6 HS.out).mono ?_; rintro e w4 ⟨rfl, h4⟩; replace hL := hL.below h4 hL.lt; replace hz := (h4.block _ (lt_of_block hz)).trans hz; replace hB := hB.trans (h4.mono hB.size); clear h4 cx0 cx1 hx hT3)
    | (refine wpList_store_row rfl 57 _ _ rfl w4.heap.size (tab2 (iv (zeroI))) rfl rfl _ _ (heap_alloc_new w4 (.cells (tab2 (iv zeroI)) 57)) (size_table _) rfl (one_iv _) ?_; rw [World.setRow_alloc_new]; obtain ⟨bt, hbt⟩ : ∃ bt, bt = w4.heap.size := ⟨_, rfl⟩; obtain ⟨w5, hw5⟩ : ∃ w5, w5 = w4.alloc (.cells (tab2 (iv (zeroI))) 57) := ⟨_, rfl⟩; rw [← hw5, ← hbt]; have ht : Blk w5 bt 57 (iv (zeroI)) := (by rw [hw5, hbt]; exact Blk.new w4 rfl); have q5 : Below w4.heap.size w4 w5 := (by rw [hw5]; exact (Below.refl _ _).alloc (Nat.le_refl _) _); replace hL := hL.below q5 hL.lt; replace hz := (q5.block _ (lt_of_block hz)).trans hz; replace hB := hB.trans (q5.mono hB.size); clear hw5 hbt q5)
    | (refine wpList_store_row rfl 61 _ _ rfl (w.heap.size + 1) zeroAlg rfl rfl _ _ hz size_zeroAlg rfl one_zeroAlg ?_))
  exact bodyPost_ret (v := .tuple #[.agg zeroAlg, .bool false]) (results_alg_tmp rfl _ _ (w.heap.size + 1) rfl _ (algA_size _ _ _ _ _ _) (setRow_heap _ _ _ _ _ _ hz) rfl) rfl ⟨rfl, below_setRow' hB (by omega) _⟩

set_option maxRecDepth 100000 in
set_option maxHeartbeats 2000000 in
theorem readAlgebra_laws (a b : Option Addr) (ca cb : Nat) (L : List Int) (T : List (List Int)) (w : World) (hr : Rd w a L) (hT : RdT w b T) (hlat : latB L = true) (hs : shapeB L T = true) (hre : areG L.length (timG L T) (tabJ L) = false) :
    Calls Tryz.prog 33 #[.agg #[.slice a L.length ca, .slice b T.length cb]] w fun e w' => e = .returned (.tuple #[.agg zeroAlg, .bool false]) ∧ Below w.heap.size w w' := by
  have hB1 : Below w.heap.size w ((w.alloc (.cells #[.slice a L.length ca, .slice b T.length cb] 26)).alloc (.cells zeroAlg 61)) := ((Below.refl _ _).alloc (Nat.le_refl _) _).alloc (by simp) _
  have hr1 := hr.below hB1
  have hT1 := hT.below hB1
  have hz1 : ((w.alloc (.cells #[.slice a L.length ca, .slice b T.length cb] 26)).alloc (.cells zeroAlg 61)).heap[w.heap.size + 1]? = some (.cells zeroAlg 61 (0, 0)) := heap_alloc2_new _ _ _
  have hx1 : ((w.alloc (.cells #[.slice a L.length ca, .slice b T.length cb] 26)).alloc (.cells zeroAlg 61)).heap[w.heap.size]? = some (.cells #[.slice a L.length ca, .slice b T.length cb] 26 (0, 0)) := by rw [Below.heap_alloc _ _ _ (by simp)]; exact heap_alloc_new w _
  obtain ⟨n1, n6⟩ := lat_len hlat
  have n1' : 1 ≤ (L.length : Int) := n1
  have n6' : (L.length : Int) ≤ 6 := n6
  have HLAT := Lib.hid hlat
  have FT := Lib.hid (fit_tim hs)
  have FJ := Lib.hid (fit_join hlat)
  have HR := Lib.hid hre
  clear hre
  have HS := Lib.hid hs
  clear hs hlat hr hT
  go_enter Tryz.func33, Tryz.ntmps33
  go_wp2_with (first
    | go_skip
    | (go_at_call 67; refine (readLattice_yes _ _ L _ hr1 HLAT.out).mono ?_; rintro e w2 ⟨rfl, h2⟩; have hz := (h2.block _ (lt_of_block hz1)).trans hz1; have hx := (h2.block _ (lt_of_block hx1)).trans hx1; have hB := hB1.trans (h2.mono hB1.size); have hT2 := hT1.below h2; clear h2)
    | (refine wpList_store_row rfl 59 _ _ rfl w2.heap.size (latOf L) rfl rfl _ _ (heap_alloc_new w2 (.cells zeroLat 59)) (size_lat _ _ _ _) rfl (one_lat _ _ _ _) ?_; rw [World.setRow_alloc_new]; obtain ⟨bl, hbl⟩ : ∃ bl, bl = w2.heap.size := ⟨_, rfl⟩; obtain ⟨w3, hw3⟩ : ∃ w3, w3 = w2.alloc (.cells (latOf L) 59) := ⟨_, rfl⟩; rw [← hw3, ← hbl]; have hL : LatAt w3 bl L := (by rw [hw3, hbl]; exact LatAt.new w2 L); have q3 : Below w2.heap.size w2 w3 := (by rw [hw3]; exact (Below.refl _ _).alloc (Nat.le_refl _) _); replace hz := (q3.block _ (lt_of_block hz)).trans hz; replace hx := (q3.block _ (lt_of_block hx)).trans hx; replace hB := hB.trans (q3.mono hB.size); have hT3 := hT2.below q3; obtain ⟨cx0, cx1⟩ := bx_cells hx; clear hw3 hbl q3 hT2)
    | (refine wpList_load_row_w rfl 59 _ rfl bl rfl _ _ _ _ hL Tryz.underlying59 rfl (size_lat _ _ _ _) ?_)
    | (go_at_call 68; refine (readTimes_is b cb L T _ hT3 n1 n6 HS.out).mono ?_; rintro e w4 ⟨rfl, h4⟩; replace hL := hL.below h4 hL.lt; replace hz := (h4.block _ (lt_of_block hz)).trans hz; replace hB := hB.trans (h4.mono hB.size); clear h4 cx0 cx1 hx hT3)
    | (refine wpList_store_row rfl 57 _ _ rfl w4.heap.size (tab2 (iv (timG L T))) rfl rfl _ _ (heap_alloc_new w4 (.cells (tab2 (iv zeroI)) 57)) (size_table _) rfl (one_iv _) ?_; rw [World.setRow_alloc_new]; obtain ⟨bt, hbt⟩ : ∃ bt, bt = w4.heap.size := ⟨_, rfl⟩; obtain ⟨w5, hw5⟩ : ∃ w5, w5 = w4.alloc (.cells (tab2 (iv (timG L T))) 57) := ⟨_, rfl⟩; rw [← hw5, ← hbt]; have ht : Blk w5 bt 57 (iv (timG L T)) := (by rw [hw5, hbt]; exact Blk.new w4 rfl); have q5 : Below w4.heap.size w4 w5 := (by rw [hw5]; exact (Below.refl _ _).alloc (Nat.le_refl _) _); replace hL := hL.below q5 hL.lt; replace hz := (q5.block _ (lt_of_block hz)).trans hz; replace hB := hB.trans (q5.mono hB.size); clear hw5 hbt q5)
    | (refine wpList_load_row_w rfl 57 _ rfl bt rfl _ _ _ _ ht.heap Tryz.underlying57 rfl (size_table _) ?_)
    | (go_at_call 69; refine (ret_below (areProducts_any (timG L T) L _ FT.out FJ.out n1' n6') HR.out).mono ?_; rintro e w6 ⟨rfl, h6⟩; replace hL := hL.below h6 hL.lt; replace ht := ht.below h6 ht.lt; replace hz := (h6.block _ (lt_of_block hz)).trans hz; replace hB := hB.trans (h6.mono hB.size); clear h6)
    | (refine wpList_store_row rfl 61 _ _ rfl (w.heap.size + 1) zeroAlg rfl rfl _ _ hz size_zeroAlg rfl one_zeroAlg ?_))
  exact bodyPost_ret (v := .tuple #[.agg zeroAlg, .bool false]) (results_alg_tmp rfl _ _ (w.heap.size + 1) rfl _ (algA_size _ _ _ _ _ _) (setRow_heap _ _ _ _ _ _ hz) rfl) rfl ⟨rfl, below_setRow' hB (by omega) _⟩

set_option maxRecDepth 100000 in
set_option maxHeartbeats 2000000 in
theorem readAlgebra_good (a b : Option Addr) (ca cb : Nat) (L : List Int) (T : List (List Int)) (w : World) (hr : Rd w a L) (hT : RdT w b T) (hlat : latB L = true) (hs : shapeB L T = true) (hre : areG L.length (timG L T) (tabJ L) = true) :
    Calls Tryz.prog 33 #[.agg #[.slice a L.length ca, .slice b T.length cb]] w fun e w' => e = .returned (.tuple #[.agg (algOf L T), .bool true]) ∧ Below w.heap.size w w' := by
  have hB1 : Below w.heap.size w ((w.alloc (.cells #[.slice a L.length ca, .slice b T.length cb] 26)).alloc (.cells zeroAlg 61)) := ((Below.refl _ _).alloc (Nat.le_refl _) _).alloc (by simp) _
  have hr1 := hr.below hB1
  have hT1 := hT.below hB1
  have hz1 : ((w.alloc (.cells #[.slice a L.length ca, .slice b T.length cb] 26)).alloc (.cells zeroAlg 61)).heap[w.heap.size + 1]? = some (.cells zeroAlg 61 (0, 0)) := heap_alloc2_new _ _ _
  have hx1 : ((w.alloc (.cells #[.slice a L.length ca, .slice b T.length cb] 26)).alloc (.cells zeroAlg 61)).heap[w.heap.size]? = some (.cells #[.slice a L.length ca, .slice b T.length cb] 26 (0, 0)) := by rw [Below.heap_alloc _ _ _ (by simp)]; exact heap_alloc_new w _
  obtain ⟨n1, n6⟩ := lat_len hlat
  have n1' : 1 ≤ (L.length : Int) := n1
  have n6' : (L.length : Int) ≤ 6 := n6
  have HLAT := Lib.hid hlat
  have FT := Lib.hid (fit_tim hs)
  have FJ := Lib.hid (fit_join hlat)
  have HR := Lib.hid hre
  clear hre
  have HS := Lib.hid hs
  clear hs hlat hr hT
  go_enter Tryz.func33, Tryz.ntmps33
  go_wp2_with (first
    | go_skip
    | (go_at_call 67; refine (readLattice_yes _ _ L _ hr1 HLAT.out).mono ?_; rintro e w2 ⟨rfl, h2⟩; have hz := (h2.block _ (lt_of_block hz1)).trans hz1; have hx := (h2.block _ (lt_of_block hx1)).trans hx1; have hB := hB1.trans (h2.mono hB1.size); have hT2 := hT1.below h2; clear h2)
    | (refine wpList_store_row rfl 59 _ _ rfl w2.heap.size (latOf L) rfl rfl _ _ (heap_alloc_new w2 (.cells zeroLat 59)) (size_lat _ _ _ _) rfl (one_lat _ _ _ _) ?_; rw [World.setRow_alloc_new]; obtain ⟨bl, hbl⟩ : ∃ bl, bl = w2.heap.size := ⟨_, rfl⟩; obtain ⟨w3, hw3⟩ : ∃ w3, w3 = w2.alloc (.cells (latOf L) 59) := ⟨_, rfl⟩; rw [← hw3, ← hbl]; have hL : LatAt w3 bl L := (by rw [hw3, hbl]; exact LatAt.new w2 L); have q3 : Below w2.heap.size w2 w3 := (by rw [hw3]; exact (Below.refl _ _).alloc (Nat.le_refl _) _); replace hz := (q3.block _ (lt_of_block hz)).trans hz; replace hx := (q3.block _ (lt_of_block hx)).trans hx; replace hB := hB.trans (q3.mono hB.size); have hT3 := hT2.below q3; obtain ⟨cx0, cx1⟩ := bx_cells hx; clear hw3 hbl q3 hT2)
    | (refine wpList_load_row_w rfl 59 _ rfl bl rfl _ _ _ _ hL Tryz.underlying59 rfl (size_lat _ _ _ _) ?_)
    | (go_at_call 68; refine (readTimes_is b cb L T _ hT3 n1 n6 HS.out).mono ?_; rintro e w4 ⟨rfl, h4⟩; replace hL := hL.below h4 hL.lt; replace hz := (h4.block _ (lt_of_block hz)).trans hz; replace hB := hB.trans (h4.mono hB.size); clear h4 cx0 cx1 hx hT3)
    | (refine wpList_store_row rfl 57 _ _ rfl w4.heap.size (tab2 (iv (timG L T))) rfl rfl _ _ (heap_alloc_new w4 (.cells (tab2 (iv zeroI)) 57)) (size_table _) rfl (one_iv _) ?_; rw [World.setRow_alloc_new]; obtain ⟨bt, hbt⟩ : ∃ bt, bt = w4.heap.size := ⟨_, rfl⟩; obtain ⟨w5, hw5⟩ : ∃ w5, w5 = w4.alloc (.cells (tab2 (iv (timG L T))) 57) := ⟨_, rfl⟩; rw [← hw5, ← hbt]; have ht : Blk w5 bt 57 (iv (timG L T)) := (by rw [hw5, hbt]; exact Blk.new w4 rfl); have q5 : Below w4.heap.size w4 w5 := (by rw [hw5]; exact (Below.refl _ _).alloc (Nat.le_refl _) _); replace hL := hL.below q5 hL.lt; replace hz := (q5.block _ (lt_of_block hz)).trans hz; replace hB := hB.trans (q5.mono hB.size); clear hw5 hbt q5)
    | (refine wpList_load_row_w rfl 57 _ rfl bt rfl _ _ _ _ ht.heap Tryz.underlying57 rfl (size_table _) ?_)
    | (go_at_call 69; refine (ret_below (areProducts_any (timG L T) L _ FT.out FJ.out n1' n6') HR.out).mono ?_; rintro e w6 ⟨rfl, h6⟩; replace hL := hL.below h6 hL.lt; replace ht := ht.below h6 ht.lt; replace hz := (h6.block _ (lt_of_block hz)).trans hz; replace hB := hB.trans (h6.mono hB.size); clear h6))
  refine region_tail 6 (Below w6.heap.size w6) (by kernel_rfl) (by kernel_rfl) (Dr.below ⟨1, rfl⟩ _) fun hne => ?_
  simp only [List.take_succ_cons, List.take_zero, List.drop_succ_cons, List.drop_zero]
  repeat (first
    | (go_big_quiet_want; refine quiet_load_row 59 _ rfl bl rfl _ _ _ _ (fun w' ⟨s, hs⟩ => by rw [hs]; exact hL.below s.h hL.lt) Tryz.underlying59 rfl (size_lat _ _ _ _) ?_; simp only [Act.put, List.setIfInBounds_toArray, List.set_cons_succ, List.set_cons_zero]; go_big_quiet_on)
    | (go_big_quiet_want; refine quiet_load_row 57 _ rfl bt rfl _ _ _ _ (fun w' ⟨s, hs⟩ => by rw [hs]; exact (ht.below s.h ht.lt).heap) Tryz.underlying57 rfl (size_table _) ?_; simp only [Act.put, List.setIfInBounds_toArray, List.set_cons_succ, List.set_cons_zero]; go_big_quiet_on)
    | (go_big_quiet_want; refine quiet_build 61 _ rfl (algOf L T) (built_alg' rfl rfl rfl) ?_; simp only [Act.put, List.setIfInBounds_toArray, List.set_cons_succ, List.set_cons_zero]; go_big_quiet_on)
    | go_big_quiet_step ((first | (go_at_call 70; exact in_below _ (Nat.le_refl _) (implications_any L T _ HLAT.out HS.out)))))
  refine wpQuiet_nil ?_
  intro s
  have hw2 := s.h
  obtain ⟨w7, hw2'⟩ : ∃ w7, w7 = s.w := ⟨_, rfl⟩
  rw [← hw2'] at hw2 ⊢
  clear hw2'
  replace hz := (hw2.block _ (lt_of_block hz)).trans hz
  replace hB := hB.trans (hw2.mono hB.size)
  go_wp2_with (refine wpList_store_row rfl 61 _ _ rfl (w.heap.size + 1) (algOf L T) rfl rfl _ _ hz (size_alg _ _ _ _ _ _) rfl (one_alg _ _ _ _ _ _) ?_)
  exact bodyPost_ret (v := .tuple #[.agg (algOf L T), .bool true]) (results_alg_tmp rfl _ _ (w.heap.size + 1) rfl _ (algA_size _ _ _ _ _ _) (setRow_heap _ _ _ _ _ _ hz) rfl) rfl ⟨rfl, below_setRow' hB (by omega) _⟩
end Go.Proofs.YtpophjloedpcfaaGreatDoor

namespace Go.Proofs.YtpophjloedpcfaaGreatDoor
open Go.RowKit

theorem readAlgebra_yes (a b : Option Addr) (ca cb : Nat) (L : List Int) (T : List (List Int)) (w : World) (hr : Rd w a L) (hT : RdT w b T) (h : algB L T = true) :
    Calls Tryz.prog 33 #[.agg #[.slice a L.length ca, .slice b T.length cb]] w fun e w' => e = .returned (.tuple #[.agg (algOf L T), .bool true]) ∧ Below w.heap.size w w' := by
  obtain ⟨h1, h2, h3⟩ := algB_parts h
  exact readAlgebra_good a b ca cb L T w hr hT h1 h2 (by rw [areG_eq h1 h2]; exact h3.all (Int.le_refl _))
theorem readAlgebra_no (a b : Option Addr) (ca cb : Nat) (L : List Int) (T : List (List Int)) (w : World) (hr : Rd w a L) (hT : RdT w b T) (h : algB L T = false) :
    Calls Tryz.prog 33 #[.agg #[.slice a L.length ca, .slice b T.length cb]] w fun e w' => e = .returned (.tuple #[.agg zeroAlg, .bool false]) ∧ Below w.heap.size w w' := by
  cases h1 : latB L with
  | false => exact readAlgebra_lat a b ca cb L T w hr h1
  | true =>
    cases h2 : shapeB L T with
    | false => exact readAlgebra_shape a b ca cb L T w hr hT h1 h2
    | true =>
      refine readAlgebra_laws a b ca cb L T w hr hT h1 h2 ?_
      rw [areG_eq h1 h2]
      unfold algB at h
      rw [h1, h2] at h
      exact h
/-- Block b holds the algebra that the numbers are read as. -/
def AlgAt (w : World) (b : Nat) (L : List Int) (T : List (List Int)) : Prop := w.heap[b]? = some (.cells (algOf L T) 61 (0, 0))
section
variable {w : World} {b : Nat} {L : List Int} {T : List (List Int)}
theorem AlgAt.lt (h : AlgAt w b L T) : b < w.heap.size := lt_of_block h
theorem AlgAt.below (h : AlgAt w b L T) {w' : World} {C : Nat} (hb : Below C w w') (hB : b < C) : AlgAt w' b L T := by
  unfold AlgAt; rw [hb.block b hB]; exact h
theorem AlgAt.dr (h : AlgAt w b L T) {w' : World} (hd : Dr w w') : AlgAt w' b L T := h.below (hd.below w.heap.size) h.lt
theorem AlgAt.new (w : World) (L : List Int) (T : List (List Int)) : AlgAt (w.alloc (.cells (algOf L T) 61)) w.heap.size L T := heap_alloc_new w _
theorem AlgAt.lat (h : AlgAt w b L T) : w.rangeAt b 0 (latOf L).toList := fun j v hv => by
  have hj : j < (latOf L).toList.length := (List.getElem?_eq_some_iff.1 hv).1
  rw [Nat.zero_add, cell_of_row w b _ _ _ _ h]
  unfold algOf algA
  rw [List.getElem?_toArray, List.getElem?_append_left (by simp only [List.length_append]; exact Nat.lt_of_lt_of_le hj (Nat.le_add_right _ _))]
  exact (List.getElem?_append_left (l₁ := (latOf L).toList) hj).trans hv
theorem AlgAt.part (h : AlgAt w b L T) (k : Nat) {v : Value} (hv : (latOf L)[k]? = some v) : w.cell? ⟨b, k, none⟩ = some v := by
  have := h.lat k v (by simpa using hv)
  rwa [Nat.zero_add] at this
theorem AlgAt.size (h : AlgAt w b L T) : w.cell? ⟨b, 0, none⟩ = some (.int .i64 L.length) := h.part 0 rfl
theorem AlgAt.g (h : AlgAt w b L T) {x y : Int} (x0 : 0 ≤ x) (x1 : x < 6) (y0 : 0 ≤ y) (y1 : y < 6) : w.cell? ⟨b, 1 + x.toNat * 6 + y.toNat, none⟩ = some (.bool (ordG L x y)) := h.part _ (latA_g _ _ _ _ x0 x1 y0 y1)
theorem AlgAt.m (h : AlgAt w b L T) {x y : Int} (x0 : 0 ≤ x) (x1 : x < 6) (y0 : 0 ≤ y) (y1 : y < 6) : w.cell? ⟨b, 37 + x.toNat * 6 + y.toNat, none⟩ = some (.int .i64 (tabM L x y)) := h.part _ (latA_m _ _ _ _ x0 x1 y0 y1)
theorem AlgAt.j (h : AlgAt w b L T) {x y : Int} (x0 : 0 ≤ x) (x1 : x < 6) (y0 : 0 ≤ y) (y1 : y < 6) : w.cell? ⟨b, 73 + x.toNat * 6 + y.toNat, none⟩ = some (.int .i64 (tabJ L x y)) := h.part _ (latA_j _ _ _ _ x0 x1 y0 y1)
theorem AlgAt.t (h : AlgAt w b L T) {x y : Int} (x0 : 0 ≤ x) (x1 : x < 6) (y0 : 0 ≤ y) (y1 : y < 6) : w.cell? ⟨b, 109 + x.toNat * 6 + y.toNat, none⟩ = some (.int .i64 (timG L T x y)) := by
  rw [cell_of_row w b _ _ _ _ h]
  have hg := tab2_get (iv (timG L T)) x0 x1 y0 y1
  unfold algOf algA
  have hl : (latA L.length (ordG L) (tabM L) (tabJ L)).toList.length = 109 := by simpa using latA_size L.length (ordG L) (tabM L) (tabJ L)
  rw [List.getElem?_toArray, List.getElem?_append_left (by rw [List.length_append, hl]; simp [tab2]; omega), List.getElem?_append_right (by rw [hl]; omega), hl, show 109 + x.toNat * 6 + y.toNat - 109 = x.toNat * 6 + y.toNat by omega, Array.getElem?_toList, hg]
  rfl
theorem AlgAt.i (h : AlgAt w b L T) {x y : Int} (x0 : 0 ≤ x) (x1 : x < 6) (y0 : 0 ≤ y) (y1 : y < 6) : w.cell? ⟨b, 145 + x.toNat * 6 + y.toNat, none⟩ = some (.int .i64 (impG L T x y)) := by
  rw [cell_of_row w b _ _ _ _ h]
  have hg := tab2_get (iv (impG L T)) x0 x1 y0 y1
  unfold algOf algA
  have hl : ((latA L.length (ordG L) (tabM L) (tabJ L)).toList ++ (tab2 (iv (timG L T))).toList).length = 145 := by
    have := latA_size L.length (ordG L) (tabM L) (tabJ L)
    rw [List.length_append, Array.length_toList, this]; simp [tab2]
  rw [List.getElem?_toArray, List.getElem?_append_right (by rw [hl]; omega), hl, show 145 + x.toNat * 6 + y.toNat - 145 = x.toNat * 6 + y.toNat by omega, Array.getElem?_toList, hg]
  rfl
end
theorem size_Alg (x y : Value) : (Tryz.prog.info? 26).map (·.size) = some (#[x, y] : Array Value).size := by
  have : (Tryz.prog.info? 26).map (·.size) = some 2 := by kernel_rfl
  rw [this]; rfl
theorem size_latOf (L : List Int) : (Tryz.prog.info? 59).map (·.size) = some (latOf L).size := size_lat _ _ _ _
/-- what impl.readAlgebraWith hands back -/
def awA (L : List Int) (T : List (List Int)) (r : Bool) : Array Value := if r then algOf L T else zeroAlg
def awB (L : List Int) (T : List (List Int)) (E : List Int) : Bool := algB L T && withB L E
end Go.Proofs.YtpophjloedpcfaaGreatDoor

namespace Go.Proofs.YtpophjloedpcfaaGreatDoor
open Go.RowKit

theorem eqIntS_same (a1 a2 : Option Addr) (c1 c2 : Nat) (A : List Int) (w : World) (h1 : Rd w a1 A) (h2 : Rd w a2 A) (hm : A.length ≤ 1073741824) :
    Calls Tryz.prog 55 #[.slice a1 A.length c1, .slice a2 A.length c2] w fun e w' => e = .returned (.bool true) ∧ Dr w w' := by
  have h := eqIntS_any a1 a2 c1 c2 A A w h1 h2 hm
  rwa [show eqL A A = true from decide_eq_true rfl] at h
set_option maxRecDepth 100000 in
set_option maxHeartbeats 1000000 in
/-- laws.eqIntSS, of two that read the same -/
theorem eqIntSS_same (b1 b2 : Option Addr) (c1 c2 : Nat) (T : List (List Int)) (w : World) (h1 : RdT w b1 T) (h2 : RdT w b2 T) (hm : ∀ j : Nat, j < T.length → (rowAt T j).length ≤ 1073741824) (hn : T.length ≤ 1073741824) :
    Calls Tryz.prog 56 #[.slice b1 T.length c1, .slice b2 T.length c2] w fun e w' => e = .returned (.bool true) ∧ Dr w w' := by
  have hne : ((T.length : Int) != (T.length : Int)) = false := by simp
  have HM := Lib.hid hm
  have H1 := Lib.hid h1
  have H2 := Lib.hid h2
  clear hm h1 h2
  go_enter Tryz.func56, Tryz.ntmps56
  go_wp2
  go_loopw [5] (fun i wr => ∃ k : Int, 0 ≤ k ∧ k ≤ T.length ∧ i = .int .i64 k ∧ Dr w wr) (fun i _ => ((T.length : Int) - intOf i).toNat)
  case atStart => exact ⟨0, by omega, by omega, rfl, Dr.refl _⟩
  case round =>
    obtain ⟨k, k0, k1, rfl, hd⟩ := hrel
    by_cases hk : k < T.length
    · have hne2 : T ≠ [] := by intro e; rw [e] at hk; simp at hk; omega
      obtain ⟨B1, o1, rfl, q1⟩ := (H1.out.dr hd) hne2
      obtain ⟨B2, o2, rfl, q2⟩ := (H2.out.dr hd) hne2
      obtain ⟨ra1, rc1, d1, r1⟩ := RdT.row q1 k0 hk
      obtain ⟨ra2, rc2, d2, r2⟩ := RdT.row q2 k0 hk
      have hm2 := HM.out k.toNat (by omega)
      rw [Int.toNat_of_nonneg k0] at hm2
      have R1 := Lib.hid r1
      have R2 := Lib.hid r2
      have HM2 := Lib.hid hm2
      clear q1 q2 hne2 r1 r2 hm2
      go_wp2
      go_quiet (first | (go_at_call 55; exact q_dr (eqIntS_same _ _ _ _ _ _ (Dr.rd ⟨_, rfl⟩ R1.out) (Dr.rd ⟨_, rfl⟩ R2.out) HM2.out)))
      go_wp2
      go_roundw
      case rel => exact ⟨k + 1, by omega, by omega, rfl, hd.more _⟩
      case measure => simp [intOf]; omega
    · go_wp2
      go_ret
      exact ⟨rfl, hd⟩

set_option maxRecDepth 100000 in
set_option maxHeartbeats 1000000 in
/-- laws.eqAlgebra, of two that read the same -/
theorem eqAlgebra_same (a1 a2 b1 b2 : Option Addr) (ca1 ca2 cb1 cb2 : Nat) (L : List Int) (T : List (List Int)) (w : World) (h1 : Rd w a1 L) (h2 : Rd w a2 L) (t1 : RdT w b1 T) (t2 : RdT w b2 T) (hL : L.length ≤ 1073741824) (hm : ∀ j : Nat, j < T.length → (rowAt T j).length ≤ 1073741824) (hn : T.length ≤ 1073741824) :
    Calls Tryz.prog 20 #[.agg #[.slice a1 L.length ca1, .slice b1 T.length cb1], .agg #[.slice a2 L.length ca2, .slice b2 T.length cb2]] w fun e w' => e = .returned (.bool true) ∧ Below w.heap.size w w' := by
  obtain ⟨w1, hw1⟩ : ∃ w1, w1 = (w.alloc (.cells #[.slice a1 L.length ca1, .slice b1 T.length cb1] 26)).alloc (.cells #[.slice a2 L.length ca2, .slice b2 T.length cb2] 26) := ⟨_, rfl⟩
  have hB : Below w.heap.size w w1 := by rw [hw1]; exact ((Below.refl _ _).alloc (Nat.le_refl _) _).alloc (by simp) _
  have x1 : w1.heap[w.heap.size]? = some (.cells #[.slice a1 L.length ca1, .slice b1 T.length cb1] 26 (0, 0)) := by rw [hw1, Below.heap_alloc _ _ _ (by simp)]; exact heap_alloc_new w _
  have x2 : w1.heap[w.heap.size + 1]? = some (.cells #[.slice a2 L.length ca2, .slice b2 T.length cb2] 26 (0, 0)) := by rw [hw1]; exact heap_alloc2_new _ _ _
  obtain ⟨c0, c1⟩ := bx_cells x1
  obtain ⟨c2, c3⟩ := bx_cells x2
  have R1 := Lib.hid (h1.below hB)
  have R2 := Lib.hid (h2.below hB)
  have S1 := Lib.hid (t1.below hB)
  have S2 := Lib.hid (t2.below hB)
  have HM := Lib.hid hm
  clear h1 h2 t1 t2 hm x1 x2
  go_enter Tryz.func20, Tryz.ntmps20
  go_wp2_with (first
    | (rw [← hw1]; clear hw1)
    | (go_at_call 55; refine (eqIntS_same _ _ _ _ _ _ R1.out R2.out hL).mono ?_; rintro e w2 ⟨rfl, hd⟩; have c4 := hd.cell c1; have c5 := hd.cell c3)
    | (go_at_call 56; refine (eqIntSS_same _ _ _ _ _ _ (S1.out.dr hd) (S2.out.dr hd) HM.out hn).mono ?_; rintro e w3 ⟨rfl, hd2⟩))
  go_ret
  exact ⟨rfl, hB.trans ((hd.trans hd2).below _)⟩
end Go.Proofs.YtpophjloedpcfaaGreatDoor

namespace Go.Proofs.YtpophjloedpcfaaGreatDoor
open Go.RowKit

/-- The cells of a row of slices: the first k are the rows, the others nil. -/
def slTo (R : Nat → Nat) (T : List (List Int)) (k : Nat) : Array Value :=
  ((List.range T.length).map fun (i : Nat) => if i < k then Value.slice (some ⟨R i, 0, none⟩) (rowAt T i).length (rowAt T i).length else Value.slice none 0 0).toArray
def slA (R : Nat → Nat) (T : List (List Int)) : Array Value := slTo R T T.length
theorem slTo_size (R : Nat → Nat) (T : List (List Int)) (k : Nat) : (slTo R T k).size = T.length := by simp [slTo]
theorem slTo_get (R : Nat → Nat) (T : List (List Int)) (k j : Nat) (h : j < T.length) : (slTo R T k)[j]? = some (if j < k then Value.slice (some ⟨R j, 0, none⟩) (rowAt T j).length (rowAt T j).length else Value.slice none 0 0) := by
  unfold slTo
  rw [List.getElem?_toArray, List.getElem?_map, List.getElem?_range h]
  rfl
theorem slTo_zero (R : Nat → Nat) (T : List (List Int)) : slTo R T 0 = (List.replicate T.length (Value.slice none 0 0)).toArray := by
  apply Array.ext
  · simp [slTo]
  · intro i h1 h2
    simp [slTo]
theorem slTo_set (R : Nat → Nat) (T : List (List Int)) (k b : Nat) : (slTo R T k).setIfInBounds k (.slice (some ⟨b, 0, none⟩) (rowAt T k).length (rowAt T k).length) = slTo (fun i => if i = k then b else R i) T (k + 1) := by
  apply Array.ext
  · simp [slTo]
  · intro i h1 h2
    rw [slTo_size] at h2
    rw [Array.getElem_setIfInBounds (by rw [slTo_size]; exact h2)]
    have a1 : ∀ R k, (slTo R T k)[i]'(by rw [slTo_size]; exact h2) = if i < k then Value.slice (some ⟨R i, 0, none⟩) (rowAt T i).length (rowAt T i).length else Value.slice none 0 0 := fun R k => by simp [slTo]
    rw [a1, a1]
    by_cases e : k = i
    · subst e; rw [if_pos rfl, if_pos (by omega), if_pos rfl]
    · rw [if_neg e]
      by_cases h3 : i < k
      · rw [if_pos h3, if_pos (by omega), if_neg (by omega)]
      · rw [if_neg h3, if_neg (by omega)]
/-- A table of the call's own: the block of its rows' slices, and a block for each row, later ones behind earlier ones. -/
structure TabOwn (w : World) (lo B : Nat) (R : Nat → Nat) (T : List (List Int)) (k : Nat) : Prop where
  top : w.heap[B]? = some (.cells (slTo R T k) 23 (0, 0))
  lo : lo ≤ B
  row : ∀ j, j < k → Row w (R j) (rowAt T j)
  up : ∀ j, j < k → B < R j
  inc : ∀ i j, i < j → j < k → R i < R j
section
variable {w w' : World} {lo B k : Nat} {R : Nat → Nat} {T : List (List Int)}
theorem Row.rowOther {b : Nat} {L : List Int} (h : Row w b L) {G : Nat} (cs : Array Value) (hp : b ≠ G) : Row (w.setRow G cs) b L := by
  unfold Row; rw [setRow_other w G b cs hp]; exact h
theorem TabOwn.lt (h : TabOwn w lo B R T k) : B < w.heap.size := lt_of_block h.top
theorem TabOwn.below (h : TabOwn w lo B R T k) (hb : Below w.heap.size w w') : TabOwn w' lo B R T k :=
  ⟨(hb.block _ h.lt).trans h.top, h.lo, fun j hj => (h.row j hj).below hb (h.row j hj).lt, h.up, h.inc⟩
theorem TabOwn.other (h : TabOwn w lo B R T k) {p : Addr} (hp : p.block < B) (v : Value) : TabOwn (w.setCell p v) lo B R T k :=
  ⟨by rw [heap_setCell_other w p B v (by omega)]; exact h.top, h.lo, fun j hj => (h.row j hj).other v (by have := h.up j hj; omega), h.up, h.inc⟩
theorem TabOwn.rowOther (h : TabOwn w lo B R T k) {G C : Nat} (hp : G < B) (hC : C ≤ lo) (cs : Array Value) : TabOwn (w.setRow G cs) C B R T k :=
  ⟨by rw [setRow_other w G B cs (by omega)]; exact h.top, Nat.le_trans hC h.lo, fun j hj => (h.row j hj).rowOther cs (by have := h.up j hj; omega), h.up, h.inc⟩
theorem TabOwn.rd (h : TabOwn w lo B R T T.length) : RdT w (some ⟨B, 0, none⟩) T := fun _ => ⟨B, 0, rfl, fun j hj => by
  refine ⟨some ⟨R j, 0, none⟩, (rowAt T j).length, ?_, (h.row j hj).rd⟩
  rw [Nat.zero_add, cell_of_row w B j _ _ _ h.top, slTo_get _ _ _ _ hj, if_pos hj]⟩
end
theorem one_sl2 (a b : Option Addr) (n c m d : Nat) : (#[.slice a n c, .slice b m d] : Array Value).all (·.oneCell') = true := by
  refine all_oneCell_toArray (cs := [.slice a n c, .slice b m d]) fun v hv => ?_
  simp only [List.mem_cons, List.not_mem_nil, or_false] at hv
  rcases hv with rfl | rfl <;> rfl
theorem info_ints : (Tryz.prog.info? 23).map (fun i => (i.zero, i.size, i.bytes)) = some (some (.slice none 0 0), 1, 24) := by kernel_rfl
theorem made_ints (n : Nat) : madeCells #[.slice none 0 0] n = (List.replicate n (Value.slice none 0 0)).toArray := by
  apply Array.ext
  · simp [madeCells]
  · intro i h1 h2
    simp [madeCells, Nat.mod_one]
theorem run_make_rows (n : Nat) (hn : n ≤ 16777216) (w : World) :
    (Instr.makeSlice 24 (.int .i64 n) (.int .i64 n)).run Tryz.prog w = .ok (.slice (some ⟨w.heap.size, 0, none⟩) n n) (w.alloc (.cells (List.replicate n (Value.slice none 0 0)).toArray 23)) := by
  obtain ⟨i0, hi, hz0, hz1, hz2⟩ := info_parts info_ints
  have := run_make (P := Tryz.prog) w 24 23 i0 (.slice none 0 0) Tryz.underlying24 hi hz0 .i64 .i64 n n (by omega) (Int.le_refl _) (by rw [hz2]; omega) (by omega)
  rw [this, hz1]
  simp [Value.cells, made_ints]

end Go.Proofs.YtpophjloedpcfaaGreatDoor

namespace Go.Proofs.YtpophjloedpcfaaGreatDoor
open Go.RowKit

/-- Nothing that was there has turned but the blocks from lo up to hi. -/
structure Mid (lo hi : Nat) (w w' : World) : Prop where
  os : w'.os = w.os
  tape : w'.tape = w.tape
  output : w'.output = w.output
  size : w.heap.size ≤ w'.heap.size
  block : ∀ k, k < w.heap.size → (k < lo ∨ hi ≤ k) → w'.heap[k]? = w.heap[k]?
section
variable {lo hi : Nat} {w w' : World}
theorem Mid.refl (lo hi : Nat) (w : World) : Mid lo hi w w := ⟨rfl, rfl, rfl, Nat.le_refl _, fun _ _ _ => rfl⟩
theorem Mid.trans {a b c : World} (h : Mid lo hi a b) (k : Mid lo hi b c) : Mid lo hi a c :=
  ⟨k.os.trans h.os, k.tape.trans h.tape, k.output.trans h.output, Nat.le_trans h.size k.size, fun i hi' hne => (k.block i (Nat.lt_of_lt_of_le hi' h.size) hne).trans (h.block i hi' hne)⟩
theorem Mid.wide {lo2 hi2 : Nat} (h : Mid lo hi w w') (h1 : lo2 ≤ lo) (h2 : hi ≤ hi2) : Mid lo2 hi2 w w' :=
  ⟨h.os, h.tape, h.output, h.size, fun k hk hn => h.block k hk (by omega)⟩
theorem Mid.setCell {a : World} (h : Mid lo hi a w) {p : Addr} (h1 : lo ≤ p.block) (h2 : p.block < hi) (v : Value) : Mid lo hi a (w.setCell p v) := by
  have hb : Below p.block w (w.setCell p v) := (Below.refl _ _).setCell (Nat.le_refl _) v
  exact ⟨hb.os.trans h.os, hb.tape.trans h.tape, hb.output.trans h.output, Nat.le_trans h.size hb.size, fun k hk hn => by rw [heap_setCell_other w p k v (by omega)]; exact h.block k hk hn⟩
theorem Mid.of {C : Nat} (h : Below C w w') (hC : w.heap.size ≤ C) : Mid lo hi w w' := ⟨h.os, h.tape, h.output, h.size, fun k hk _ => h.block k (by omega)⟩
theorem Mid.below (h : Mid lo hi w w') {C : Nat} (h1 : C ≤ lo) (h2 : C ≤ w.heap.size) : Below C w w' := ⟨h.os, h.tape, h.output, h.size, fun k hk => h.block k (by omega) (.inl (by omega))⟩
theorem Row.mid {b : Nat} {L : List Int} (h : Row w b L) (hm : Mid lo hi w w') (hb : b < lo ∨ hi ≤ b) : Row w' b L := (hm.block b h.lt hb).trans h
theorem Own.mid {B : Nat} {v : Value} {L : List Int} (h : Own B w v L) (hm : Mid lo hi w w') (hq : ∀ q, v.ownBlock = some q → q < lo ∨ hi ≤ q) : Own B w' v L := by
  obtain ⟨h1, h⟩ := h
  refine ⟨h1, ?_⟩
  rcases h with h | ⟨g, cap, cur, e1, e2, hg, e3, e4, e5, e6⟩
  · exact .inl h
  · exact .inr ⟨g, cap, cur, e1, e2, (hm.block g (lt_of_block hg) (hq g (by rw [e1]; rfl))).trans hg, e3, e4, e5, e6⟩
end

set_option maxHeartbeats 1000000 in
/-- laws.markIntS of a block of its own -/
theorem markRow_any (b : Nat) (L : List Int) (k : Int) (w : World) (hr : Row w b L) (k0 : 0 ≤ k) (k1 : k ≤ 4611686018427387904) (hm : L.length ≤ 1073741824) :
    Calls Tryz.prog 57 #[.slice (some ⟨b, 0, none⟩) L.length L.length, .int .i64 k] w fun e w' => e = .returned (.int .i64 (k + L.length)) ∧ Row w' b (markL k L.length) ∧ Mid b (b + 1) w w' := by
  go_enter Tryz.func57, Tryz.ntmps57
  go_wp2
  go_loopw [1, 5] (fun m i wr => ∃ j : Int, 0 ≤ j ∧ j ≤ L.length ∧ i = .int .i64 j ∧ m = .int .i64 (k + j) ∧ Row wr b (markTo L k j.toNat) ∧ Mid b (b + 1) w wr) (fun _ i _ => ((L.length : Int) - intOf i).toNat)
  case atStart => exact ⟨0, by omega, by omega, rfl, by simp, hr, Mid.refl _ _ _⟩
  case round =>
    obtain ⟨j, j0, j1, rfl, rfl, ho, hg⟩ := hrel
    by_cases hj : j < L.length
    · have hlen := markTo_len L k j.toNat (by omega)
      have c0 := ho.cell j0 (by rw [hlen]; exact hj)
      have f0 := ho.free j.toNat
      have hse := Lib.hid (markTo_set L k j.toNat (by omega))
      clear hlen
      go_wp2
      go_roundw
      case rel =>
        have e := hse.out
        rw [Int.toNat_of_nonneg j0] at e
        exact ⟨j + 1, by omega, by omega, rfl, by rw [Int.add_assoc], by rw [show (j + 1).toNat = j.toNat + 1 by omega, ← e]; exact ho.set _ _, hg.setCell (Nat.le_refl _) (by simp) _⟩
      case measure => simp [intOf]; omega
    · have e : j = L.length := by omega
      subst e
      rw [Int.toNat_natCast, markTo_all] at ho
      go_wp2
      go_ret
      exact ⟨rfl, ho, hg⟩

set_option maxRecDepth 100000 in
set_option maxHeartbeats 1000000 in
/-- laws.markIntSS of a table of the call's own -/
theorem markIntSS_any (lo B : Nat) (R : Nat → Nat) (T : List (List Int)) (k : Int) (w : World) (hown : TabOwn w lo B R T T.length) (hi : Nat) (hR : ∀ j, j < T.length → R j < hi) (k0 : 0 ≤ k) (k1 : k ≤ 1099511627776) (hn : T.length ≤ 1048576) (hm : ∀ j : Nat, j < T.length → (rowAt T j).length ≤ 1048576) :
    Calls Tryz.prog 58 #[.slice (some ⟨B, 0, none⟩) T.length T.length, .int .i64 k] w fun e w' => (∃ v, e = .returned (.int .i64 v) ∧ k ≤ v) ∧ Mid (B + 1) hi w w' := by
  have HM := Lib.hid hm
  have HO := Lib.hid hown
  have HRR := Lib.hid hR
  clear hm hown hR
  go_enter Tryz.func58, Tryz.ntmps58
  go_wp2
  go_loopw [1, 5] (fun m i wr => ∃ j v : Int, 0 ≤ j ∧ j ≤ T.length ∧ i = .int .i64 j ∧ m = .int .i64 v ∧ k ≤ v ∧ v ≤ k + j * 1048576 ∧ (∀ i : Nat, j ≤ i → i < T.length → Row wr (R i) (rowAt T i)) ∧ Mid (B + 1) hi w wr) (fun _ i _ => ((T.length : Int) - intOf i).toNat)
  case atStart => exact ⟨0, k, by omega, by omega, rfl, rfl, by omega, by omega, fun i _ hi => HO.out.row i hi, Mid.refl _ _ _⟩
  case round =>
    obtain ⟨j, v, j0, j1, rfl, rfl, v0, v1, hrows, hg⟩ := hrel
    by_cases hj : j < T.length
    · have hrow := hrows j.toNat (by omega) (by omega)
      have hm2 := HM.out j.toNat (by omega)
      have hup := HO.out.up j.toNat (by omega)
      have hlt := HRR.out j.toNat (by omega)
      rw [Int.toNat_of_nonneg j0] at hrow hm2
      have c0 : wr.cell? ⟨B, j.toNat, none⟩ = some (.slice (some ⟨R j.toNat, 0, none⟩) (rowAt T j).length (rowAt T j).length) := by
        have ht := (hg.block B HO.out.lt (.inl (by omega))).trans HO.out.top
        rw [cell_of_row wr B _ _ _ _ ht, slTo_get _ _ _ _ (by omega), if_pos (by omega), Int.toNat_of_nonneg j0]
      have HR := Lib.hid hrows
      clear hrows
      go_wp2_with fail
      refine (markRow_any _ _ v wr hrow (by omega) (by omega) (by omega)).mono ?_
      rintro e w5 ⟨rfl, _, hm5⟩
      go_wp2
      go_roundw
      case rel =>
        refine ⟨j + 1, v + (rowAt T j).length, by omega, by omega, rfl, rfl, by omega, by omega, fun i hi hi2 => ?_, hg.trans (hm5.wide (by omega) (by omega))⟩
        refine (HR.out i (by omega) hi2).mid hm5 (.inr ?_)
        have := HO.out.inc j.toNat i (by omega) hi2
        omega
      case measure => simp [intOf]; omega
    · go_wp2
      go_ret
      exact ⟨⟨v, rfl, v0⟩, hg⟩

set_option maxRecDepth 100000 in
set_option maxHeartbeats 1000000 in
/-- laws.markAlgebra of an algebra of the call's own -/
theorem markAlgebra_any (bu lo B : Nat) (R : Nat → Nat) (L : List Int) (T : List (List Int)) (k : Int) (w : World) (hrow : Row w bu L) (hb : bu < B) (hown : TabOwn w lo B R T T.length) (hi : Nat) (hR : ∀ j, j < T.length → R j < hi) (hbi : bu < hi) (k0 : 0 ≤ k) (k1 : k ≤ 1073741824) (hL : L.length ≤ 1048576) (hn : T.length ≤ 1048576) (hm : ∀ j : Nat, j < T.length → (rowAt T j).length ≤ 1048576) :
    Calls Tryz.prog 21 #[.agg #[.slice (some ⟨bu, 0, none⟩) L.length L.length, .slice (some ⟨B, 0, none⟩) T.length T.length], .int .i64 k] w fun e w' => (∃ v, e = .returned (.int .i64 v) ∧ k ≤ v) ∧ Mid bu hi w w' := by
  obtain ⟨w1, hw1⟩ : ∃ w1, w1 = w.alloc (.cells #[.slice (some ⟨bu, 0, none⟩) L.length L.length, .slice (some ⟨B, 0, none⟩) T.length T.length] 26) := ⟨_, rfl⟩
  have hB : Below w.heap.size w w1 := by rw [hw1]; exact (Below.refl _ _).alloc (Nat.le_refl _) _
  have hx : w1.heap[w.heap.size]? = some (.cells #[.slice (some ⟨bu, 0, none⟩) L.length L.length, .slice (some ⟨B, 0, none⟩) T.length T.length] 26 (0, 0)) := by rw [hw1]; exact heap_alloc_new w _
  obtain ⟨c0, c1⟩ := bx_cells hx
  have row1 := hrow.below hB hrow.lt
  have own1 := hown.below hB
  have hlt := hrow.lt
  have hltB := hown.lt
  have HM := Lib.hid hm
  clear hm hrow hown
  go_enter Tryz.func21, Tryz.ntmps21
  go_wp2_with (rw [← hw1]; clear hw1)
  refine (markRow_any bu L k w1 row1 k0 (by omega) (by omega)).mono ?_
  rintro e w2 ⟨rfl, _, m2⟩
  have hx2 := (m2.block _ (lt_of_block hx) (.inr (by omega))).trans hx
  have own2 : TabOwn w2 lo B R T T.length := ⟨(m2.block _ own1.lt (.inr (by omega))).trans own1.top, own1.lo, fun j hj => (own1.row j hj).mid m2 (.inr (by have := own1.up j hj; omega)), own1.up, own1.inc⟩
  obtain ⟨d0, d1⟩ := bx_cells hx2
  go_wp2_with fail
  refine (markIntSS_any lo B R T _ w2 own2 hi hR (by omega) (by omega) hn HM.out).mono ?_
  rintro e w3 ⟨⟨v, rfl, hv⟩, m3⟩
  go_wp2
  go_ret
  have hs2 := m2.size
  have hs1 := hB.size
  have hs3 := m3.size
  refine ⟨⟨v, rfl, by omega⟩, m3.os.trans (m2.os.trans hB.os), m3.tape.trans (m2.tape.trans hB.tape), m3.output.trans (m2.output.trans hB.output), by omega, fun i hi2 hne => ?_⟩
  exact (m3.block i (by omega) (by omega)).trans ((m2.block i (by omega) (by omega)).trans (hB.block i hi2))
end Go.Proofs.YtpophjloedpcfaaGreatDoor
