import Derived.Test.YtljnbhnnjfnjeaaG11
import Derived.Test.YtljnbhnnjfnjeaaG3
import Derived.BigQuiet
import Derived.Deep.RegionWith
import Derived.Test.YtljnbhnnjfnjeaaL5
namespace Go.Proofs.Ytljnbhnnjfnjeaa
open Go.RowKit

theorem readTimes_is (b : Option Addr) (cb : Nat) (L : List Int) (T : List (List Int)) (w : World) (hT : RdT w b T) (n1 : 1 ≤ num L) (n6 : num L ≤ 6) {r : Bool} (hs : shapeB L T = r) :
    Calls Try.prog 71 #[.slice b T.length cb, .agg (latOf L)] w fun e w' => e = .returned (.tuple #[.agg (tab2 (iv (if r then timG L T else zeroI))), .bool r]) ∧ Below w.heap.size w w' := by
  have := readTimes_any b cb L T w hT n1 n6
  subst hs
  exact this
/-- a struct or an array is built, in a region that draws its order -/
theorem quiet_build {P : Program} {C : World → Prop} {o : Oper} {a : Act} {K : Act → Prop} (t : TypeId) (parts : Array (Nat × Operand)) (ho : o.op = .build t parts) (cells : Array Value)
    (hc : P.built t (parts.map fun (i, x) => (i, a.eval x)).toList = some cells) (h : K (a.put o.dst (.agg cells))) : o.quiet P a C K :=
  ⟨_, fun w _ => by
    unfold Oper.quietAt execOp
    simp only [ho, Sem.run_bind, run_build w t _ cells hc, Result.andThen_ok]
    exact ⟨rfl, rfl⟩, h⟩
theorem built_alg' {a : Act} {p0 p1 p2 : Operand} {n : Int} {g : Int → Int → Bool} {m j f i : Int → Int → Int} (h0 : a.eval p0 = .agg (latA n g m j)) (h1 : a.eval p1 = .agg (tab2 (iv f))) (h2 : a.eval p2 = .agg (tab2 (iv i))) :
    Try.prog.built 52 ((#[(0, p0), (1, p1), (2, p2)] : Array (Nat × Operand)).map fun ((i, x) : Nat × Operand) => (i, a.eval x)).toList = some (algA n g m j f i) := by
  have e : ((#[(0, p0), (1, p1), (2, p2)] : Array (Nat × Operand)).map fun ((i, x) : Nat × Operand) => (i, a.eval x)).toList = [(0, .agg (latA n g m j)), (1, .agg (tab2 (iv f))), (2, .agg (tab2 (iv i)))] := by simp [h0, h1, h2]
  exact (congrArg _ e).trans (built_alg n g m j f i)
set_option maxRecDepth 100000 in
set_option maxHeartbeats 2000000 in
theorem readAlgebra_shape (a b : Option Addr) (ca cb : Nat) (L : List Int) (T : List (List Int)) (w : World) (hr : Rd w a L) (hT : RdT w b T) (hlat : latB L = true) (hs : shapeB L T = false) :
    Calls Try.prog 46 #[.agg #[.slice a L.length ca, .slice b T.length cb]] w fun e w' => e = .returned (.tuple #[.agg zeroAlg, .bool false]) ∧ Below w.heap.size w w' := by
  have hB1 : Below w.heap.size w ((w.alloc (.cells #[.slice a L.length ca, .slice b T.length cb] 26)).alloc (.cells zeroAlg 52)) := ((Below.refl _ _).alloc (Nat.le_refl _) _).alloc (by simp) _
  have hr1 := hr.below hB1
  have hT1 := hT.below hB1
  have hz1 : ((w.alloc (.cells #[.slice a L.length ca, .slice b T.length cb] 26)).alloc (.cells zeroAlg 52)).heap[w.heap.size + 1]? = some (.cells zeroAlg 52 (0, 0)) := heap_alloc2_new _ _ _
  have hx1 : ((w.alloc (.cells #[.slice a L.length ca, .slice b T.length cb] 26)).alloc (.cells zeroAlg 52)).heap[w.heap.size]? = some (.cells #[.slice a L.length ca, .slice b T.length cb] 26 (0, 0)) := by rw [Below.heap_alloc _ _ _ (by simp)]; exact heap_alloc_new w _
  obtain ⟨n1, n6⟩ := lat_len hlat
  have n1' : 1 ≤ (L.length : Int) := n1
  have n6' : (L.length : Int) ≤ 6 := n6
  have HLAT := Lib.hid hlat
  have HS := Lib.hid hs
  clear hs hlat hr hT
  go_enter Try.func46, Try.ntmps46
  go_wp2_with (first
    | go_skip
    | (go_at_call 70; refine (readLattice_yes _ _ L _ hr1 HLAT.out).mono ?_; rintro e w2 ⟨rfl, h2⟩; have hz := (h2.block _ (lt_of_block hz1)).trans hz1; have hx := (h2.block _ (lt_of_block hx1)).trans hx1; have hB := hB1.trans (h2.mono hB1.size); have hT2 := hT1.below h2; clear h2)
    | (refine wpList_store_row rfl 50 _ _ rfl w2.heap.size (latOf L) rfl rfl _ _ (heap_alloc_new w2 (.cells zeroLat 50)) (size_lat _ _ _ _) rfl (one_lat _ _ _ _) ?_; rw [World.setRow_alloc_new]; obtain ⟨bl, hbl⟩ : ∃ bl, bl = w2.heap.size := ⟨_, rfl⟩; obtain ⟨w3, hw3⟩ : ∃ w3, w3 = w2.alloc (.cells (latOf L) 50) := ⟨_, rfl⟩; rw [← hw3, ← hbl]; have hL : LatAt w3 bl L := (by rw [hw3, hbl]; exact LatAt.new w2 L); have q3 : Below w2.heap.size w2 w3 := (by rw [hw3]; exact (Below.refl _ _).alloc (Nat.le_refl _) _); replace hz := (q3.block _ (lt_of_block hz)).trans hz; replace hx := (q3.block _ (lt_of_block hx)).trans hx; replace hB := hB.trans (q3.mono hB.size); have hT3 := hT2.below q3; obtain ⟨cx0, cx1⟩ := bx_cells hx; clear hw3 hbl q3 hT2)
    | (refine wpList_load_row_w rfl 50 _ rfl bl rfl _ _ _ _ hL Try.underlying50 rfl (size_lat _ _ _ _) ?_)
    | (go_at_call 71; refine (readTimes_is b cb L T _ hT3 n1 n6 HS.out).mono ?_; rintro e w4 ⟨rfl, h4⟩; replace hL := hL.below h4 hL.lt; replace hz := (h4.block _ (lt_of_block hz)).trans hz; replace hB := hB.trans (h4.mono hB.size); clear h4 cx0 cx1 hx hT3)
    | (refine wpList_store_row rfl 48 _ _ rfl w4.heap.size (tab2 (iv (zeroI))) rfl rfl _ _ (heap_alloc_new w4 (.cells (tab2 (iv zeroI)) 48)) (size_table _) rfl (one_iv _) ?_; rw [World.setRow_alloc_new]; obtain ⟨bt, hbt⟩ : ∃ bt, bt = w4.heap.size := ⟨_, rfl⟩; obtain ⟨w5, hw5⟩ : ∃ w5, w5 = w4.alloc (.cells (tab2 (iv (zeroI))) 48) := ⟨_, rfl⟩; rw [← hw5, ← hbt]; have ht : Blk w5 bt 48 (iv (zeroI)) := (by rw [hw5, hbt]; exact Blk.new w4 rfl); have q5 : Below w4.heap.size w4 w5 := (by rw [hw5]; exact (Below.refl _ _).alloc (Nat.le_refl _) _); replace hL := hL.below q5 hL.lt; replace hz := (q5.block _ (lt_of_block hz)).trans hz; replace hB := hB.trans (q5.mono hB.size); clear hw5 hbt q5)
    | (refine wpList_store_row rfl 52 _ _ rfl (w.heap.size + 1) zeroAlg rfl rfl _ _ hz size_zeroAlg rfl one_zeroAlg ?_))
  exact bodyPost_ret (v := .tuple #[.agg zeroAlg, .bool false]) (results_alg_tmp rfl _ _ (w.heap.size + 1) rfl _ (algA_size _ _ _ _ _ _) (setRow_heap _ _ _ _ _ _ hz) rfl) rfl ⟨rfl, below_setRow' hB (by omega) _⟩

set_option maxRecDepth 100000 in
set_option maxHeartbeats 2000000 in
theorem readAlgebra_laws (a b : Option Addr) (ca cb : Nat) (L : List Int) (T : List (List Int)) (w : World) (hr : Rd w a L) (hT : RdT w b T) (hlat : latB L = true) (hs : shapeB L T = true) (hre : areG L.length (timG L T) (tabJ L) = false) :
    Calls Try.prog 46 #[.agg #[.slice a L.length ca, .slice b T.length cb]] w fun e w' => e = .returned (.tuple #[.agg zeroAlg, .bool false]) ∧ Below w.heap.size w w' := by
  have hB1 : Below w.heap.size w ((w.alloc (.cells #[.slice a L.length ca, .slice b T.length cb] 26)).alloc (.cells zeroAlg 52)) := ((Below.refl _ _).alloc (Nat.le_refl _) _).alloc (by simp) _
  have hr1 := hr.below hB1
  have hT1 := hT.below hB1
  have hz1 : ((w.alloc (.cells #[.slice a L.length ca, .slice b T.length cb] 26)).alloc (.cells zeroAlg 52)).heap[w.heap.size + 1]? = some (.cells zeroAlg 52 (0, 0)) := heap_alloc2_new _ _ _
  have hx1 : ((w.alloc (.cells #[.slice a L.length ca, .slice b T.length cb] 26)).alloc (.cells zeroAlg 52)).heap[w.heap.size]? = some (.cells #[.slice a L.length ca, .slice b T.length cb] 26 (0, 0)) := by rw [Below.heap_alloc _ _ _ (by simp)]; exact heap_alloc_new w _
  obtain ⟨n1, n6⟩ := lat_len hlat
  have n1' : 1 ≤ (L.length : Int) := n1
  have n6' : (L.length : Int) ≤ 6 := n6
  have HLAT := Lib.hid hlat
  have FT := Lib.hid (fit_tim hs)
  have FJ := Lib.hid (fit_join hlat)
  have HR := Lib.hid hre
  clear hre
  have HS := Lib.hid hs
  clear hs hlat hr hT
  go_enter Try.func46, Try.ntmps46
  go_wp2_with (first
    | go_skip
    | (go_at_call 70; refine (readLattice_yes _ _ L _ hr1 HLAT.out).mono ?_; rintro e w2 ⟨rfl, h2⟩; have hz := (h2.block _ (lt_of_block hz1)).trans hz1; have hx := (h2.block _ (lt_of_block hx1)).trans hx1; have hB := hB1.trans (h2.mono hB1.size); have hT2 := hT1.below h2; clear h2)
    | (refine wpList_store_row rfl 50 _ _ rfl w2.heap.size (latOf L) rfl rfl _ _ (heap_alloc_new w2 (.cells zeroLat 50)) (size_lat _ _ _ _) rfl (one_lat _ _ _ _) ?_; rw [World.setRow_alloc_new]; obtain ⟨bl, hbl⟩ : ∃ bl, bl = w2.heap.size := ⟨_, rfl⟩; obtain ⟨w3, hw3⟩ : ∃ w3, w3 = w2.alloc (.cells (latOf L) 50) := ⟨_, rfl⟩; rw [← hw3, ← hbl]; have hL : LatAt w3 bl L := (by rw [hw3, hbl]; exact LatAt.new w2 L); have q3 : Below w2.heap.size w2 w3 := (by rw [hw3]; exact (Below.refl _ _).alloc (Nat.le_refl _) _); replace hz := (q3.block _ (lt_of_block hz)).trans hz; replace hx := (q3.block _ (lt_of_block hx)).trans hx; replace hB := hB.trans (q3.mono hB.size); have hT3 := hT2.below q3; obtain ⟨cx0, cx1⟩ := bx_cells hx; clear hw3 hbl q3 hT2)
    | (refine wpList_load_row_w rfl 50 _ rfl bl rfl _ _ _ _ hL Try.underlying50 rfl (size_lat _ _ _ _) ?_)
    | (go_at_call 71; refine (readTimes_is b cb L T _ hT3 n1 n6 HS.out).mono ?_; rintro e w4 ⟨rfl, h4⟩; replace hL := hL.below h4 hL.lt; replace hz := (h4.block _ (lt_of_block hz)).trans hz; replace hB := hB.trans (h4.mono hB.size); clear h4 cx0 cx1 hx hT3)
    | (refine wpList_store_row rfl 48 _ _ rfl w4.heap.size (tab2 (iv (timG L T))) rfl rfl _ _ (heap_alloc_new w4 (.cells (tab2 (iv zeroI)) 48)) (size_table _) rfl (one_iv _) ?_; rw [World.setRow_alloc_new]; obtain ⟨bt, hbt⟩ : ∃ bt, bt = w4.heap.size := ⟨_, rfl⟩; obtain ⟨w5, hw5⟩ : ∃ w5, w5 = w4.alloc (.cells (tab2 (iv (timG L T))) 48) := ⟨_, rfl⟩; rw [← hw5, ← hbt]; have ht : Blk w5 bt 48 (iv (timG L T)) := (by rw [hw5, hbt]; exact Blk.new w4 rfl); have q5 : Below w4.heap.size w4 w5 := (by rw [hw5]; exact (Below.refl _ _).alloc (Nat.le_refl _) _); replace hL := hL.below q5 hL.lt; replace hz := (q5.block _ (lt_of_block hz)).trans hz; replace hB := hB.trans (q5.mono hB.size); clear hw5 hbt q5)
    | (refine wpList_load_row_w rfl 48 _ rfl bt rfl _ _ _ _ ht.heap Try.underlying48 rfl (size_table _) ?_)
    | (go_at_call 72; refine (ret_below (areProducts_any (timG L T) L _ FT.out FJ.out n1' n6') HR.out).mono ?_; rintro e w6 ⟨rfl, h6⟩; replace hL := hL.below h6 hL.lt; replace ht := ht.below h6 ht.lt; replace hz := (h6.block _ (lt_of_block hz)).trans hz; replace hB := hB.trans (h6.mono hB.size); clear h6)
    | (refine wpList_store_row rfl 52 _ _ rfl (w.heap.size + 1) zeroAlg rfl rfl _ _ hz size_zeroAlg rfl one_zeroAlg ?_))
  exact bodyPost_ret (v := .tuple #[.agg zeroAlg, .bool false]) (results_alg_tmp rfl _ _ (w.heap.size + 1) rfl _ (algA_size _ _ _ _ _ _) (setRow_heap _ _ _ _ _ _ hz) rfl) rfl ⟨rfl, below_setRow' hB (by omega) _⟩

set_option maxRecDepth 100000 in
set_option maxHeartbeats 2000000 in
theorem readAlgebra_good (a b : Option Addr) (ca cb : Nat) (L : List Int) (T : List (List Int)) (w : World) (hr : Rd w a L) (hT : RdT w b T) (hlat : latB L = true) (hs : shapeB L T = true) (hre : areG L.length (timG L T) (tabJ L) = true) :
    Calls Try.prog 46 #[.agg #[.slice a L.length ca, .slice b T.length cb]] w fun e w' => e = .returned (.tuple #[.agg (algOf L T), .bool true]) ∧ Below w.heap.size w w' := by
  have hB1 : Below w.heap.size w ((w.alloc (.cells #[.slice a L.length ca, .slice b T.length cb] 26)).alloc (.cells zeroAlg 52)) := ((Below.refl _ _).alloc (Nat.le_refl _) _).alloc (by simp) _
  have hr1 := hr.below hB1
  have hT1 := hT.below hB1
  have hz1 : ((w.alloc (.cells #[.slice a L.length ca, .slice b T.length cb] 26)).alloc (.cells zeroAlg 52)).heap[w.heap.size + 1]? = some (.cells zeroAlg 52 (0, 0)) := heap_alloc2_new _ _ _
  have hx1 : ((w.alloc (.cells #[.slice a L.length ca, .slice b T.length cb] 26)).alloc (.cells zeroAlg 52)).heap[w.heap.size]? = some (.cells #[.slice a L.length ca, .slice b T.length cb] 26 (0, 0)) := by rw [Below.heap_alloc _ _ _ (by simp)]; exact heap_alloc_new w _
  obtain ⟨n1, n6⟩ := lat_len hlat
  have n1' : 1 ≤ (L.length : Int) := n1
  have n6' : (L.length : Int) ≤ 6 := n6
  have HLAT := Lib.hid hlat
  have FT := Lib.hid (fit_tim hs)
  have FJ := Lib.hid (fit_join hlat)
  have HR := Lib.hid hre
  clear hre
  have HS := Lib.hid hs
  clear hs hlat hr hT
  go_enter Try.func46, Try.ntmps46
  go_wp2_with (first
    | go_skip
    | (go_at_call 70; refine (readLattice_yes _ _ L _ hr1 HLAT.out).mono ?_; rintro e w2 ⟨rfl, h2⟩; have hz := (h2.block _ (lt_of_block hz1)).trans hz1; have hx := (h2.block _ (lt_of_block hx1)).trans hx1; have hB := hB1.trans (h2.mono hB1.size); have hT2 := hT1.below h2; clear h2)
    | (refine wpList_store_row rfl 50 _ _ rfl w2.heap.size (latOf L) rfl rfl _ _ (heap_alloc_new w2 (.cells zeroLat 50)) (size_lat _ _ _ _) rfl (one_lat _ _ _ _) ?_; rw [World.setRow_alloc_new]; obtain ⟨bl, hbl⟩ : ∃ bl, bl = w2.heap.size := ⟨_, rfl⟩; obtain ⟨w3, hw3⟩ : ∃ w3, w3 = w2.alloc (.cells (latOf L) 50) := ⟨_, rfl⟩; rw [← hw3, ← hbl]; have hL : LatAt w3 bl L := (by rw [hw3, hbl]; exact LatAt.new w2 L); have q3 : Below w2.heap.size w2 w3 := (by rw [hw3]; exact (Below.refl _ _).alloc (Nat.le_refl _) _); replace hz := (q3.block _ (lt_of_block hz)).trans hz; replace hx := (q3.block _ (lt_of_block hx)).trans hx; replace hB := hB.trans (q3.mono hB.size); have hT3 := hT2.below q3; obtain ⟨cx0, cx1⟩ := bx_cells hx; clear hw3 hbl q3 hT2)
    | (refine wpList_load_row_w rfl 50 _ rfl bl rfl _ _ _ _ hL Try.underlying50 rfl (size_lat _ _ _ _) ?_)
    | (go_at_call 71; refine (readTimes_is b cb L T _ hT3 n1 n6 HS.out).mono ?_; rintro e w4 ⟨rfl, h4⟩; replace hL := hL.below h4 hL.lt; replace hz := (h4.block _ (lt_of_block hz)).trans hz; replace hB := hB.trans (h4.mono hB.size); clear h4 cx0 cx1 hx hT3)
    | (refine wpList_store_row rfl 48 _ _ rfl w4.heap.size (tab2 (iv (timG L T))) rfl rfl _ _ (heap_alloc_new w4 (.cells (tab2 (iv zeroI)) 48)) (size_table _) rfl (one_iv _) ?_; rw [World.setRow_alloc_new]; obtain ⟨bt, hbt⟩ : ∃ bt, bt = w4.heap.size := ⟨_, rfl⟩; obtain ⟨w5, hw5⟩ : ∃ w5, w5 = w4.alloc (.cells (tab2 (iv (timG L T))) 48) := ⟨_, rfl⟩; rw [← hw5, ← hbt]; have ht : Blk w5 bt 48 (iv (timG L T)) := (by rw [hw5, hbt]; exact Blk.new w4 rfl); have q5 : Below w4.heap.size w4 w5 := (by rw [hw5]; exact (Below.refl _ _).alloc (Nat.le_refl _) _); replace hL := hL.below q5 hL.lt; replace hz := (q5.block _ (lt_of_block hz)).trans hz; replace hB := hB.trans (q5.mono hB.size); clear hw5 hbt q5)
    | (refine wpList_load_row_w rfl 48 _ rfl bt rfl _ _ _ _ ht.heap Try.underlying48 rfl (size_table _) ?_)
    | (go_at_call 72; refine (ret_below (areProducts_any (timG L T) L _ FT.out FJ.out n1' n6') HR.out).mono ?_; rintro e w6 ⟨rfl, h6⟩; replace hL := hL.below h6 hL.lt; replace ht := ht.below h6 ht.lt; replace hz := (h6.block _ (lt_of_block hz)).trans hz; replace hB := hB.trans (h6.mono hB.size); clear h6))
  refine region_tail 6 (Below w6.heap.size w6) (by kernel_rfl) (by kernel_rfl) (Dr.below ⟨1, rfl⟩ _) fun hne => ?_
  simp only [List.take_succ_cons, List.take_zero, List.drop_succ_cons, List.drop_zero]
  repeat (first
    | (go_big_quiet_want; refine quiet_load_row 50 _ rfl bl rfl _ _ _ _ (fun w' ⟨s, hs⟩ => by rw [hs]; exact hL.below s.h hL.lt) Try.underlying50 rfl (size_lat _ _ _ _) ?_; simp only [Act.put, List.setIfInBounds_toArray, List.set_cons_succ, List.set_cons_zero]; go_big_quiet_on)
    | (go_big_quiet_want; refine quiet_load_row 48 _ rfl bt rfl _ _ _ _ (fun w' ⟨s, hs⟩ => by rw [hs]; exact (ht.below s.h ht.lt).heap) Try.underlying48 rfl (size_table _) ?_; simp only [Act.put, List.setIfInBounds_toArray, List.set_cons_succ, List.set_cons_zero]; go_big_quiet_on)
    | (go_big_quiet_want; refine quiet_build 52 _ rfl (algOf L T) (built_alg' rfl rfl rfl) ?_; simp only [Act.put, List.setIfInBounds_toArray, List.set_cons_succ, List.set_cons_zero]; go_big_quiet_on)
    | go_big_quiet_step ((first | (go_at_call 73; exact in_below _ (Nat.le_refl _) (implications_any L T _ HLAT.out HS.out)))))
  refine wpQuiet_nil ?_
  intro s
  have hw2 := s.h
  obtain ⟨w7, hw2'⟩ : ∃ w7, w7 = s.w := ⟨_, rfl⟩
  rw [← hw2'] at hw2 ⊢
  clear hw2'
  replace hz := (hw2.block _ (lt_of_block hz)).trans hz
  replace hB := hB.trans (hw2.mono hB.size)
  go_wp2_with (refine wpList_store_row rfl 52 _ _ rfl (w.heap.size + 1) (algOf L T) rfl rfl _ _ hz (size_alg _ _ _ _ _ _) rfl (one_alg _ _ _ _ _ _) ?_)
  exact bodyPost_ret (v := .tuple #[.agg (algOf L T), .bool true]) (results_alg_tmp rfl _ _ (w.heap.size + 1) rfl _ (algA_size _ _ _ _ _ _) (setRow_heap _ _ _ _ _ _ hz) rfl) rfl ⟨rfl, below_setRow' hB (by omega) _⟩
end Go.Proofs.Ytljnbhnnjfnjeaa

namespace Go.Proofs.Ytljnbhnnjfnjeaa
open Go.RowKit

theorem readAlgebra_yes (a b : Option Addr) (ca cb : Nat) (L : List Int) (T : List (List Int)) (w : World) (hr : Rd w a L) (hT : RdT w b T) (h : algB L T = true) :
    Calls Try.prog 46 #[.agg #[.slice a L.length ca, .slice b T.length cb]] w fun e w' => e = .returned (.tuple #[.agg (algOf L T), .bool true]) ∧ Below w.heap.size w w' := by
  obtain ⟨h1, h2, h3⟩ := algB_parts h
  exact readAlgebra_good a b ca cb L T w hr hT h1 h2 (by rw [areG_eq h1 h2]; exact h3.all (Int.le_refl _))
theorem readAlgebra_no (a b : Option Addr) (ca cb : Nat) (L : List Int) (T : List (List Int)) (w : World) (hr : Rd w a L) (hT : RdT w b T) (h : algB L T = false) :
    Calls Try.prog 46 #[.agg #[.slice a L.length ca, .slice b T.length cb]] w fun e w' => e = .returned (.tuple #[.agg zeroAlg, .bool false]) ∧ Below w.heap.size w w' := by
  cases h1 : latB L with
  | false => exact readAlgebra_lat a b ca cb L T w hr h1
  | true =>
    cases h2 : shapeB L T with
    | false => exact readAlgebra_shape a b ca cb L T w hr hT h1 h2
    | true =>
      refine readAlgebra_laws a b ca cb L T w hr hT h1 h2 ?_
      rw [areG_eq h1 h2]
      unfold algB at h
      rw [h1, h2] at h
      exact h
/-- Block b holds the algebra that the numbers are read as. -/
def AlgAt (w : World) (b : Nat) (L : List Int) (T : List (List Int)) : Prop := w.heap[b]? = some (.cells (algOf L T) 52 (0, 0))
section
variable {w : World} {b : Nat} {L : List Int} {T : List (List Int)}
theorem AlgAt.lt (h : AlgAt w b L T) : b < w.heap.size := lt_of_block h
theorem AlgAt.below (h : AlgAt w b L T) {w' : World} {C : Nat} (hb : Below C w w') (hB : b < C) : AlgAt w' b L T := by
  unfold AlgAt; rw [hb.block b hB]; exact h
theorem AlgAt.dr (h : AlgAt w b L T) {w' : World} (hd : Dr w w') : AlgAt w' b L T := h.below (hd.below w.heap.size) h.lt
theorem AlgAt.new (w : World) (L : List Int) (T : List (List Int)) : AlgAt (w.alloc (.cells (algOf L T) 52)) w.heap.size L T := heap_alloc_new w _
theorem AlgAt.lat (h : AlgAt w b L T) : w.rangeAt b 0 (latOf L).toList := fun j v hv => by
  have hj : j < (latOf L).toList.length := (List.getElem?_eq_some_iff.1 hv).1
  rw [Nat.zero_add, cell_of_row w b _ _ _ _ h]
  unfold algOf algA
  rw [List.getElem?_toArray, List.getElem?_append_left (by simp only [List.length_append]; exact Nat.lt_of_lt_of_le hj (Nat.le_add_right _ _))]
  exact (List.getElem?_append_left (l₁ := (latOf L).toList) hj).trans hv
theorem AlgAt.part (h : AlgAt w b L T) (k : Nat) {v : Value} (hv : (latOf L)[k]? = some v) : w.cell? ⟨b, k, none⟩ = some v := by
  have := h.lat k v (by simpa using hv)
  rwa [Nat.zero_add] at this
theorem AlgAt.size (h : AlgAt w b L T) : w.cell? ⟨b, 0, none⟩ = some (.int .i64 L.length) := h.part 0 rfl
theorem AlgAt.g (h : AlgAt w b L T) {x y : Int} (x0 : 0 ≤ x) (x1 : x < 6) (y0 : 0 ≤ y) (y1 : y < 6) : w.cell? ⟨b, 1 + x.toNat * 6 + y.toNat, none⟩ = some (.bool (ordG L x y)) := h.part _ (latA_g _ _ _ _ x0 x1 y0 y1)
theorem AlgAt.m (h : AlgAt w b L T) {x y : Int} (x0 : 0 ≤ x) (x1 : x < 6) (y0 : 0 ≤ y) (y1 : y < 6) : w.cell? ⟨b, 37 + x.toNat * 6 + y.toNat, none⟩ = some (.int .i64 (tabM L x y)) := h.part _ (latA_m _ _ _ _ x0 x1 y0 y1)
theorem AlgAt.j (h : AlgAt w b L T) {x y : Int} (x0 : 0 ≤ x) (x1 : x < 6) (y0 : 0 ≤ y) (y1 : y < 6) : w.cell? ⟨b, 73 + x.toNat * 6 + y.toNat, none⟩ = some (.int .i64 (tabJ L x y)) := h.part _ (latA_j _ _ _ _ x0 x1 y0 y1)
theorem AlgAt.t (h : AlgAt w b L T) {x y : Int} (x0 : 0 ≤ x) (x1 : x < 6) (y0 : 0 ≤ y) (y1 : y < 6) : w.cell? ⟨b, 109 + x.toNat * 6 + y.toNat, none⟩ = some (.int .i64 (timG L T x y)) := by
  rw [cell_of_row w b _ _ _ _ h]
  have hg := tab2_get (iv (timG L T)) x0 x1 y0 y1
  unfold algOf algA
  have hl : (latA L.length (ordG L) (tabM L) (tabJ L)).toList.length = 109 := by simpa using latA_size L.length (ordG L) (tabM L) (tabJ L)
  rw [List.getElem?_toArray, List.getElem?_append_left (by rw [List.length_append, hl]; simp [tab2]; omega), List.getElem?_append_right (by rw [hl]; omega), hl, show 109 + x.toNat * 6 + y.toNat - 109 = x.toNat * 6 + y.toNat by omega, Array.getElem?_toList, hg]
  rfl
theorem AlgAt.i (h : AlgAt w b L T) {x y : Int} (x0 : 0 ≤ x) (x1 : x < 6) (y0 : 0 ≤ y) (y1 : y < 6) : w.cell? ⟨b, 145 + x.toNat * 6 + y.toNat, none⟩ = some (.int .i64 (impG L T x y)) := by
  rw [cell_of_row w b _ _ _ _ h]
  have hg := tab2_get (iv (impG L T)) x0 x1 y0 y1
  unfold algOf algA
  have hl : ((latA L.length (ordG L) (tabM L) (tabJ L)).toList ++ (tab2 (iv (timG L T))).toList).length = 145 := by
    have := latA_size L.length (ordG L) (tabM L) (tabJ L)
    rw [List.length_append, Array.length_toList, this]; simp [tab2]
  rw [List.getElem?_toArray, List.getElem?_append_right (by rw [hl]; omega), hl, show 145 + x.toNat * 6 + y.toNat - 145 = x.toNat * 6 + y.toNat by omega, Array.getElem?_toList, hg]
  rfl
end
theorem size_Alg (x y : Value) : (Try.prog.info? 26).map (·.size) = some (#[x, y] : Array Value).size := by
  have : (Try.prog.info? 26).map (·.size) = some 2 := by kernel_rfl
  rw [this]; rfl
theorem size_latOf (L : List Int) : (Try.prog.info? 50).map (·.size) = some (latOf L).size := size_lat _ _ _ _
/-- what impl.readAlgebraWith hands back -/
def awA (L : List Int) (T : List (List Int)) (r : Bool) : Array Value := if r then algOf L T else zeroAlg
def awB (L : List Int) (T : List (List Int)) (E : List Int) : Bool := algB L T && withB L E
set_option maxRecDepth 100000 in
set_option maxHeartbeats 2000000 in
theorem readAW_alg (a b a2 : Option Addr) (ca cb c2 : Nat) (L : List Int) (T : List (List Int)) (E : List Int) (w : World) (hr : Rd w a L) (hT : RdT w b T) (_hr2 : Rd w a2 E) (_hE : E.length ≤ 1048576) (ha : algB L T = false) :
    Calls Try.prog 29 #[.agg #[.slice a L.length ca, .slice b T.length cb], .slice a2 E.length c2] w fun e w' => e = .returned (.tuple #[.agg zeroAlg, .bool false]) ∧ Below w.heap.size w w' := by
  have hB1 : Below w.heap.size w ((w.alloc (.cells #[.slice a L.length ca, .slice b T.length cb] 26)).alloc (.cells zeroAlg 52)) := ((Below.refl _ _).alloc (Nat.le_refl _) _).alloc (by simp) _
  have hr1 := hr.below hB1
  have hT1 := hT.below hB1
  have hz1 : ((w.alloc (.cells #[.slice a L.length ca, .slice b T.length cb] 26)).alloc (.cells zeroAlg 52)).heap[w.heap.size + 1]? = some (.cells zeroAlg 52 (0, 0)) := heap_alloc2_new _ _ _
  have hx1 : ((w.alloc (.cells #[.slice a L.length ca, .slice b T.length cb] 26)).alloc (.cells zeroAlg 52)).heap[w.heap.size]? = some (.cells #[.slice a L.length ca, .slice b T.length cb] 26 (0, 0)) := by rw [Below.heap_alloc _ _ _ (by simp)]; exact heap_alloc_new w _
  have HA := Lib.hid ha
  clear hr hT ha
  go_enter Try.func29, Try.ntmps29
  go_wp2_with (first
    | go_skip
    | (refine wpList_load_row_w rfl 26 _ rfl w.heap.size rfl _ _ _ _ hx1 Try.underlying26 rfl (size_Alg _ _) ?_)
    | (go_at_call 46; refine (readAlgebra_no a b ca cb L T _ hr1 hT1 HA.out).mono ?_; rintro e w2 ⟨rfl, h2⟩; have hz := (h2.block _ (lt_of_block hz1)).trans hz1; have hB := hB1.trans (h2.mono hB1.size); clear h2)
    | (refine wpList_store_row rfl 52 _ _ rfl w2.heap.size zeroAlg rfl rfl _ _ (heap_alloc_new w2 (.cells zeroAlg 52)) size_zeroAlg rfl one_zeroAlg ?_; rw [World.setRow_alloc_new]; obtain ⟨bl, hbl⟩ : ∃ bl, bl = w2.heap.size := ⟨_, rfl⟩; obtain ⟨w3, hw3⟩ : ∃ w3, w3 = w2.alloc (.cells zeroAlg 52) := ⟨_, rfl⟩; rw [← hw3, ← hbl]; have q3 : Below w2.heap.size w2 w3 := (by rw [hw3]; exact (Below.refl _ _).alloc (Nat.le_refl _) _); replace hz := (q3.block _ (lt_of_block hz)).trans hz; replace hB := hB.trans (q3.mono hB.size); clear hw3 hbl q3)
    | (refine wpList_store_row rfl 52 _ _ rfl (w.heap.size + 1) zeroAlg rfl rfl _ _ hz size_zeroAlg rfl one_zeroAlg ?_))
  exact bodyPost_ret (v := .tuple #[.agg zeroAlg, .bool false]) (results_alg_tmp rfl _ _ (w.heap.size + 1) rfl _ (algA_size _ _ _ _ _ _) (setRow_heap _ _ _ _ _ _ hz) rfl) rfl ⟨rfl, below_setRow' hB (by omega) _⟩

set_option maxRecDepth 100000 in
set_option maxHeartbeats 2000000 in
theorem readAW_el (a b a2 : Option Addr) (ca cb c2 : Nat) (L : List Int) (T : List (List Int)) (E : List Int) (w : World) (hr : Rd w a L) (hT : RdT w b T) (hr2 : Rd w a2 E) (hE : E.length ≤ 1048576) (ha : algB L T = true) (hw : withB L E = false) :
    Calls Try.prog 29 #[.agg #[.slice a L.length ca, .slice b T.length cb], .slice a2 E.length c2] w fun e w' => e = .returned (.tuple #[.agg zeroAlg, .bool false]) ∧ Below w.heap.size w w' := by
  have hB1 : Below w.heap.size w ((w.alloc (.cells #[.slice a L.length ca, .slice b T.length cb] 26)).alloc (.cells zeroAlg 52)) := ((Below.refl _ _).alloc (Nat.le_refl _) _).alloc (by simp) _
  have hr1 := hr.below hB1
  have hT1 := hT.below hB1
  have hz1 : ((w.alloc (.cells #[.slice a L.length ca, .slice b T.length cb] 26)).alloc (.cells zeroAlg 52)).heap[w.heap.size + 1]? = some (.cells zeroAlg 52 (0, 0)) := heap_alloc2_new _ _ _
  have hx1 : ((w.alloc (.cells #[.slice a L.length ca, .slice b T.length cb] 26)).alloc (.cells zeroAlg 52)).heap[w.heap.size]? = some (.cells #[.slice a L.length ca, .slice b T.length cb] 26 (0, 0)) := by rw [Below.heap_alloc _ _ _ (by simp)]; exact heap_alloc_new w _
  have HW := Lib.hid hw
  clear hw
  have HA := Lib.hid ha
  clear hr hT ha
  go_enter Try.func29, Try.ntmps29
  go_wp2_with (first
    | go_skip
    | (refine wpList_load_row_w rfl 26 _ rfl w.heap.size rfl _ _ _ _ hx1 Try.underlying26 rfl (size_Alg _ _) ?_)
    | (go_at_call 46; refine (readAlgebra_yes a b ca cb L T _ hr1 hT1 HA.out).mono ?_; rintro e w2 ⟨rfl, h2⟩; have hz := (h2.block _ (lt_of_block hz1)).trans hz1; have hB := hB1.trans (h2.mono hB1.size); clear h2)
    | (refine wpList_store_row rfl 52 _ _ rfl w2.heap.size (algOf L T) rfl rfl _ _ (heap_alloc_new w2 (.cells zeroAlg 52)) (size_alg _ _ _ _ _ _) rfl (one_alg _ _ _ _ _ _) ?_; rw [World.setRow_alloc_new]; obtain ⟨bl, hbl⟩ : ∃ bl, bl = w2.heap.size := ⟨_, rfl⟩; obtain ⟨w3, hw3⟩ : ∃ w3, w3 = w2.alloc (.cells (algOf L T) 52) := ⟨_, rfl⟩; rw [← hw3, ← hbl]; have hA : AlgAt w3 bl L T := (by rw [hw3, hbl]; exact AlgAt.new w2 L T); have q3 : Below w2.heap.size w2 w3 := (by rw [hw3]; exact (Below.refl _ _).alloc (Nat.le_refl _) _); replace hz := (q3.block _ (lt_of_block hz)).trans hz; replace hB := hB.trans (q3.mono hB.size); clear hw3 hbl q3)
    | (refine wpList_load_mid_w rfl 50 _ rfl bl 0 rfl _ _ hA.lat Try.underlying50 rfl (size_latOf L) ?_)
    | (go_at_call 25; refine (ret_below (has_any a2 c2 L E _ (hr2.below hB) hE) HW.out).mono ?_; rintro e w4 ⟨rfl, h4⟩; replace hA := hA.below h4 hA.lt; replace hz := (h4.block _ (lt_of_block hz)).trans hz; replace hB := hB.trans (h4.mono hB.size); clear h4)
    | (refine wpList_store_row rfl 52 _ _ rfl (w.heap.size + 1) zeroAlg rfl rfl _ _ hz size_zeroAlg rfl one_zeroAlg ?_))
  exact bodyPost_ret (v := .tuple #[.agg zeroAlg, .bool false]) (results_alg_tmp rfl _ _ (w.heap.size + 1) rfl _ (algA_size _ _ _ _ _ _) (setRow_heap _ _ _ _ _ _ hz) rfl) rfl ⟨rfl, below_setRow' hB (by omega) _⟩

set_option maxRecDepth 100000 in
set_option maxHeartbeats 2000000 in
theorem readAW_yes (a b a2 : Option Addr) (ca cb c2 : Nat) (L : List Int) (T : List (List Int)) (E : List Int) (w : World) (hr : Rd w a L) (hT : RdT w b T) (hr2 : Rd w a2 E) (hE : E.length ≤ 1048576) (ha : algB L T = true) (hw : withB L E = true) :
    Calls Try.prog 29 #[.agg #[.slice a L.length ca, .slice b T.length cb], .slice a2 E.length c2] w fun e w' => e = .returned (.tuple #[.agg (algOf L T), .bool true]) ∧ Below w.heap.size w w' := by
  have hB1 : Below w.heap.size w ((w.alloc (.cells #[.slice a L.length ca, .slice b T.length cb] 26)).alloc (.cells zeroAlg 52)) := ((Below.refl _ _).alloc (Nat.le_refl _) _).alloc (by simp) _
  have hr1 := hr.below hB1
  have hT1 := hT.below hB1
  have hz1 : ((w.alloc (.cells #[.slice a L.length ca, .slice b T.length cb] 26)).alloc (.cells zeroAlg 52)).heap[w.heap.size + 1]? = some (.cells zeroAlg 52 (0, 0)) := heap_alloc2_new _ _ _
  have hx1 : ((w.alloc (.cells #[.slice a L.length ca, .slice b T.length cb] 26)).alloc (.cells zeroAlg 52)).heap[w.heap.size]? = some (.cells #[.slice a L.length ca, .slice b T.length cb] 26 (0, 0)) := by rw [Below.heap_alloc _ _ _ (by simp)]; exact heap_alloc_new w _
  have HW := Lib.hid hw
  clear hw
  have HA := Lib.hid ha
  clear hr hT ha
  go_enter Try.func29, Try.ntmps29
  go_wp2_with (first
    | go_skip
    | (refine wpList_load_row_w rfl 26 _ rfl w.heap.size rfl _ _ _ _ hx1 Try.underlying26 rfl (size_Alg _ _) ?_)
    | (go_at_call 46; refine (readAlgebra_yes a b ca cb L T _ hr1 hT1 HA.out).mono ?_; rintro e w2 ⟨rfl, h2⟩; have hz := (h2.block _ (lt_of_block hz1)).trans hz1; have hB := hB1.trans (h2.mono hB1.size); clear h2)
    | (refine wpList_store_row rfl 52 _ _ rfl w2.heap.size (algOf L T) rfl rfl _ _ (heap_alloc_new w2 (.cells zeroAlg 52)) (size_alg _ _ _ _ _ _) rfl (one_alg _ _ _ _ _ _) ?_; rw [World.setRow_alloc_new]; obtain ⟨bl, hbl⟩ : ∃ bl, bl = w2.heap.size := ⟨_, rfl⟩; obtain ⟨w3, hw3⟩ : ∃ w3, w3 = w2.alloc (.cells (algOf L T) 52) := ⟨_, rfl⟩; rw [← hw3, ← hbl]; have hA : AlgAt w3 bl L T := (by rw [hw3, hbl]; exact AlgAt.new w2 L T); have q3 : Below w2.heap.size w2 w3 := (by rw [hw3]; exact (Below.refl _ _).alloc (Nat.le_refl _) _); replace hz := (q3.block _ (lt_of_block hz)).trans hz; replace hB := hB.trans (q3.mono hB.size); clear hw3 hbl q3)
    | (refine wpList_load_mid_w rfl 50 _ rfl bl 0 rfl _ _ hA.lat Try.underlying50 rfl (size_latOf L) ?_)
    | (go_at_call 25; refine (ret_below (has_any a2 c2 L E _ (hr2.below hB) hE) HW.out).mono ?_; rintro e w4 ⟨rfl, h4⟩; replace hA := hA.below h4 hA.lt; replace hz := (h4.block _ (lt_of_block hz)).trans hz; replace hB := hB.trans (h4.mono hB.size); clear h4)
    | (refine wpList_load_row_w rfl 52 _ rfl bl rfl _ _ _ _ hA Try.underlying52 rfl (size_alg _ _ _ _ _ _) ?_)
    | (refine wpList_store_row rfl 52 _ _ rfl (w.heap.size + 1) (algOf L T) rfl rfl _ _ hz (size_alg _ _ _ _ _ _) rfl (one_alg _ _ _ _ _ _) ?_))
  exact bodyPost_ret (v := .tuple #[.agg (algOf L T), .bool true]) (results_alg_tmp rfl _ _ (w.heap.size + 1) rfl _ (algA_size _ _ _ _ _ _) (setRow_heap _ _ _ _ _ _ hz) rfl) rfl ⟨rfl, below_setRow' hB (by omega) _⟩

theorem readAW_no (a b a2 : Option Addr) (ca cb c2 : Nat) (L : List Int) (T : List (List Int)) (E : List Int) (w : World) (hr : Rd w a L) (hT : RdT w b T) (hr2 : Rd w a2 E) (hE : E.length ≤ 1048576) (h : awB L T E = false) :
    Calls Try.prog 29 #[.agg #[.slice a L.length ca, .slice b T.length cb], .slice a2 E.length c2] w fun e w' => e = .returned (.tuple #[.agg zeroAlg, .bool false]) ∧ Below w.heap.size w w' := by
  cases ha : algB L T with
  | false => exact readAW_alg a b a2 ca cb c2 L T E w hr hT hr2 hE ha
  | true =>
    unfold awB at h
    rw [ha, Bool.true_and] at h
    exact readAW_el a b a2 ca cb c2 L T E w hr hT hr2 hE ha h
end Go.Proofs.Ytljnbhnnjfnjeaa

namespace Go.Proofs.Ytljnbhnnjfnjeaa
open Go.RowKit

end Go.Proofs.Ytljnbhnnjfnjeaa

namespace Go.Proofs.Ytljnbhnnjfnjeaa
open Go.RowKit

/-- The cells of a row of slices: the first k are the rows, the others nil. -/
def slTo (R : Nat → Nat) (T : List (List Int)) (k : Nat) : Array Value :=
  ((List.range T.length).map fun (i : Nat) => if i < k then Value.slice (some ⟨R i, 0, none⟩) (rowAt T i).length (rowAt T i).length else Value.slice none 0 0).toArray
def slA (R : Nat → Nat) (T : List (List Int)) : Array Value := slTo R T T.length
theorem slTo_size (R : Nat → Nat) (T : List (List Int)) (k : Nat) : (slTo R T k).size = T.length := by simp [slTo]
theorem slTo_get (R : Nat → Nat) (T : List (List Int)) (k j : Nat) (h : j < T.length) : (slTo R T k)[j]? = some (if j < k then Value.slice (some ⟨R j, 0, none⟩) (rowAt T j).length (rowAt T j).length else Value.slice none 0 0) := by
  unfold slTo
  rw [List.getElem?_toArray, List.getElem?_map, List.getElem?_range h]
  rfl
theorem slTo_zero (R : Nat → Nat) (T : List (List Int)) : slTo R T 0 = (List.replicate T.length (Value.slice none 0 0)).toArray := by
  apply Array.ext
  · simp [slTo]
  · intro i h1 h2
    simp [slTo]
theorem slTo_set (R : Nat → Nat) (T : List (List Int)) (k b : Nat) : (slTo R T k).setIfInBounds k (.slice (some ⟨b, 0, none⟩) (rowAt T k).length (rowAt T k).length) = slTo (fun i => if i = k then b else R i) T (k + 1) := by
  apply Array.ext
  · simp [slTo]
  · intro i h1 h2
    rw [slTo_size] at h2
    rw [Array.getElem_setIfInBounds (by rw [slTo_size]; exact h2)]
    have a1 : ∀ R k, (slTo R T k)[i]'(by rw [slTo_size]; exact h2) = if i < k then Value.slice (some ⟨R i, 0, none⟩) (rowAt T i).length (rowAt T i).length else Value.slice none 0 0 := fun R k => by simp [slTo]
    rw [a1, a1]
    by_cases e : k = i
    · subst e; rw [if_pos rfl, if_pos (by omega), if_pos rfl]
    · rw [if_neg e]
      by_cases h3 : i < k
      · rw [if_pos h3, if_pos (by omega), if_neg (by omega)]
      · rw [if_neg h3, if_neg (by omega)]
/-- A table of the call's own: the block of its rows' slices, and a block for each row, later ones behind earlier ones. -/
structure TabOwn (w : World) (lo B : Nat) (R : Nat → Nat) (T : List (List Int)) (k : Nat) : Prop where
  top : w.heap[B]? = some (.cells (slTo R T k) 23 (0, 0))
  lo : lo ≤ B
  row : ∀ j, j < k → Row w (R j) (rowAt T j)
  up : ∀ j, j < k → B < R j
  inc : ∀ i j, i < j → j < k → R i < R j
section
variable {w w' : World} {lo B k : Nat} {R : Nat → Nat} {T : List (List Int)}
theorem Row.rowOther {b : Nat} {L : List Int} (h : Row w b L) {G : Nat} (cs : Array Value) (hp : b ≠ G) : Row (w.setRow G cs) b L := by
  unfold Row; rw [setRow_other w G b cs hp]; exact h
theorem TabOwn.lt (h : TabOwn w lo B R T k) : B < w.heap.size := lt_of_block h.top
theorem TabOwn.below (h : TabOwn w lo B R T k) (hb : Below w.heap.size w w') : TabOwn w' lo B R T k :=
  ⟨(hb.block _ h.lt).trans h.top, h.lo, fun j hj => (h.row j hj).below hb (h.row j hj).lt, h.up, h.inc⟩
theorem TabOwn.other (h : TabOwn w lo B R T k) {p : Addr} (hp : p.block < B) (v : Value) : TabOwn (w.setCell p v) lo B R T k :=
  ⟨by rw [heap_setCell_other w p B v (by omega)]; exact h.top, h.lo, fun j hj => (h.row j hj).other v (by have := h.up j hj; omega), h.up, h.inc⟩
theorem TabOwn.rowOther (h : TabOwn w lo B R T k) {G C : Nat} (hp : G < B) (hC : C ≤ lo) (cs : Array Value) : TabOwn (w.setRow G cs) C B R T k :=
  ⟨by rw [setRow_other w G B cs (by omega)]; exact h.top, Nat.le_trans hC h.lo, fun j hj => (h.row j hj).rowOther cs (by have := h.up j hj; omega), h.up, h.inc⟩
theorem TabOwn.rd (h : TabOwn w lo B R T T.length) : RdT w (some ⟨B, 0, none⟩) T := fun _ => ⟨B, 0, rfl, fun j hj => by
  refine ⟨some ⟨R j, 0, none⟩, (rowAt T j).length, ?_, (h.row j hj).rd⟩
  rw [Nat.zero_add, cell_of_row w B j _ _ _ h.top, slTo_get _ _ _ _ hj, if_pos hj]⟩
end
theorem one_sl2 (a b : Option Addr) (n c m d : Nat) : (#[.slice a n c, .slice b m d] : Array Value).all (·.oneCell') = true := by
  refine all_oneCell_toArray (cs := [.slice a n c, .slice b m d]) fun v hv => ?_
  simp only [List.mem_cons, List.not_mem_nil, or_false] at hv
  rcases hv with rfl | rfl <;> rfl
theorem info_ints : (Try.prog.info? 23).map (fun i => (i.zero, i.size, i.bytes)) = some (some (.slice none 0 0), 1, 24) := by kernel_rfl
theorem made_ints (n : Nat) : madeCells #[.slice none 0 0] n = (List.replicate n (Value.slice none 0 0)).toArray := by
  apply Array.ext
  · simp [madeCells]
  · intro i h1 h2
    simp [madeCells, Nat.mod_one]
theorem run_make_rows (n : Nat) (hn : n ≤ 16777216) (w : World) :
    (Instr.makeSlice 24 (.int .i64 n) (.int .i64 n)).run Try.prog w = .ok (.slice (some ⟨w.heap.size, 0, none⟩) n n) (w.alloc (.cells (List.replicate n (Value.slice none 0 0)).toArray 23)) := by
  obtain ⟨i0, hi, hz0, hz1, hz2⟩ := info_parts info_ints
  have := run_make (P := Try.prog) w 24 23 i0 (.slice none 0 0) Try.underlying24 hi hz0 .i64 .i64 n n (by omega) (Int.le_refl _) (by rw [hz2]; omega) (by omega)
  rw [this, hz1]
  simp [Value.cells, made_ints]

end Go.Proofs.Ytljnbhnnjfnjeaa

namespace Go.Proofs.Ytljnbhnnjfnjeaa
open Go.RowKit

/-- Nothing that was there has turned but the blocks from lo up to hi. -/
structure Mid (lo hi : Nat) (w w' : World) : Prop where
  os : w'.os = w.os
  tape : w'.tape = w.tape
  output : w'.output = w.output
  size : w.heap.size ≤ w'.heap.size
  block : ∀ k, k < w.heap.size → (k < lo ∨ hi ≤ k) → w'.heap[k]? = w.heap[k]?
section
variable {lo hi : Nat} {w w' : World}
theorem Mid.refl (lo hi : Nat) (w : World) : Mid lo hi w w := ⟨rfl, rfl, rfl, Nat.le_refl _, fun _ _ _ => rfl⟩
theorem Mid.trans {a b c : World} (h : Mid lo hi a b) (k : Mid lo hi b c) : Mid lo hi a c :=
  ⟨k.os.trans h.os, k.tape.trans h.tape, k.output.trans h.output, Nat.le_trans h.size k.size, fun i hi' hne => (k.block i (Nat.lt_of_lt_of_le hi' h.size) hne).trans (h.block i hi' hne)⟩
theorem Mid.wide {lo2 hi2 : Nat} (h : Mid lo hi w w') (h1 : lo2 ≤ lo) (h2 : hi ≤ hi2) : Mid lo2 hi2 w w' :=
  ⟨h.os, h.tape, h.output, h.size, fun k hk hn => h.block k hk (by omega)⟩
theorem Mid.setCell {a : World} (h : Mid lo hi a w) {p : Addr} (h1 : lo ≤ p.block) (h2 : p.block < hi) (v : Value) : Mid lo hi a (w.setCell p v) := by
  have hb : Below p.block w (w.setCell p v) := (Below.refl _ _).setCell (Nat.le_refl _) v
  exact ⟨hb.os.trans h.os, hb.tape.trans h.tape, hb.output.trans h.output, Nat.le_trans h.size hb.size, fun k hk hn => by rw [heap_setCell_other w p k v (by omega)]; exact h.block k hk hn⟩
theorem Mid.of {C : Nat} (h : Below C w w') (hC : w.heap.size ≤ C) : Mid lo hi w w' := ⟨h.os, h.tape, h.output, h.size, fun k hk _ => h.block k (by omega)⟩
theorem Mid.below (h : Mid lo hi w w') {C : Nat} (h1 : C ≤ lo) (h2 : C ≤ w.heap.size) : Below C w w' := ⟨h.os, h.tape, h.output, h.size, fun k hk => h.block k (by omega) (.inl (by omega))⟩
theorem Row.mid {b : Nat} {L : List Int} (h : Row w b L) (hm : Mid lo hi w w') (hb : b < lo ∨ hi ≤ b) : Row w' b L := (hm.block b h.lt hb).trans h
theorem Own.mid {B : Nat} {v : Value} {L : List Int} (h : Own B w v L) (hm : Mid lo hi w w') (hq : ∀ q, v.ownBlock = some q → q < lo ∨ hi ≤ q) : Own B w' v L := by
  obtain ⟨h1, h⟩ := h
  refine ⟨h1, ?_⟩
  rcases h with h | ⟨g, cap, cur, e1, e2, hg, e3, e4, e5, e6⟩
  · exact .inl h
  · exact .inr ⟨g, cap, cur, e1, e2, (hm.block g (lt_of_block hg) (hq g (by rw [e1]; rfl))).trans hg, e3, e4, e5, e6⟩
end

end Go.Proofs.Ytljnbhnnjfnjeaa
