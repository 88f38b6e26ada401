import Derived.Test.YtbellklaoecpbaaG1
namespace Go.Proofs.Ytbellklaoecpbaa
open Go.RowKit

theorem readTimes_is (b : Option Addr) (cb : Nat) (L : List Int) (T : List (List Int)) (w : World) (hT : RdT w b T) (n1 : 1 ≤ num L) (n6 : num L ≤ 6) {r : Bool} (hs : shapeB L T = r) :
    Calls Try.prog 109 #[.slice b T.length cb, .agg (latOf L)] w fun e w' => e = .returned (.tuple #[.agg (tab2 (iv (if r then timG L T else zeroI))), .bool r]) ∧ Below w.heap.size w w' := by
  have := readTimes_any b cb L T w hT n1 n6
  subst hs
  exact this
/-- a struct or an array is built, in a region that draws its order -/
theorem quiet_build {P : Program} {C : World → Prop} {o : Oper} {a : Act} {K : Act → Prop} (t : TypeId) (parts : Array (Nat × Operand)) (ho : o.op = .build t parts) (cells : Array Value)
    (hc : P.built t (parts.map fun (i, x) => (i, a.eval x)).toList = some cells) (h : K (a.put o.dst (.agg cells))) : o.quiet P a C K :=
  ⟨_, fun w _ => by
    unfold Oper.quietAt execOp
    simp only [ho, Sem.run_bind, run_build w t _ cells hc, Result.andThen_ok]
    exact ⟨rfl, rfl⟩, h⟩
theorem built_alg' {a : Act} {p0 p1 p2 : Operand} {n : Int} {g : Int → Int → Bool} {m j f i : Int → Int → Int} (h0 : a.eval p0 = .agg (latA n g m j)) (h1 : a.eval p1 = .agg (tab2 (iv f))) (h2 : a.eval p2 = .agg (tab2 (iv i))) :
    Try.prog.built 63 ((#[(0, p0), (1, p1), (2, p2)] : Array (Nat × Operand)).map fun ((i, x) : Nat × Operand) => (i, a.eval x)).toList = some (algA n g m j f i) := by
  have e : ((#[(0, p0), (1, p1), (2, p2)] : Array (Nat × Operand)).map fun ((i, x) : Nat × Operand) => (i, a.eval x)).toList = [(0, .agg (latA n g m j)), (1, .agg (tab2 (iv f))), (2, .agg (tab2 (iv i)))] := by simp [h0, h1, h2]
  exact (congrArg _ e).trans (built_alg n g m j f i)
set_option maxRecDepth 100000 in
set_option maxHeartbeats 2000000 in
theorem readAlgebra_shape (a b : Option Addr) (ca cb : Nat) (L : List Int) (T : List (List Int)) (w : World) (hr : Rd w a L) (hT : RdT w b T) (hlat : latB L = true) (hs : shapeB L T = false) :
    Calls Try.prog 66 #[.agg #[.slice a L.length ca, .slice b T.length cb]] w fun e w' => e = .returned (.tuple #[.agg zeroAlg, .bool false]) ∧ Below w.heap.size w w' := by
  have hB1 : Below w.heap.size w ((w.alloc (.cells #[.slice a L.length ca, .slice b T.length cb] 26)).alloc (.cells zeroAlg 63)) := ((Below.refl _ _).alloc (Nat.le_refl _) _).alloc (by simp) _
  have hr1 := hr.below hB1
  have hT1 := hT.below hB1
  have hz1 : ((w.alloc (.cells #[.slice a L.length ca, .slice b T.length cb] 26)).alloc (.cells zeroAlg 63)).heap[w.heap.size + 1]? = some (.cells zeroAlg 63 (0, 0)) := heap_alloc2_new _ _ _
  have hx1 : ((w.alloc (.cells #[.slice a L.length ca, .slice b T.length cb] 26)).alloc (.cells zeroAlg 63)).heap[w.heap.size]? = some (.cells #[.slice a L.length ca, .slice b T.length cb] 26 (0, 0)) := by rw [Below.heap_alloc _ _ _ (by simp)]; exact heap_alloc_new w _
  obtain ⟨n1, n6⟩ := lat_len hlat
  have n1' : 1 ≤ (L.length : Int) := n1
  have n6' : (L.length : Int) ≤ 6 := n6
  have HLAT := Lib.hid hlat
  have HS := Lib.hid hs
  clear hs hlat hr hT
  go_enter Try.func66, Try.ntmps66
  go_wp2_with (first
    | go_skip
    | (go_at_call 69; refine (readLattice_yes _ _ L _ hr1 HLAT.out).mono ?_; rintro e w2 ⟨rfl, h2⟩; have hz := (h2.block _ (lt_of_block hz1)).trans hz1; have hx := (h2.block _ (lt_of_block hx1)).trans hx1; have hB := hB1.trans (h2.mono hB1.size); have hT2 := hT1.below h2; clear h2)
    | (refine wpList_store_row rfl 61 _ _ rfl w2.heap.size (latOf L) rfl rfl _ _ (heap_alloc_new w2 (.cells zeroLat 61)) (size_lat _ _ _ _) rfl (one_lat _ _ _ _) ?_; rw [World.setRow_alloc_new]; obtain ⟨bl, hbl⟩ : ∃ bl, bl = w2.heap.size := ⟨_, rfl⟩; obtain ⟨w3, hw3⟩ : ∃ w3, w3 = w2.alloc (.cells (latOf L) 61) := ⟨_, rfl⟩; rw [← hw3, ← hbl]; have hL : LatAt w3 bl L := (by rw [hw3, hbl]; exact LatAt.new w2 L); have q3 : Below w2.heap.size w2 w3 := (by rw [hw3]; exact (Below.refl _ _).alloc (Nat.le_refl _) _); replace hz := (q3.block _ (lt_of_block hz)).trans hz; replace hx := (q3.block _ (lt_of_block hx)).trans hx; replace hB := hB.trans (q3.mono hB.size); have hT3 := hT2.below q3; obtain ⟨cx0, cx1⟩ := bx_cells hx; clear hw3 hbl q3 hT2)
    | (refine wpList_load_row_w rfl 61 _ rfl bl rfl _ _ _ _ hL Try.underlying61 rfl (size_lat _ _ _ _) ?_)
    | (go_at_call 109; refine (readTimes_is b cb L T _ hT3 n1 n6 HS.out).mono ?_; rintro e w4 ⟨rfl, h4⟩; replace hL := hL.below h4 hL.lt; replace hz := (h4.block _ (lt_of_block hz)).trans hz; replace hB := hB.trans (h4.mono hB.size); clear h4 cx0 cx1 hx hT3)
    | (refine wpList_store_row rfl 59 _ _ rfl w4.heap.size (tab2 (iv (zeroI))) rfl rfl _ _ (heap_alloc_new w4 (.cells (tab2 (iv zeroI)) 59)) (size_table _) rfl (one_iv _) ?_; rw [World.setRow_alloc_new]; obtain ⟨bt, hbt⟩ : ∃ bt, bt = w4.heap.size := ⟨_, rfl⟩; obtain ⟨w5, hw5⟩ : ∃ w5, w5 = w4.alloc (.cells (tab2 (iv (zeroI))) 59) := ⟨_, rfl⟩; rw [← hw5, ← hbt]; have ht : Blk w5 bt 59 (iv (zeroI)) := (by rw [hw5, hbt]; exact Blk.new w4 rfl); have q5 : Below w4.heap.size w4 w5 := (by rw [hw5]; exact (Below.refl _ _).alloc (Nat.le_refl _) _); replace hL := hL.below q5 hL.lt; replace hz := (q5.block _ (lt_of_block hz)).trans hz; replace hB := hB.trans (q5.mono hB.size); clear hw5 hbt q5)
    | (refine wpList_store_row rfl 63 _ _ rfl (w.heap.size + 1) zeroAlg rfl rfl _ _ hz size_zeroAlg rfl one_zeroAlg ?_))
  exact bodyPost_ret (v := .tuple #[.agg zeroAlg, .bool false]) (results_alg_tmp rfl _ _ (w.heap.size + 1) rfl _ (algA_size _ _ _ _ _ _) (setRow_heap _ _ _ _ _ _ hz) rfl) rfl ⟨rfl, below_setRow' hB (by omega) _⟩

set_option maxRecDepth 100000 in
set_option maxHeartbeats 2000000 in
theorem readAlgebra_laws (a b : Option Addr) (ca cb : Nat) (L : List Int) (T : List (List Int)) (w : World) (hr : Rd w a L) (hT : RdT w b T) (hlat : latB L = true) (hs : shapeB L T = true) (hre : areG L.length (timG L T) (tabJ L) = false) :
    Calls Try.prog 66 #[.agg #[.slice a L.length ca, .slice b T.length cb]] w fun e w' => e = .returned (.tuple #[.agg zeroAlg, .bool false]) ∧ Below w.heap.size w w' := by
  have hB1 : Below w.heap.size w ((w.alloc (.cells #[.slice a L.length ca, .slice b T.length cb] 26)).alloc (.cells zeroAlg 63)) := ((Below.refl _ _).alloc (Nat.le_refl _) _).alloc (by simp) _
  have hr1 := hr.below hB1
  have hT1 := hT.below hB1
  have hz1 : ((w.alloc (.cells #[.slice a L.length ca, .slice b T.length cb] 26)).alloc (.cells zeroAlg 63)).heap[w.heap.size + 1]? = some (.cells zeroAlg 63 (0, 0)) := heap_alloc2_new _ _ _
  have hx1 : ((w.alloc (.cells #[.slice a L.length ca, .slice b T.length cb] 26)).alloc (.cells zeroAlg 63)).heap[w.heap.size]? = some (.cells #[.slice a L.length ca, .slice b T.length cb] 26 (0, 0)) := by rw [Below.heap_alloc _ _ _ (by simp)]; exact heap_alloc_new w _
  obtain ⟨n1, n6⟩ := lat_len hlat
  have n1' : 1 ≤ (L.length : Int) := n1
  have n6' : (L.length : Int) ≤ 6 := n6
  have HLAT := Lib.hid hlat
  have FT := Lib.hid (fit_tim hs)
  have FJ := Lib.hid (fit_join hlat)
  have HR := Lib.hid hre
  clear hre
  have HS := Lib.hid hs
  clear hs hlat hr hT
  go_enter Try.func66, Try.ntmps66
  go_wp2_with (first
    | go_skip
    | (go_at_call 69; refine (readLattice_yes _ _ L _ hr1 HLAT.out).mono ?_; rintro e w2 ⟨rfl, h2⟩; have hz := (h2.block _ (lt_of_block hz1)).trans hz1; have hx := (h2.block _ (lt_of_block hx1)).trans hx1; have hB := hB1.trans (h2.mono hB1.size); have hT2 := hT1.below h2; clear h2)
    | (refine wpList_store_row rfl 61 _ _ rfl w2.heap.size (latOf L) rfl rfl _ _ (heap_alloc_new w2 (.cells zeroLat 61)) (size_lat _ _ _ _) rfl (one_lat _ _ _ _) ?_; rw [World.setRow_alloc_new]; obtain ⟨bl, hbl⟩ : ∃ bl, bl = w2.heap.size := ⟨_, rfl⟩; obtain ⟨w3, hw3⟩ : ∃ w3, w3 = w2.alloc (.cells (latOf L) 61) := ⟨_, rfl⟩; rw [← hw3, ← hbl]; have hL : LatAt w3 bl L := (by rw [hw3, hbl]; exact LatAt.new w2 L); have q3 : Below w2.heap.size w2 w3 := (by rw [hw3]; exact (Below.refl _ _).alloc (Nat.le_refl _) _); replace hz := (q3.block _ (lt_of_block hz)).trans hz; replace hx := (q3.block _ (lt_of_block hx)).trans hx; replace hB := hB.trans (q3.mono hB.size); have hT3 := hT2.below q3; obtain ⟨cx0, cx1⟩ := bx_cells hx; clear hw3 hbl q3 hT2)
    | (refine wpList_load_row_w rfl 61 _ rfl bl rfl _ _ _ _ hL Try.underlying61 rfl (size_lat _ _ _ _) ?_)
    | (go_at_call 109; refine (readTimes_is b cb L T _ hT3 n1 n6 HS.out).mono ?_; rintro e w4 ⟨rfl, h4⟩; replace hL := hL.below h4 hL.lt; replace hz := (h4.block _ (lt_of_block hz)).trans hz; replace hB := hB.trans (h4.mono hB.size); clear h4 cx0 cx1 hx hT3)
    | (refine wpList_store_row rfl 59 _ _ rfl w4.heap.size (tab2 (iv (timG L T))) rfl rfl _ _ (heap_alloc_new w4 (.cells (tab2 (iv zeroI)) 59)) (size_table _) rfl (one_iv _) ?_; rw [World.setRow_alloc_new]; obtain ⟨bt, hbt⟩ : ∃ bt, bt = w4.heap.size := ⟨_, rfl⟩; obtain ⟨w5, hw5⟩ : ∃ w5, w5 = w4.alloc (.cells (tab2 (iv (timG L T))) 59) := ⟨_, rfl⟩; rw [← hw5, ← hbt]; have ht : Blk w5 bt 59 (iv (timG L T)) := (by rw [hw5, hbt]; exact Blk.new w4 rfl); have q5 : Below w4.heap.size w4 w5 := (by rw [hw5]; exact (Below.refl _ _).alloc (Nat.le_refl _) _); replace hL := hL.below q5 hL.lt; replace hz := (q5.block _ (lt_of_block hz)).trans hz; replace hB := hB.trans (q5.mono hB.size); clear hw5 hbt q5)
    | (refine wpList_load_row_w rfl 59 _ rfl bt rfl _ _ _ _ ht.heap Try.underlying59 rfl (size_table _) ?_)
    | (go_at_call 110; refine (ret_below (areProducts_any (timG L T) L _ FT.out FJ.out n1' n6') HR.out).mono ?_; rintro e w6 ⟨rfl, h6⟩; replace hL := hL.below h6 hL.lt; replace ht := ht.below h6 ht.lt; replace hz := (h6.block _ (lt_of_block hz)).trans hz; replace hB := hB.trans (h6.mono hB.size); clear h6)
    | (refine wpList_store_row rfl 63 _ _ rfl (w.heap.size + 1) zeroAlg rfl rfl _ _ hz size_zeroAlg rfl one_zeroAlg ?_))
  exact bodyPost_ret (v := .tuple #[.agg zeroAlg, .bool false]) (results_alg_tmp rfl _ _ (w.heap.size + 1) rfl _ (algA_size _ _ _ _ _ _) (setRow_heap _ _ _ _ _ _ hz) rfl) rfl ⟨rfl, below_setRow' hB (by omega) _⟩

set_option maxRecDepth 100000 in
set_option maxHeartbeats 2000000 in
theorem readAlgebra_good (a b : Option Addr) (ca cb : Nat) (L : List Int) (T : List (List Int)) (w : World) (hr : Rd w a L) (hT : RdT w b T) (hlat : latB L = true) (hs : shapeB L T = true) (hre : areG L.length (timG L T) (tabJ L) = true) :
    Calls Try.prog 66 #[.agg #[.slice a L.length ca, .slice b T.length cb]] w fun e w' => e = .returned (.tuple #[.agg (algOf L T), .bool true]) ∧ Below w.heap.size w w' := by
  have hB1 : Below w.heap.size w ((w.alloc (.cells #[.slice a L.length ca, .slice b T.length cb] 26)).alloc (.cells zeroAlg 63)) := ((Below.refl _ _).alloc (Nat.le_refl _) _).alloc (by simp) _
  have hr1 := hr.below hB1
  have hT1 := hT.below hB1
  have hz1 : ((w.alloc (.cells #[.slice a L.length ca, .slice b T.length cb] 26)).alloc (.cells zeroAlg 63)).heap[w.heap.size + 1]? = some (.cells zeroAlg 63 (0, 0)) := heap_alloc2_new _ _ _
  have hx1 : ((w.alloc (.cells #[.slice a L.length ca, .slice b T.length cb] 26)).alloc (.cells zeroAlg 63)).heap[w.heap.size]? = some (.cells #[.slice a L.length ca, .slice b T.length cb] 26 (0, 0)) := by rw [Below.heap_alloc _ _ _ (by simp)]; exact heap_alloc_new w _
  obtain ⟨n1, n6⟩ := lat_len hlat
  have n1' : 1 ≤ (L.length : Int) := n1
  have n6' : (L.length : Int) ≤ 6 := n6
  have HLAT := Lib.hid hlat
  have FT := Lib.hid (fit_tim hs)
  have FJ := Lib.hid (fit_join hlat)
  have HR := Lib.hid hre
  clear hre
  have HS := Lib.hid hs
  clear hs hlat hr hT
  go_enter Try.func66, Try.ntmps66
  go_wp2_with (first
    | go_skip
    | (go_at_call 69; refine (readLattice_yes _ _ L _ hr1 HLAT.out).mono ?_; rintro e w2 ⟨rfl, h2⟩; have hz := (h2.block _ (lt_of_block hz1)).trans hz1; have hx := (h2.block _ (lt_of_block hx1)).trans hx1; have hB := hB1.trans (h2.mono hB1.size); have hT2 := hT1.below h2; clear h2)
    | (refine wpList_store_row rfl 61 _ _ rfl w2.heap.size (latOf L) rfl rfl _ _ (heap_alloc_new w2 (.cells zeroLat 61)) (size_lat _ _ _ _) rfl (one_lat _ _ _ _) ?_; rw [World.setRow_alloc_new]; obtain ⟨bl, hbl⟩ : ∃ bl, bl = w2.heap.size := ⟨_, rfl⟩; obtain ⟨w3, hw3⟩ : ∃ w3, w3 = w2.alloc (.cells (latOf L) 61) := ⟨_, rfl⟩; rw [← hw3, ← hbl]; have hL : LatAt w3 bl L := (by rw [hw3, hbl]; exact LatAt.new w2 L); have q3 : Below w2.heap.size w2 w3 := (by rw [hw3]; exact (Below.refl _ _).alloc (Nat.le_refl _) _); replace hz := (q3.block _ (lt_of_block hz)).trans hz; replace hx := (q3.block _ (lt_of_block hx)).trans hx; replace hB := hB.trans (q3.mono hB.size); have hT3 := hT2.below q3; obtain ⟨cx0, cx1⟩ := bx_cells hx; clear hw3 hbl q3 hT2)
    | (refine wpList_load_row_w rfl 61 _ rfl bl rfl _ _ _ _ hL Try.underlying61 rfl (size_lat _ _ _ _) ?_)
    | (go_at_call 109; refine (readTimes_is b cb L T _ hT3 n1 n6 HS.out).mono ?_; rintro e w4 ⟨rfl, h4⟩; replace hL := hL.below h4 hL.lt; replace hz := (h4.block _ (lt_of_block hz)).trans hz; replace hB := hB.trans (h4.mono hB.size); clear h4 cx0 cx1 hx hT3)
    | (refine wpList_store_row rfl 59 _ _ rfl w4.heap.size (tab2 (iv (timG L T))) rfl rfl _ _ (heap_alloc_new w4 (.cells (tab2 (iv zeroI)) 59)) (size_table _) rfl (one_iv _) ?_; rw [World.setRow_alloc_new]; obtain ⟨bt, hbt⟩ : ∃ bt, bt = w4.heap.size := ⟨_, rfl⟩; obtain ⟨w5, hw5⟩ : ∃ w5, w5 = w4.alloc (.cells (tab2 (iv (timG L T))) 59) := ⟨_, rfl⟩; rw [← hw5, ← hbt]; have ht : Blk w5 bt 59 (iv (timG L T)) := (by rw [hw5, hbt]; exact Blk.new w4 rfl); have q5 : Below w4.heap.size w4 w5 := (by rw [hw5]; exact (Below.refl _ _).alloc (Nat.le_refl _) _); replace hL := hL.below q5 hL.lt; replace hz := (q5.block _ (lt_of_block hz)).trans hz; replace hB := hB.trans (q5.mono hB.size); clear hw5 hbt q5)
    | (refine wpList_load_row_w rfl 59 _ rfl bt rfl _ _ _ _ ht.heap Try.underlying59 rfl (size_table _) ?_)
    | (go_at_call 110; refine (ret_below (areProducts_any (timG L T) L _ FT.out FJ.out n1' n6') HR.out).mono ?_; rintro e w6 ⟨rfl, h6⟩; replace hL := hL.below h6 hL.lt; replace ht := ht.below h6 ht.lt; replace hz := (h6.block _ (lt_of_block hz)).trans hz; replace hB := hB.trans (h6.mono hB.size); clear h6))
  refine region_tail 6 (Below w6.heap.size w6) (by kernel_rfl) (by kernel_rfl) (Dr.below ⟨1, rfl⟩ _) fun hne => ?_
  simp only [List.take_succ_cons, List.take_zero, List.drop_succ_cons, List.drop_zero]
  repeat (first
    | (go_big_quiet_want; refine quiet_load_row 61 _ rfl bl rfl _ _ _ _ (fun w' ⟨s, hs⟩ => by rw [hs]; exact hL.below s.h hL.lt) Try.underlying61 rfl (size_lat _ _ _ _) ?_; simp only [Act.put, List.setIfInBounds_toArray, List.set_cons_succ, List.set_cons_zero]; go_big_quiet_on)
    | (go_big_quiet_want; refine quiet_load_row 59 _ rfl bt rfl _ _ _ _ (fun w' ⟨s, hs⟩ => by rw [hs]; exact (ht.below s.h ht.lt).heap) Try.underlying59 rfl (size_table _) ?_; simp only [Act.put, List.setIfInBounds_toArray, List.set_cons_succ, List.set_cons_zero]; go_big_quiet_on)
    | (go_big_quiet_want; refine quiet_build 63 _ rfl (algOf L T) (built_alg' rfl rfl rfl) ?_; simp only [Act.put, List.setIfInBounds_toArray, List.set_cons_succ, List.set_cons_zero]; go_big_quiet_on)
    | go_big_quiet_step ((first | (go_at_call 111; exact in_below _ (Nat.le_refl _) (implications_any L T _ HLAT.out HS.out)))))
  refine wpQuiet_nil ?_
  intro s
  have hw2 := s.h
  obtain ⟨w7, hw2'⟩ : ∃ w7, w7 = s.w := ⟨_, rfl⟩
  rw [← hw2'] at hw2 ⊢
  clear hw2'
  replace hz := (hw2.block _ (lt_of_block hz)).trans hz
  replace hB := hB.trans (hw2.mono hB.size)
  go_wp2_with (refine wpList_store_row rfl 63 _ _ rfl (w.heap.size + 1) (algOf L T) rfl rfl _ _ hz (size_alg _ _ _ _ _ _) rfl (one_alg _ _ _ _ _ _) ?_)
  exact bodyPost_ret (v := .tuple #[.agg (algOf L T), .bool true]) (results_alg_tmp rfl _ _ (w.heap.size + 1) rfl _ (algA_size _ _ _ _ _ _) (setRow_heap _ _ _ _ _ _ hz) rfl) rfl ⟨rfl, below_setRow' hB (by omega) _⟩
end Go.Proofs.Ytbellklaoecpbaa
