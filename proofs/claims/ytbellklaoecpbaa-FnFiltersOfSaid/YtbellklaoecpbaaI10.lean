import Derived.Test.YtbellklaoecpbaaI9
namespace Go.Proofs.Ytbellklaoecpbaa
open Go.RowKit

theorem Cells.below {w w' : World} {b off : Nat} {L : List Int} (hc : Cells w b off L) {C : Nat} (h : Below C w w') (hb : b < C) : Cells w' b off L := fun j hj => by
  rw [h.cell (by exact hb)]; exact hc j hj
theorem Cells.alloc {w : World} {b off : Nat} {L : List Int} (hc : Cells w b off L) (h1 : 1 ≤ num L) (o : Obj) : Cells (w.alloc o) b off L :=
  hc.below ((Below.refl w.heap.size w).alloc (Nat.le_refl _) o) (hc.lt h1)
theorem readOrder_bad (b off cap : Nat) (L : List Int) (w : World) (hc : Cells w b off L) (hlt : b < w.heap.size) (h1 : 1 ≤ num L) (h6 : num L ≤ 6) (h : allI (num L) (inR L) = false) :
    Calls Try.prog 114 #[.slice (some ⟨b, off, none⟩) L.length cap] w fun e w' => e = .returned (.tuple #[.agg (tab2 (bv zeroG)), .bool false]) ∧ Below w.heap.size w w' := by
  have := readOrder_six b off cap L w hc hlt h1 h6
  rwa [readG_f h, h] at this
theorem readOrder_good (b off cap : Nat) (L : List Int) (w : World) (hc : Cells w b off L) (hlt : b < w.heap.size) (h1 : 1 ≤ num L) (h6 : num L ≤ 6) (h : allI (num L) (inR L) = true) :
    Calls Try.prog 114 #[.slice (some ⟨b, off, none⟩) L.length cap] w fun e w' => e = .returned (.tuple #[.agg (tab2 (bv (ordG L))), .bool true]) ∧ Below w.heap.size w w' := by
  have := readOrder_six b off cap L w hc hlt h1 h6
  rwa [readG_t h, h] at this
theorem isOrder_is (g : Int → Int → Bool) (n : Int) (w : World) (n0 : 0 ≤ n) (n6 : n ≤ 6) {r : Bool} (h : isOrderB g n = r) :
    Calls Try.prog 115 #[.agg (tab2 (bv g)), .int .i64 n] w fun e w' => e = .returned (.bool r) ∧ Below w.heap.size w w' := by
  have := isOrder_any g n w n0 n6
  rwa [h] at this
theorem isBounded_is (g : Int → Int → Bool) (n : Int) (w : World) (n0 : 0 ≤ n) (n6 : n ≤ 6) {r : Bool} (h : allI n (bndQ g n) = r) :
    Calls Try.prog 116 #[.agg (tab2 (bv g)), .int .i64 n] w fun e w' => e = .returned (.bool r) ∧ Below w.heap.size w w' := by
  have := isBounded_any g n w n0 n6
  rwa [h] at this
theorem meetFinder_st (g : Int → Int → Bool) (n : Int) (w : World) :
    Calls Try.prog 118 #[.agg (tab2 (bv g)), .int .i64 n] w fun e w' => e = .returned (finder w.heap.size) ∧ Blk w' w.heap.size 56 (bv g) ∧ w'.heap[w.heap.size + 1]? = some (.cells #[.int .i64 n] 3 (0, 0)) ∧ Below w.heap.size w w' :=
  (meetFinder_any g n w).mono fun _ _ ⟨he, hw⟩ => by
    subst hw
    exact ⟨he, (Blk.new w rfl).alloc _, heap_alloc2_new w _ _, ((Below.refl _ _).alloc (Nat.le_refl _) _).alloc (by simp) _⟩
theorem tabled_good (g : Int → Int → Bool) (n : Int) (B : Nat) (w : World) (hb : Blk w B 56 (bv g)) (hs : w.heap[B + 1]? = some (.cells #[.int .i64 n] 3 (0, 0))) (n0 : 0 ≤ n) (n6 : n ≤ 6) (h : tabOk g n = true) :
    Calls Try.prog 117 #[.int .i64 n, finder B] w fun e w' => e = .returned (.tuple #[.agg (tab2 (iv (tabT g n))), .bool true]) ∧ Below w.heap.size w w' := by
  have := tabled_any g n B w hb hs n0 n6
  rwa [tabR_t h, h] at this
theorem tabled_bad (g : Int → Int → Bool) (n : Int) (B : Nat) (w : World) (hb : Blk w B 56 (bv g)) (hs : w.heap[B + 1]? = some (.cells #[.int .i64 n] 3 (0, 0))) (n0 : 0 ≤ n) (n6 : n ≤ 6) (h : tabOk g n = false) :
    Calls Try.prog 117 #[.int .i64 n, finder B] w fun e w' => e = .returned (.tuple #[.agg (tab2 (iv zeroI)), .bool false]) ∧ Below w.heap.size w w' := by
  have := tabled_any g n B w hb hs n0 n6
  rwa [tabR_f h, h] at this
theorem wpList_build_is {P : Program} {ops : Array Oper} {rest : List Oper} {o : Oper} {a : Act} {w : World} {Q : Exit → Act → World → Prop} (hg : o.guard = none) (t : TypeId) (parts : Array (Nat × Operand)) (ho : o.op = .build t parts)
    (cells : Array Value) (hc : P.built t (parts.map fun (i, x) => (i, a.eval x)).toList = some cells) (h : wpList P ops Q rest (a.put o.dst (.agg cells)) w) : wpList P ops Q (o :: rest) a w :=
  wpList_build hg t parts ho (by rw [hc]; rfl) (by rw [hc]; exact h)
theorem wpList_build_lat {ops : Array Oper} {rest : List Oper} {o : Oper} {a : Act} {w : World} {Q : Exit → Act → World → Prop} (hg : o.guard = none) (p0 p1 p2 p3 : Operand) (ho : o.op = .build 61 #[(0, p0), (1, p1), (2, p2), (3, p3)])
    (n : Int) (g : Int → Int → Bool) (m j : Int → Int → Int) (h0 : a.eval p0 = .int .i64 n) (h1 : a.eval p1 = .agg (tab2 (bv g))) (h2 : a.eval p2 = .agg (tab2 (iv m))) (h3 : a.eval p3 = .agg (tab2 (iv j)))
    (h : wpList Try.prog ops Q rest (a.put o.dst (.agg (latA n g m j))) w) : wpList Try.prog ops Q (o :: rest) a w :=
  wpList_build_is hg _ _ ho _ (by
    have e : (#[(0, p0), (1, p1), (2, p2), (3, p3)].map fun ((i, x) : Nat × Operand) => (i, a.eval x)).toList = [(0, .int .i64 n), (1, .agg (tab2 (bv g))), (2, .agg (tab2 (iv m))), (3, .agg (tab2 (iv j)))] := by simp [h0, h1, h2, h3]
    exact (congrArg _ e).trans (built_lat n g m j)) h

set_option maxRecDepth 100000 in
set_option maxHeartbeats 1000000 in
theorem readLattice_c0 (b off cap : Nat) (L : List Int) (w : World) (hc : Cells w b off L) (h1 : 1 ≤ num L) (h6 : num L ≤ 6) (q0 : allI (num L) (inR L) = false) :
    Calls Try.prog 69 #[.slice (some ⟨b, off, none⟩) L.length cap] w fun e w' => e = .returned (.tuple #[.agg zeroLat, .bool false]) ∧ Below w.heap.size w w' := by
  have n6 : (L.length : Int) ≤ 6 := h6
  have n0 : 0 ≤ (L.length : Int) := by omega
  have hlt : b < (w.alloc (.cells zeroLat 61)).heap.size := by have := hc.lt h1; simp; omega
  have hc1 : Cells (w.alloc (.cells zeroLat 61)) b off L := hc.alloc h1 _
  have Q0 := Lib.hid q0; clear q0
  go_enter Try.func69, Try.ntmps69
  go_wp2_with (first | (go_at_call 114; refine (readOrder_bad _ _ _ L _ hc1 hlt h1 h6 Q0.out).mono ?_; rintro e w1 ⟨rfl, hb1⟩; have hz : w1.heap[w.heap.size]? = some (.cells zeroLat 61 (0, 0)) := (hb1.block _ (by simp)).trans (heap_alloc_new w _); have hB : Below w.heap.size w w1 := ((Below.refl _ _).alloc (Nat.le_refl _) _).trans (hb1.mono (by simp)); clear hb1) | (refine wpList_store_row rfl 56 _ _ rfl w1.heap.size _ rfl rfl _ _ (Blk.heap (f := bv fun _ _ => false) (Blk.new w1 rfl)) (size_order _) rfl (one_bv _) ?_; rw [World.setRow_alloc_new]; obtain ⟨b2, hb2⟩ : ∃ b2, b2 = w1.heap.size := ⟨_, rfl⟩; obtain ⟨w2, hw2⟩ : ∃ w2, w2 = w1.alloc (.cells (tab2 (bv zeroG)) 56) := ⟨_, rfl⟩; rw [← hw2, ← hb2]; have hb : Blk w2 b2 56 (bv zeroG) := (by rw [hw2, hb2]; exact Blk.new w1 rfl); replace hz : w2.heap[w.heap.size]? = some (.cells zeroLat 61 (0, 0)) := (by rw [hw2, Below.heap_alloc _ _ _ (lt_of_block hz)]; exact hz); replace hB : Below w.heap.size w w2 := (by rw [hw2]; exact hB.alloc hB.size _); clear hw2 hb2 w1) | (refine wpList_store_row rfl 61 _ _ rfl w.heap.size zeroLat rfl rfl _ _ hz (size_lat _ _ _ _) rfl (one_lat _ _ _ _) ?_))
  exact bodyPost_ret (v := .tuple #[.agg zeroLat, .bool false]) (results_lat_tmp rfl _ _ w.heap.size rfl _ (latA_size _ _ _ _) (setRow_heap _ _ _ _ _ _ hz) rfl) rfl ⟨rfl, below_setRow' hB (Nat.le_refl _) _⟩

set_option maxRecDepth 100000 in
set_option maxHeartbeats 1000000 in
theorem readLattice_c1 (b off cap : Nat) (L : List Int) (w : World) (hc : Cells w b off L) (h1 : 1 ≤ num L) (h6 : num L ≤ 6) (q0 : allI (num L) (inR L) = true) (q1 : isOrderB (ordG L) L.length = false) :
    Calls Try.prog 69 #[.slice (some ⟨b, off, none⟩) L.length cap] w fun e w' => e = .returned (.tuple #[.agg zeroLat, .bool false]) ∧ Below w.heap.size w w' := by
  have n6 : (L.length : Int) ≤ 6 := h6
  have n0 : 0 ≤ (L.length : Int) := by omega
  have hlt : b < (w.alloc (.cells zeroLat 61)).heap.size := by have := hc.lt h1; simp; omega
  have hc1 : Cells (w.alloc (.cells zeroLat 61)) b off L := hc.alloc h1 _
  have Q0 := Lib.hid q0; clear q0
  have Q1 := Lib.hid q1; clear q1
  go_enter Try.func69, Try.ntmps69
  go_wp2_with (first | (go_at_call 114; refine (readOrder_good _ _ _ L _ hc1 hlt h1 h6 Q0.out).mono ?_; rintro e w1 ⟨rfl, hb1⟩; have hz : w1.heap[w.heap.size]? = some (.cells zeroLat 61 (0, 0)) := (hb1.block _ (by simp)).trans (heap_alloc_new w _); have hB : Below w.heap.size w w1 := ((Below.refl _ _).alloc (Nat.le_refl _) _).trans (hb1.mono (by simp)); clear hb1) | (refine wpList_store_row rfl 56 _ _ rfl w1.heap.size _ rfl rfl _ _ (Blk.heap (f := bv fun _ _ => false) (Blk.new w1 rfl)) (size_order _) rfl (one_bv _) ?_; rw [World.setRow_alloc_new]; obtain ⟨b2, hb2⟩ : ∃ b2, b2 = w1.heap.size := ⟨_, rfl⟩; obtain ⟨w2, hw2⟩ : ∃ w2, w2 = w1.alloc (.cells (tab2 (bv (ordG L))) 56) := ⟨_, rfl⟩; rw [← hw2, ← hb2]; have hb : Blk w2 b2 56 (bv (ordG L)) := (by rw [hw2, hb2]; exact Blk.new w1 rfl); replace hz : w2.heap[w.heap.size]? = some (.cells zeroLat 61 (0, 0)) := (by rw [hw2, Below.heap_alloc _ _ _ (lt_of_block hz)]; exact hz); replace hB : Below w.heap.size w w2 := (by rw [hw2]; exact hB.alloc hB.size _); clear hw2 hb2 w1) | (refine wpList_load_row_w rfl 56 _ rfl b2 rfl _ _ _ _ hb.heap Try.underlying56 rfl (size_order _) ?_) | (go_at_call 115; refine (isOrder_is _ _ _ n0 n6 Q1.out).mono ?_; rintro e w3 ⟨rfl, h3⟩; replace hb := hb.below h3 hb.lt; replace hz := (h3.block _ (lt_of_block hz)).trans hz; replace hB := hB.trans (h3.mono hB.size); (try replace hm := hm.below h3 hm.lt); clear h3) | (refine wpList_store_row rfl 61 _ _ rfl w.heap.size zeroLat rfl rfl _ _ hz (size_lat _ _ _ _) rfl (one_lat _ _ _ _) ?_))
  exact bodyPost_ret (v := .tuple #[.agg zeroLat, .bool false]) (results_lat_tmp rfl _ _ w.heap.size rfl _ (latA_size _ _ _ _) (setRow_heap _ _ _ _ _ _ hz) rfl) rfl ⟨rfl, below_setRow' hB (Nat.le_refl _) _⟩

set_option maxRecDepth 100000 in
set_option maxHeartbeats 1000000 in
theorem readLattice_c2 (b off cap : Nat) (L : List Int) (w : World) (hc : Cells w b off L) (h1 : 1 ≤ num L) (h6 : num L ≤ 6) (q0 : allI (num L) (inR L) = true) (q1 : isOrderB (ordG L) L.length = true) (q2 : allI L.length (bndQ (ordG L) L.length) = false) :
    Calls Try.prog 69 #[.slice (some ⟨b, off, none⟩) L.length cap] w fun e w' => e = .returned (.tuple #[.agg zeroLat, .bool false]) ∧ Below w.heap.size w w' := by
  have n6 : (L.length : Int) ≤ 6 := h6
  have n0 : 0 ≤ (L.length : Int) := by omega
  have hlt : b < (w.alloc (.cells zeroLat 61)).heap.size := by have := hc.lt h1; simp; omega
  have hc1 : Cells (w.alloc (.cells zeroLat 61)) b off L := hc.alloc h1 _
  have Q0 := Lib.hid q0; clear q0
  have Q1 := Lib.hid q1; clear q1
  have Q2 := Lib.hid q2; clear q2
  go_enter Try.func69, Try.ntmps69
  go_wp2_with (first | (go_at_call 114; refine (readOrder_good _ _ _ L _ hc1 hlt h1 h6 Q0.out).mono ?_; rintro e w1 ⟨rfl, hb1⟩; have hz : w1.heap[w.heap.size]? = some (.cells zeroLat 61 (0, 0)) := (hb1.block _ (by simp)).trans (heap_alloc_new w _); have hB : Below w.heap.size w w1 := ((Below.refl _ _).alloc (Nat.le_refl _) _).trans (hb1.mono (by simp)); clear hb1) | (refine wpList_store_row rfl 56 _ _ rfl w1.heap.size _ rfl rfl _ _ (Blk.heap (f := bv fun _ _ => false) (Blk.new w1 rfl)) (size_order _) rfl (one_bv _) ?_; rw [World.setRow_alloc_new]; obtain ⟨b2, hb2⟩ : ∃ b2, b2 = w1.heap.size := ⟨_, rfl⟩; obtain ⟨w2, hw2⟩ : ∃ w2, w2 = w1.alloc (.cells (tab2 (bv (ordG L))) 56) := ⟨_, rfl⟩; rw [← hw2, ← hb2]; have hb : Blk w2 b2 56 (bv (ordG L)) := (by rw [hw2, hb2]; exact Blk.new w1 rfl); replace hz : w2.heap[w.heap.size]? = some (.cells zeroLat 61 (0, 0)) := (by rw [hw2, Below.heap_alloc _ _ _ (lt_of_block hz)]; exact hz); replace hB : Below w.heap.size w w2 := (by rw [hw2]; exact hB.alloc hB.size _); clear hw2 hb2 w1) | (refine wpList_load_row_w rfl 56 _ rfl b2 rfl _ _ _ _ hb.heap Try.underlying56 rfl (size_order _) ?_) | (go_at_call 115; refine (isOrder_is _ _ _ n0 n6 Q1.out).mono ?_; rintro e w3 ⟨rfl, h3⟩; replace hb := hb.below h3 hb.lt; replace hz := (h3.block _ (lt_of_block hz)).trans hz; replace hB := hB.trans (h3.mono hB.size); (try replace hm := hm.below h3 hm.lt); clear h3) | (go_at_call 116; refine (isBounded_is _ _ _ n0 n6 Q2.out).mono ?_; rintro e w3 ⟨rfl, h3⟩; replace hb := hb.below h3 hb.lt; replace hz := (h3.block _ (lt_of_block hz)).trans hz; replace hB := hB.trans (h3.mono hB.size); (try replace hm := hm.below h3 hm.lt); clear h3) | (refine wpList_store_row rfl 61 _ _ rfl w.heap.size zeroLat rfl rfl _ _ hz (size_lat _ _ _ _) rfl (one_lat _ _ _ _) ?_))
  exact bodyPost_ret (v := .tuple #[.agg zeroLat, .bool false]) (results_lat_tmp rfl _ _ w.heap.size rfl _ (latA_size _ _ _ _) (setRow_heap _ _ _ _ _ _ hz) rfl) rfl ⟨rfl, below_setRow' hB (Nat.le_refl _) _⟩

end Go.Proofs.Ytbellklaoecpbaa
