import Derived.Test.YtknmldibeppmkaaV1
namespace Go.Proofs.Ytknmldibeppmkaa
open Go.RowKit

theorem latA_0 (n : Int) (g : Int → Int → Bool) (m j : Int → Int → Int) : (latA n g m j)[0]? = some (.int .i64 n) := rfl
theorem latA_g (n : Int) (g : Int → Int → Bool) (m j : Int → Int → Int) {x y : Int} (x0 : 0 ≤ x) (x1 : x < 6) (y0 : 0 ≤ y) (y1 : y < 6) : (latA n g m j)[1 + x.toNat * 6 + y.toNat]? = some (.bool (g x y)) := by
  have h := tab2_get (bv g) x0 x1 y0 y1
  unfold latA
  rw [List.getElem?_toArray, List.getElem?_append_left (by simp [tab2]; omega), List.getElem?_append_left (by simp [tab2]; omega), show 1 + x.toNat * 6 + y.toNat = (x.toNat * 6 + y.toNat) + 1 by omega, List.getElem?_cons_succ, Array.getElem?_toList, h]
  rfl
theorem latA_m (n : Int) (g : Int → Int → Bool) (m j : Int → Int → Int) {x y : Int} (x0 : 0 ≤ x) (x1 : x < 6) (y0 : 0 ≤ y) (y1 : y < 6) : (latA n g m j)[37 + x.toNat * 6 + y.toNat]? = some (.int .i64 (m x y)) := by
  have h := tab2_get (iv m) x0 x1 y0 y1
  unfold latA
  rw [List.getElem?_toArray, List.getElem?_append_left (by simp [tab2]; omega), List.getElem?_append_right (by simp [tab2]; omega), show 37 + x.toNat * 6 + y.toNat - (Value.int .i64 n :: (tab2 (bv g)).toList).length = x.toNat * 6 + y.toNat by simp [tab2]; omega, Array.getElem?_toList, h]
  rfl
theorem latA_j (n : Int) (g : Int → Int → Bool) (m j : Int → Int → Int) {x y : Int} (x0 : 0 ≤ x) (x1 : x < 6) (y0 : 0 ≤ y) (y1 : y < 6) : (latA n g m j)[73 + x.toNat * 6 + y.toNat]? = some (.int .i64 (j x y)) := by
  have h := tab2_get (iv j) x0 x1 y0 y1
  unfold latA
  rw [List.getElem?_toArray, List.getElem?_append_right (by simp [tab2]; omega), show 73 + x.toNat * 6 + y.toNat - ((Value.int .i64 n :: (tab2 (bv g)).toList) ++ (tab2 (iv m)).toList).length = x.toNat * 6 + y.toNat by simp [tab2]; omega, Array.getElem?_toList, h]
  rfl
/-- Block b holds the lattice that the numbers are read as. -/
def LatAt (w : World) (b : Nat) (L : List Int) : Prop := w.heap[b]? = some (.cells (latOf L) 45 (0, 0))
section
variable {w : World} {b : Nat} {L : List Int}
theorem LatAt.lt (h : LatAt w b L) : b < w.heap.size := lt_of_block h
theorem LatAt.size (h : LatAt w b L) : w.cell? ⟨b, 0, none⟩ = some (.int .i64 L.length) := by
  rw [cell_of_row w b 0 _ _ _ h]; rfl
theorem LatAt.g (h : LatAt w b L) {x y : Int} (x0 : 0 ≤ x) (x1 : x < 6) (y0 : 0 ≤ y) (y1 : y < 6) : w.cell? ⟨b, 1 + x.toNat * 6 + y.toNat, none⟩ = some (.bool (ordG L x y)) := by
  rw [cell_of_row w b _ _ _ _ h]; exact latA_g _ _ _ _ x0 x1 y0 y1
theorem LatAt.m (h : LatAt w b L) {x y : Int} (x0 : 0 ≤ x) (x1 : x < 6) (y0 : 0 ≤ y) (y1 : y < 6) : w.cell? ⟨b, 37 + x.toNat * 6 + y.toNat, none⟩ = some (.int .i64 (tabT (ordG L) L.length x y)) := by
  rw [cell_of_row w b _ _ _ _ h]; exact latA_m _ _ _ _ x0 x1 y0 y1
theorem LatAt.j (h : LatAt w b L) {x y : Int} (x0 : 0 ≤ x) (x1 : x < 6) (y0 : 0 ≤ y) (y1 : y < 6) : w.cell? ⟨b, 73 + x.toNat * 6 + y.toNat, none⟩ = some (.int .i64 (tabT (revG (ordG L)) L.length x y)) := by
  rw [cell_of_row w b _ _ _ _ h]; exact latA_j _ _ _ _ x0 x1 y0 y1
theorem LatAt.below (h : LatAt w b L) {w' : World} {C : Nat} (hb : Below C w w') (hB : b < C) : LatAt w' b L := by
  unfold LatAt; rw [hb.block b hB]; exact h
theorem LatAt.new (w : World) (L : List Int) : LatAt (w.alloc (.cells (latOf L) 45)) w.heap.size L := heap_alloc_new w _
end
theorem mt_pos {L : List Int} (h : latB L = true) {x y : Int} (x0 : 0 ≤ x) (x1 : x < num L) (y0 : 0 ≤ y) (y1 : y < num L) : 0 ≤ mt L x y ∧ 0 ≤ jn L x y := by
  unfold latB at h
  rw [Bool.and_eq_true] at h
  have := (allI_iff _ _).1 ((allI_iff _ _).1 h.2 x x0 x1) y y0 y1
  unfold latXY at this
  simp only [Bool.not_eq_true', Bool.or_eq_false_iff, decide_eq_false_iff_not] at this
  omega
theorem tabT_meet {L : List Int} (h : latB L = true) {x y : Int} (x0 : 0 ≤ x) (x1 : x < num L) (y0 : 0 ≤ y) (y1 : y < num L) : tabT (ordG L) L.length x y = mt L x y := by
  have p := (mt_pos h x0 x1 y0 y1).1
  unfold tabT fmI
  rw [if_pos ⟨x1, y1⟩, show firstI (L.length : Int) (fmQ (ordG L) L.length x y) = mt L x y from first_meet x1 y1, if_neg (by omega)]
theorem tabT_join {L : List Int} (h : latB L = true) {x y : Int} (x0 : 0 ≤ x) (x1 : x < num L) (y0 : 0 ≤ y) (y1 : y < num L) : tabT (revG (ordG L)) L.length x y = jn L x y := by
  have p := (mt_pos h x0 x1 y0 y1).2
  unfold tabT fmI
  rw [if_pos ⟨x1, y1⟩, show firstI (L.length : Int) (fmQ (revG (ordG L)) L.length x y) = jn L x y from first_join x1 y1, if_neg (by omega)]

/-- the elements are those of the lattice -/
def inE (L E : List Int) (j : Int) : Bool := decide (0 ≤ nth E j) && decide (nth E j < L.length)

def withB (L E : List Int) : Bool := allI E.length (inE L E)
def withA (L E : List Int) : Array Value := if withB L E then latOf L else zeroLat
theorem withA_t {L E : List Int} (h : withB L E = true) : withA L E = latOf L := by unfold withA; rw [if_pos h]
theorem withA_f {L E : List Int} (h : withB L E = false) : withA L E = zeroLat := by unfold withA; rw [if_neg (by rw [h]; decide)]
theorem withB_f {L E : List Int} {k : Int} (k0 : 0 ≤ k) (hk : k < E.length) (h : inE L E k = false) : withB L E = false := allI_false (p := inE L E) k k0 hk h

set_option maxRecDepth 100000 in
set_option maxHeartbeats 1000000 in
theorem readWith_bad (a a2 : Option Addr) (cap c2 : Nat) (L E : List Int) (w : World) (hr : Rd w a L) (h : latB L = false) :
    Calls Try.prog 50 #[.slice a L.length cap, .slice a2 E.length c2] w fun e w' => e = .returned (.tuple #[.agg zeroLat, .bool false]) ∧ Below w.heap.size w w' := by
  have hr2 : Rd (w.alloc (.cells zeroLat 45)) a L := hr.below ((Below.refl _ _).alloc (Nat.le_refl _) _)
  go_enter Try.func50, Try.ntmps50
  go_wp2_with (first
    | (go_at_call 47; refine (readLattice_no _ _ L _ hr2 h).mono ?_; rintro e w1 ⟨rfl, hb1⟩; have hz : w1.heap[w.heap.size]? = some (.cells zeroLat 45 (0, 0)) := (hb1.block _ (by simp)).trans (heap_alloc_new w _); have hB : Below w.heap.size w w1 := ((Below.refl _ _).alloc (Nat.le_refl _) _).trans (hb1.mono (by simp)); clear hb1)
    | (refine wpList_store_row rfl 45 _ _ rfl w1.heap.size zeroLat rfl rfl _ _ (heap_alloc_new w1 (.cells zeroLat 45)) (size_lat _ _ _ _) rfl (one_lat _ _ _ _) ?_; rw [World.setRow_alloc_new]; obtain ⟨w2, hw2⟩ : ∃ w2, w2 = w1.alloc (.cells zeroLat 45) := ⟨_, rfl⟩; rw [← hw2]; replace hz : w2.heap[w.heap.size]? = some (.cells zeroLat 45 (0, 0)) := (by rw [hw2, Below.heap_alloc _ _ _ (lt_of_block hz)]; exact hz); replace hB : Below w.heap.size w w2 := (by rw [hw2]; exact hB.alloc hB.size _); clear hw2)
    | (refine wpList_store_row rfl 45 _ _ rfl w.heap.size zeroLat rfl rfl _ _ hz (size_lat _ _ _ _) rfl (one_lat _ _ _ _) ?_))
  exact bodyPost_ret (v := .tuple #[.agg zeroLat, .bool false]) (results_lat_tmp rfl _ _ w.heap.size rfl _ (latA_size _ _ _ _) (setRow_heap _ _ _ _ _ _ hz) rfl) rfl ⟨rfl, below_setRow' hB (Nat.le_refl _) _⟩

set_option maxRecDepth 100000 in
set_option maxHeartbeats 1000000 in
theorem readWith_lat (a a2 : Option Addr) (cap c2 : Nat) (L E : List Int) (w : World) (hr : Rd w a L) (hr2 : Rd w a2 E) (hE : E.length ≤ 16) (h : latB L = true) :
    Calls Try.prog 50 #[.slice a L.length cap, .slice a2 E.length c2] w fun e w' => e = .returned (.tuple #[.agg (withA L E), .bool (withB L E)]) ∧ Below w.heap.size w w' := by
  have hra : Rd (w.alloc (.cells zeroLat 45)) a L := hr.below ((Below.refl _ _).alloc (Nat.le_refl _) _)
  go_enter Try.func50, Try.ntmps50
  go_wp2_with (first
    | (go_at_call 47; refine (readLattice_yes _ _ L _ hra h).mono ?_; rintro e w1 ⟨rfl, hb1⟩; have hz : w1.heap[w.heap.size]? = some (.cells zeroLat 45 (0, 0)) := (hb1.block _ (by simp)).trans (heap_alloc_new w _); have hB : Below w.heap.size w w1 := ((Below.refl _ _).alloc (Nat.le_refl _) _).trans (hb1.mono (by simp)); clear hb1)
    | (refine wpList_store_row rfl 45 _ _ rfl w1.heap.size (latOf L) rfl rfl _ _ (heap_alloc_new w1 (.cells zeroLat 45)) (size_lat _ _ _ _) rfl (one_lat _ _ _ _) ?_; rw [World.setRow_alloc_new]; obtain ⟨b6, hb6⟩ : ∃ b6, b6 = w1.heap.size := ⟨_, rfl⟩; obtain ⟨w2, hw2⟩ : ∃ w2, w2 = w1.alloc (.cells (latOf L) 45) := ⟨_, rfl⟩; rw [← hw2, ← hb6]; have hL : LatAt w2 b6 L := (by rw [hw2, hb6]; exact LatAt.new w1 L); replace hz : w2.heap[w.heap.size]? = some (.cells zeroLat 45 (0, 0)) := (by rw [hw2, Below.heap_alloc _ _ _ (lt_of_block hz)]; exact hz); replace hB : Below w.heap.size w w2 := (by rw [hw2]; exact hB.alloc hB.size _); clear hw2 hb6))
  have hr3 : Rd w2 a2 E := hr2.below hB
  have cs := hL.size
  clear hra
  go_loopw [9, 20] (fun _ c wr => ∃ k : Int, 0 ≤ k ∧ k ≤ E.length ∧ c = .int .i64 k ∧ AllTo k (inE L E) ∧ w2 = wr) (fun _ c _ => ((E.length : Int) - intOf c).toNat)
  case atStart => exact ⟨0, by omega, by omega, rfl, AllTo.zero _, rfl⟩
  case round =>
    obtain ⟨k, k0, k1, rfl, ha, rfl⟩ := hrel
    by_cases hk : k < E.length
    · obtain ⟨b2, o2, rfl, hc2⟩ := hr3 (by intro e; rw [e] at hk; simp at hk; omega)
      have d2 := hc2.at k k0 hk
      have hi := Lib.hid (show inE L E k = (decide (0 ≤ nth E k) && decide (nth E k < L.length)) from rfl)
      by_cases hn : nth E k < 0
      · have hf := Lib.hid (withB_f k0 hk (by rw [hi.out, decide_eq_false (by omega)]; rfl))
        go_wp2_with (refine wpList_store_row rfl 45 _ _ rfl w.heap.size zeroLat rfl rfl _ _ hz (size_lat _ _ _ _) rfl (one_lat _ _ _ _) ?_)
        exact bodyPost_ret (v := .tuple #[.agg zeroLat, .bool false]) (results_lat_tmp rfl _ _ w.heap.size rfl _ (latA_size _ _ _ _) (setRow_heap _ _ _ _ _ _ hz) rfl) rfl ⟨by rw [withA_f hf.out, hf.out], below_setRow' hB (Nat.le_refl _) _⟩
      · by_cases hn2 : (L.length : Int) ≤ nth E k
        · have hf := Lib.hid (withB_f k0 hk (by rw [hi.out, decide_eq_false (show ¬ nth E k < L.length by omega)]; simp))
          go_wp2_with (refine wpList_store_row rfl 45 _ _ rfl w.heap.size zeroLat rfl rfl _ _ hz (size_lat _ _ _ _) rfl (one_lat _ _ _ _) ?_)
          exact bodyPost_ret (v := .tuple #[.agg zeroLat, .bool false]) (results_lat_tmp rfl _ _ w.heap.size rfl _ (latA_size _ _ _ _) (setRow_heap _ _ _ _ _ _ hz) rfl) rfl ⟨by rw [withA_f hf.out, hf.out], below_setRow' hB (Nat.le_refl _) _⟩
        · have ht := Lib.hid (show inE L E k = true by rw [hi.out, decide_eq_true (by omega), decide_eq_true (by omega)]; rfl)
          go_wp2
          go_roundw
          case rel => exact ⟨k + 1, by omega, by omega, rfl, ha.succ ht.out, trivial⟩
          case measure => simp [intOf]; omega
    · have hf := Lib.hid (show withB L E = true from ha.all (by omega : (E.length : Int) ≤ k))
      go_wp2_with (first | (refine wpList_load_row_w rfl 45 _ rfl b6 rfl _ _ _ _ hL Try.underlying45 rfl (size_lat _ _ _ _) ?_) | (refine wpList_store_row rfl 45 _ _ rfl w.heap.size (latOf L) rfl rfl _ _ hz (size_lat _ _ _ _) rfl (one_lat _ _ _ _) ?_))
      exact bodyPost_ret (v := .tuple #[.agg (latOf L), .bool true]) (results_lat_tmp rfl _ _ w.heap.size rfl _ (latA_size _ _ _ _) (setRow_heap _ _ _ _ _ _ hz) rfl) rfl ⟨by rw [withA_t hf.out, hf.out], below_setRow' hB (Nat.le_refl _) _⟩
end Go.Proofs.Ytknmldibeppmkaa
