import Derived.Test.YtpfnfglaokiipaaV1
import Derived.Test.YtpfnfglaokiipaaR1
namespace Go.Proofs.Ytpfnfglaokiipaa
open Go.RowKit

def withA (L E : List Int) : Array Value := if withB L E then latOf L else zeroLat
theorem withA_t {L E : List Int} (h : withB L E = true) : withA L E = latOf L := by unfold withA; rw [if_pos h]
theorem withA_f {L E : List Int} (h : withB L E = false) : withA L E = zeroLat := by unfold withA; rw [if_neg (by rw [h]; decide)]
set_option maxRecDepth 100000 in
set_option maxHeartbeats 1000000 in
theorem readWith_bad (a a2 : Option Addr) (cap c2 : Nat) (L E : List Int) (w : World) (hr : Rd w a L) (h : latB L = false) :
    Calls Try.prog 50 #[.slice a L.length cap, .slice a2 E.length c2] w fun e w' => e = .returned (.tuple #[.agg zeroLat, .bool false]) ∧ Below w.heap.size w w' := by
  have hr2 : Rd (w.alloc (.cells zeroLat 45)) a L := hr.below ((Below.refl _ _).alloc (Nat.le_refl _) _)
  go_enter Try.func50, Try.ntmps50
  go_wp2_with (first
    | go_skip
    | (go_at_call 47; refine (readLattice_no _ _ L _ hr2 h).mono ?_; rintro e w1 ⟨rfl, hb1⟩; have hz : w1.heap[w.heap.size]? = some (.cells zeroLat 45 (0, 0)) := (hb1.block _ (by simp)).trans (heap_alloc_new w _); have hB : Below w.heap.size w w1 := ((Below.refl _ _).alloc (Nat.le_refl _) _).trans (hb1.mono (by simp)); clear hb1)
    | (refine wpList_store_row rfl 45 _ _ rfl w1.heap.size zeroLat rfl rfl _ _ (heap_alloc_new w1 (.cells zeroLat 45)) (size_lat _ _ _ _) rfl (one_lat _ _ _ _) ?_; rw [World.setRow_alloc_new]; obtain ⟨w2, hw2⟩ : ∃ w2, w2 = w1.alloc (.cells zeroLat 45) := ⟨_, rfl⟩; rw [← hw2]; replace hz : w2.heap[w.heap.size]? = some (.cells zeroLat 45 (0, 0)) := (by rw [hw2, Below.heap_alloc _ _ _ (lt_of_block hz)]; exact hz); replace hB : Below w.heap.size w w2 := (by rw [hw2]; exact hB.alloc hB.size _); clear hw2)
    | (refine wpList_store_row rfl 45 _ _ rfl w.heap.size zeroLat rfl rfl _ _ hz (size_lat _ _ _ _) rfl (one_lat _ _ _ _) ?_))
  exact bodyPost_ret (v := .tuple #[.agg zeroLat, .bool false]) (results_lat_tmp rfl _ _ w.heap.size rfl _ (latA_size _ _ _ _) (setRow_heap _ _ _ _ _ _ hz) rfl) rfl ⟨rfl, below_setRow' hB (Nat.le_refl _) _⟩

set_option maxRecDepth 100000 in
set_option maxHeartbeats 1000000 in
theorem readWith_el (a a2 : Option Addr) (cap c2 : Nat) (L E : List Int) (w : World) (hr : Rd w a L) (hr2 : Rd w a2 E) (hE : E.length ≤ 16) (h : latB L = true) (hw : withB L E = false) :
    Calls Try.prog 50 #[.slice a L.length cap, .slice a2 E.length c2] w fun e w' => e = .returned (.tuple #[.agg zeroLat, .bool false]) ∧ Below w.heap.size w w' := by
  have hra : Rd (w.alloc (.cells zeroLat 45)) a L := hr.below ((Below.refl _ _).alloc (Nat.le_refl _) _)
  have HW := Lib.hid hw
  clear hw
  go_enter Try.func50, Try.ntmps50
  go_wp2_with (first
    | go_skip
    | (go_at_call 47; refine (readLattice_yes _ _ L _ hra h).mono ?_; rintro e w1 ⟨rfl, hb1⟩; have hz : w1.heap[w.heap.size]? = some (.cells zeroLat 45 (0, 0)) := (hb1.block _ (by simp)).trans (heap_alloc_new w _); have hB : Below w.heap.size w w1 := ((Below.refl _ _).alloc (Nat.le_refl _) _).trans (hb1.mono (by simp)); clear hb1)
    | (refine wpList_store_row rfl 45 _ _ rfl w1.heap.size (latOf L) rfl rfl _ _ (heap_alloc_new w1 (.cells zeroLat 45)) (size_lat _ _ _ _) rfl (one_lat _ _ _ _) ?_; rw [World.setRow_alloc_new]; obtain ⟨b6, hb6⟩ : ∃ b6, b6 = w1.heap.size := ⟨_, rfl⟩; obtain ⟨w2, hw2⟩ : ∃ w2, w2 = w1.alloc (.cells (latOf L) 45) := ⟨_, rfl⟩; rw [← hw2, ← hb6]; have hL : LatAt w2 b6 L := (by rw [hw2, hb6]; exact LatAt.new w1 L); replace hz : w2.heap[w.heap.size]? = some (.cells zeroLat 45 (0, 0)) := (by rw [hw2, Below.heap_alloc _ _ _ (lt_of_block hz)]; exact hz); replace hB : Below w.heap.size w w2 := (by rw [hw2]; exact hB.alloc hB.size _); clear hw2 hb6)
    | (refine wpList_load_row_w rfl 45 _ rfl b6 rfl _ _ _ _ hL Try.underlying45 rfl (size_lat _ _ _ _) ?_)
    | (go_at_call 83; refine (ret_below (has_any a2 c2 L E _ (hr2.below hB) hE) HW.out).mono ?_; rintro e w4 ⟨rfl, h4⟩; replace hL := hL.below h4 hL.lt; replace hz := (h4.block _ (lt_of_block hz)).trans hz; replace hB := hB.trans (h4.mono hB.size); clear h4)
    | (refine wpList_store_row rfl 45 _ _ rfl w.heap.size zeroLat rfl rfl _ _ hz (size_lat _ _ _ _) rfl (one_lat _ _ _ _) ?_))
  exact bodyPost_ret (v := .tuple #[.agg zeroLat, .bool false]) (results_lat_tmp rfl _ _ w.heap.size rfl _ (latA_size _ _ _ _) (setRow_heap _ _ _ _ _ _ hz) rfl) rfl ⟨rfl, below_setRow' hB (Nat.le_refl _) _⟩

set_option maxRecDepth 100000 in
set_option maxHeartbeats 1000000 in
theorem readWith_good (a a2 : Option Addr) (cap c2 : Nat) (L E : List Int) (w : World) (hr : Rd w a L) (hr2 : Rd w a2 E) (hE : E.length ≤ 16) (h : latB L = true) (hw : withB L E = true) :
    Calls Try.prog 50 #[.slice a L.length cap, .slice a2 E.length c2] w fun e w' => e = .returned (.tuple #[.agg (latOf L), .bool true]) ∧ Below w.heap.size w w' := by
  have hra : Rd (w.alloc (.cells zeroLat 45)) a L := hr.below ((Below.refl _ _).alloc (Nat.le_refl _) _)
  have HW := Lib.hid hw
  clear hw
  go_enter Try.func50, Try.ntmps50
  go_wp2_with (first
    | go_skip
    | (go_at_call 47; refine (readLattice_yes _ _ L _ hra h).mono ?_; rintro e w1 ⟨rfl, hb1⟩; have hz : w1.heap[w.heap.size]? = some (.cells zeroLat 45 (0, 0)) := (hb1.block _ (by simp)).trans (heap_alloc_new w _); have hB : Below w.heap.size w w1 := ((Below.refl _ _).alloc (Nat.le_refl _) _).trans (hb1.mono (by simp)); clear hb1)
    | (refine wpList_store_row rfl 45 _ _ rfl w1.heap.size (latOf L) rfl rfl _ _ (heap_alloc_new w1 (.cells zeroLat 45)) (size_lat _ _ _ _) rfl (one_lat _ _ _ _) ?_; rw [World.setRow_alloc_new]; obtain ⟨b6, hb6⟩ : ∃ b6, b6 = w1.heap.size := ⟨_, rfl⟩; obtain ⟨w2, hw2⟩ : ∃ w2, w2 = w1.alloc (.cells (latOf L) 45) := ⟨_, rfl⟩; rw [← hw2, ← hb6]; have hL : LatAt w2 b6 L := (by rw [hw2, hb6]; exact LatAt.new w1 L); replace hz : w2.heap[w.heap.size]? = some (.cells zeroLat 45 (0, 0)) := (by rw [hw2, Below.heap_alloc _ _ _ (lt_of_block hz)]; exact hz); replace hB : Below w.heap.size w w2 := (by rw [hw2]; exact hB.alloc hB.size _); clear hw2 hb6)
    | (refine wpList_load_row_w rfl 45 _ rfl b6 rfl _ _ _ _ hL Try.underlying45 rfl (size_lat _ _ _ _) ?_)
    | (go_at_call 83; refine (ret_below (has_any a2 c2 L E _ (hr2.below hB) hE) HW.out).mono ?_; rintro e w4 ⟨rfl, h4⟩; replace hL := hL.below h4 hL.lt; replace hz := (h4.block _ (lt_of_block hz)).trans hz; replace hB := hB.trans (h4.mono hB.size); clear h4)
    | (refine wpList_store_row rfl 45 _ _ rfl w.heap.size (latOf L) rfl rfl _ _ hz (size_lat _ _ _ _) rfl (one_lat _ _ _ _) ?_))
  exact bodyPost_ret (v := .tuple #[.agg (latOf L), .bool true]) (results_lat_tmp rfl _ _ w.heap.size rfl _ (latA_size _ _ _ _) (setRow_heap _ _ _ _ _ _ hz) rfl) rfl ⟨rfl, below_setRow' hB (Nat.le_refl _) _⟩

theorem readWith_lat (a a2 : Option Addr) (cap c2 : Nat) (L E : List Int) (w : World) (hr : Rd w a L) (hr2 : Rd w a2 E) (hE : E.length ≤ 16) (h : latB L = true) :
    Calls Try.prog 50 #[.slice a L.length cap, .slice a2 E.length c2] w fun e w' => e = .returned (.tuple #[.agg (withA L E), .bool (withB L E)]) ∧ Below w.heap.size w w' := by
  cases hw : withB L E with
  | false => rw [withA_f hw]; exact readWith_el a a2 cap c2 L E w hr hr2 hE h hw
  | true => rw [withA_t hw]; exact readWith_good a a2 cap c2 L E w hr hr2 hE h hw
end Go.Proofs.Ytpfnfglaokiipaa
