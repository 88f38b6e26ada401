import Derived.Test.YtbellklaoecpbaaV1
import Derived.Test.YtbellklaoecpbaaR1
import Derived.Test.YtbellklaoecpbaaR2
namespace Go.Proofs.Ytbellklaoecpbaa
open Go.RowKit

def withA (L E : List Int) : Array Value := if withB L E then latOf L else zeroLat
theorem withA_t {L E : List Int} (h : withB L E = true) : withA L E = latOf L := by unfold withA; rw [if_pos h]
theorem withA_f {L E : List Int} (h : withB L E = false) : withA L E = zeroLat := by unfold withA; rw [if_neg (by rw [h]; decide)]
set_option maxRecDepth 100000 in
set_option maxHeartbeats 1000000 in
theorem readWith_bad (a a2 : Option Addr) (cap c2 : Nat) (L E : List Int) (w : World) (hr : Rd w a L) (h : latB L = false) :
    Calls Try.prog 68 #[.slice a L.length cap, .slice a2 E.length c2] w fun e w' => e = .returned (.tuple #[.agg zeroLat, .bool false]) ∧ Below w.heap.size w w' := by
  have hr2 : Rd (w.alloc (.cells zeroLat 61)) a L := hr.below ((Below.refl _ _).alloc (Nat.le_refl _) _)
  go_enter Try.func68, Try.ntmps68
  go_wp2_with (first
    | go_skip
    | (go_at_call 69; refine (readLattice_no _ _ L _ hr2 h).mono ?_; rintro e w1 ⟨rfl, hb1⟩; have hz : w1.heap[w.heap.size]? = some (.cells zeroLat 61 (0, 0)) := (hb1.block _ (by simp)).trans (heap_alloc_new w _); have hB : Below w.heap.size w w1 := ((Below.refl _ _).alloc (Nat.le_refl _) _).trans (hb1.mono (by simp)); clear hb1)
    | (refine wpList_store_row rfl 61 _ _ rfl w1.heap.size zeroLat rfl rfl _ _ (heap_alloc_new w1 (.cells zeroLat 61)) (size_lat _ _ _ _) rfl (one_lat _ _ _ _) ?_; rw [World.setRow_alloc_new]; obtain ⟨w2, hw2⟩ : ∃ w2, w2 = w1.alloc (.cells zeroLat 61) := ⟨_, rfl⟩; rw [← hw2]; replace hz : w2.heap[w.heap.size]? = some (.cells zeroLat 61 (0, 0)) := (by rw [hw2, Below.heap_alloc _ _ _ (lt_of_block hz)]; exact hz); replace hB : Below w.heap.size w w2 := (by rw [hw2]; exact hB.alloc hB.size _); clear hw2)
    | (refine wpList_store_row rfl 61 _ _ rfl w.heap.size zeroLat rfl rfl _ _ hz (size_lat _ _ _ _) rfl (one_lat _ _ _ _) ?_))
  exact bodyPost_ret (v := .tuple #[.agg zeroLat, .bool false]) (results_lat_tmp rfl _ _ w.heap.size rfl _ (latA_size _ _ _ _) (setRow_heap _ _ _ _ _ _ hz) rfl) rfl ⟨rfl, below_setRow' hB (Nat.le_refl _) _⟩

set_option maxRecDepth 100000 in
set_option maxHeartbeats 1000000 in
theorem readWith_el (a a2 : Option Addr) (cap c2 : Nat) (L E : List Int) (w : World) (hr : Rd w a L) (hr2 : Rd w a2 E) (hE : E.length ≤ 1048576) (h : latB L = true) (hw : withB L E = false) :
    Calls Try.prog 68 #[.slice a L.length cap, .slice a2 E.length c2] w fun e w' => e = .returned (.tuple #[.agg zeroLat, .bool false]) ∧ Below w.heap.size w w' := by
  have hra : Rd (w.alloc (.cells zeroLat 61)) a L := hr.below ((Below.refl _ _).alloc (Nat.le_refl _) _)
  have HW := Lib.hid hw
  clear hw
  go_enter Try.func68, Try.ntmps68
  go_wp2_with (first
    | go_skip
    | (go_at_call 69; refine (readLattice_yes _ _ L _ hra h).mono ?_; rintro e w1 ⟨rfl, hb1⟩; have hz : w1.heap[w.heap.size]? = some (.cells zeroLat 61 (0, 0)) := (hb1.block _ (by simp)).trans (heap_alloc_new w _); have hB : Below w.heap.size w w1 := ((Below.refl _ _).alloc (Nat.le_refl _) _).trans (hb1.mono (by simp)); clear hb1)
    | (refine wpList_store_row rfl 61 _ _ rfl w1.heap.size (latOf L) rfl rfl _ _ (heap_alloc_new w1 (.cells zeroLat 61)) (size_lat _ _ _ _) rfl (one_lat _ _ _ _) ?_; rw [World.setRow_alloc_new]; obtain ⟨b6, hb6⟩ : ∃ b6, b6 = w1.heap.size := ⟨_, rfl⟩; obtain ⟨w2, hw2⟩ : ∃ w2, w2 = w1.alloc (.cells (latOf L) 61) := ⟨_, rfl⟩; rw [← hw2, ← hb6]; have hL : LatAt w2 b6 L := (by rw [hw2, hb6]; exact LatAt.new w1 L); replace hz : w2.heap[w.heap.size]? = some (.cells zeroLat 61 (0, 0)) := (by rw [hw2, Below.heap_alloc _ _ _ (lt_of_block hz)]; exact hz); replace hB : Below w.heap.size w w2 := (by rw [hw2]; exact hB.alloc hB.size _); clear hw2 hb6)
    | (refine wpList_load_row_w rfl 61 _ rfl b6 rfl _ _ _ _ hL Try.underlying61 rfl (size_lat _ _ _ _) ?_)
    | (go_at_call 113; refine (ret_below (has_any a2 c2 L E _ (hr2.below hB) hE) HW.out).mono ?_; rintro e w4 ⟨rfl, h4⟩; replace hL := hL.below h4 hL.lt; replace hz := (h4.block _ (lt_of_block hz)).trans hz; replace hB := hB.trans (h4.mono hB.size); clear h4)
    | (refine wpList_store_row rfl 61 _ _ rfl w.heap.size zeroLat rfl rfl _ _ hz (size_lat _ _ _ _) rfl (one_lat _ _ _ _) ?_))
  exact bodyPost_ret (v := .tuple #[.agg zeroLat, .bool false]) (results_lat_tmp rfl _ _ w.heap.size rfl _ (latA_size _ _ _ _) (setRow_heap _ _ _ _ _ _ hz) rfl) rfl ⟨rfl, below_setRow' hB (Nat.le_refl _) _⟩

set_option maxRecDepth 100000 in
set_option maxHeartbeats 1000000 in
theorem readWith_good (a a2 : Option Addr) (cap c2 : Nat) (L E : List Int) (w : World) (hr : Rd w a L) (hr2 : Rd w a2 E) (hE : E.length ≤ 1048576) (h : latB L = true) (hw : withB L E = true) :
    Calls Try.prog 68 #[.slice a L.length cap, .slice a2 E.length c2] w fun e w' => e = .returned (.tuple #[.agg (latOf L), .bool true]) ∧ Below w.heap.size w w' := by
  have hra : Rd (w.alloc (.cells zeroLat 61)) a L := hr.below ((Below.refl _ _).alloc (Nat.le_refl _) _)
  have HW := Lib.hid hw
  clear hw
  go_enter Try.func68, Try.ntmps68
  go_wp2_with (first
    | go_skip
    | (go_at_call 69; refine (readLattice_yes _ _ L _ hra h).mono ?_; rintro e w1 ⟨rfl, hb1⟩; have hz : w1.heap[w.heap.size]? = some (.cells zeroLat 61 (0, 0)) := (hb1.block _ (by simp)).trans (heap_alloc_new w _); have hB : Below w.heap.size w w1 := ((Below.refl _ _).alloc (Nat.le_refl _) _).trans (hb1.mono (by simp)); clear hb1)
    | (refine wpList_store_row rfl 61 _ _ rfl w1.heap.size (latOf L) rfl rfl _ _ (heap_alloc_new w1 (.cells zeroLat 61)) (size_lat _ _ _ _) rfl (one_lat _ _ _ _) ?_; rw [World.setRow_alloc_new]; obtain ⟨b6, hb6⟩ : ∃ b6, b6 = w1.heap.size := ⟨_, rfl⟩; obtain ⟨w2, hw2⟩ : ∃ w2, w2 = w1.alloc (.cells (latOf L) 61) := ⟨_, rfl⟩; rw [← hw2, ← hb6]; have hL : LatAt w2 b6 L := (by rw [hw2, hb6]; exact LatAt.new w1 L); replace hz : w2.heap[w.heap.size]? = some (.cells zeroLat 61 (0, 0)) := (by rw [hw2, Below.heap_alloc _ _ _ (lt_of_block hz)]; exact hz); replace hB : Below w.heap.size w w2 := (by rw [hw2]; exact hB.alloc hB.size _); clear hw2 hb6)
    | (refine wpList_load_row_w rfl 61 _ rfl b6 rfl _ _ _ _ hL Try.underlying61 rfl (size_lat _ _ _ _) ?_)
    | (go_at_call 113; refine (ret_below (has_any a2 c2 L E _ (hr2.below hB) hE) HW.out).mono ?_; rintro e w4 ⟨rfl, h4⟩; replace hL := hL.below h4 hL.lt; replace hz := (h4.block _ (lt_of_block hz)).trans hz; replace hB := hB.trans (h4.mono hB.size); clear h4)
    | (refine wpList_store_row rfl 61 _ _ rfl w.heap.size (latOf L) rfl rfl _ _ hz (size_lat _ _ _ _) rfl (one_lat _ _ _ _) ?_))
  exact bodyPost_ret (v := .tuple #[.agg (latOf L), .bool true]) (results_lat_tmp rfl _ _ w.heap.size rfl _ (latA_size _ _ _ _) (setRow_heap _ _ _ _ _ _ hz) rfl) rfl ⟨rfl, below_setRow' hB (Nat.le_refl _) _⟩

theorem readWith_lat (a a2 : Option Addr) (cap c2 : Nat) (L E : List Int) (w : World) (hr : Rd w a L) (hr2 : Rd w a2 E) (hE : E.length ≤ 1048576) (h : latB L = true) :
    Calls Try.prog 68 #[.slice a L.length cap, .slice a2 E.length c2] w fun e w' => e = .returned (.tuple #[.agg (withA L E), .bool (withB L E)]) ∧ Below w.heap.size w w' := by
  cases hw : withB L E with
  | false => rw [withA_f hw]; exact readWith_el a a2 cap c2 L E w hr hr2 hE h hw
  | true => rw [withA_t hw]; exact readWith_good a a2 cap c2 L E w hr hr2 hE h hw
end Go.Proofs.Ytbellklaoecpbaa

namespace Go.Proofs.Ytbellklaoecpbaa
open Go.RowKit

theorem withB_two (L : List Int) (x y : Int) : withB L [x, y] = ((decide (0 ≤ x) && decide (x < L.length)) && (decide (0 ≤ y) && decide (y < L.length))) := by
  unfold withB
  rw [show ((List.length [x, y] : Nat) : Int) = (0 + 1) + 1 from rfl, allI_succ _ (by omega), allI_succ _ (by omega), allI_zero]
  rfl
theorem good_two {L : List Int} {x y : Int} : goodB L x y = (latB L && withB L [x, y]) := by
  rw [withB_two]
  unfold goodB
  rw [show decide (x ≤ num L - 1) = decide (x < (L.length : Int)) from by rw [decide_eq_decide]; unfold num; omega, show decide (y ≤ num L - 1) = decide (y < (L.length : Int)) from by rw [decide_eq_decide]; unfold num; omega, Bool.and_assoc]
theorem row_two (w : World) (x y : Int) : Row (w.alloc (.cells #[.int .i64 x, .int .i64 y] 3)) w.heap.size [x, y] := heap_alloc_new w _

/-- impl.readLatticeWith at two elements -/
theorem readTwo_no (a : Option Addr) (cap : Nat) (L : List Int) (x y : Int) (w : World) (hr : Rd w a L) (h : goodB L x y = false) :
    Calls Try.prog 68 #[.slice a L.length cap, .slice (some ⟨w.heap.size, 0, none⟩) 2 2] (w.alloc (.cells #[.int .i64 x, .int .i64 y] 3)) fun e w' => e = .returned (.tuple #[.agg zeroLat, .bool false]) ∧ Below w.heap.size w w' := by
  have hb : Below w.heap.size w (w.alloc (.cells #[.int .i64 x, .int .i64 y] 3)) := (Below.refl _ _).alloc (Nat.le_refl _) _
  rw [good_two] at h
  cases hl : latB L with
  | false => exact (readWith_bad a (some ⟨w.heap.size, 0, none⟩) cap 2 L [x, y] _ (hr.below hb) hl).mono fun _ _ h => ⟨h.1, hb.trans (h.2.mono (by simp))⟩
  | true =>
    rw [hl, Bool.true_and] at h
    have := readWith_lat a (some ⟨w.heap.size, 0, none⟩) cap 2 L [x, y] _ (hr.below hb) (row_two w x y).rd (by simp) hl
    rw [withA_f h, h] at this
    exact this.mono fun _ _ h => ⟨h.1, hb.trans (h.2.mono (by simp))⟩
theorem readTwo_yes (a : Option Addr) (cap : Nat) (L : List Int) (x y : Int) (w : World) (hr : Rd w a L) (h : goodB L x y = true) :
    Calls Try.prog 68 #[.slice a L.length cap, .slice (some ⟨w.heap.size, 0, none⟩) 2 2] (w.alloc (.cells #[.int .i64 x, .int .i64 y] 3)) fun e w' => e = .returned (.tuple #[.agg (latOf L), .bool true]) ∧ Below w.heap.size w w' := by
  have hb : Below w.heap.size w (w.alloc (.cells #[.int .i64 x, .int .i64 y] 3)) := (Below.refl _ _).alloc (Nat.le_refl _) _
  rw [good_two, Bool.and_eq_true] at h
  have := readWith_lat a (some ⟨w.heap.size, 0, none⟩) cap 2 L [x, y] _ (hr.below hb) (row_two w x y).rd (by simp) h.1
  rw [withA_t h.2, h.2] at this
  exact this.mono fun _ _ h => ⟨h.1, hb.trans (h.2.mono (by simp))⟩

set_option maxRecDepth 100000 in
set_option maxHeartbeats 1000000 in
/-- impl.IsBelow -/
theorem implIsBelow_any (a : Option Addr) (cap : Nat) (L : List Int) (x y : Int) (w : World) (hr : Rd w a L) :
    Calls Try.prog 18 #[.slice a L.length cap, .int .i64 x, .int .i64 y] w fun e w' => e = .returned (.bool (isBelowB L x y)) ∧ Below w.heap.size w w' := by
  cases hB : goodB L x y with
  | false =>
    have hv := Lib.hid (show isBelowB L x y = false by unfold isBelowB; rw [hB]; rfl)
    have HB := Lib.hid hB; clear hB
    go_enter Try.func18, Try.ntmps18
    go_wp2_with (first
      | (go_at_call 68; refine (readTwo_no _ _ L x y w hr HB.out).mono ?_; rintro e w1 ⟨rfl, h1⟩)
      | (refine wpList_store_row rfl 61 _ _ rfl w1.heap.size zeroLat rfl rfl _ _ (heap_alloc_new w1 (.cells zeroLat 61)) (size_lat _ _ _ _) rfl (one_lat _ _ _ _) ?_; rw [World.setRow_alloc_new]))
    go_ret
    exact ⟨ret_bool hv.out.symm, h1.alloc h1.size _⟩
  | true =>
    obtain ⟨hlat, h1, h6, hs, x0, x1, y0, y1⟩ := goodB_parts hB
    have hv := Lib.hid (show isBelowB L x y = ordG L x y by unfold isBelowB; rw [hB, ordG_in x1 y1]; rfl)
    have HB := Lib.hid hB; clear hB
    clear hlat hs
    go_enter Try.func18, Try.ntmps18
    go_wp2_with (first
      | (go_at_call 68; refine (readTwo_yes _ _ L x y w hr HB.out).mono ?_; rintro e w1 ⟨rfl, h1⟩)
      | (refine wpList_store_row rfl 61 _ _ rfl w1.heap.size (latOf L) rfl rfl _ _ (heap_alloc_new w1 (.cells zeroLat 61)) (size_lat _ _ _ _) rfl (one_lat _ _ _ _) ?_; rw [World.setRow_alloc_new]; obtain ⟨b6, hb6⟩ : ∃ b6, b6 = w1.heap.size := ⟨_, rfl⟩; obtain ⟨w2, hw2⟩ : ∃ w2, w2 = w1.alloc (.cells (latOf L) 61) := ⟨_, rfl⟩; rw [← hw2, ← hb6]; have hL : LatAt w2 b6 L := (by rw [hw2, hb6]; exact LatAt.new w1 L); replace h1 : Below w.heap.size w w2 := (by rw [hw2]; exact h1.alloc h1.size _); clear hw2 hb6; have c0 := hL.g x0 (by omega : x < 6) y0 (by omega : y < 6)))
    go_ret
    exact ⟨ret_bool hv.out.symm, h1⟩

set_option maxRecDepth 100000 in
set_option maxHeartbeats 1000000 in
/-- impl.MeetOf -/
theorem implMeetOf_any (a : Option Addr) (cap : Nat) (L : List Int) (x y : Int) (w : World) (hr : Rd w a L) :
    Calls Try.prog 19 #[.slice a L.length cap, .int .i64 x, .int .i64 y] w fun e w' => e = .returned (.int .i64 (meetOfI L x y)) ∧ Below w.heap.size w w' := by
  cases hB : goodB L x y with
  | false =>
    have hv := Lib.hid (show meetOfI L x y = -1 by unfold meetOfI; rw [hB]; rfl)
    have HB := Lib.hid hB; clear hB
    go_enter Try.func19, Try.ntmps19
    go_wp2_with (first
      | (go_at_call 68; refine (readTwo_no _ _ L x y w hr HB.out).mono ?_; rintro e w1 ⟨rfl, h1⟩)
      | (refine wpList_store_row rfl 61 _ _ rfl w1.heap.size zeroLat rfl rfl _ _ (heap_alloc_new w1 (.cells zeroLat 61)) (size_lat _ _ _ _) rfl (one_lat _ _ _ _) ?_; rw [World.setRow_alloc_new]))
    go_ret
    exact ⟨ret_int hv.out.symm, h1.alloc h1.size _⟩
  | true =>
    obtain ⟨hlat, h1, h6, hs, x0, x1, y0, y1⟩ := goodB_parts hB
    have hv := Lib.hid (show meetOfI L x y = tabT (ordG L) L.length x y by unfold meetOfI; rw [hB, tabT_meet hlat x0 x1 y0 y1]; rfl)
    have HB := Lib.hid hB; clear hB
    clear hlat hs
    go_enter Try.func19, Try.ntmps19
    go_wp2_with (first
      | (go_at_call 68; refine (readTwo_yes _ _ L x y w hr HB.out).mono ?_; rintro e w1 ⟨rfl, h1⟩)
      | (refine wpList_store_row rfl 61 _ _ rfl w1.heap.size (latOf L) rfl rfl _ _ (heap_alloc_new w1 (.cells zeroLat 61)) (size_lat _ _ _ _) rfl (one_lat _ _ _ _) ?_; rw [World.setRow_alloc_new]; obtain ⟨b6, hb6⟩ : ∃ b6, b6 = w1.heap.size := ⟨_, rfl⟩; obtain ⟨w2, hw2⟩ : ∃ w2, w2 = w1.alloc (.cells (latOf L) 61) := ⟨_, rfl⟩; rw [← hw2, ← hb6]; have hL : LatAt w2 b6 L := (by rw [hw2, hb6]; exact LatAt.new w1 L); replace h1 : Below w.heap.size w w2 := (by rw [hw2]; exact h1.alloc h1.size _); clear hw2 hb6; have c0 := hL.m x0 (by omega : x < 6) y0 (by omega : y < 6)))
    go_ret
    exact ⟨ret_int hv.out.symm, h1⟩

set_option maxRecDepth 100000 in
set_option maxHeartbeats 1000000 in
/-- impl.JoinOf -/
theorem implJoinOf_any (a : Option Addr) (cap : Nat) (L : List Int) (x y : Int) (w : World) (hr : Rd w a L) :
    Calls Try.prog 42 #[.slice a L.length cap, .int .i64 x, .int .i64 y] w fun e w' => e = .returned (.int .i64 (joinOfI L x y)) ∧ Below w.heap.size w w' := by
  cases hB : goodB L x y with
  | false =>
    have hv := Lib.hid (show joinOfI L x y = -1 by unfold joinOfI; rw [hB]; rfl)
    have HB := Lib.hid hB; clear hB
    go_enter Try.func42, Try.ntmps42
    go_wp2_with (first
      | (go_at_call 68; refine (readTwo_no _ _ L x y w hr HB.out).mono ?_; rintro e w1 ⟨rfl, h1⟩)
      | (refine wpList_store_row rfl 61 _ _ rfl w1.heap.size zeroLat rfl rfl _ _ (heap_alloc_new w1 (.cells zeroLat 61)) (size_lat _ _ _ _) rfl (one_lat _ _ _ _) ?_; rw [World.setRow_alloc_new]))
    go_ret
    exact ⟨ret_int hv.out.symm, h1.alloc h1.size _⟩
  | true =>
    obtain ⟨hlat, h1, h6, hs, x0, x1, y0, y1⟩ := goodB_parts hB
    have hv := Lib.hid (show joinOfI L x y = tabT (revG (ordG L)) L.length x y by unfold joinOfI; rw [hB, tabT_join hlat x0 x1 y0 y1]; rfl)
    have HB := Lib.hid hB; clear hB
    clear hlat hs
    go_enter Try.func42, Try.ntmps42
    go_wp2_with (first
      | (go_at_call 68; refine (readTwo_yes _ _ L x y w hr HB.out).mono ?_; rintro e w1 ⟨rfl, h1⟩)
      | (refine wpList_store_row rfl 61 _ _ rfl w1.heap.size (latOf L) rfl rfl _ _ (heap_alloc_new w1 (.cells zeroLat 61)) (size_lat _ _ _ _) rfl (one_lat _ _ _ _) ?_; rw [World.setRow_alloc_new]; obtain ⟨b6, hb6⟩ : ∃ b6, b6 = w1.heap.size := ⟨_, rfl⟩; obtain ⟨w2, hw2⟩ : ∃ w2, w2 = w1.alloc (.cells (latOf L) 61) := ⟨_, rfl⟩; rw [← hw2, ← hb6]; have hL : LatAt w2 b6 L := (by rw [hw2, hb6]; exact LatAt.new w1 L); replace h1 : Below w.heap.size w w2 := (by rw [hw2]; exact h1.alloc h1.size _); clear hw2 hb6; have c0 := hL.j x0 (by omega : x < 6) y0 (by omega : y < 6)))
    go_ret
    exact ⟨ret_int hv.out.symm, h1⟩

end Go.Proofs.Ytbellklaoecpbaa

namespace Go.Proofs.Ytbellklaoecpbaa
open Go.RowKit

def distXYZ (L : List Int) (x y z : Int) : Bool := mt L x (jn L y z) == jn L (mt L x y) (mt L x z)
def distXY (L : List Int) (x y : Int) : Bool := allI (num L) (distXYZ L x y)
def distX (L : List Int) (x : Int) : Bool := allI (num L) (distXY L x)
def distB (L : List Int) : Bool := allI (num L) (distX L)
theorem mt_lt {L : List Int} (h : latB L = true) {x y : Int} (x0 : 0 ≤ x) (x1 : x < num L) (y0 : 0 ≤ y) (y1 : y < num L) : 0 ≤ mt L x y ∧ mt L x y < num L := by
  have p := (mt_pos h x0 x1 y0 y1).1
  rcases firstI_cases (num L) (isMeetB L x y) with ⟨e, _⟩ | ⟨a, b, _⟩
  · have : mt L x y = -1 := e
    omega
  · exact ⟨a, b⟩
theorem jn_lt {L : List Int} (h : latB L = true) {x y : Int} (x0 : 0 ≤ x) (x1 : x < num L) (y0 : 0 ≤ y) (y1 : y < num L) : 0 ≤ jn L x y ∧ jn L x y < num L := by
  have p := (mt_pos h x0 x1 y0 y1).2
  rcases firstI_cases (num L) (isJoinB L x y) with ⟨e, _⟩ | ⟨a, b, _⟩
  · have : jn L x y = -1 := e
    omega
  · exact ⟨a, b⟩

end Go.Proofs.Ytbellklaoecpbaa

namespace Go.Proofs.Ytbellklaoecpbaa
open Go.RowKit

theorem dist_over {L : List Int} (h : latB L = true) : all2 (L.length : Int) (overG L.length (tabM L) (tabJ L)) = distB L := by
  have hn : num L = L.length := rfl
  have key : ∀ x y z, 0 ≤ x → x < num L → 0 ≤ y → y < num L → 0 ≤ z → z < num L → goG (tabM L) (tabJ L) y z x = distXYZ L x y z := fun x y z x0 x1 y0 y1 z0 z1 => by
    obtain ⟨a0, a1⟩ := jn_lt h y0 y1 z0 z1
    obtain ⟨b0, b1⟩ := mt_lt h x0 x1 y0 y1
    obtain ⟨c0, c1⟩ := mt_lt h x0 x1 z0 z1
    have t1 : tabJ L y z = jn L y z := tabT_join h y0 y1 z0 z1
    have t2 : tabM L x y = mt L x y := tabT_meet h x0 x1 y0 y1
    have t3 : tabM L x z = mt L x z := tabT_meet h x0 x1 z0 z1
    have t4 : tabM L x (jn L y z) = mt L x (jn L y z) := tabT_meet h x0 x1 a0 a1
    have t5 : tabJ L (mt L x y) (mt L x z) = jn L (mt L x y) (mt L x z) := tabT_join h b0 b1 c0 c1
    unfold goG distXYZ
    rw [t1, t2, t3, t4, t5]
  rw [← hn, Bool.eq_iff_iff, all2_iff]
  unfold distB
  rw [allI_iff]
  constructor
  · intro q x x0 x1
    refine (allI_iff _ _).2 fun y y0 y1 => (allI_iff _ _).2 fun z z0 z1 => ?_
    rw [← key x y z x0 x1 y0 y1 z0 z1]
    exact (allI_iff _ _).1 (q y z y0 y1 z0 z1) x x0 x1
  · intro q y z y0 y1 z0 z1
    refine (allI_iff _ _).2 fun x x0 x1 => ?_
    rw [key x y z x0 x1 y0 y1 z0 z1]
    exact (allI_iff _ _).1 ((allI_iff _ _).1 (q x x0 x1) y y0 y1) z z0 z1
set_option maxRecDepth 100000 in
set_option maxHeartbeats 2000000 in
/-- impl.IsDistributive -/
theorem implIsDistributive_any (a : Option Addr) (cap : Nat) (L : List Int) (w : World) (hr : Rd w a L) :
    Calls Try.prog 36 #[.slice a L.length cap] w fun e w' => e = .returned (.bool (latB L && distB L)) ∧ Below w.heap.size w w' := by
  cases hB : latB L with
  | false =>
    have HB := Lib.hid hB; clear hB
    go_enter Try.func36, Try.ntmps36
    go_wp2_with (first
      | go_skip
      | (go_at_call 69; refine (readLattice_no _ _ _ _ hr HB.out).mono ?_; rintro e w1 ⟨rfl, h1⟩)
      | (refine wpList_store_row rfl 61 _ _ rfl w1.heap.size zeroLat rfl rfl _ _ (heap_alloc_new w1 (.cells zeroLat 61)) (size_lat _ _ _ _) rfl (one_lat _ _ _ _) ?_; rw [World.setRow_alloc_new]))
    go_ret
    exact ⟨rfl, h1.alloc h1.size _⟩
  | true =>
    obtain ⟨p1, p6, _⟩ := latB_parts hB
    have p6' : (L.length : Int) ≤ 6 := p6
    have hv := Lib.hid (dist_over hB)
    have FM := Lib.hid (fit_meet hB)
    have FJ := Lib.hid (fit_join hB)
    have HB := Lib.hid hB; clear hB
    go_enter Try.func36, Try.ntmps36
    go_wp2_with (first
      | go_skip
      | (go_at_call 69; refine (readLattice_yes _ _ _ _ hr HB.out).mono ?_; rintro e w1 ⟨rfl, h1⟩)
      | (refine wpList_store_row rfl 61 _ _ rfl w1.heap.size (latOf L) rfl rfl _ _ (heap_alloc_new w1 (.cells zeroLat 61)) (size_lat _ _ _ _) rfl (one_lat _ _ _ _) ?_; rw [World.setRow_alloc_new]; obtain ⟨b6, hb6⟩ : ∃ b6, b6 = w1.heap.size := ⟨_, rfl⟩; obtain ⟨w2, hw2⟩ : ∃ w2, w2 = w1.alloc (.cells (latOf L) 61) := ⟨_, rfl⟩; rw [← hw2, ← hb6]; have hL : LatAt w2 b6 L := (by rw [hw2, hb6]; exact LatAt.new w1 L); replace h1 : Below w.heap.size w w2 := (by rw [hw2]; exact h1.alloc h1.size _); clear hw2 hb6; have c0 := hL.size)
      | (refine wpList_load_mid_w rfl 59 _ rfl b6 37 rfl _ _ hL.meets Try.underlying59 rfl (size_table _) ?_)
      | (refine wpList_load_mid_w rfl 59 _ rfl b6 73 rfl _ _ hL.joins Try.underlying59 rfl (size_table _) ?_)
      | (go_at_call 85; refine (goesOver_any (tabM L) (tabJ L) L.length _ FM.out FJ.out (by omega) p6').mono ?_; rw [hv.out]; rintro e w5 ⟨rfl, h5⟩))
    go_ret
    exact ⟨rfl, h1.trans (h5.mono h1.size)⟩

end Go.Proofs.Ytbellklaoecpbaa
