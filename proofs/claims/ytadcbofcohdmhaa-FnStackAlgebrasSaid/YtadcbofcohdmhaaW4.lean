import Derived.Test.YtadcbofcohdmhaaK1
import Derived.Test.YtadcbofcohdmhaaA5
import Derived.Test.YtadcbofcohdmhaaL5
import Derived.Test.YtadcbofcohdmhaaG11
namespace Go.Proofs.Ytadcbofcohdmhaa
open Go.RowKit

theorem lat_below {w w1 w2 : World} {g : Nat} {arr : Array Value} (h : w.heap[g]? = some (.cells arr 48 (0, 0))) (hb : Below w.heap.size w w1) (_ : w1 = w2) : w2.heap[g]? = some (.cells arr 48 (0, 0)) := by
  subst w2
  rw [hb.block _ (lt_of_block h)]; exact h

end Go.Proofs.Ytadcbofcohdmhaa

namespace Go.Proofs.Ytadcbofcohdmhaa
open Go.RowKit

def withA (L E : List Int) : Array Value := if withB L E then latOf L else zeroLat
theorem withA_t {L E : List Int} (h : withB L E = true) : withA L E = latOf L := by unfold withA; rw [if_pos h]
theorem withA_f {L E : List Int} (h : withB L E = false) : withA L E = zeroLat := by unfold withA; rw [if_neg (by rw [h]; decide)]
end Go.Proofs.Ytadcbofcohdmhaa

namespace Go.Proofs.Ytadcbofcohdmhaa
open Go.RowKit

theorem withB_two (L : List Int) (x y : Int) : withB L [x, y] = ((decide (0 ≤ x) && decide (x < L.length)) && (decide (0 ≤ y) && decide (y < L.length))) := by
  unfold withB
  rw [show ((List.length [x, y] : Nat) : Int) = (0 + 1) + 1 from rfl, allI_succ _ (by omega), allI_succ _ (by omega), allI_zero]
  rfl
theorem good_two {L : List Int} {x y : Int} : goodB L x y = (latB L && withB L [x, y]) := by
  rw [withB_two]
  unfold goodB
  rw [show decide (x ≤ num L - 1) = decide (x < (L.length : Int)) from by rw [decide_eq_decide]; unfold num; omega, show decide (y ≤ num L - 1) = decide (y < (L.length : Int)) from by rw [decide_eq_decide]; unfold num; omega, Bool.and_assoc]
theorem row_two (w : World) (x y : Int) : Row (w.alloc (.cells #[.int .i64 x, .int .i64 y] 3)) w.heap.size [x, y] := heap_alloc_new w _

end Go.Proofs.Ytadcbofcohdmhaa

namespace Go.Proofs.Ytadcbofcohdmhaa
open Go.RowKit

def distXYZ (L : List Int) (x y z : Int) : Bool := mt L x (jn L y z) == jn L (mt L x y) (mt L x z)
def distXY (L : List Int) (x y : Int) : Bool := allI (num L) (distXYZ L x y)
def distX (L : List Int) (x : Int) : Bool := allI (num L) (distXY L x)
def distB (L : List Int) : Bool := allI (num L) (distX L)
theorem mt_lt {L : List Int} (h : latB L = true) {x y : Int} (x0 : 0 ≤ x) (x1 : x < num L) (y0 : 0 ≤ y) (y1 : y < num L) : 0 ≤ mt L x y ∧ mt L x y < num L := by
  have p := (mt_pos h x0 x1 y0 y1).1
  rcases firstI_cases (num L) (isMeetB L x y) with ⟨e, _⟩ | ⟨a, b, _⟩
  · have : mt L x y = -1 := e
    omega
  · exact ⟨a, b⟩
theorem jn_lt {L : List Int} (h : latB L = true) {x y : Int} (x0 : 0 ≤ x) (x1 : x < num L) (y0 : 0 ≤ y) (y1 : y < num L) : 0 ≤ jn L x y ∧ jn L x y < num L := by
  have p := (mt_pos h x0 x1 y0 y1).2
  rcases firstI_cases (num L) (isJoinB L x y) with ⟨e, _⟩ | ⟨a, b, _⟩
  · have : jn L x y = -1 := e
    omega
  · exact ⟨a, b⟩

theorem enters_ch : Enters 59 := enters_of Try.func59 (by kernel_rfl) rfl
set_option maxRecDepth 100000 in
set_option maxHeartbeats 1000000 in
theorem chClo_any (L : List Int) (B : Nat) (x y : Int) (w : World) (hL : LatAt w B L) (n6 : num L ≤ 6) (x0 : 0 ≤ x) (x1 : x < num L) (y0 : 0 ≤ y) (y1 : y < num L) :
    Calls Try.prog 59 #[.int .i64 x, .int .i64 y, .pointer (some ⟨B, 0, none⟩)] w fun e w' => e = .returned (.bool (chainXY L x y)) ∧ w = w' := by
  have x6 : x < 6 := by omega
  have y6 : y < 6 := by omega
  have d0 := hL.g x0 x6 y0 y6
  have d1 := hL.g y0 y6 x0 x6
  rw [ordG_in x1 y1] at d0
  rw [ordG_in y1 x1] at d1
  have hv := Lib.hid (show chainXY L x y = (bl L x y || bl L y x) from rfl)
  cases hA : bl L x y <;> cases hB : bl L y x
  all_goals
    rw [hA, hB] at hv
    go_enter Try.func59, Try.ntmps59
    go_wp2
    go_ret
    exact ⟨ret_bool (by rw [hv.out]; rfl), rfl⟩
set_option maxRecDepth 100000 in
set_option maxHeartbeats 1000000 in
/-- impl.lattice.isChain -/
theorem isChainM_any (L : List Int) (w : World) (n6 : num L ≤ 6) :
    Calls Try.prog 28 #[.agg (latOf L)] w fun e w' => e = .returned (.bool (chainB L)) ∧ Below w.heap.size w w' := by
  have hn : num L = L.length := rfl
  obtain ⟨w1, hw1⟩ : ∃ w1, w1 = w.alloc (.cells (latOf L) 48) := ⟨_, rfl⟩
  have hB : Below w.heap.size w w1 := by rw [hw1]; exact (Below.refl _ _).alloc (Nat.le_refl _) _
  have hL : LatAt w1 w.heap.size L := by rw [hw1]; exact LatAt.new w L
  have c0 := hL.size
  have H : ∀ (x y : Int) (wr : World), 0 ≤ x → x < (L.length : Int) → 0 ≤ y → y < (L.length : Int) → Below w1.heap.size w1 wr → Calls Try.prog 59 (#[.int .i64 x, .int .i64 y] ++ #[.pointer (some ⟨w.heap.size, 0, none⟩)]) wr fun e w' => e = .returned (.bool (chainXY L x y)) ∧ Below wr.heap.size wr w' := fun x y wr x0 x1 y0 y1 hbel => by
    rw [append2]
    exact (chClo_any L w.heap.size x y wr (hL.below hbel hL.lt) n6 x0 (by omega) y0 (by omega)).mono fun _ _ h => ⟨h.1, by rw [← h.2]; exact Below.refl _ _⟩
  have C := Lib.hid (allTwo_any _ _ (L.length : Int) (chainXY L) _ (by omega) (by omega) enters_ch H)
  have hv := Lib.hid (show all2 (L.length : Int) (chainXY L) = chainB L from rfl)
  clear H hL hn
  go_enter Try.func28, Try.ntmps28
  go_wp2_with (first | (rw [← hw1]; clear hw1) | (go_at_call 51; refine (C.out).mono ?_; rw [hv.out]; rintro e w5 ⟨rfl, h5⟩))
  go_ret
  exact ⟨rfl, hB.trans (h5.mono hB.size)⟩

set_option maxRecDepth 100000 in
set_option maxHeartbeats 2000000 in
/-- impl.IsChain -/
theorem implIsChain_any (a : Option Addr) (cap : Nat) (L : List Int) (w : World) (hr : Rd w a L) :
    Calls Try.prog 10 #[.slice a L.length cap] w fun e w' => e = .returned (.bool (latB L && chainB L)) ∧ Below w.heap.size w w' := by
  cases hB : latB L with
  | false =>
    have HB := Lib.hid hB; clear hB
    go_enter Try.func10, Try.ntmps10
    go_wp2_with (first
      | go_skip
      | (go_at_call 27; refine (readLattice_no _ _ _ _ hr HB.out).mono ?_; rintro e w1 ⟨rfl, h1⟩)
      | (refine wpList_store_row rfl 48 _ _ rfl w1.heap.size zeroLat rfl rfl _ _ (heap_alloc_new w1 (.cells zeroLat 48)) (size_lat _ _ _ _) rfl (one_lat _ _ _ _) ?_; rw [World.setRow_alloc_new]))
    go_ret
    exact ⟨rfl, h1.alloc h1.size _⟩
  | true =>
    obtain ⟨p1, p6, _⟩ := latB_parts hB
    have HB := Lib.hid hB; clear hB
    go_enter Try.func10, Try.ntmps10
    go_wp2_with (first
      | go_skip
      | (go_at_call 27; refine (readLattice_yes _ _ _ _ hr HB.out).mono ?_; rintro e w1 ⟨rfl, h1⟩)
      | (refine wpList_store_row rfl 48 _ _ rfl w1.heap.size (latOf L) rfl rfl _ _ (heap_alloc_new w1 (.cells zeroLat 48)) (size_lat _ _ _ _) rfl (one_lat _ _ _ _) ?_; rw [World.setRow_alloc_new]; obtain ⟨b6, hb6⟩ : ∃ b6, b6 = w1.heap.size := ⟨_, rfl⟩; obtain ⟨w2, hw2⟩ : ∃ w2, w2 = w1.alloc (.cells (latOf L) 48) := ⟨_, rfl⟩; rw [← hw2, ← hb6]; have hL : LatAt w2 b6 L := (by rw [hw2, hb6]; exact LatAt.new w1 L); replace h1 : Below w.heap.size w w2 := (by rw [hw2]; exact h1.alloc h1.size _); clear hw2 hb6)
      | (refine wpList_load_row_w rfl 48 _ rfl b6 rfl _ _ _ _ hL Try.underlying48 rfl (size_lat _ _ _ _) ?_)
      | (go_at_call 28; refine (isChainM_any L _ p6).mono ?_; rintro e w5 ⟨rfl, h5⟩))
    go_ret
    exact ⟨rfl, h1.trans (h5.mono h1.size)⟩

end Go.Proofs.Ytadcbofcohdmhaa

namespace Go.Proofs.Ytadcbofcohdmhaa
open Go.RowKit

theorem dist_over {L : List Int} (h : latB L = true) : all2 (L.length : Int) (overG L.length (tabM L) (tabJ L)) = distB L := by
  have hn : num L = L.length := rfl
  have key : ∀ x y z, 0 ≤ x → x < num L → 0 ≤ y → y < num L → 0 ≤ z → z < num L → goG (tabM L) (tabJ L) y z x = distXYZ L x y z := fun x y z x0 x1 y0 y1 z0 z1 => by
    obtain ⟨a0, a1⟩ := jn_lt h y0 y1 z0 z1
    obtain ⟨b0, b1⟩ := mt_lt h x0 x1 y0 y1
    obtain ⟨c0, c1⟩ := mt_lt h x0 x1 z0 z1
    have t1 : tabJ L y z = jn L y z := tabT_join h y0 y1 z0 z1
    have t2 : tabM L x y = mt L x y := tabT_meet h x0 x1 y0 y1
    have t3 : tabM L x z = mt L x z := tabT_meet h x0 x1 z0 z1
    have t4 : tabM L x (jn L y z) = mt L x (jn L y z) := tabT_meet h x0 x1 a0 a1
    have t5 : tabJ L (mt L x y) (mt L x z) = jn L (mt L x y) (mt L x z) := tabT_join h b0 b1 c0 c1
    unfold goG distXYZ
    rw [t1, t2, t3, t4, t5]
  rw [← hn, Bool.eq_iff_iff, all2_iff]
  unfold distB
  rw [allI_iff]
  constructor
  · intro q x x0 x1
    refine (allI_iff _ _).2 fun y y0 y1 => (allI_iff _ _).2 fun z z0 z1 => ?_
    rw [← key x y z x0 x1 y0 y1 z0 z1]
    exact (allI_iff _ _).1 (q y z y0 y1 z0 z1) x x0 x1
  · intro q y z y0 y1 z0 z1
    refine (allI_iff _ _).2 fun x x0 x1 => ?_
    rw [key x y z x0 x1 y0 y1 z0 z1]
    exact (allI_iff _ _).1 ((allI_iff _ _).1 (q x x0 x1) y y0 y1) z z0 z1
end Go.Proofs.Ytadcbofcohdmhaa
