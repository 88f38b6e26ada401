import Derived.Test.YtpfnfglaokiipaaJ1
import Derived.Test.YtpfnfglaokiipaaA5
import Derived.Test.YtpfnfglaokiipaaL1
namespace Go.Proofs.Ytpfnfglaokiipaa
open Go.RowKit

theorem lat_below {w w1 w2 : World} {g : Nat} {arr : Array Value} (h : w.heap[g]? = some (.cells arr 45 (0, 0))) (hb : Below w.heap.size w w1) (_ : w1 = w2) : w2.heap[g]? = some (.cells arr 45 (0, 0)) := by
  subst w2
  rw [hb.block _ (lt_of_block h)]; exact h

set_option maxRecDepth 100000 in
set_option maxHeartbeats 1000000 in
/-- impl.ValidLattice -/
theorem implValidLattice_any (a : Option Addr) (cap : Nat) (L : List Int) (w : World) (hr : Rd w a L) :
    Calls Try.prog 17 #[.slice a L.length cap] w fun e w' => e = .returned (.bool (latB L)) ∧ Below w.heap.size w w' := by
  cases hB : latB L with
  | false =>
    have HB := Lib.hid hB; clear hB
    go_enter Try.func17, Try.ntmps17
    go_wp2_with (first
      | (go_at_call 47; refine (readLattice_no _ _ _ _ hr HB.out).mono ?_; rintro e w1 ⟨rfl, h1⟩)
      | (refine wpList_store_row rfl 45 _ _ rfl w1.heap.size _ rfl rfl _ _ (heap_alloc_new w1 (.cells zeroLat 45)) (size_lat _ _ _ _) rfl (one_lat _ _ _ _) ?_; rw [World.setRow_alloc_new]))
    go_ret
    exact ⟨rfl, h1.alloc h1.size _⟩
  | true =>
    have HB := Lib.hid hB; clear hB
    go_enter Try.func17, Try.ntmps17
    go_wp2_with (first
      | (go_at_call 47; refine (readLattice_yes _ _ _ _ hr HB.out).mono ?_; rintro e w1 ⟨rfl, h1⟩)
      | (refine wpList_store_row rfl 45 _ _ rfl w1.heap.size (latOf L) rfl rfl _ _ (heap_alloc_new w1 (.cells zeroLat 45)) (size_lat _ _ _ _) rfl (one_lat _ _ _ _) ?_; rw [World.setRow_alloc_new]))
    go_ret
    exact ⟨rfl, h1.alloc h1.size _⟩

set_option maxRecDepth 100000 in
set_option maxHeartbeats 1000000 in
/-- the law -/
theorem lawValidLattice (a : Option Addr) (cap : Nat) (L : List Int) (w : World) (hr : Rd w a L) (hm : L.length ≤ maxLen) :
    Calls Try.prog 3 #[.slice a L.length cap] w fun e w' => e = .returned (.bool true) ∧ Below w.heap.size w w' := by
  unfold maxLen at hm
  by_cases hbig : 1048576 < L.length
  · go_enter Try.func3, Try.ntmps3
    go_wp2
    go_ret
    exact ⟨rfl, Below.refl _ _⟩
  · have hs : L.length ≤ 1048576 := by omega
    have hs2 : (L.length : Int) ≤ 1048576 := by omega
    go_enter Try.func3, Try.ntmps3
    go_wp2_with fail
    refine (toIntS_any _ _ L _ hr hs).mono ?_
    rintro e w1 ⟨rfl, hrow1, hb1⟩
    go_wp2_with fail
    refine (specValidLattice_any _ _ L _ hrow1.rd).mono ?_
    rintro e w2 ⟨rfl, hd2⟩
    have hr2 : Rd w2 a L := hd2.rd (hr.below hb1)
    have hB2 : Below w.heap.size w w2 := hb1.trans (hd2.below _)
    clear hrow1 hb1 hd2
    go_wp2_with fail
    refine (toIntS_any _ _ L _ hr2 hs).mono ?_
    rintro e w3 ⟨rfl, hrow3, hb3⟩
    have hr3 : Rd w3 a L := hr2.below hb3
    have hB3 : Below w.heap.size w w3 := hB2.trans (hb3.mono hB2.size)
    obtain ⟨b3, hb3'⟩ : ∃ b3, b3 = w2.heap.size := ⟨_, rfl⟩
    rw [← hb3'] at hrow3 ⊢
    clear hr2 hB2 hb3 hb3'
    go_wp2_with fail
    refine (implValidLattice_any _ _ L _ hrow3.rd).mono ?_
    rintro e w4 ⟨rfl, hb4⟩
    have hr4 : Rd w4 a L := hr3.below hb4
    have hrow4 := hrow3.below hb4 hrow3.lt
    have hB4 : Below w.heap.size w w4 := hB3.trans (hb4.mono hB3.size)
    clear hr3 hrow3 hB3 hb4
    have hne : (latB L != latB L) = false := by simp
    go_wp2_with fail
    refine (toIntS_any _ _ L _ hr4 hs).mono ?_
    rintro e w5 ⟨rfl, hrow5, hb5⟩
    have hrow6 := hrow4.below hb5 hrow4.lt
    have hB5 : Below w.heap.size w w5 := hB4.trans (hb5.mono hB4.size)
    have heq : eqL L L = true := decide_eq_true rfl
    go_wp2_with fail
    refine (eqIntS_any _ _ _ _ L L _ hrow6.rd hrow5.rd (by omega)).mono ?_
    rintro e w6 ⟨rfl, hd6⟩
    go_wp2
    go_ret
    exact ⟨rfl, hB5.trans (hd6.below _)⟩
end Go.Proofs.Ytpfnfglaokiipaa
