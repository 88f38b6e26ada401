import Derived.Test.YtpfnfglaokiipaaW3
namespace Go.Proofs.Ytpfnfglaokiipaa
open Go.RowKit

theorem dist_over {L : List Int} (h : latB L = true) : all2 (L.length : Int) (overG L.length (tabM L) (tabJ L)) = distB L := by
  have hn : num L = L.length := rfl
  have key : ∀ x y z, 0 ≤ x → x < num L → 0 ≤ y → y < num L → 0 ≤ z → z < num L → goG (tabM L) (tabJ L) y z x = distXYZ L x y z := fun x y z x0 x1 y0 y1 z0 z1 => by
    obtain ⟨a0, a1⟩ := jn_lt h y0 y1 z0 z1
    obtain ⟨b0, b1⟩ := mt_lt h x0 x1 y0 y1
    obtain ⟨c0, c1⟩ := mt_lt h x0 x1 z0 z1
    have t1 : tabJ L y z = jn L y z := tabT_join h y0 y1 z0 z1
    have t2 : tabM L x y = mt L x y := tabT_meet h x0 x1 y0 y1
    have t3 : tabM L x z = mt L x z := tabT_meet h x0 x1 z0 z1
    have t4 : tabM L x (jn L y z) = mt L x (jn L y z) := tabT_meet h x0 x1 a0 a1
    have t5 : tabJ L (mt L x y) (mt L x z) = jn L (mt L x y) (mt L x z) := tabT_join h b0 b1 c0 c1
    unfold goG distXYZ
    rw [t1, t2, t3, t4, t5]
  rw [← hn, Bool.eq_iff_iff, all2_iff]
  unfold distB
  rw [allI_iff]
  constructor
  · intro q x x0 x1
    refine (allI_iff _ _).2 fun y y0 y1 => (allI_iff _ _).2 fun z z0 z1 => ?_
    rw [← key x y z x0 x1 y0 y1 z0 z1]
    exact (allI_iff _ _).1 (q y z y0 y1 z0 z1) x x0 x1
  · intro q y z y0 y1 z0 z1
    refine (allI_iff _ _).2 fun x x0 x1 => ?_
    rw [key x y z x0 x1 y0 y1 z0 z1]
    exact (allI_iff _ _).1 ((allI_iff _ _).1 (q x x0 x1) y y0 y1) z z0 z1
set_option maxRecDepth 100000 in
set_option maxHeartbeats 2000000 in
/-- impl.IsDistributive -/
theorem implIsDistributive_any (a : Option Addr) (cap : Nat) (L : List Int) (w : World) (hr : Rd w a L) :
    Calls Try.prog 32 #[.slice a L.length cap] w fun e w' => e = .returned (.bool (latB L && distB L)) ∧ Below w.heap.size w w' := by
  cases hB : latB L with
  | false =>
    have HB := Lib.hid hB; clear hB
    go_enter Try.func32, Try.ntmps32
    go_wp2_with (first
      | go_skip
      | (go_at_call 47; refine (readLattice_no _ _ _ _ hr HB.out).mono ?_; rintro e w1 ⟨rfl, h1⟩)
      | (refine wpList_store_row rfl 45 _ _ rfl w1.heap.size zeroLat rfl rfl _ _ (heap_alloc_new w1 (.cells zeroLat 45)) (size_lat _ _ _ _) rfl (one_lat _ _ _ _) ?_; rw [World.setRow_alloc_new]))
    go_ret
    exact ⟨rfl, h1.alloc h1.size _⟩
  | true =>
    obtain ⟨p1, p6, _⟩ := latB_parts hB
    have p6' : (L.length : Int) ≤ 6 := p6
    have hv := Lib.hid (dist_over hB)
    have FM := Lib.hid (fit_meet hB)
    have FJ := Lib.hid (fit_join hB)
    have HB := Lib.hid hB; clear hB
    go_enter Try.func32, Try.ntmps32
    go_wp2_with (first
      | go_skip
      | (go_at_call 47; refine (readLattice_yes _ _ _ _ hr HB.out).mono ?_; rintro e w1 ⟨rfl, h1⟩)
      | (refine wpList_store_row rfl 45 _ _ rfl w1.heap.size (latOf L) rfl rfl _ _ (heap_alloc_new w1 (.cells zeroLat 45)) (size_lat _ _ _ _) rfl (one_lat _ _ _ _) ?_; rw [World.setRow_alloc_new]; obtain ⟨b6, hb6⟩ : ∃ b6, b6 = w1.heap.size := ⟨_, rfl⟩; obtain ⟨w2, hw2⟩ : ∃ w2, w2 = w1.alloc (.cells (latOf L) 45) := ⟨_, rfl⟩; rw [← hw2, ← hb6]; have hL : LatAt w2 b6 L := (by rw [hw2, hb6]; exact LatAt.new w1 L); replace h1 : Below w.heap.size w w2 := (by rw [hw2]; exact h1.alloc h1.size _); clear hw2 hb6; have c0 := hL.size)
      | (refine wpList_load_mid_w rfl 43 _ rfl b6 37 rfl _ _ hL.meets Try.underlying43 rfl (size_table _) ?_)
      | (refine wpList_load_mid_w rfl 43 _ rfl b6 73 rfl _ _ hL.joins Try.underlying43 rfl (size_table _) ?_)
      | (go_at_call 60; refine (goesOver_any (tabM L) (tabJ L) L.length _ FM.out FJ.out (by omega) p6').mono ?_; rw [hv.out]; rintro e w5 ⟨rfl, h5⟩))
    go_ret
    exact ⟨rfl, h1.trans (h5.mono h1.size)⟩

set_option maxRecDepth 100000 in
set_option maxHeartbeats 1000000 in
/-- the law -/
theorem lawIsDistributive (a : Option Addr) (cap : Nat) (L : List Int) (w : World) (hr : Rd w a L) (hm : L.length ≤ maxLen) :
    Calls Try.prog 9 #[.slice a L.length cap] w fun e w' => e = .returned (.bool true) ∧ Below w.heap.size w w' := by
  have hmm := hm
  unfold maxLen at hm
  by_cases hbig : 1048576 < L.length
  · go_enter Try.func9, Try.ntmps9
    go_wp2
    go_ret
    exact ⟨rfl, Below.refl _ _⟩
  · have hs : L.length ≤ 1048576 := by omega
    have hs2 : (L.length : Int) ≤ 1048576 := by omega
    go_enter Try.func9, Try.ntmps9
    go_wp2_with fail
    refine (toIntS_any _ _ L _ hr hs).mono ?_
    rintro e w1 ⟨rfl, hrow1, hb1⟩
    go_wp2_with fail
    refine (specIsDistributive_any _ _ L _ hrow1.rd).mono ?_
    rintro e w2 ⟨rfl, hd2⟩
    have hr2 : Rd w2 a L := hd2.rd (hr.below hb1)
    have hB2 : Below w.heap.size w w2 := hb1.trans (hd2.below _)
    clear hrow1 hb1 hd2
    go_wp2_with fail
    refine (toIntS_any _ _ L _ hr2 hs).mono ?_
    rintro e w3 ⟨rfl, hrow3, hb3⟩
    have hr3 : Rd w3 a L := hr2.below hb3
    have hB3 : Below w.heap.size w w3 := hB2.trans (hb3.mono hB2.size)
    obtain ⟨b3, hb3'⟩ : ∃ b3, b3 = w2.heap.size := ⟨_, rfl⟩
    rw [← hb3'] at hrow3 ⊢
    clear hr2 hB2 hb3 hb3'
    go_wp2_with fail
    refine (implIsDistributive_any _ _ L _ hrow3.rd).mono ?_
    rintro e w4 ⟨rfl, hb4⟩
    have hr4 : Rd w4 a L := hr3.below hb4
    have hrow4 := hrow3.below hb4 hrow3.lt
    have hB4 : Below w.heap.size w w4 := hB3.trans (hb4.mono hB3.size)
    clear hr3 hrow3 hB3 hb4
    have hne : ((latB L && distB L) != (latB L && distB L)) = false := by simp
    go_wp2_with fail
    refine (toIntS_any _ _ L _ hr4 hs).mono ?_
    rintro e w5 ⟨rfl, hrow5, hb5⟩
    have hrow6 := hrow4.below hb5 hrow4.lt
    have hB5 : Below w.heap.size w w5 := hB4.trans (hb5.mono hB4.size)
    have heq : eqL L L = true := decide_eq_true rfl
    go_wp2_with fail
    refine (eqIntS_any _ _ _ _ L L _ hrow6.rd hrow5.rd (by omega)).mono ?_
    rintro e w6 ⟨rfl, hd6⟩
    go_wp2
    go_ret
    exact ⟨rfl, hB5.trans (hd6.below _)⟩

end Go.Proofs.Ytpfnfglaokiipaa
