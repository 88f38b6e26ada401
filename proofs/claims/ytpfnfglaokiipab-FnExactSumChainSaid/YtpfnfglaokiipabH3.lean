import Derived.Test.YtpfnfglaokiipabH2
namespace Go.Proofs.Ytpfnfglaokiipab
open Go.RowKit

theorem enters_s3 : Enters 123 := enters_of Try.func123 (by kernel_rfl) rfl
theorem enters_go : Enters 124 := enters_of Try.func124 (by kernel_rfl) rfl
set_option maxRecDepth 100000 in
set_option maxHeartbeats 1000000 in
theorem isSameForThree_any (f : Int → Int → Int) (n : Int) (w : World) (hf : FitG n f) (n0 : 0 ≤ n) (n6 : n ≤ 6) :
    Calls Try.prog 112 #[.agg (tab2 (iv f)), .int .i64 n] w fun e w' => e = .returned (.bool (all2 n (s3G n f))) ∧ Below w.heap.size w w' := by
  obtain ⟨w2, hw2⟩ : ∃ w2, w2 = (w.alloc (.cells (tab2 (iv f)) 58)).alloc (.cells #[.int .i64 n] 3) := ⟨_, rfl⟩
  have hB : Below w.heap.size w w2 := by rw [hw2]; exact ((Below.refl _ _).alloc (Nat.le_refl _) _).alloc (by simp) _
  have hb : Blk w2 w.heap.size 58 (iv f) := by rw [hw2]; exact (Blk.new w rfl).alloc _
  have h2 : w2.heap[w.heap.size + 1]? = some (.cells #[.int .i64 n] 3 (0, 0)) := by rw [hw2]; exact heap_alloc2_new _ _ _
  have H : ∀ (x y : Int) (wr : World), 0 ≤ x → x < n → 0 ≤ y → y < n → Below w2.heap.size w2 wr → Calls Try.prog 123 (#[.int .i64 x, .int .i64 y] ++ #[.pointer (some ⟨w.heap.size + 1, 0, none⟩), .pointer (some ⟨w.heap.size, 0, none⟩)]) wr fun e w' => e = .returned (.bool (s3G n f x y)) ∧ Below wr.heap.size wr w' := fun x y wr x0 x1 y0 y1 hbel => by
    rw [append22]
    exact (s3Clo_any f w.heap.size (w.heap.size + 1) n x y wr (Lib.hid hf) (hb.below hbel hb.lt) ((hbel.block _ (lt_of_block h2)).trans h2) n6 x0 x1 y0 y1).mono fun _ _ h => ⟨h.1, h.2.below _⟩
  have C := Lib.hid (allTwo_any _ _ n (s3G n f) _ n0 n6 enters_s3 H)
  clear H hb h2 hf
  go_enter Try.func112, Try.ntmps112
  go_wp2_with (go_at_call 99; rw [← hw2]; refine (C.out).mono ?_; rintro e w5 ⟨rfl, h5⟩)
  go_ret
  exact ⟨rfl, hB.trans (h5.mono hB.size)⟩

def goG (f j : Int → Int → Int) (y z x : Int) : Bool := f x (j y z) == j (f x y) (f x z)
def overG (n : Int) (f j : Int → Int → Int) (y z : Int) : Bool := allI n (goG f j y z)
set_option maxRecDepth 100000 in
set_option maxHeartbeats 2000000 in
theorem goClo_any (f j : Int → Int → Int) (B B2 B3 : Nat) (n y z : Int) (w : World) (hf : Hid (FitG n f)) (hj : Hid (FitG n j)) (hb : Blk w B 58 (iv f)) (hb3 : Blk w B3 58 (iv j)) (h2 : w.heap[B2]? = some (.cells #[.int .i64 n] 3 (0, 0))) (n6 : n ≤ 6) (y0 : 0 ≤ y) (y1 : y < n) (z0 : 0 ≤ z) (z1 : z < n) :
    Calls Try.prog 124 #[.int .i64 y, .int .i64 z, .pointer (some ⟨B2, 0, none⟩), .pointer (some ⟨B, 0, none⟩), .pointer (some ⟨B3, 0, none⟩)] w fun e w' => e = .returned (.bool (overG n f j y z)) ∧ Dr w w' := by
  have c2 := cell_of_one h2
  go_enter Try.func124, Try.ntmps124
  go_wp2
  go_loopw [8, 10] (fun _ c wr => ∃ x : Int, 0 ≤ x ∧ x ≤ n ∧ c = .int .i64 x ∧ AllTo x (goG f j y z) ∧ Dr w wr) (fun _ c _ => (6 - intOf c).toNat)
  case atStart => exact ⟨0, by omega, by omega, rfl, AllTo.zero _, Dr.refl _⟩
  case round =>
    obtain ⟨x, x0, x1, rfl, ha, hd⟩ := hrel
    by_cases hx : x < n
    · have hb' := hb.dr hd
      have hb3' := hb3.dr hd
      obtain ⟨a0, a1⟩ := hj.out y z y0 y1 z0 z1
      obtain ⟨b0, b1⟩ := hf.out x y x0 hx y0 y1
      obtain ⟨e0, e1⟩ := hf.out x z x0 hx z0 z1
      have a2 : j y z < 6 := by omega
      have b2 : f x y < 6 := by omega
      have e2 : f x z < 6 := by omega
      have x2 : x < 6 := by omega
      have d0 := cell_of_blk hb3' y0 (by omega : y < 6) z0 (by omega : z < 6)
      have d1 := cell_of_blk hb' x0 x2 a0 a2
      have d2 := cell_of_blk hb' x0 x2 y0 (by omega : y < 6)
      have d3 := cell_of_blk hb' x0 x2 z0 (by omega : z < 6)
      have d4 := cell_of_blk hb3' b0 b2 e0 e2
      have hv := Lib.hid (show goG f j y z x = !(f x (j y z) != j (f x y) (f x z)) by unfold goG; simp [bne])
      cases hq : f x (j y z) != j (f x y) (f x z)
      all_goals rw [hq] at hv
      case false =>
        go_wp2
        go_quiet (fail)
        go_wp2
        go_roundw
        case rel => exact ⟨x + 1, by omega, by omega, rfl, ha.succ hv.out, hd.more _⟩
        case measure => simp [intOf]; omega
      case true =>
        have hf2 := Lib.hid (show overG n f j y z = false from allI_false (p := goG f j y z) x x0 hx hv.out)
        go_wp2
        go_quiet (fail)
        go_wp2
        go_ret
        exact ⟨ret_bool (by rw [hf2.out]), hd.more _⟩
    · have ht := Lib.hid (show overG n f j y z = true from ha.all (by omega : n ≤ x))
      go_wp2
      go_ret
      exact ⟨ret_bool (by rw [ht.out]), hd⟩

set_option maxRecDepth 100000 in
set_option maxHeartbeats 1000000 in
theorem goesOver_any (f j : Int → Int → Int) (n : Int) (w : World) (hf : FitG n f) (hj : FitG n j) (n0 : 0 ≤ n) (n6 : n ≤ 6) :
    Calls Try.prog 114 #[.agg (tab2 (iv f)), .agg (tab2 (iv j)), .int .i64 n] w fun e w' => e = .returned (.bool (all2 n (overG n f j))) ∧ Below w.heap.size w w' := by
  obtain ⟨w2, hw2⟩ : ∃ w2, w2 = ((w.alloc (.cells (tab2 (iv f)) 58)).alloc (.cells (tab2 (iv j)) 58)).alloc (.cells #[.int .i64 n] 3) := ⟨_, rfl⟩
  have hB : Below w.heap.size w w2 := by rw [hw2]; exact (((Below.refl _ _).alloc (Nat.le_refl _) _).alloc (by simp) _).alloc (by simp; omega) _
  have hb : Blk w2 w.heap.size 58 (iv f) := by rw [hw2]; exact ((Blk.new w rfl).alloc _).alloc _
  have hb3 : Blk w2 (w.heap.size + 1) 58 (iv j) := by rw [hw2]; exact (Blk.mk' (by simp) rfl).alloc _
  have h2 : w2.heap[w.heap.size + 1 + 1]? = some (.cells #[.int .i64 n] 3 (0, 0)) := by
    have := heap_alloc_new ((w.alloc (.cells (tab2 (iv f)) 58)).alloc (.cells (tab2 (iv j)) 58)) (.cells #[.int .i64 n] 3)
    rw [hw2]; simpa using this
  have H : ∀ (x y : Int) (wr : World), 0 ≤ x → x < n → 0 ≤ y → y < n → Below w2.heap.size w2 wr → Calls Try.prog 124 (#[.int .i64 x, .int .i64 y] ++ #[.pointer (some ⟨w.heap.size + 1 + 1, 0, none⟩), .pointer (some ⟨w.heap.size, 0, none⟩), .pointer (some ⟨w.heap.size + 1, 0, none⟩)]) wr fun e w' => e = .returned (.bool (overG n f j x y)) ∧ Below wr.heap.size wr w' := fun x y wr x0 x1 y0 y1 hbel => by
    rw [append23]
    exact (goClo_any f j w.heap.size (w.heap.size + 1 + 1) (w.heap.size + 1) n x y wr (Lib.hid hf) (Lib.hid hj) (hb.below hbel hb.lt) (hb3.below hbel hb3.lt) ((hbel.block _ (lt_of_block h2)).trans h2) n6 x0 x1 y0 y1).mono fun _ _ h => ⟨h.1, h.2.below _⟩
  have C := Lib.hid (allTwo_any _ _ n (overG n f j) _ n0 n6 enters_go H)
  clear H hb h2 hf hj hb3
  go_enter Try.func114, Try.ntmps114
  go_wp2_with (go_at_call 99; rw [← hw2]; refine (C.out).mono ?_; rintro e w5 ⟨rfl, h5⟩)
  go_ret
  exact ⟨rfl, hB.trans (h5.mono hB.size)⟩

def kbG (n : Int) (f : Int → Int → Int) (x : Int) : Bool := f x (n - 1) == x && f x 0 == 0
set_option maxRecDepth 100000 in
set_option maxHeartbeats 1000000 in
theorem keepsBounds_any (f : Int → Int → Int) (n : Int) (w : World) (n1 : 1 ≤ n) (n6 : n ≤ 6) :
    Calls Try.prog 113 #[.agg (tab2 (iv f)), .int .i64 n] w fun e w' => e = .returned (.bool (allI n (kbG n f))) ∧ Below w.heap.size w w' := by
  have k1 : IntKind.i64.wrap (n - 1) = n - 1 := IntWalk.i64_in _ (by omega)
  have k2 : (0 : Int) ≤ n - 1 := by omega
  have k3 : n - 1 < 6 := by omega
  go_enter Try.func113, Try.ntmps113
  go_wp2
  go_loopw [5, 7] (fun _ c wr => ∃ x : Int, 0 ≤ x ∧ x ≤ n ∧ c = .int .i64 x ∧ AllTo x (kbG n f) ∧ Blk wr w.heap.size 58 (iv f) ∧ Below w.heap.size w wr) (fun _ c _ => (6 - intOf c).toNat)
  case atStart => exact ⟨0, by omega, by omega, rfl, AllTo.zero _, Blk.new w rfl, (Below.refl _ _).alloc (Nat.le_refl _) _⟩
  case round =>
    obtain ⟨x, x0, x1, rfl, ha, hb, hbel⟩ := hrel
    by_cases hx : x < n
    · have d0 : wr.cell? ⟨w.heap.size, x.toNat * 6 + (n.toNat - 1), none⟩ = some (.int .i64 (f x (n - 1))) := by
        have := cell_of_blk hb x0 (by omega : x < 6) k2 k3
        rwa [show (n - 1).toNat = n.toNat - 1 by omega] at this
      have d1 : wr.cell? ⟨w.heap.size, x.toNat * 6, none⟩ = some (.int .i64 (f x 0)) := cell_of_blk hb x0 (by omega : x < 6) (y := 0) (by omega) (by omega)
      have hv := Lib.hid (show kbG n f x = (!(f x (n - 1) != x) && !(f x 0 != 0)) by unfold kbG; simp [bne])
      cases hA : f x (n - 1) != x <;> cases hB : f x 0 != 0
      all_goals
        rw [hA, hB] at hv
        go_wp2
        first
          | (go_ret; exact ⟨ret_bool (allI_false x x0 hx hv.out).symm, hbel⟩)
          | (go_roundw
             case rel => exact ⟨x + 1, by omega, by omega, rfl, ha.succ hv.out, hb, hbel⟩
             case measure => simp [intOf]; omega)
    · have ht := Lib.hid (ha.all (by omega : n ≤ x))
      go_wp2
      go_ret
      exact ⟨ret_bool ht.out.symm, hbel⟩
end Go.Proofs.Ytpfnfglaokiipab
