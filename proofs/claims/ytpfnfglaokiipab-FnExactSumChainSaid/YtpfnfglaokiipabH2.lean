import Derived.Test.YtpfnfglaokiipabH1
namespace Go.Proofs.Ytpfnfglaokiipab
open Go.RowKit

theorem cell_of_blk {w : World} {B : Nat} {f : Int → Int → Int} (h : Blk w B 58 (iv f)) {x y : Int} (x0 : 0 ≤ x) (x1 : x < 6) (y0 : 0 ≤ y) (y1 : y < 6) : w.cell? ⟨B, x.toNat * 6 + y.toNat, none⟩ = some (.int .i64 (f x y)) := h.cell x0 x1 y0 y1
theorem append2 (a b c : Value) : (#[a, b] ++ #[c] : Array Value) = #[a, b, c] := rfl
theorem append22 (a b c d : Value) : (#[a, b] ++ #[c, d] : Array Value) = #[a, b, c, d] := rfl
theorem append23 (a b c d e : Value) : (#[a, b] ++ #[c, d, e] : Array Value) = #[a, b, c, d, e] := rfl

theorem enters_sb : Enters 122 := enters_of Try.func122 (by kernel_rfl) rfl
def sbG (f : Int → Int → Int) (x y : Int) : Bool := f x y == f y x
set_option maxRecDepth 100000 in
set_option maxHeartbeats 1000000 in
theorem sbClo_any (f : Int → Int → Int) (B : Nat) (n x y : Int) (w : World) (hb : Blk w B 58 (iv f)) (n6 : n ≤ 6) (x0 : 0 ≤ x) (x1 : x < n) (y0 : 0 ≤ y) (y1 : y < n) :
    Calls Try.prog 122 #[.int .i64 x, .int .i64 y, .pointer (some ⟨B, 0, none⟩)] w fun e w' => e = .returned (.bool (sbG f x y)) ∧ Dr w w' := by
  have d0 := cell_of_blk hb x0 (by omega : x < 6) y0 (by omega : y < 6)
  have d1 := cell_of_blk hb y0 (by omega : y < 6) x0 (by omega : x < 6)
  have hv := Lib.hid (show sbG f x y = (f x y == f y x) from rfl)
  go_enter Try.func122, Try.ntmps122
  go_wp2
  go_quiet (fail)
  go_wp2
  go_ret
  exact ⟨ret_bool (by rw [hv.out]), ⟨_, rfl⟩⟩

set_option maxRecDepth 100000 in
set_option maxHeartbeats 1000000 in
theorem isSameBothWays_any (f : Int → Int → Int) (n : Int) (w : World) (n0 : 0 ≤ n) (n6 : n ≤ 6) :
    Calls Try.prog 111 #[.agg (tab2 (iv f)), .int .i64 n] w fun e w' => e = .returned (.bool (all2 n (sbG f))) ∧ Below w.heap.size w w' := by
  have hB : Below w.heap.size w (w.alloc (.cells (tab2 (iv f)) 58)) := (Below.refl _ _).alloc (Nat.le_refl _) _
  have hb : Blk (w.alloc (.cells (tab2 (iv f)) 58)) w.heap.size 58 (iv f) := Blk.new w rfl
  have H : ∀ (x y : Int) (wr : World), 0 ≤ x → x < n → 0 ≤ y → y < n → Below (w.alloc (.cells (tab2 (iv f)) 58)).heap.size (w.alloc (.cells (tab2 (iv f)) 58)) wr → Calls Try.prog 122 (#[.int .i64 x, .int .i64 y] ++ #[.pointer (some ⟨w.heap.size, 0, none⟩)]) wr fun e w' => e = .returned (.bool (sbG f x y)) ∧ Below wr.heap.size wr w' := fun x y wr x0 x1 y0 y1 hbel => by
    rw [append2]
    exact (sbClo_any f w.heap.size n x y wr (hb.below hbel hb.lt) n6 x0 x1 y0 y1).mono fun _ _ h => ⟨h.1, h.2.below _⟩
  have C := Lib.hid (allTwo_any _ _ n (sbG f) _ n0 n6 enters_sb H)
  clear H hb
  go_enter Try.func111, Try.ntmps111
  go_wp2_with (go_at_call 99; refine (C.out).mono ?_; rintro e w5 ⟨rfl, h5⟩)
  go_ret
  exact ⟨rfl, hB.trans (h5.mono (by simp))⟩

def asG (f : Int → Int → Int) (x y z : Int) : Bool := f (f x y) z == f x (f y z)
def s3G (n : Int) (f : Int → Int → Int) (x y : Int) : Bool := allI n (asG f x y)
def FitG (n : Int) (f : Int → Int → Int) : Prop := ∀ x y, 0 ≤ x → x < n → 0 ≤ y → y < n → 0 ≤ f x y ∧ f x y < n
set_option maxRecDepth 100000 in
set_option maxHeartbeats 1000000 in
theorem s3Clo_any (f : Int → Int → Int) (B B2 : Nat) (n x y : Int) (w : World) (hf : Hid (FitG n f)) (hb : Blk w B 58 (iv f)) (h2 : w.heap[B2]? = some (.cells #[.int .i64 n] 3 (0, 0))) (n6 : n ≤ 6) (x0 : 0 ≤ x) (x1 : x < n) (y0 : 0 ≤ y) (y1 : y < n) :
    Calls Try.prog 123 #[.int .i64 x, .int .i64 y, .pointer (some ⟨B2, 0, none⟩), .pointer (some ⟨B, 0, none⟩)] w fun e w' => e = .returned (.bool (s3G n f x y)) ∧ Dr w w' := by
  have c2 := cell_of_one h2
  go_enter Try.func123, Try.ntmps123
  go_wp2
  go_loopw [7, 9] (fun _ c wr => ∃ z : Int, 0 ≤ z ∧ z ≤ n ∧ c = .int .i64 z ∧ AllTo z (asG f x y) ∧ Dr w wr) (fun _ c _ => (6 - intOf c).toNat)
  case atStart => exact ⟨0, by omega, by omega, rfl, AllTo.zero _, Dr.refl _⟩
  case round =>
    obtain ⟨z, z0, z1, rfl, ha, hd⟩ := hrel
    by_cases hz : z < n
    · have hb' := hb.dr hd
      obtain ⟨a0, a1⟩ := hf.out x y x0 x1 y0 y1
      obtain ⟨b0, b1⟩ := hf.out y z y0 y1 z0 hz
      have d0 := cell_of_blk hb' x0 (by omega : x < 6) y0 (by omega : y < 6)
      have d1 := cell_of_blk hb' y0 (by omega : y < 6) z0 (by omega : z < 6)
      have d2 := cell_of_blk hb' a0 (by omega : f x y < 6) z0 (by omega : z < 6)
      have d3 := cell_of_blk hb' x0 (by omega : x < 6) b0 (by omega : f y z < 6)
      have hv := Lib.hid (show asG f x y z = !(f (f x y) z != f x (f y z)) by unfold asG; simp [bne])
      have a2 : f x y < 6 := by omega
      have b2 : f y z < 6 := by omega
      have z2 : z < 6 := by omega
      cases hq : f (f x y) z != f x (f y z)
      all_goals rw [hq] at hv
      case false =>
        go_wp2
        go_quiet (fail)
        go_wp2
        go_roundw
        case rel => exact ⟨z + 1, by omega, by omega, rfl, ha.succ hv.out, hd.more _⟩
        case measure => simp [intOf]; omega
      case true =>
        have hf2 := Lib.hid (show s3G n f x y = false from allI_false (p := asG f x y) z z0 hz hv.out)
        go_wp2
        go_quiet (fail)
        go_wp2
        go_ret
        exact ⟨ret_bool (by rw [hf2.out]), hd.more _⟩
    · have ht := Lib.hid (show s3G n f x y = true from ha.all (by omega : n ≤ z))
      go_wp2
      go_ret
      exact ⟨ret_bool (by rw [ht.out]), hd⟩
end Go.Proofs.Ytpfnfglaokiipab
