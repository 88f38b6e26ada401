import Derived.Test.YtpophjloedpcfaaGreatDoorM5
import Derived.Test.YtpophjloedpcfaaGreatDoorK1
import Derived.Test.YtpophjloedpcfaaGreatDoorL5
namespace Go.Proofs.YtpophjloedpcfaaGreatDoor
open Go.RowKit

/-- A call of a function that has a body enters it. -/
def Enters (f : Nat) : Prop := ∀ (args : Array Value) (w : World), (callFunc f args).run Tryz.prog w = .ok (.enter f args) w
theorem enters_of {f : FuncId} {fn : Func} {c : Code} (hf : Tryz.prog.funcs[f]? = some fn) (hname : (fn.name == "runtime.NumGoroutine") = false) (hb : fn.body = some c) : Enters f := fun args w => by
  have h1 : fn.name ≠ "runtime.NumGoroutine" := by simpa using hname
  simp [callFunc, hf, h1, hb]

set_option maxRecDepth 100000 in
set_option maxHeartbeats 2000000 in
/-- impl.allTwo at whatever closure -/
theorem allTwo_any (f : Nat) (env : Array Value) (n : Int) (p : Int → Int → Bool) (w : World) (n0 : 0 ≤ n) (n6 : n ≤ 6) (he : Enters f)
    (H : ∀ (x y : Int) (wr : World), 0 ≤ x → x < n → 0 ≤ y → y < n → Below w.heap.size w wr → Calls Tryz.prog f (#[.int .i64 x, .int .i64 y] ++ env) wr fun e w' => e = .returned (.bool (p x y)) ∧ Below wr.heap.size wr w') :
    Calls Tryz.prog 138 #[.int .i64 n, .func (.func f) #[] env] w fun e w' => e = .returned (.bool (all2 n p)) ∧ Below w.heap.size w w' := by
  have HH := Lib.hid H; clear H
  have HE := Lib.hid (show ∀ (args : Array Value) (w : World), (callFunc f args).run Tryz.prog w = .ok (.enter f args) w from he); clear he
  go_enter Tryz.func138, Tryz.ntmps138
  go_wp2
  go_loopw [5, 6, 8] (fun _ _ c wr => ∃ x : Int, 0 ≤ x ∧ x ≤ n ∧ c = .int .i64 x ∧ AllTo x (fun x => allI n (p x)) ∧ Below w.heap.size w wr) (fun _ _ c _ => (6 - intOf c).toNat)
  case atStart => exact ⟨0, by omega, by omega, rfl, AllTo.zero _, Below.refl _ _⟩
  case round =>
    obtain ⟨x, x0, x1, rfl, hx, hbel⟩ := hrel
    by_cases hxn : x < n
    · go_wp2
      obtain ⟨w3, rfl⟩ : ∃ w3 : World, w3 = wr := ⟨_, rfl⟩
      go_loopw [6, 12] (fun _ c wr => ∃ y : Int, 0 ≤ y ∧ y ≤ n ∧ c = .int .i64 y ∧ AllTo y (p x) ∧ Below w.heap.size w wr) (fun _ c _ => (6 - intOf c).toNat)
      case atStart => exact ⟨0, by omega, by omega, rfl, AllTo.zero _, hbel⟩
      case round =>
        clear hbel
        obtain ⟨y, y0, y1, rfl, hy, hbel⟩ := hrel
        by_cases hyn : y < n
        · have hC := HH.out x y wr x0 hxn y0 hyn hbel
          cases hv : p x y with
          | false =>
            rw [hv] at hC
            have hf := Lib.hid (show all2 n p = false from allI_false (p := fun x => allI n (p x)) x x0 hxn (allI_false (p := p x) y y0 hyn hv))
            have HC := Lib.hid hC; clear hC hv
            go_wp2_with (rw [HE.out]; refine (HC.out).mono ?_; rintro e w5 ⟨rfl, h5⟩)
            go_ret
            exact ⟨ret_bool (by rw [hf.out]), hbel.trans (h5.mono hbel.size)⟩
          | true =>
            rw [hv] at hC
            have HV := Lib.hid hv
            have HC := Lib.hid hC; clear hC hv
            go_wp2_with (rw [HE.out]; refine (HC.out).mono ?_; rintro e w5 ⟨rfl, h5⟩)
            go_roundw
            case rel => exact ⟨y + 1, by omega, by omega, rfl, hy.succ HV.out, hbel.trans (h5.mono hbel.size)⟩
            case measure => simp [intOf]; omega
        · have ht := Lib.hid (show allI n (p x) = true from hy.all (by omega : n ≤ y))
          go_wp2
          go_roundw
          case rel => exact ⟨x + 1, by omega, by omega, rfl, hx.succ ht.out, hbel⟩
          case measure => simp [intOf]; omega
    · have ht := Lib.hid (show all2 n p = true from hx.all (by omega : n ≤ x))
      go_wp2
      go_ret
      exact ⟨ret_bool (by rw [ht.out]), hbel⟩
end Go.Proofs.YtpophjloedpcfaaGreatDoor

namespace Go.Proofs.YtpophjloedpcfaaGreatDoor
open Go.RowKit

theorem cell_of_blk {w : World} {B : Nat} {f : Int → Int → Int} (h : Blk w B 57 (iv f)) {x y : Int} (x0 : 0 ≤ x) (x1 : x < 6) (y0 : 0 ≤ y) (y1 : y < 6) : w.cell? ⟨B, x.toNat * 6 + y.toNat, none⟩ = some (.int .i64 (f x y)) := h.cell x0 x1 y0 y1
theorem append2 (a b c : Value) : (#[a, b] ++ #[c] : Array Value) = #[a, b, c] := rfl
theorem append22 (a b c d : Value) : (#[a, b] ++ #[c, d] : Array Value) = #[a, b, c, d] := rfl
theorem append23 (a b c d e : Value) : (#[a, b] ++ #[c, d, e] : Array Value) = #[a, b, c, d, e] := rfl

theorem enters_sb : Enters 139 := enters_of Tryz.func139 (by kernel_rfl) rfl
def sbG (f : Int → Int → Int) (x y : Int) : Bool := f x y == f y x
set_option maxRecDepth 100000 in
set_option maxHeartbeats 1000000 in
theorem sbClo_any (f : Int → Int → Int) (B : Nat) (n x y : Int) (w : World) (hb : Blk w B 57 (iv f)) (n6 : n ≤ 6) (x0 : 0 ≤ x) (x1 : x < n) (y0 : 0 ≤ y) (y1 : y < n) :
    Calls Tryz.prog 139 #[.int .i64 x, .int .i64 y, .pointer (some ⟨B, 0, none⟩)] w fun e w' => e = .returned (.bool (sbG f x y)) ∧ Dr w w' := by
  have d0 := cell_of_blk hb x0 (by omega : x < 6) y0 (by omega : y < 6)
  have d1 := cell_of_blk hb y0 (by omega : y < 6) x0 (by omega : x < 6)
  have hv := Lib.hid (show sbG f x y = (f x y == f y x) from rfl)
  go_enter Tryz.func139, Tryz.ntmps139
  go_wp2
  go_quiet (fail)
  go_wp2
  go_ret
  exact ⟨ret_bool (by rw [hv.out]), ⟨_, rfl⟩⟩

set_option maxRecDepth 100000 in
set_option maxHeartbeats 1000000 in
theorem isSameBothWays_any (f : Int → Int → Int) (n : Int) (w : World) (n0 : 0 ≤ n) (n6 : n ≤ 6) :
    Calls Tryz.prog 106 #[.agg (tab2 (iv f)), .int .i64 n] w fun e w' => e = .returned (.bool (all2 n (sbG f))) ∧ Below w.heap.size w w' := by
  have hB : Below w.heap.size w (w.alloc (.cells (tab2 (iv f)) 57)) := (Below.refl _ _).alloc (Nat.le_refl _) _
  have hb : Blk (w.alloc (.cells (tab2 (iv f)) 57)) w.heap.size 57 (iv f) := Blk.new w rfl
  have H : ∀ (x y : Int) (wr : World), 0 ≤ x → x < n → 0 ≤ y → y < n → Below (w.alloc (.cells (tab2 (iv f)) 57)).heap.size (w.alloc (.cells (tab2 (iv f)) 57)) wr → Calls Tryz.prog 139 (#[.int .i64 x, .int .i64 y] ++ #[.pointer (some ⟨w.heap.size, 0, none⟩)]) wr fun e w' => e = .returned (.bool (sbG f x y)) ∧ Below wr.heap.size wr w' := fun x y wr x0 x1 y0 y1 hbel => by
    rw [append2]
    exact (sbClo_any f w.heap.size n x y wr (hb.below hbel hb.lt) n6 x0 x1 y0 y1).mono fun _ _ h => ⟨h.1, h.2.below _⟩
  have C := Lib.hid (allTwo_any _ _ n (sbG f) _ n0 n6 enters_sb H)
  clear H hb
  go_enter Tryz.func106, Tryz.ntmps106
  go_wp2_with (go_at_call 138; refine (C.out).mono ?_; rintro e w5 ⟨rfl, h5⟩)
  go_ret
  exact ⟨rfl, hB.trans (h5.mono (by simp))⟩

def asG (f : Int → Int → Int) (x y z : Int) : Bool := f (f x y) z == f x (f y z)
def s3G (n : Int) (f : Int → Int → Int) (x y : Int) : Bool := allI n (asG f x y)
def FitG (n : Int) (f : Int → Int → Int) : Prop := ∀ x y, 0 ≤ x → x < n → 0 ≤ y → y < n → 0 ≤ f x y ∧ f x y < n
set_option maxRecDepth 100000 in
set_option maxHeartbeats 1000000 in
theorem s3Clo_any (f : Int → Int → Int) (B B2 : Nat) (n x y : Int) (w : World) (hf : Hid (FitG n f)) (hb : Blk w B 57 (iv f)) (h2 : w.heap[B2]? = some (.cells #[.int .i64 n] 3 (0, 0))) (n6 : n ≤ 6) (x0 : 0 ≤ x) (x1 : x < n) (y0 : 0 ≤ y) (y1 : y < n) :
    Calls Tryz.prog 140 #[.int .i64 x, .int .i64 y, .pointer (some ⟨B2, 0, none⟩), .pointer (some ⟨B, 0, none⟩)] w fun e w' => e = .returned (.bool (s3G n f x y)) ∧ Dr w w' := by
  have c2 := cell_of_one h2
  go_enter Tryz.func140, Tryz.ntmps140
  go_wp2
  go_loopw [7, 9] (fun _ c wr => ∃ z : Int, 0 ≤ z ∧ z ≤ n ∧ c = .int .i64 z ∧ AllTo z (asG f x y) ∧ Dr w wr) (fun _ c _ => (6 - intOf c).toNat)
  case atStart => exact ⟨0, by omega, by omega, rfl, AllTo.zero _, Dr.refl _⟩
  case round =>
    obtain ⟨z, z0, z1, rfl, ha, hd⟩ := hrel
    by_cases hz : z < n
    · have hb' := hb.dr hd
      obtain ⟨a0, a1⟩ := hf.out x y x0 x1 y0 y1
      obtain ⟨b0, b1⟩ := hf.out y z y0 y1 z0 hz
      have d0 := cell_of_blk hb' x0 (by omega : x < 6) y0 (by omega : y < 6)
      have d1 := cell_of_blk hb' y0 (by omega : y < 6) z0 (by omega : z < 6)
      have d2 := cell_of_blk hb' a0 (by omega : f x y < 6) z0 (by omega : z < 6)
      have d3 := cell_of_blk hb' x0 (by omega : x < 6) b0 (by omega : f y z < 6)
      have hv := Lib.hid (show asG f x y z = !(f (f x y) z != f x (f y z)) by unfold asG; simp [bne])
      have a2 : f x y < 6 := by omega
      have b2 : f y z < 6 := by omega
      have z2 : z < 6 := by omega
      cases hq : f (f x y) z != f x (f y z)
      all_goals rw [hq] at hv
      case false =>
        go_wp2
        go_quiet (fail)
        go_wp2
        go_roundw
        case rel => exact ⟨z + 1, by omega, by omega, rfl, ha.succ hv.out, hd.more _⟩
        case measure => simp [intOf]; omega
      case true =>
        have hf2 := Lib.hid (show s3G n f x y = false from allI_false (p := asG f x y) z z0 hz hv.out)
        go_wp2
        go_quiet (fail)
        go_wp2
        go_ret
        exact ⟨ret_bool (by rw [hf2.out]), hd.more _⟩
    · have ht := Lib.hid (show s3G n f x y = true from ha.all (by omega : n ≤ z))
      go_wp2
      go_ret
      exact ⟨ret_bool (by rw [ht.out]), hd⟩
end Go.Proofs.YtpophjloedpcfaaGreatDoor

namespace Go.Proofs.YtpophjloedpcfaaGreatDoor
open Go.RowKit

theorem enters_s3 : Enters 140 := enters_of Tryz.func140 (by kernel_rfl) rfl
theorem enters_go : Enters 141 := enters_of Tryz.func141 (by kernel_rfl) rfl
set_option maxRecDepth 100000 in
set_option maxHeartbeats 1000000 in
theorem isSameForThree_any (f : Int → Int → Int) (n : Int) (w : World) (hf : FitG n f) (n0 : 0 ≤ n) (n6 : n ≤ 6) :
    Calls Tryz.prog 107 #[.agg (tab2 (iv f)), .int .i64 n] w fun e w' => e = .returned (.bool (all2 n (s3G n f))) ∧ Below w.heap.size w w' := by
  obtain ⟨w2, hw2⟩ : ∃ w2, w2 = (w.alloc (.cells (tab2 (iv f)) 57)).alloc (.cells #[.int .i64 n] 3) := ⟨_, rfl⟩
  have hB : Below w.heap.size w w2 := by rw [hw2]; exact ((Below.refl _ _).alloc (Nat.le_refl _) _).alloc (by simp) _
  have hb : Blk w2 w.heap.size 57 (iv f) := by rw [hw2]; exact (Blk.new w rfl).alloc _
  have h2 : w2.heap[w.heap.size + 1]? = some (.cells #[.int .i64 n] 3 (0, 0)) := by rw [hw2]; exact heap_alloc2_new _ _ _
  have H : ∀ (x y : Int) (wr : World), 0 ≤ x → x < n → 0 ≤ y → y < n → Below w2.heap.size w2 wr → Calls Tryz.prog 140 (#[.int .i64 x, .int .i64 y] ++ #[.pointer (some ⟨w.heap.size + 1, 0, none⟩), .pointer (some ⟨w.heap.size, 0, none⟩)]) wr fun e w' => e = .returned (.bool (s3G n f x y)) ∧ Below wr.heap.size wr w' := fun x y wr x0 x1 y0 y1 hbel => by
    rw [append22]
    exact (s3Clo_any f w.heap.size (w.heap.size + 1) n x y wr (Lib.hid hf) (hb.below hbel hb.lt) ((hbel.block _ (lt_of_block h2)).trans h2) n6 x0 x1 y0 y1).mono fun _ _ h => ⟨h.1, h.2.below _⟩
  have C := Lib.hid (allTwo_any _ _ n (s3G n f) _ n0 n6 enters_s3 H)
  clear H hb h2 hf
  go_enter Tryz.func107, Tryz.ntmps107
  go_wp2_with (go_at_call 138; rw [← hw2]; refine (C.out).mono ?_; rintro e w5 ⟨rfl, h5⟩)
  go_ret
  exact ⟨rfl, hB.trans (h5.mono hB.size)⟩

def goG (f j : Int → Int → Int) (y z x : Int) : Bool := f x (j y z) == j (f x y) (f x z)
def overG (n : Int) (f j : Int → Int → Int) (y z : Int) : Bool := allI n (goG f j y z)
set_option maxRecDepth 100000 in
set_option maxHeartbeats 2000000 in
theorem goClo_any (f j : Int → Int → Int) (B B2 B3 : Nat) (n y z : Int) (w : World) (hf : Hid (FitG n f)) (hj : Hid (FitG n j)) (hb : Blk w B 57 (iv f)) (hb3 : Blk w B3 57 (iv j)) (h2 : w.heap[B2]? = some (.cells #[.int .i64 n] 3 (0, 0))) (n6 : n ≤ 6) (y0 : 0 ≤ y) (y1 : y < n) (z0 : 0 ≤ z) (z1 : z < n) :
    Calls Tryz.prog 141 #[.int .i64 y, .int .i64 z, .pointer (some ⟨B2, 0, none⟩), .pointer (some ⟨B, 0, none⟩), .pointer (some ⟨B3, 0, none⟩)] w fun e w' => e = .returned (.bool (overG n f j y z)) ∧ Dr w w' := by
  have c2 := cell_of_one h2
  go_enter Tryz.func141, Tryz.ntmps141
  go_wp2
  go_loopw [8, 10] (fun _ c wr => ∃ x : Int, 0 ≤ x ∧ x ≤ n ∧ c = .int .i64 x ∧ AllTo x (goG f j y z) ∧ Dr w wr) (fun _ c _ => (6 - intOf c).toNat)
  case atStart => exact ⟨0, by omega, by omega, rfl, AllTo.zero _, Dr.refl _⟩
  case round =>
    obtain ⟨x, x0, x1, rfl, ha, hd⟩ := hrel
    by_cases hx : x < n
    · have hb' := hb.dr hd
      have hb3' := hb3.dr hd
      obtain ⟨a0, a1⟩ := hj.out y z y0 y1 z0 z1
      obtain ⟨b0, b1⟩ := hf.out x y x0 hx y0 y1
      obtain ⟨e0, e1⟩ := hf.out x z x0 hx z0 z1
      have a2 : j y z < 6 := by omega
      have b2 : f x y < 6 := by omega
      have e2 : f x z < 6 := by omega
      have x2 : x < 6 := by omega
      have d0 := cell_of_blk hb3' y0 (by omega : y < 6) z0 (by omega : z < 6)
      have d1 := cell_of_blk hb' x0 x2 a0 a2
      have d2 := cell_of_blk hb' x0 x2 y0 (by omega : y < 6)
      have d3 := cell_of_blk hb' x0 x2 z0 (by omega : z < 6)
      have d4 := cell_of_blk hb3' b0 b2 e0 e2
      have hv := Lib.hid (show goG f j y z x = !(f x (j y z) != j (f x y) (f x z)) by unfold goG; simp [bne])
      cases hq : f x (j y z) != j (f x y) (f x z)
      all_goals rw [hq] at hv
      case false =>
        go_wp2
        go_quiet (fail)
        go_wp2
        go_roundw
        case rel => exact ⟨x + 1, by omega, by omega, rfl, ha.succ hv.out, hd.more _⟩
        case measure => simp [intOf]; omega
      case true =>
        have hf2 := Lib.hid (show overG n f j y z = false from allI_false (p := goG f j y z) x x0 hx hv.out)
        go_wp2
        go_quiet (fail)
        go_wp2
        go_ret
        exact ⟨ret_bool (by rw [hf2.out]), hd.more _⟩
    · have ht := Lib.hid (show overG n f j y z = true from ha.all (by omega : n ≤ x))
      go_wp2
      go_ret
      exact ⟨ret_bool (by rw [ht.out]), hd⟩

set_option maxRecDepth 100000 in
set_option maxHeartbeats 1000000 in
theorem goesOver_any (f j : Int → Int → Int) (n : Int) (w : World) (hf : FitG n f) (hj : FitG n j) (n0 : 0 ≤ n) (n6 : n ≤ 6) :
    Calls Tryz.prog 109 #[.agg (tab2 (iv f)), .agg (tab2 (iv j)), .int .i64 n] w fun e w' => e = .returned (.bool (all2 n (overG n f j))) ∧ Below w.heap.size w w' := by
  obtain ⟨w2, hw2⟩ : ∃ w2, w2 = ((w.alloc (.cells (tab2 (iv f)) 57)).alloc (.cells (tab2 (iv j)) 57)).alloc (.cells #[.int .i64 n] 3) := ⟨_, rfl⟩
  have hB : Below w.heap.size w w2 := by rw [hw2]; exact (((Below.refl _ _).alloc (Nat.le_refl _) _).alloc (by simp) _).alloc (by simp; omega) _
  have hb : Blk w2 w.heap.size 57 (iv f) := by rw [hw2]; exact ((Blk.new w rfl).alloc _).alloc _
  have hb3 : Blk w2 (w.heap.size + 1) 57 (iv j) := by rw [hw2]; exact (Blk.mk' (by simp) rfl).alloc _
  have h2 : w2.heap[w.heap.size + 1 + 1]? = some (.cells #[.int .i64 n] 3 (0, 0)) := by
    have := heap_alloc_new ((w.alloc (.cells (tab2 (iv f)) 57)).alloc (.cells (tab2 (iv j)) 57)) (.cells #[.int .i64 n] 3)
    rw [hw2]; simpa using this
  have H : ∀ (x y : Int) (wr : World), 0 ≤ x → x < n → 0 ≤ y → y < n → Below w2.heap.size w2 wr → Calls Tryz.prog 141 (#[.int .i64 x, .int .i64 y] ++ #[.pointer (some ⟨w.heap.size + 1 + 1, 0, none⟩), .pointer (some ⟨w.heap.size, 0, none⟩), .pointer (some ⟨w.heap.size + 1, 0, none⟩)]) wr fun e w' => e = .returned (.bool (overG n f j x y)) ∧ Below wr.heap.size wr w' := fun x y wr x0 x1 y0 y1 hbel => by
    rw [append23]
    exact (goClo_any f j w.heap.size (w.heap.size + 1 + 1) (w.heap.size + 1) n x y wr (Lib.hid hf) (Lib.hid hj) (hb.below hbel hb.lt) (hb3.below hbel hb3.lt) ((hbel.block _ (lt_of_block h2)).trans h2) n6 x0 x1 y0 y1).mono fun _ _ h => ⟨h.1, h.2.below _⟩
  have C := Lib.hid (allTwo_any _ _ n (overG n f j) _ n0 n6 enters_go H)
  clear H hb h2 hf hj hb3
  go_enter Tryz.func109, Tryz.ntmps109
  go_wp2_with (go_at_call 138; rw [← hw2]; refine (C.out).mono ?_; rintro e w5 ⟨rfl, h5⟩)
  go_ret
  exact ⟨rfl, hB.trans (h5.mono hB.size)⟩

def kbG (n : Int) (f : Int → Int → Int) (x : Int) : Bool := f x (n - 1) == x && f x 0 == 0
set_option maxRecDepth 100000 in
set_option maxHeartbeats 1000000 in
theorem keepsBounds_any (f : Int → Int → Int) (n : Int) (w : World) (n1 : 1 ≤ n) (n6 : n ≤ 6) :
    Calls Tryz.prog 108 #[.agg (tab2 (iv f)), .int .i64 n] w fun e w' => e = .returned (.bool (allI n (kbG n f))) ∧ Below w.heap.size w w' := by
  have k1 : IntKind.i64.wrap (n - 1) = n - 1 := IntWalk.i64_in _ (by omega)
  have k2 : (0 : Int) ≤ n - 1 := by omega
  have k3 : n - 1 < 6 := by omega
  go_enter Tryz.func108, Tryz.ntmps108
  go_wp2
  go_loopw [5, 7] (fun _ c wr => ∃ x : Int, 0 ≤ x ∧ x ≤ n ∧ c = .int .i64 x ∧ AllTo x (kbG n f) ∧ Blk wr w.heap.size 57 (iv f) ∧ Below w.heap.size w wr) (fun _ c _ => (6 - intOf c).toNat)
  case atStart => exact ⟨0, by omega, by omega, rfl, AllTo.zero _, Blk.new w rfl, (Below.refl _ _).alloc (Nat.le_refl _) _⟩
  case round =>
    obtain ⟨x, x0, x1, rfl, ha, hb, hbel⟩ := hrel
    by_cases hx : x < n
    · have d0 : wr.cell? ⟨w.heap.size, x.toNat * 6 + (n.toNat - 1), none⟩ = some (.int .i64 (f x (n - 1))) := by
        have := cell_of_blk hb x0 (by omega : x < 6) k2 k3
        rwa [show (n - 1).toNat = n.toNat - 1 by omega] at this
      have d1 : wr.cell? ⟨w.heap.size, x.toNat * 6, none⟩ = some (.int .i64 (f x 0)) := cell_of_blk hb x0 (by omega : x < 6) (y := 0) (by omega) (by omega)
      have hv := Lib.hid (show kbG n f x = (!(f x (n - 1) != x) && !(f x 0 != 0)) by unfold kbG; simp [bne])
      cases hA : f x (n - 1) != x <;> cases hB : f x 0 != 0
      all_goals
        rw [hA, hB] at hv
        go_wp2
        first
          | (go_ret; exact ⟨ret_bool (allI_false x x0 hx hv.out).symm, hbel⟩)
          | (go_roundw
             case rel => exact ⟨x + 1, by omega, by omega, rfl, ha.succ hv.out, hb, hbel⟩
             case measure => simp [intOf]; omega)
    · have ht := Lib.hid (ha.all (by omega : n ≤ x))
      go_wp2
      go_ret
      exact ⟨ret_bool ht.out.symm, hbel⟩
end Go.Proofs.YtpophjloedpcfaaGreatDoor

namespace Go.Proofs.YtpophjloedpcfaaGreatDoor
open Go.RowKit

/-- the elements are those of the lattice -/
def inE (L E : List Int) (j : Int) : Bool := decide (0 ≤ nth E j) && decide (nth E j < L.length)
def withB (L E : List Int) : Bool := allI E.length (inE L E)
theorem withB_f {L E : List Int} {k : Int} (k0 : 0 ≤ k) (hk : k < E.length) (h : inE L E k = false) : withB L E = false := allI_false (p := inE L E) k k0 hk h
/-- the joins of the lattice, as an array -/
def tabJ (L : List Int) : Int → Int → Int := tabT (revG (ordG L)) L.length
def tabM (L : List Int) : Int → Int → Int := tabT (ordG L) L.length
theorem LatAt.joins {w : World} {b : Nat} {L : List Int} (h : LatAt w b L) : w.rangeAt b 73 (tab2 (iv (tabJ L))).toList := fun j v hv => by
  have hj : j < (tab2 (iv (tabJ L))).toList.length := (List.getElem?_eq_some_iff.1 hv).1
  rw [cell_of_row w b _ _ _ _ h]
  unfold latOf latA
  rw [List.getElem?_toArray, List.getElem?_append_right (by simp [tab2]), show 73 + j - ((Value.int .i64 L.length :: (tab2 (bv (ordG L))).toList) ++ (tab2 (iv (tabT (ordG L) L.length))).toList).length = j by simp [tab2]]
  exact hv
theorem LatAt.meets {w : World} {b : Nat} {L : List Int} (h : LatAt w b L) : w.rangeAt b 37 (tab2 (iv (tabM L))).toList := fun j v hv => by
  have hj : j < (tab2 (iv (tabM L))).toList.length := (List.getElem?_eq_some_iff.1 hv).1
  have hj' : j < 36 := by simpa [tab2] using hj
  rw [cell_of_row w b _ _ _ _ h]
  unfold latOf latA
  rw [List.getElem?_toArray, List.getElem?_append_left (by simp [tab2]; omega), List.getElem?_append_right (by simp [tab2]), show 37 + j - (Value.int .i64 L.length :: (tab2 (bv (ordG L))).toList).length = j by simp [tab2]]
  exact hv
theorem wpList_load_mid_w {P : Program} {ops : Array Oper} {rest : List Oper} {op : Oper} {a : Act} {w : World} {Q : Exit → Act → World → Prop} (hw : Region.wanted op (yielded ops a.tmps) = true) (ty : TypeId) (x : Operand) (ho : op.op = .load ty x)
    (b o : Nat) (hx : a.eval x = .pointer (some ⟨b, o, none⟩)) (cs : Array Value) (d : TypeDesc) (hc : w.rangeAt b o cs.toList)
    (hu : P.underlying ty = some d) (hd : d.isRow = true) (hi : (P.info? ty).map (·.size) = some cs.size)
    (h : wpList P ops Q rest (a.put op.dst (.agg cs)) w) : wpList P ops Q (op :: rest) a w := by
  unfold wpList
  rw [if_pos hw]
  exact .inl (wp_load_mid ty x ho b o hx cs.toList d hc hu hd (by simpa using hi) (by simpa using h))

set_option maxRecDepth 100000 in
set_option maxHeartbeats 1000000 in
/-- impl.lattice.has -/
theorem has_any (a2 : Option Addr) (c2 : Nat) (L E : List Int) (w : World) (hr2 : Rd w a2 E) (hE : E.length ≤ 1048576) :
    Calls Tryz.prog 105 #[.agg (latOf L), .slice a2 E.length c2] w fun e w' => e = .returned (.bool (withB L E)) ∧ Below w.heap.size w w' := by
  have hB : Below w.heap.size w (w.alloc (.cells (latOf L) 59)) := (Below.refl _ _).alloc (Nat.le_refl _) _
  have hL : LatAt (w.alloc (.cells (latOf L) 59)) w.heap.size L := LatAt.new w L
  obtain ⟨w2, hw2⟩ : ∃ w2, w2 = w.alloc (.cells (latOf L) 59) := ⟨_, rfl⟩
  rw [← hw2] at hB hL
  have hr3 : Rd w2 a2 E := hr2.below hB
  have cs := hL.size
  go_enter Tryz.func105, Tryz.ntmps105
  go_wp2
  rw [← hw2]
  clear hw2
  go_loopw [6, 9] (fun _ c wr => ∃ k : Int, 0 ≤ k ∧ k ≤ E.length ∧ c = .int .i64 k ∧ AllTo k (inE L E) ∧ w2 = wr) (fun _ c _ => ((E.length : Int) - intOf c).toNat)
  case atStart => exact ⟨0, by omega, by omega, rfl, AllTo.zero _, rfl⟩
  case round =>
    obtain ⟨k, k0, k1, rfl, ha, rfl⟩ := hrel
    by_cases hk : k < E.length
    · obtain ⟨b2, o2, rfl, hc2⟩ := hr3 (by intro e; rw [e] at hk; simp at hk; omega)
      have d2 := hc2.at k k0 hk
      have hi := Lib.hid (show inE L E k = (decide (0 ≤ nth E k) && decide (nth E k < L.length)) from rfl)
      by_cases hn : nth E k < 0
      · have hf := Lib.hid (withB_f k0 hk (by rw [hi.out, decide_eq_false (by omega)]; rfl))
        go_wp2
        go_ret
        exact ⟨ret_bool (by rw [hf.out]), hB⟩
      · by_cases hn2 : (L.length : Int) ≤ nth E k
        · have hf := Lib.hid (withB_f k0 hk (by rw [hi.out, decide_eq_false (show ¬ nth E k < L.length by omega)]; simp))
          go_wp2
          go_ret
          exact ⟨ret_bool (by rw [hf.out]), hB⟩
        · have ht := Lib.hid (show inE L E k = true by rw [hi.out, decide_eq_true (by omega), decide_eq_true (by omega)]; rfl)
          go_wp2
          go_roundw
          case rel => exact ⟨k + 1, by omega, by omega, rfl, ha.succ ht.out, trivial⟩
          case measure => simp [intOf]; omega
    · have hf := Lib.hid (show withB L E = true from ha.all (by omega : (E.length : Int) ≤ k))
      go_wp2
      go_ret
      exact ⟨ret_bool (by rw [hf.out]), hB⟩

def areG (n : Int) (f j : Int → Int → Int) : Bool := all2 n (sbG f) && all2 n (s3G n f) && allI n (kbG n f) && all2 n (overG n f j)
theorem ret_below {f : FuncId} {args : Array Value} {w : World} {r r' : Bool} (h : Calls Tryz.prog f args w fun e w' => e = .returned (.bool r) ∧ Below w.heap.size w w') (hr : r = r') : Calls Tryz.prog f args w fun e w' => e = .returned (.bool r') ∧ Below w.heap.size w w' := by
  subst hr; exact h

set_option maxRecDepth 100000 in
set_option maxHeartbeats 2000000 in
/-- impl.table.areProducts -/
theorem areProducts_any (f : Int → Int → Int) (L : List Int) (w : World) (hf : FitG L.length f) (hj : FitG L.length (tabJ L)) (n1 : 1 ≤ (L.length : Int)) (n6 : (L.length : Int) ≤ 6) :
    Calls Tryz.prog 69 #[.agg (tab2 (iv f)), .agg (latOf L)] w fun e w' => e = .returned (.bool (areG L.length f (tabJ L))) ∧ Below w.heap.size w w' := by
  obtain ⟨w2, hw2⟩ : ∃ w2, w2 = (w.alloc (.cells (tab2 (iv f)) 57)).alloc (.cells (latOf L) 59) := ⟨_, rfl⟩
  have hB : Below w.heap.size w w2 := by rw [hw2]; exact ((Below.refl _ _).alloc (Nat.le_refl _) _).alloc (by simp) _
  have hb : Blk w2 w.heap.size 57 (iv f) := by rw [hw2]; exact (Blk.new w rfl).alloc _
  have hL : LatAt w2 (w.heap.size + 1) L := by
    have := LatAt.new (w.alloc (.cells (tab2 (iv f)) 57)) L
    rw [hw2]; simpa using this
  have Kb := Lib.hid (show ∀ wz, Below w2.heap.size w2 wz → Blk wz w.heap.size 57 (iv f) from fun wz h => hb.below h hb.lt)
  have Kl := Lib.hid (show ∀ wz, Below w2.heap.size w2 wz → LatAt wz (w.heap.size + 1) L from fun wz h => hL.below h hL.lt)
  have c0 := hL.size
  have HF := Lib.hid hf
  have HJ := Lib.hid hj
  have z0 : Below w2.heap.size w2 w2 := Below.refl _ _
  have hv := Lib.hid (show areG L.length f (tabJ L) = (all2 L.length (sbG f) && all2 L.length (s3G L.length f) && allI L.length (kbG L.length f) && all2 L.length (overG L.length f (tabJ L))) from rfl)
  clear hb hL hf hj
  cases hq1 : all2 L.length (sbG f) <;> cases hq2 : all2 L.length (s3G L.length f) <;> cases hq3 : allI L.length (kbG L.length f) <;> cases hq4 : all2 L.length (overG L.length f (tabJ L))
  all_goals
    rw [hq1, hq2, hq3, hq4] at hv
    have Q1 := Lib.hid hq1
    have Q2 := Lib.hid hq2
    have Q3 := Lib.hid hq3
    have Q4 := Lib.hid hq4
    clear hq1 hq2 hq3 hq4
    go_enter Tryz.func69, Tryz.ntmps69
    go_wp2_with (first
      | go_skip
      | (rw [← hw2]; clear hw2)
      | (refine wpList_load_row_w rfl 57 _ rfl w.heap.size rfl _ _ _ _ (Kb.out _ (by assumption)).heap Tryz.underlying57 rfl (size_table _) ?_)
      | (refine wpList_load_mid_w rfl 57 _ rfl (w.heap.size + 1) 73 rfl _ _ (Kl.out _ (by assumption)).joins Tryz.underlying57 rfl (size_table _) ?_)
      | (go_at_call 106; refine (ret_below (isSameBothWays_any f L.length _ (by omega) n6) Q1.out).mono ?_; rintro e w5 ⟨rfl, h5⟩; have z5 : Below w2.heap.size w2 w5 := h5; have c5 := (Kl.out _ z5).size)
      | (go_at_call 107; refine (ret_below (isSameForThree_any f L.length _ HF.out (by omega) n6) Q2.out).mono ?_; rintro e w6 ⟨rfl, h6⟩; have z6 : Below w2.heap.size w2 w6 := z5.trans (h6.mono z5.size); have c6 := (Kl.out _ z6).size)
      | (go_at_call 108; refine (ret_below (keepsBounds_any f L.length _ n1 n6) Q3.out).mono ?_; rintro e w7 ⟨rfl, h7⟩; have z7 : Below w2.heap.size w2 w7 := z6.trans (h7.mono z6.size); have c7 := (Kl.out _ z7).size)
      | (go_at_call 109; refine (ret_below (goesOver_any f (tabJ L) L.length _ HF.out HJ.out (by omega) n6) Q4.out).mono ?_; rintro e w8 ⟨rfl, h8⟩; have z8 : Below w2.heap.size w2 w8 := z7.trans (h8.mono z7.size)))
    go_ret
    exact ⟨ret_bool (by rw [hv.out]; rfl), hB.trans (Below.mono (by assumption) hB.size)⟩
end Go.Proofs.YtpophjloedpcfaaGreatDoor
