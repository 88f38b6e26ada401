import Derived.Test.YtbellklaoecpbaaI5
import Derived.Test.YtbellklaoecpbaaM5
namespace Go.Proofs.Ytbellklaoecpbaa
open Go.RowKit

theorem wrap_pw (n : Nat) (h : n ≤ 30) : wrap64 (2 ^ n) = pw n := by
  rw [← pw_nat]
  have p1 := pw_30 n (by omega)
  have p2 := pw_pos n
  exact IntWalk.wrap64_in _ ⟨by omega, by omega⟩
theorem wrap_pwT (y : Int) (h : y ≤ 30) : wrap64 (2 ^ y.toNat) = pw y := by
  have p1 := pw_30 y h
  have p2 := pw_pos y
  exact IntWalk.wrap64_in (pw y) ⟨by omega, by omega⟩
/-- 'v&1' -/
theorem and1 (v : Int) (h0 : 0 ≤ v) (h1 : v ≤ 1073741824) : bits BinOp.and IntKind.i64 v 1 = v % 2 := by
  have t63 : (2 : Int) ^ 63 = 9223372036854775808 := by decide
  have h := bits_mask .i64 63 (by decide) (fun n h0 h1 => by rw [t63] at h1; rw [IntKind.wrap_i64]; omega) 1 (by decide) v h0 (by rw [t63]; omega)
  have e : ((2 : Int) ^ 1 - 1) = 1 := by decide
  rw [e] at h
  rw [h]
  omega
theorem bits_and_i64 (a b : Int) (a0 : 0 ≤ a) (a1 : a < 1073741824) (b0 : 0 ≤ b) (b1 : b < 1073741824) : bits .and .i64 a b = an a b := by
  obtain ⟨a, rfl⟩ := Int.eq_ofNat_of_zero_le a0
  obtain ⟨b, rfl⟩ := Int.eq_ofNat_of_zero_le b0
  unfold an
  rw [Int.toNat_natCast, Int.toNat_natCast]
  have hx : a &&& b ≤ a := Nat.and_le_left
  have h1 : (BitVec.ofInt 64 (a : Int)).toNat = a := by
    rw [BitVec.ofInt_natCast, BitVec.toNat_ofNat]; exact Nat.mod_eq_of_lt (by omega)
  have h2 : (BitVec.ofInt 64 (b : Int)).toNat = b := by
    rw [BitVec.ofInt_natCast, BitVec.toNat_ofNat]; exact Nat.mod_eq_of_lt (by omega)
  show IntKind.i64.wrap ((BitVec.ofInt 64 (a : Int) &&& BitVec.ofInt 64 (b : Int)).toNat : Int) = _
  rw [BitVec.toNat_and, h1, h2, IntKind.wrap_i64]
  omega
theorem ib_shift (v y : Int) (h0 : 0 ≤ v) (h1 : v ≤ 64) : (bits BinOp.and IntKind.i64 (v / 2 ^ y.toNat) 1 == 1) = ib v y := by
  have p := pw_pos y
  have d0 : 0 ≤ v / pw y := Int.ediv_nonneg h0 (by omega)
  have d1 : v / pw y ≤ v := Int.ediv_le_self _ h0
  have e : v / 2 ^ y.toNat = v / pw y := rfl
  rw [e, and1 _ d0 (by omega)]
  rfl
theorem bl_ib (L : List Int) (x y : Int) : ib (nth L x) y = bl L x y := rfl
/-- set is a sum of 2 to each of some of n elements -/
def soB (n set : Int) : Bool := decide (0 ≤ set) && decide (set ≤ pw n - 1)

set_option maxRecDepth 100000 in
set_option maxHeartbeats 1000000 in
/-- impl.isSetOf -/
theorem isSetOf_any (n set : Int) (w : World) (n0 : 0 ≤ n) (n6 : n ≤ 6) :
    Calls Try.prog 135 #[.int .i64 n, .int .i64 set] w fun e w' => e = .returned (.bool (soB n set)) ∧ w = w' := by
  have hw := wrap_pwT n (by omega)
  have p1 := pw_30 n (by omega)
  have p2 := pw_pos n
  by_cases h0 : set < 0
  · have hv := Lib.hid (show soB n set = false by unfold soB; rw [decide_eq_false (by omega)]; rfl)
    go_enter Try.func135, Try.ntmps135
    go_wp2
    go_ret
    exact ⟨ret_bool (by rw [hv.out]), rfl⟩
  · by_cases h1 : set < pw n
    · have hv := Lib.hid (show soB n set = true by unfold soB; rw [decide_eq_true (by omega), decide_eq_true (by omega)]; rfl)
      go_enter Try.func135, Try.ntmps135
      go_wp2
      go_ret
      exact ⟨ret_bool (by rw [hv.out]), rfl⟩
    · have hv := Lib.hid (show soB n set = false by unfold soB; rw [decide_eq_false (p := set ≤ pw n - 1) (by omega), Bool.and_false])
      go_enter Try.func135, Try.ntmps135
      go_wp2
      go_ret
      exact ⟨ret_bool (by rw [hv.out]), rfl⟩

theorem isSetOf_is (n set : Int) (w : World) (n0 : 0 ≤ n) (n6 : n ≤ 6) {r : Bool} (h : soB n set = r) :
    Calls Try.prog 135 #[.int .i64 n, .int .i64 set] w fun e w' => e = .returned (.bool r) ∧ w = w' := by
  subst h; exact isSetOf_any n set w n0 n6

set_option maxRecDepth 100000 in
set_option maxHeartbeats 1000000 in
/-- impl.isIn -/
theorem isIn_any (x set : Int) (w : World) (x0 : 0 ≤ x) (x6 : x ≤ 6) (s0 : 0 ≤ set) (s6 : set ≤ 64) :
    Calls Try.prog 132 #[.int .i64 x, .int .i64 set] w fun e w' => e = .returned (.bool (ib set x)) ∧ w = w' := by
  have hv := Lib.hid (ib_shift set x s0 s6)
  go_enter Try.func132, Try.ntmps132
  go_wp2
  go_ret
  exact ⟨ret_bool (by rw [hv.out]), rfl⟩
theorem isIn_is (x set : Int) (w : World) (x0 : 0 ≤ x) (x6 : x ≤ 6) (s0 : 0 ≤ set) (s6 : set ≤ 64) {r : Bool} (h : ib set x = r) :
    Calls Try.prog 132 #[.int .i64 x, .int .i64 set] w fun e w' => e = .returned (.bool r) ∧ w = w' := by
  subst h; exact isIn_any x set w x0 x6 s0 s6
end Go.Proofs.Ytbellklaoecpbaa
