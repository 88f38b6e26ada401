import Derived.Test.YtljnbhnnjfnjeaaSL0
import Derived.Test.YtljnbhnnjfnjeaaN7
import Derived.Test.YtljnbhnnjfnjeaaLP
namespace Go.Proofs.Ytljnbhnnjfnjeaa
open Go.RowKit

set_option maxRecDepth 100000 in
set_option maxHeartbeats 2000000 in
/-- laws.weight -/
theorem lawWeight_any (f : Int) (w : World) (f0 : 0 ≤ f) (f6 : f ≤ 63) :
    Calls Try.prog 16 #[.int .i64 f] w fun e w' => e = .returned (.int .i64 (wt f)) ∧ w = w' := by
  go_enter Try.func16, Try.ntmps16
  go_wp2
  go_loop [0, 3] (fun x n => ∃ (k : Nat) (v m : Int), k ≤ 6 ∧ 0 ≤ v ∧ v ≤ 63 ∧ v < pw k ∧ x = .int .i64 v ∧ n = .int .i64 m ∧ m + wtN k v = wt f ∧ 0 ≤ m ∧ m ≤ 6 - k) (fun x _ => (intOf x).toNat)
  case atStart => exact ⟨6, f, 0, by omega, f0, f6, by have : pw ((6 : Nat) : Int) = 64 := rfl; omega, rfl, rfl, by show 0 + wt f = wt f; omega, by omega, by omega⟩
  case round =>
    obtain ⟨k, v, m, hk, v0, v63, v1, rfl, rfl, hs, m0, m6⟩ := hrel
    by_cases hv : 0 < v
    · cases k with
      | zero => have : pw ((0 : Nat) : Int) = 1 := rfl; omega
      | succ k =>
        have e2 := pw_succ (k : Int) (by omega)
        have e3 : pw ((k + 1 : Nat) : Int) = pw ((k : Int) + 1) := rfl
        have HS := Lib.hid (show m + (v % 2 + wtN k (v / 2)) = wt f from hs)
        have t1 : v.tmod 2 = v % 2 := Int.tmod_eq_emod_of_nonneg v0
        have t2 : v.tdiv 2 = v / 2 := Int.tdiv_eq_ediv_of_nonneg v0
        have k1 : IntKind.i64.wrap (m + v % 2) = m + v % 2 := IntWalk.i64_in _ (by omega)
        have k2 : IntKind.i64.wrap (v / 2) = v / 2 := IntWalk.i64_in _ (by omega)
        have k3 : IntKind.i64.wrap (v % 2) = v % 2 := IntWalk.i64_in _ (by omega)
        clear hs
        go_wp2
        go_round
        case rel => exact ⟨k, v / 2, m + v % 2, by omega, by omega, by omega, by omega, rfl, rfl, by have := HS.out; omega, by omega, by omega⟩
        case measure => simp [intOf]; omega
    · have e : v = 0 := by omega
      subst e
      have HS := Lib.hid (show m = wt f by rw [wtN_zero] at hs; omega)
      clear hs
      go_wp2
      go_ret
      exact ⟨ret_int (by rw [HS.out]), rfl⟩
theorem one_bit : ∀ s : Fin 64, ∀ x : Fin 6, wt (s.val : Int) = 1 → ib (s.val : Int) (x.val : Int) = true → (s.val : Int) = pw (x.val : Int) := by decide +kernel
theorem one_bit' {s x : Int} (s0 : 0 ≤ s) (s1 : s ≤ 63) (x0 : 0 ≤ x) (x1 : x < 6) (h : wt s = 1) (hx : ib s x = true) : s = pw x := by
  have := one_bit ⟨s.toNat, by omega⟩ ⟨x.toNat, by omega⟩
  simp only [Int.toNat_of_nonneg s0, Int.toNat_of_nonneg x0] at this
  exact this h hx
end Go.Proofs.Ytljnbhnnjfnjeaa
