import Derived.Test.YtjcambkjcagcoaaGreatSL0
import Derived.Test.YtjcambkjcagcoaaGreatN7
namespace Go.Proofs.YtjcambkjcagcoaaGreat
open Go.RowKit

theorem dr_to {f : FuncId} {args : Array Value} {w : World} {v : Value} (h : Calls Tryz.prog f args w fun e w' => e = .returned v ∧ Dr w w') : Calls Tryz.prog f args w fun e w' => e = .returned v ∧ Below w.heap.size w w' := h.mono fun _ _ h => ⟨h.1, h.2.below _⟩
set_option maxHeartbeats 400000 in
/-- laws.power -/
theorem lawPower_any (n : Int) (w : World) (hn0 : 0 ≤ n) (hn : n ≤ 30) :
    Calls Tryz.prog 13 #[.int .i64 n] w fun e w' => e = .returned (.int .i64 (pw n)) ∧ w = w' := by
  go_enter Tryz.func13, Tryz.ntmps13
  go_wp2
  go_loop [0, 3] (fun i o => ∃ k : Int, 0 ≤ k ∧ k ≤ n ∧ i = .int .i64 k ∧ o = .int .i64 (pw (n - k))) (fun i _ => (intOf i).toNat)
  case atStart => exact ⟨n, hn0, Int.le_refl _, rfl, by simp [pw_zero]⟩
  case round =>
    obtain ⟨k, h0, h1, rfl, rfl⟩ := hrel
    have p1 := pw_30 (n - k) (by omega)
    have p2 := pw_pos (n - k)
    by_cases hk : 0 < k
    · have hs := pw_succ (n - k) (by omega)
      have HS := Lib.hid hs; clear hs
      go_wp2
      go_round
      case rel => exact ⟨k - 1, by omega, by omega, rfl, by rw [← HS.out]; congr 2; omega⟩
      case measure => simp [intOf]; omega
    · have e : k = 0 := by omega
      subst e
      go_wp2
      go_ret
      exact ⟨ret_int (by simp), rfl⟩

set_option maxHeartbeats 400000 in
/-- laws.bit -/
theorem lawBit_any (v y : Int) (w : World) (hv : 0 ≤ v) (hv2 : v ≤ 63) (hy0 : 0 ≤ y) (hy : y ≤ 30) :
    Calls Tryz.prog 36 #[.int .i64 v, .int .i64 y] w fun e w' => e = .returned (.int .i64 (bt v y)) ∧ w = w' := by
  have p1 := pw_30 y hy
  have p2 := pw_pos y
  go_enter Tryz.func36, Tryz.ntmps36
  go_wp2_with (go_at_call 13; refine (lawPower_any _ _ hy0 hy).mono ?_; rintro e w' ⟨rfl, rfl⟩)
  have d1 : 0 ≤ v / pw y := Int.ediv_nonneg hv (by omega)
  go_ret
  exact ⟨ret_int (by simp [bt]; rw [Int.tmod_eq_emod_of_nonneg d1]), rfl⟩

theorem one_bit : ∀ s : Fin 64, ∀ x : Fin 6, wt (s.val : Int) = 1 → ib (s.val : Int) (x.val : Int) = true → (s.val : Int) = pw (x.val : Int) := by decide +kernel
theorem one_bit' {s x : Int} (s0 : 0 ≤ s) (s1 : s ≤ 63) (x0 : 0 ≤ x) (x1 : x < 6) (h : wt s = 1) (hx : ib s x = true) : s = pw x := by
  have := one_bit ⟨s.toNat, by omega⟩ ⟨x.toNat, by omega⟩
  simp only [Int.toNat_of_nonneg s0, Int.toNat_of_nonneg x0] at this
  exact this h hx
end Go.Proofs.YtjcambkjcagcoaaGreat
