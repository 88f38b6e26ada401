import Derived.Test.YtdjhnbofnmhpaaaZ8
namespace Go.Proofs.Ytdjhnbofnmhpaaa
open Go.RowKit

theorem dr_to {f : FuncId} {args : Array Value} {w : World} {v : Value} (h : Calls Try.prog f args w fun e w' => e = .returned v ∧ Dr w w') : Calls Try.prog f args w fun e w' => e = .returned v ∧ Below w.heap.size w w' := h.mono fun _ _ h => ⟨h.1, h.2.below _⟩
set_option maxHeartbeats 400000 in
/-- laws.power -/
theorem lawPower_any (n : Int) (w : World) (hn0 : 0 ≤ n) (hn : n ≤ 30) :
    Calls Try.prog 15 #[.int .i64 n] w fun e w' => e = .returned (.int .i64 (pw n)) ∧ w = w' := by
  go_enter Try.func15, Try.ntmps15
  go_wp2
  go_loop [0, 3] (fun i o => ∃ k : Int, 0 ≤ k ∧ k ≤ n ∧ i = .int .i64 k ∧ o = .int .i64 (pw (n - k))) (fun i _ => (intOf i).toNat)
  case atStart => exact ⟨n, hn0, Int.le_refl _, rfl, by simp [pw_zero]⟩
  case round =>
    obtain ⟨k, h0, h1, rfl, rfl⟩ := hrel
    have p1 := pw_30 (n - k) (by omega)
    have p2 := pw_pos (n - k)
    by_cases hk : 0 < k
    · have hs := pw_succ (n - k) (by omega)
      have HS := Lib.hid hs; clear hs
      go_wp2
      go_round
      case rel => exact ⟨k - 1, by omega, by omega, rfl, by rw [← HS.out]; congr 2; omega⟩
      case measure => simp [intOf]; omega
    · have e : k = 0 := by omega
      subst e
      go_wp2
      go_ret
      exact ⟨ret_int (by simp), rfl⟩

end Go.Proofs.Ytdjhnbofnmhpaaa
