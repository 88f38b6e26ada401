import Derived.Test.YtbegkmbboebeaaaSL0
import Derived.Test.YtbegkmbboebeaaaN7
namespace Go.Proofs.Ytbegkmbboebeaaa
open Go.RowKit

theorem dr_to {f : FuncId} {args : Array Value} {w : World} {v : Value} (h : Calls Try.prog f args w fun e w' => e = .returned v ∧ Dr w w') : Calls Try.prog f args w fun e w' => e = .returned v ∧ Below w.heap.size w w' := h.mono fun _ _ h => ⟨h.1, h.2.below _⟩
theorem one_bit : ∀ s : Fin 64, ∀ x : Fin 6, wt (s.val : Int) = 1 → ib (s.val : Int) (x.val : Int) = true → (s.val : Int) = pw (x.val : Int) := by decide +kernel
theorem one_bit' {s x : Int} (s0 : 0 ≤ s) (s1 : s ≤ 63) (x0 : 0 ≤ x) (x1 : x < 6) (h : wt s = 1) (hx : ib s x = true) : s = pw x := by
  have := one_bit ⟨s.toNat, by omega⟩ ⟨x.toNat, by omega⟩
  simp only [Int.toNat_of_nonneg s0, Int.toNat_of_nonneg x0] at this
  exact this h hx
end Go.Proofs.Ytbegkmbboebeaaa
