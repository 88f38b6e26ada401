import Derived.Test.YtljnbhnnjfnjeaaZ8
namespace Go.Proofs.Ytljnbhnnjfnjeaa
open Go.RowKit

theorem dr_to {f : FuncId} {args : Array Value} {w : World} {v : Value} (h : Calls Try.prog f args w fun e w' => e = .returned v ∧ Dr w w') : Calls Try.prog f args w fun e w' => e = .returned v ∧ Below w.heap.size w w' := h.mono fun _ _ h => ⟨h.1, h.2.below _⟩
end Go.Proofs.Ytljnbhnnjfnjeaa
