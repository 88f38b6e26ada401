import Derived.Test.YtmapofenghjinaaG8
namespace Go.Proofs.Ytmapofenghjinaa
open Go.RowKit

theorem in_trans {w1 wr : World} (z : Below w1.heap.size w1 wr) (s : In (Below wr.heap.size wr)) : Below w1.heap.size w1 s.w := z.trans (s.h.mono z.size)
theorem in_same {P : Program} {f : FuncId} {args : Array Value} {w1 : World} {v : Value} {B : Nat} (s : In (Below B w1))
    (h : Calls P f args s.w fun e w'' => e = .returned v ∧ s.w = w'') : Calls P f args s.w fun e w'' => e = .returned v ∧ ∃ s' : In (Below B w1), w'' = s'.w :=
  h.mono fun _ _ h => ⟨h.1, s, h.2.symm⟩
end Go.Proofs.Ytmapofenghjinaa
