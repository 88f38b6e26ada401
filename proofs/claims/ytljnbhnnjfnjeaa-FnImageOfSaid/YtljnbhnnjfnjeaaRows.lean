/-
  No cell of these rows narrows 'for every input' (looked for: loops, veiled, ifaces, maps, wideKeys, modest, calm, conditions, laid).
  DERIVED. THE GIVEN ROWS OF THIS SEAT. 3 by the template 'for every input the law returns true; each argument reads behind the call as it read before'; 0 by the template 'total and deterministic' (their statements: YtljnbhnnjfnjeaaTotals.lean).
  GIVEN WITH THE SEED: the statements are not yours to turn. If you find one false, say at which input.
  Laid BY PROGRAM, IN A SANDBOX (cutbox-rows.mjs): the forced cells as the released guide's own fill.sh prints them over the translation 1e85bb9f0d06223e… (all of the seat's roots in one cut). By AI agents, Wed Nov 11 2026. No macro, syntax, notation, axiom, sorry.
-/
import Derived.Test.YtljnbhnnjfnjeaaChecked
import GoSem.Claim
import GoSem.ClaimJoined
import GoSem.ClaimMapViews
import Derived.JoinedTies
import Derived.KernelRfl
namespace Go.Proofs.Ytljnbhnnjfnjeaa
/- THE CELL 'sum', in the pinned program and in every row, IS THE sha256 OF THE DUMP (.gsa) THAT YtljnbhnnjfnjeaaProg.lean LOADS. Nothing in Lean hashes anything: it is a label: what it is worth is what the hold of that sum in a sandbox is worth. -/
noncomputable def Try.pinned : Pinned := { name := "ytljnbhnnjfnjeaa", sum := "1e85bb9f0d06223ef63a90045972af64324ea934f0cf0920dafff8ae12280d1e", checked := Try.checked }
namespace Rows
def none {H : Type} : Left H := { results := [], args := [] }

/-- 'laws.FnIsMap': WHATEVER THE INPUT: true; the input reads as it did. -/
def fnIsMapSpec : ChangeSpec := { name := "fnIsMap", fn := fun _ => fun
  | [d] => { results := [.lit (.bool true)], args := [d] }
  | _ => none }
def fnIsMapRow : OpenClaim := { program := "ytljnbhnnjfnjeaa", sum := "1e85bb9f0d06223ef63a90045972af64324ea934f0cf0920dafff8ae12280d1e", func := "loop.example/residuatedtables/laws.FnIsMap", spec := "fnIsMap", unfollowed := true, recurses := true, apart := false }
def FnIsMapSaid : Prop := fnIsMapRow.holds Try.pinned (OpenSpec.ofChange fnIsMapSpec)

/-- ITS FALSE NEIGHBOUR: 'it returns false'. Refute it at one input. -/
def fnIsMapWrong : ChangeSpec := { name := "fnIsMap", fn := fun _ => fun
  | [d] => { results := [.lit (.bool false)], args := [d] }
  | _ => none }
def FnIsMapWrongFalsely : Prop := fnIsMapRow.holds Try.pinned (OpenSpec.ofChange fnIsMapWrong)

/-- 'laws.FnKernelOf': WHATEVER THE INPUT: true; the input reads as it did. -/
def fnKernelOfSpec : ChangeSpec := { name := "fnKernelOf", fn := fun _ => fun
  | [d] => { results := [.lit (.bool true)], args := [d] }
  | _ => none }
def fnKernelOfRow : OpenClaim := { program := "ytljnbhnnjfnjeaa", sum := "1e85bb9f0d06223ef63a90045972af64324ea934f0cf0920dafff8ae12280d1e", func := "loop.example/residuatedtables/laws.FnKernelOf", spec := "fnKernelOf", unfollowed := true, recurses := true, apart := false }
def FnKernelOfSaid : Prop := fnKernelOfRow.holds Try.pinned (OpenSpec.ofChange fnKernelOfSpec)

/-- ITS FALSE NEIGHBOUR: 'it returns false'. Refute it at one input. -/
def fnKernelOfWrong : ChangeSpec := { name := "fnKernelOf", fn := fun _ => fun
  | [d] => { results := [.lit (.bool false)], args := [d] }
  | _ => none }
def FnKernelOfWrongFalsely : Prop := fnKernelOfRow.holds Try.pinned (OpenSpec.ofChange fnKernelOfWrong)

/-- 'laws.FnImageOf': WHATEVER THE INPUT: true; the input reads as it did. -/
def fnImageOfSpec : ChangeSpec := { name := "fnImageOf", fn := fun _ => fun
  | [d] => { results := [.lit (.bool true)], args := [d] }
  | _ => none }
def fnImageOfRow : OpenClaim := { program := "ytljnbhnnjfnjeaa", sum := "1e85bb9f0d06223ef63a90045972af64324ea934f0cf0920dafff8ae12280d1e", func := "loop.example/residuatedtables/laws.FnImageOf", spec := "fnImageOf", unfollowed := true, recurses := true, apart := false }
def FnImageOfSaid : Prop := fnImageOfRow.holds Try.pinned (OpenSpec.ofChange fnImageOfSpec)

/-- ITS FALSE NEIGHBOUR: 'it returns false'. Refute it at one input. -/
def fnImageOfWrong : ChangeSpec := { name := "fnImageOf", fn := fun _ => fun
  | [d] => { results := [.lit (.bool false)], args := [d] }
  | _ => none }
def FnImageOfWrongFalsely : Prop := fnImageOfRow.holds Try.pinned (OpenSpec.ofChange fnImageOfWrong)

/- THE SECOND FORM. 'bulk': how many values and letters a reading holds, each counted each time it is reached (what is shared counts as often as it is met; a slice's spare places count too). A statement '..UptoSaid' is the law's where the arguments, and the package variables that the reading takes, are together of bulk at most 1048576: NARROWER than '..Said'. Prove '..Said' where nothing that the law and all that it calls make is longer than what came in: it says more and counts as full. Else prove '..UptoSaid'. A law counts once. -/
mutual
def uptoBulk {H : Type} : DataW H → Nat
  | .lit (.string bytes) => bytes.length + 1
  | .lit _ => 1
  | .nil => 1
  | .ptr d => uptoBulk d + 1
  | .slice elems spare => uptoBulkAll elems + uptoBulkAll spare + 1
  | .agg parts => uptoBulkAll parts + 1
  | .iface _ d => uptoBulk d + 1
  | .map entries => uptoBulkEntries entries + 1
  | .held _ => 1
def uptoBulkAll {H : Type} : List (DataW H) → Nat
  | [] => 0
  | d :: r => uptoBulk d + uptoBulkAll r
def uptoBulkEntries {H : Type} : List (Lit × DataW H) → Nat
  | [] => 0
  | x :: r => uptoBulkEntry x + uptoBulkEntries r
def uptoBulkEntry {H : Type} : Lit × DataW H → Nat
  | (.string bytes, d) => bytes.length + uptoBulk d + 1
  | (_, d) => uptoBulk d + 1
 end
def uptoSmall : (H : Type) → List (DataW H) → Bool := fun _ ds => decide (uptoBulkAll ds ≤ 1048576)
def OpenSpec.upto (s : _root_.Go.ChangeSpec) : _root_.Go.OpenSpec := { _root_.Go.OpenSpec.ofChange s with cond := some uptoSmall }

/-- 'laws.FnIsMap', WHERE WHAT IT READS IS OF BULK AT MOST 1048576: true; the input reads as it did. -/
def fnIsMapUptoRow : OpenClaim := { program := "ytljnbhnnjfnjeaa", sum := "1e85bb9f0d06223ef63a90045972af64324ea934f0cf0920dafff8ae12280d1e", func := "loop.example/residuatedtables/laws.FnIsMap", spec := "fnIsMap", unfollowed := true, recurses := true, apart := false, narrowed := true }
def FnIsMapUptoSaid : Prop := fnIsMapUptoRow.holds Try.pinned (OpenSpec.upto fnIsMapSpec)

/-- 'laws.FnKernelOf', WHERE WHAT IT READS IS OF BULK AT MOST 1048576: true; the input reads as it did. -/
def fnKernelOfUptoRow : OpenClaim := { program := "ytljnbhnnjfnjeaa", sum := "1e85bb9f0d06223ef63a90045972af64324ea934f0cf0920dafff8ae12280d1e", func := "loop.example/residuatedtables/laws.FnKernelOf", spec := "fnKernelOf", unfollowed := true, recurses := true, apart := false, narrowed := true }
def FnKernelOfUptoSaid : Prop := fnKernelOfUptoRow.holds Try.pinned (OpenSpec.upto fnKernelOfSpec)

/-- 'laws.FnImageOf', WHERE WHAT IT READS IS OF BULK AT MOST 1048576: true; the input reads as it did. -/
def fnImageOfUptoRow : OpenClaim := { program := "ytljnbhnnjfnjeaa", sum := "1e85bb9f0d06223ef63a90045972af64324ea934f0cf0920dafff8ae12280d1e", func := "loop.example/residuatedtables/laws.FnImageOf", spec := "fnImageOf", unfollowed := true, recurses := true, apart := false, narrowed := true }
def FnImageOfUptoSaid : Prop := fnImageOfUptoRow.holds Try.pinned (OpenSpec.upto fnImageOfSpec)

end Rows
end Go.Proofs.Ytljnbhnnjfnjeaa
