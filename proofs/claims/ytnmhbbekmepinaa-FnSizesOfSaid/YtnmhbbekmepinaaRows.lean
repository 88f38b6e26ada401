/-
  No cell of these rows narrows 'for every input' (looked for: loops, veiled, ifaces, maps, wideKeys, modest, calm, conditions, laid).
  DERIVED. THE GIVEN ROWS OF THIS SEAT. 13 by the template 'for every input the law returns true; each argument reads behind the call as it read before'; 0 by the template 'total and deterministic' (their statements: YtnmhbbekmepinaaTotals.lean).
  GIVEN WITH THE SEED: the statements are not yours to turn. If you find one false, say at which input.
  Laid BY PROGRAM, IN A SANDBOX (cutbox-rows.mjs): the forced cells as the released guide's own fill.sh prints them over the translation ec1f9169a440659d… (all of the seat's roots in one cut). By AI agents, Wed Nov 11 2026. No macro, syntax, notation, axiom, sorry.
-/
import Derived.Test.YtnmhbbekmepinaaChecked
import GoSem.Claim
import GoSem.ClaimJoined
import GoSem.ClaimMapViews
import Derived.JoinedTies
import Derived.KernelRfl
namespace Go.Proofs.Ytnmhbbekmepinaa
/- THE CELL 'sum', in the pinned program and in every row, IS THE sha256 OF THE DUMP (.gsa) THAT YtnmhbbekmepinaaProg.lean LOADS. Nothing in Lean hashes anything: it is a label: what it is worth is what the hold of that sum in a sandbox is worth. -/
noncomputable def Try.pinned : Pinned := { name := "ytnmhbbekmepinaa", sum := "ec1f9169a440659d98a342a19be3a14b74bcf88e56cc53d0eabb5564f853e2de", checked := Try.checked }
namespace Rows
def none {H : Type} : Left H := { results := [], args := [] }

/-- 'laws.FnExactCrossAlgebras': WHATEVER THE INPUT: true; the input reads as it did. -/
def fnExactCrossAlgebrasSpec : ChangeSpec := { name := "fnExactCrossAlgebras", fn := fun _ => fun
  | [d1, d2] => { results := [.lit (.bool true)], args := [d1, d2] }
  | _ => none }
def fnExactCrossAlgebrasRow : OpenClaim := { program := "ytnmhbbekmepinaa", sum := "ec1f9169a440659d98a342a19be3a14b74bcf88e56cc53d0eabb5564f853e2de", func := "loop.example/residuatedtables/laws.FnExactCrossAlgebras", spec := "fnExactCrossAlgebras", unfollowed := true, recurses := true, apart := false }
def FnExactCrossAlgebrasSaid : Prop := fnExactCrossAlgebrasRow.holds Try.pinned (OpenSpec.ofChange fnExactCrossAlgebrasSpec)

/-- ITS FALSE NEIGHBOUR: 'it returns false'. Refute it at one input. -/
def fnExactCrossAlgebrasWrong : ChangeSpec := { name := "fnExactCrossAlgebras", fn := fun _ => fun
  | [d1, d2] => { results := [.lit (.bool false)], args := [d1, d2] }
  | _ => none }
def FnExactCrossAlgebrasWrongFalsely : Prop := fnExactCrossAlgebrasRow.holds Try.pinned (OpenSpec.ofChange fnExactCrossAlgebrasWrong)

/-- 'laws.FnIsMap': WHATEVER THE INPUT: true; the input reads as it did. -/
def fnIsMapSpec : ChangeSpec := { name := "fnIsMap", fn := fun _ => fun
  | [d] => { results := [.lit (.bool true)], args := [d] }
  | _ => none }
def fnIsMapRow : OpenClaim := { program := "ytnmhbbekmepinaa", sum := "ec1f9169a440659d98a342a19be3a14b74bcf88e56cc53d0eabb5564f853e2de", func := "loop.example/residuatedtables/laws.FnIsMap", spec := "fnIsMap", unfollowed := true, recurses := true, apart := false }
def FnIsMapSaid : Prop := fnIsMapRow.holds Try.pinned (OpenSpec.ofChange fnIsMapSpec)

/-- ITS FALSE NEIGHBOUR: 'it returns false'. Refute it at one input. -/
def fnIsMapWrong : ChangeSpec := { name := "fnIsMap", fn := fun _ => fun
  | [d] => { results := [.lit (.bool false)], args := [d] }
  | _ => none }
def FnIsMapWrongFalsely : Prop := fnIsMapRow.holds Try.pinned (OpenSpec.ofChange fnIsMapWrong)

/-- 'laws.FnKernelOf': WHATEVER THE INPUT: true; the input reads as it did. -/
def fnKernelOfSpec : ChangeSpec := { name := "fnKernelOf", fn := fun _ => fun
  | [d] => { results := [.lit (.bool true)], args := [d] }
  | _ => none }
def fnKernelOfRow : OpenClaim := { program := "ytnmhbbekmepinaa", sum := "ec1f9169a440659d98a342a19be3a14b74bcf88e56cc53d0eabb5564f853e2de", func := "loop.example/residuatedtables/laws.FnKernelOf", spec := "fnKernelOf", unfollowed := true, recurses := true, apart := false }
def FnKernelOfSaid : Prop := fnKernelOfRow.holds Try.pinned (OpenSpec.ofChange fnKernelOfSpec)

/-- ITS FALSE NEIGHBOUR: 'it returns false'. Refute it at one input. -/
def fnKernelOfWrong : ChangeSpec := { name := "fnKernelOf", fn := fun _ => fun
  | [d] => { results := [.lit (.bool false)], args := [d] }
  | _ => none }
def FnKernelOfWrongFalsely : Prop := fnKernelOfRow.holds Try.pinned (OpenSpec.ofChange fnKernelOfWrong)

/-- 'laws.FnImageOf': WHATEVER THE INPUT: true; the input reads as it did. -/
def fnImageOfSpec : ChangeSpec := { name := "fnImageOf", fn := fun _ => fun
  | [d] => { results := [.lit (.bool true)], args := [d] }
  | _ => none }
def fnImageOfRow : OpenClaim := { program := "ytnmhbbekmepinaa", sum := "ec1f9169a440659d98a342a19be3a14b74bcf88e56cc53d0eabb5564f853e2de", func := "loop.example/residuatedtables/laws.FnImageOf", spec := "fnImageOf", unfollowed := true, recurses := true, apart := false }
def FnImageOfSaid : Prop := fnImageOfRow.holds Try.pinned (OpenSpec.ofChange fnImageOfSpec)

/-- ITS FALSE NEIGHBOUR: 'it returns false'. Refute it at one input. -/
def fnImageOfWrong : ChangeSpec := { name := "fnImageOf", fn := fun _ => fun
  | [d] => { results := [.lit (.bool false)], args := [d] }
  | _ => none }
def FnImageOfWrongFalsely : Prop := fnImageOfRow.holds Try.pinned (OpenSpec.ofChange fnImageOfWrong)

/-- 'laws.FnExactStackOfSums': WHATEVER THE INPUT: true; the input reads as it did. -/
def fnExactStackOfSumsSpec : ChangeSpec := { name := "fnExactStackOfSums", fn := fun _ => fun
  | [d] => { results := [.lit (.bool true)], args := [d] }
  | _ => none }
def fnExactStackOfSumsRow : OpenClaim := { program := "ytnmhbbekmepinaa", sum := "ec1f9169a440659d98a342a19be3a14b74bcf88e56cc53d0eabb5564f853e2de", func := "loop.example/residuatedtables/laws.FnExactStackOfSums", spec := "fnExactStackOfSums", unfollowed := true, recurses := true, apart := false }
def FnExactStackOfSumsSaid : Prop := fnExactStackOfSumsRow.holds Try.pinned (OpenSpec.ofChange fnExactStackOfSumsSpec)

/-- ITS FALSE NEIGHBOUR: 'it returns false'. Refute it at one input. -/
def fnExactStackOfSumsWrong : ChangeSpec := { name := "fnExactStackOfSums", fn := fun _ => fun
  | [d] => { results := [.lit (.bool false)], args := [d] }
  | _ => none }
def FnExactStackOfSumsWrongFalsely : Prop := fnExactStackOfSumsRow.holds Try.pinned (OpenSpec.ofChange fnExactStackOfSumsWrong)

/-- 'laws.FnExactSizesOf': WHATEVER THE INPUT: true; the input reads as it did. -/
def fnExactSizesOfSpec : ChangeSpec := { name := "fnExactSizesOf", fn := fun _ => fun
  | [d] => { results := [.lit (.bool true)], args := [d] }
  | _ => none }
def fnExactSizesOfRow : OpenClaim := { program := "ytnmhbbekmepinaa", sum := "ec1f9169a440659d98a342a19be3a14b74bcf88e56cc53d0eabb5564f853e2de", func := "loop.example/residuatedtables/laws.FnExactSizesOf", spec := "fnExactSizesOf", unfollowed := true, recurses := true, apart := false }
def FnExactSizesOfSaid : Prop := fnExactSizesOfRow.holds Try.pinned (OpenSpec.ofChange fnExactSizesOfSpec)

/-- ITS FALSE NEIGHBOUR: 'it returns false'. Refute it at one input. -/
def fnExactSizesOfWrong : ChangeSpec := { name := "fnExactSizesOf", fn := fun _ => fun
  | [d] => { results := [.lit (.bool false)], args := [d] }
  | _ => none }
def FnExactSizesOfWrongFalsely : Prop := fnExactSizesOfRow.holds Try.pinned (OpenSpec.ofChange fnExactSizesOfWrong)

/-- 'laws.FnStackOfSums': WHATEVER THE INPUT: true; the input reads as it did. -/
def fnStackOfSumsSpec : ChangeSpec := { name := "fnStackOfSums", fn := fun _ => fun
  | [d] => { results := [.lit (.bool true)], args := [d] }
  | _ => none }
def fnStackOfSumsRow : OpenClaim := { program := "ytnmhbbekmepinaa", sum := "ec1f9169a440659d98a342a19be3a14b74bcf88e56cc53d0eabb5564f853e2de", func := "loop.example/residuatedtables/laws.FnStackOfSums", spec := "fnStackOfSums", unfollowed := true, recurses := true, apart := false }
def FnStackOfSumsSaid : Prop := fnStackOfSumsRow.holds Try.pinned (OpenSpec.ofChange fnStackOfSumsSpec)

/-- ITS FALSE NEIGHBOUR: 'it returns false'. Refute it at one input. -/
def fnStackOfSumsWrong : ChangeSpec := { name := "fnStackOfSums", fn := fun _ => fun
  | [d] => { results := [.lit (.bool false)], args := [d] }
  | _ => none }
def FnStackOfSumsWrongFalsely : Prop := fnStackOfSumsRow.holds Try.pinned (OpenSpec.ofChange fnStackOfSumsWrong)

/-- 'laws.FnSizesOf': WHATEVER THE INPUT: true; the input reads as it did. -/
def fnSizesOfSpec : ChangeSpec := { name := "fnSizesOf", fn := fun _ => fun
  | [d] => { results := [.lit (.bool true)], args := [d] }
  | _ => none }
def fnSizesOfRow : OpenClaim := { program := "ytnmhbbekmepinaa", sum := "ec1f9169a440659d98a342a19be3a14b74bcf88e56cc53d0eabb5564f853e2de", func := "loop.example/residuatedtables/laws.FnSizesOf", spec := "fnSizesOf", unfollowed := true, recurses := true, apart := false }
def FnSizesOfSaid : Prop := fnSizesOfRow.holds Try.pinned (OpenSpec.ofChange fnSizesOfSpec)

/-- ITS FALSE NEIGHBOUR: 'it returns false'. Refute it at one input. -/
def fnSizesOfWrong : ChangeSpec := { name := "fnSizesOf", fn := fun _ => fun
  | [d] => { results := [.lit (.bool false)], args := [d] }
  | _ => none }
def FnSizesOfWrongFalsely : Prop := fnSizesOfRow.holds Try.pinned (OpenSpec.ofChange fnSizesOfWrong)

/-- 'laws.FnExactChainsOf': WHATEVER THE INPUT: true; the input reads as it did. -/
def fnExactChainsOfSpec : ChangeSpec := { name := "fnExactChainsOf", fn := fun _ => fun
  | [d] => { results := [.lit (.bool true)], args := [d] }
  | _ => none }
def fnExactChainsOfRow : OpenClaim := { program := "ytnmhbbekmepinaa", sum := "ec1f9169a440659d98a342a19be3a14b74bcf88e56cc53d0eabb5564f853e2de", func := "loop.example/residuatedtables/laws.FnExactChainsOf", spec := "fnExactChainsOf", unfollowed := true, recurses := true, apart := false }
def FnExactChainsOfSaid : Prop := fnExactChainsOfRow.holds Try.pinned (OpenSpec.ofChange fnExactChainsOfSpec)

/-- ITS FALSE NEIGHBOUR: 'it returns false'. Refute it at one input. -/
def fnExactChainsOfWrong : ChangeSpec := { name := "fnExactChainsOf", fn := fun _ => fun
  | [d] => { results := [.lit (.bool false)], args := [d] }
  | _ => none }
def FnExactChainsOfWrongFalsely : Prop := fnExactChainsOfRow.holds Try.pinned (OpenSpec.ofChange fnExactChainsOfWrong)

/-- 'laws.FnExactChainCount': WHATEVER THE INPUT: true; the input reads as it did. -/
def fnExactChainCountSpec : ChangeSpec := { name := "fnExactChainCount", fn := fun _ => fun
  | [d1, d2] => { results := [.lit (.bool true)], args := [d1, d2] }
  | _ => none }
def fnExactChainCountRow : OpenClaim := { program := "ytnmhbbekmepinaa", sum := "ec1f9169a440659d98a342a19be3a14b74bcf88e56cc53d0eabb5564f853e2de", func := "loop.example/residuatedtables/laws.FnExactChainCount", spec := "fnExactChainCount", unfollowed := true, recurses := true, apart := false }
def FnExactChainCountSaid : Prop := fnExactChainCountRow.holds Try.pinned (OpenSpec.ofChange fnExactChainCountSpec)

/-- ITS FALSE NEIGHBOUR: 'it returns false'. Refute it at one input. -/
def fnExactChainCountWrong : ChangeSpec := { name := "fnExactChainCount", fn := fun _ => fun
  | [d1, d2] => { results := [.lit (.bool false)], args := [d1, d2] }
  | _ => none }
def FnExactChainCountWrongFalsely : Prop := fnExactChainCountRow.holds Try.pinned (OpenSpec.ofChange fnExactChainCountWrong)

/-- 'laws.FnChainCount': WHATEVER THE INPUT: true; the input reads as it did. -/
def fnChainCountSpec : ChangeSpec := { name := "fnChainCount", fn := fun _ => fun
  | [d] => { results := [.lit (.bool true)], args := [d] }
  | _ => none }
def fnChainCountRow : OpenClaim := { program := "ytnmhbbekmepinaa", sum := "ec1f9169a440659d98a342a19be3a14b74bcf88e56cc53d0eabb5564f853e2de", func := "loop.example/residuatedtables/laws.FnChainCount", spec := "fnChainCount", unfollowed := true, recurses := true, apart := false }
def FnChainCountSaid : Prop := fnChainCountRow.holds Try.pinned (OpenSpec.ofChange fnChainCountSpec)

/-- ITS FALSE NEIGHBOUR: 'it returns false'. Refute it at one input. -/
def fnChainCountWrong : ChangeSpec := { name := "fnChainCount", fn := fun _ => fun
  | [d] => { results := [.lit (.bool false)], args := [d] }
  | _ => none }
def FnChainCountWrongFalsely : Prop := fnChainCountRow.holds Try.pinned (OpenSpec.ofChange fnChainCountWrong)

/-- 'laws.FnChainsOf': WHATEVER THE INPUT: true; the input reads as it did. -/
def fnChainsOfSpec : ChangeSpec := { name := "fnChainsOf", fn := fun _ => fun
  | [d] => { results := [.lit (.bool true)], args := [d] }
  | _ => none }
def fnChainsOfRow : OpenClaim := { program := "ytnmhbbekmepinaa", sum := "ec1f9169a440659d98a342a19be3a14b74bcf88e56cc53d0eabb5564f853e2de", func := "loop.example/residuatedtables/laws.FnChainsOf", spec := "fnChainsOf", unfollowed := true, recurses := true, apart := false }
def FnChainsOfSaid : Prop := fnChainsOfRow.holds Try.pinned (OpenSpec.ofChange fnChainsOfSpec)

/-- ITS FALSE NEIGHBOUR: 'it returns false'. Refute it at one input. -/
def fnChainsOfWrong : ChangeSpec := { name := "fnChainsOf", fn := fun _ => fun
  | [d] => { results := [.lit (.bool false)], args := [d] }
  | _ => none }
def FnChainsOfWrongFalsely : Prop := fnChainsOfRow.holds Try.pinned (OpenSpec.ofChange fnChainsOfWrong)

/-- 'laws.FnCrossAlgebras': WHATEVER THE INPUT: true; the input reads as it did. -/
def fnCrossAlgebrasSpec : ChangeSpec := { name := "fnCrossAlgebras", fn := fun _ => fun
  | [d] => { results := [.lit (.bool true)], args := [d] }
  | _ => none }
def fnCrossAlgebrasRow : OpenClaim := { program := "ytnmhbbekmepinaa", sum := "ec1f9169a440659d98a342a19be3a14b74bcf88e56cc53d0eabb5564f853e2de", func := "loop.example/residuatedtables/laws.FnCrossAlgebras", spec := "fnCrossAlgebras", unfollowed := true, recurses := true, apart := false }
def FnCrossAlgebrasSaid : Prop := fnCrossAlgebrasRow.holds Try.pinned (OpenSpec.ofChange fnCrossAlgebrasSpec)

/-- ITS FALSE NEIGHBOUR: 'it returns false'. Refute it at one input. -/
def fnCrossAlgebrasWrong : ChangeSpec := { name := "fnCrossAlgebras", fn := fun _ => fun
  | [d] => { results := [.lit (.bool false)], args := [d] }
  | _ => none }
def FnCrossAlgebrasWrongFalsely : Prop := fnCrossAlgebrasRow.holds Try.pinned (OpenSpec.ofChange fnCrossAlgebrasWrong)

/- THE SECOND FORM. 'bulk': how many values and letters a reading holds, each counted each time it is reached (what is shared counts as often as it is met; a slice's spare places count too). A statement '..UptoSaid' is the law's where the arguments, and the package variables that the reading takes, are together of bulk at most 1048576: NARROWER than '..Said'. Prove '..Said' where nothing that the law and all that it calls make is longer than what came in: it says more and counts as full. Else prove '..UptoSaid'. A law counts once. -/
mutual
def uptoBulk {H : Type} : DataW H → Nat
  | .lit (.string bytes) => bytes.length + 1
  | .lit _ => 1
  | .nil => 1
  | .ptr d => uptoBulk d + 1
  | .slice elems spare => uptoBulkAll elems + uptoBulkAll spare + 1
  | .agg parts => uptoBulkAll parts + 1
  | .iface _ d => uptoBulk d + 1
  | .map entries => uptoBulkEntries entries + 1
  | .held _ => 1
def uptoBulkAll {H : Type} : List (DataW H) → Nat
  | [] => 0
  | d :: r => uptoBulk d + uptoBulkAll r
def uptoBulkEntries {H : Type} : List (Lit × DataW H) → Nat
  | [] => 0
  | x :: r => uptoBulkEntry x + uptoBulkEntries r
def uptoBulkEntry {H : Type} : Lit × DataW H → Nat
  | (.string bytes, d) => bytes.length + uptoBulk d + 1
  | (_, d) => uptoBulk d + 1
 end
def uptoSmall : (H : Type) → List (DataW H) → Bool := fun _ ds => decide (uptoBulkAll ds ≤ 1048576)
def OpenSpec.upto (s : _root_.Go.ChangeSpec) : _root_.Go.OpenSpec := { _root_.Go.OpenSpec.ofChange s with cond := some uptoSmall }

/-- 'laws.FnExactCrossAlgebras', WHERE WHAT IT READS IS OF BULK AT MOST 1048576: true; the input reads as it did. -/
def fnExactCrossAlgebrasUptoRow : OpenClaim := { program := "ytnmhbbekmepinaa", sum := "ec1f9169a440659d98a342a19be3a14b74bcf88e56cc53d0eabb5564f853e2de", func := "loop.example/residuatedtables/laws.FnExactCrossAlgebras", spec := "fnExactCrossAlgebras", unfollowed := true, recurses := true, apart := false, narrowed := true }
def FnExactCrossAlgebrasUptoSaid : Prop := fnExactCrossAlgebrasUptoRow.holds Try.pinned (OpenSpec.upto fnExactCrossAlgebrasSpec)

/-- 'laws.FnIsMap', WHERE WHAT IT READS IS OF BULK AT MOST 1048576: true; the input reads as it did. -/
def fnIsMapUptoRow : OpenClaim := { program := "ytnmhbbekmepinaa", sum := "ec1f9169a440659d98a342a19be3a14b74bcf88e56cc53d0eabb5564f853e2de", func := "loop.example/residuatedtables/laws.FnIsMap", spec := "fnIsMap", unfollowed := true, recurses := true, apart := false, narrowed := true }
def FnIsMapUptoSaid : Prop := fnIsMapUptoRow.holds Try.pinned (OpenSpec.upto fnIsMapSpec)

/-- 'laws.FnKernelOf', WHERE WHAT IT READS IS OF BULK AT MOST 1048576: true; the input reads as it did. -/
def fnKernelOfUptoRow : OpenClaim := { program := "ytnmhbbekmepinaa", sum := "ec1f9169a440659d98a342a19be3a14b74bcf88e56cc53d0eabb5564f853e2de", func := "loop.example/residuatedtables/laws.FnKernelOf", spec := "fnKernelOf", unfollowed := true, recurses := true, apart := false, narrowed := true }
def FnKernelOfUptoSaid : Prop := fnKernelOfUptoRow.holds Try.pinned (OpenSpec.upto fnKernelOfSpec)

/-- 'laws.FnImageOf', WHERE WHAT IT READS IS OF BULK AT MOST 1048576: true; the input reads as it did. -/
def fnImageOfUptoRow : OpenClaim := { program := "ytnmhbbekmepinaa", sum := "ec1f9169a440659d98a342a19be3a14b74bcf88e56cc53d0eabb5564f853e2de", func := "loop.example/residuatedtables/laws.FnImageOf", spec := "fnImageOf", unfollowed := true, recurses := true, apart := false, narrowed := true }
def FnImageOfUptoSaid : Prop := fnImageOfUptoRow.holds Try.pinned (OpenSpec.upto fnImageOfSpec)

/-- 'laws.FnExactStackOfSums', WHERE WHAT IT READS IS OF BULK AT MOST 1048576: true; the input reads as it did. -/
def fnExactStackOfSumsUptoRow : OpenClaim := { program := "ytnmhbbekmepinaa", sum := "ec1f9169a440659d98a342a19be3a14b74bcf88e56cc53d0eabb5564f853e2de", func := "loop.example/residuatedtables/laws.FnExactStackOfSums", spec := "fnExactStackOfSums", unfollowed := true, recurses := true, apart := false, narrowed := true }
def FnExactStackOfSumsUptoSaid : Prop := fnExactStackOfSumsUptoRow.holds Try.pinned (OpenSpec.upto fnExactStackOfSumsSpec)

/-- 'laws.FnExactSizesOf', WHERE WHAT IT READS IS OF BULK AT MOST 1048576: true; the input reads as it did. -/
def fnExactSizesOfUptoRow : OpenClaim := { program := "ytnmhbbekmepinaa", sum := "ec1f9169a440659d98a342a19be3a14b74bcf88e56cc53d0eabb5564f853e2de", func := "loop.example/residuatedtables/laws.FnExactSizesOf", spec := "fnExactSizesOf", unfollowed := true, recurses := true, apart := false, narrowed := true }
def FnExactSizesOfUptoSaid : Prop := fnExactSizesOfUptoRow.holds Try.pinned (OpenSpec.upto fnExactSizesOfSpec)

/-- 'laws.FnStackOfSums', WHERE WHAT IT READS IS OF BULK AT MOST 1048576: true; the input reads as it did. -/
def fnStackOfSumsUptoRow : OpenClaim := { program := "ytnmhbbekmepinaa", sum := "ec1f9169a440659d98a342a19be3a14b74bcf88e56cc53d0eabb5564f853e2de", func := "loop.example/residuatedtables/laws.FnStackOfSums", spec := "fnStackOfSums", unfollowed := true, recurses := true, apart := false, narrowed := true }
def FnStackOfSumsUptoSaid : Prop := fnStackOfSumsUptoRow.holds Try.pinned (OpenSpec.upto fnStackOfSumsSpec)

/-- 'laws.FnSizesOf', WHERE WHAT IT READS IS OF BULK AT MOST 1048576: true; the input reads as it did. -/
def fnSizesOfUptoRow : OpenClaim := { program := "ytnmhbbekmepinaa", sum := "ec1f9169a440659d98a342a19be3a14b74bcf88e56cc53d0eabb5564f853e2de", func := "loop.example/residuatedtables/laws.FnSizesOf", spec := "fnSizesOf", unfollowed := true, recurses := true, apart := false, narrowed := true }
def FnSizesOfUptoSaid : Prop := fnSizesOfUptoRow.holds Try.pinned (OpenSpec.upto fnSizesOfSpec)

/-- 'laws.FnExactChainsOf', WHERE WHAT IT READS IS OF BULK AT MOST 1048576: true; the input reads as it did. -/
def fnExactChainsOfUptoRow : OpenClaim := { program := "ytnmhbbekmepinaa", sum := "ec1f9169a440659d98a342a19be3a14b74bcf88e56cc53d0eabb5564f853e2de", func := "loop.example/residuatedtables/laws.FnExactChainsOf", spec := "fnExactChainsOf", unfollowed := true, recurses := true, apart := false, narrowed := true }
def FnExactChainsOfUptoSaid : Prop := fnExactChainsOfUptoRow.holds Try.pinned (OpenSpec.upto fnExactChainsOfSpec)

/-- 'laws.FnExactChainCount', WHERE WHAT IT READS IS OF BULK AT MOST 1048576: true; the input reads as it did. -/
def fnExactChainCountUptoRow : OpenClaim := { program := "ytnmhbbekmepinaa", sum := "ec1f9169a440659d98a342a19be3a14b74bcf88e56cc53d0eabb5564f853e2de", func := "loop.example/residuatedtables/laws.FnExactChainCount", spec := "fnExactChainCount", unfollowed := true, recurses := true, apart := false, narrowed := true }
def FnExactChainCountUptoSaid : Prop := fnExactChainCountUptoRow.holds Try.pinned (OpenSpec.upto fnExactChainCountSpec)

/-- 'laws.FnChainCount', WHERE WHAT IT READS IS OF BULK AT MOST 1048576: true; the input reads as it did. -/
def fnChainCountUptoRow : OpenClaim := { program := "ytnmhbbekmepinaa", sum := "ec1f9169a440659d98a342a19be3a14b74bcf88e56cc53d0eabb5564f853e2de", func := "loop.example/residuatedtables/laws.FnChainCount", spec := "fnChainCount", unfollowed := true, recurses := true, apart := false, narrowed := true }
def FnChainCountUptoSaid : Prop := fnChainCountUptoRow.holds Try.pinned (OpenSpec.upto fnChainCountSpec)

/-- 'laws.FnChainsOf', WHERE WHAT IT READS IS OF BULK AT MOST 1048576: true; the input reads as it did. -/
def fnChainsOfUptoRow : OpenClaim := { program := "ytnmhbbekmepinaa", sum := "ec1f9169a440659d98a342a19be3a14b74bcf88e56cc53d0eabb5564f853e2de", func := "loop.example/residuatedtables/laws.FnChainsOf", spec := "fnChainsOf", unfollowed := true, recurses := true, apart := false, narrowed := true }
def FnChainsOfUptoSaid : Prop := fnChainsOfUptoRow.holds Try.pinned (OpenSpec.upto fnChainsOfSpec)

/-- 'laws.FnCrossAlgebras', WHERE WHAT IT READS IS OF BULK AT MOST 1048576: true; the input reads as it did. -/
def fnCrossAlgebrasUptoRow : OpenClaim := { program := "ytnmhbbekmepinaa", sum := "ec1f9169a440659d98a342a19be3a14b74bcf88e56cc53d0eabb5564f853e2de", func := "loop.example/residuatedtables/laws.FnCrossAlgebras", spec := "fnCrossAlgebras", unfollowed := true, recurses := true, apart := false, narrowed := true }
def FnCrossAlgebrasUptoSaid : Prop := fnCrossAlgebrasUptoRow.holds Try.pinned (OpenSpec.upto fnCrossAlgebrasSpec)

end Rows
end Go.Proofs.Ytnmhbbekmepinaa
