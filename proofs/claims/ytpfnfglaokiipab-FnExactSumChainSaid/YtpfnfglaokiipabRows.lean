/-
  No cell of these rows narrows 'for every input' (looked for: loops, veiled, ifaces, maps, wideKeys, modest, calm, conditions, laid).
  DERIVED. THE GIVEN ROWS OF THIS SEAT. 12 by the template 'for every input the law returns true; each argument reads behind the call as it read before'; 0 by the template 'total and deterministic' (their statements: YtpfnfglaokiipabTotals.lean).
  GIVEN WITH THE SEED: the statements are not yours to turn. If you find one false, say at which input.
  Laid BY PROGRAM, IN A SANDBOX (cutbox-rows.mjs): the forced cells as the released guide's own fill.sh prints them over the translation 459a6bf8027f89bb… (all of the seat's roots in one cut). By AI agents, Wed Nov 11 2026. No macro, syntax, notation, axiom, sorry.
-/
import Derived.Test.YtpfnfglaokiipabChecked
import GoSem.Claim
import GoSem.ClaimJoined
import GoSem.ClaimMapViews
import Derived.JoinedTies
import Derived.KernelRfl
namespace Go.Proofs.Ytpfnfglaokiipab
/- THE CELL 'sum', in the pinned program and in every row, IS THE sha256 OF THE DUMP (.gsa) THAT YtpfnfglaokiipabProg.lean LOADS. Nothing in Lean hashes anything: it is a label: what it is worth is what the hold of that sum in a sandbox is worth. -/
noncomputable def Try.pinned : Pinned := { name := "ytpfnfglaokiipab", sum := "459a6bf8027f89bb4b5d845d403345038cacd850f4edf790dada5d2e325a7ae0", checked := Try.checked }
namespace Rows
def none {H : Type} : Left H := { results := [], args := [] }

/-- 'laws.FnExactValidAlgebra': WHATEVER THE INPUT: true; the input reads as it did. -/
def fnExactValidAlgebraSpec : ChangeSpec := { name := "fnExactValidAlgebra", fn := fun _ => fun
  | [d] => { results := [.lit (.bool true)], args := [d] }
  | _ => none }
def fnExactValidAlgebraRow : OpenClaim := { program := "ytpfnfglaokiipab", sum := "459a6bf8027f89bb4b5d845d403345038cacd850f4edf790dada5d2e325a7ae0", func := "loop.example/residuatedtables/laws.FnExactValidAlgebra", spec := "fnExactValidAlgebra", unfollowed := true, recurses := true, apart := false }
def FnExactValidAlgebraSaid : Prop := fnExactValidAlgebraRow.holds Try.pinned (OpenSpec.ofChange fnExactValidAlgebraSpec)

/-- ITS FALSE NEIGHBOUR: 'it returns false'. Refute it at one input. -/
def fnExactValidAlgebraWrong : ChangeSpec := { name := "fnExactValidAlgebra", fn := fun _ => fun
  | [d] => { results := [.lit (.bool false)], args := [d] }
  | _ => none }
def FnExactValidAlgebraWrongFalsely : Prop := fnExactValidAlgebraRow.holds Try.pinned (OpenSpec.ofChange fnExactValidAlgebraWrong)

/-- 'laws.FnExactImplyOf': WHATEVER THE INPUT: true; the input reads as it did. -/
def fnExactImplyOfSpec : ChangeSpec := { name := "fnExactImplyOf", fn := fun _ => fun
  | [d1, d2, d3] => { results := [.lit (.bool true)], args := [d1, d2, d3] }
  | _ => none }
def fnExactImplyOfRow : OpenClaim := { program := "ytpfnfglaokiipab", sum := "459a6bf8027f89bb4b5d845d403345038cacd850f4edf790dada5d2e325a7ae0", func := "loop.example/residuatedtables/laws.FnExactImplyOf", spec := "fnExactImplyOf", unfollowed := true, recurses := true, apart := false }
def FnExactImplyOfSaid : Prop := fnExactImplyOfRow.holds Try.pinned (OpenSpec.ofChange fnExactImplyOfSpec)

/-- ITS FALSE NEIGHBOUR: 'it returns false'. Refute it at one input. -/
def fnExactImplyOfWrong : ChangeSpec := { name := "fnExactImplyOf", fn := fun _ => fun
  | [d1, d2, d3] => { results := [.lit (.bool false)], args := [d1, d2, d3] }
  | _ => none }
def FnExactImplyOfWrongFalsely : Prop := fnExactImplyOfRow.holds Try.pinned (OpenSpec.ofChange fnExactImplyOfWrong)

/-- 'laws.FnExactNotOf': WHATEVER THE INPUT: true; the input reads as it did. -/
def fnExactNotOfSpec : ChangeSpec := { name := "fnExactNotOf", fn := fun _ => fun
  | [d1, d2] => { results := [.lit (.bool true)], args := [d1, d2] }
  | _ => none }
def fnExactNotOfRow : OpenClaim := { program := "ytpfnfglaokiipab", sum := "459a6bf8027f89bb4b5d845d403345038cacd850f4edf790dada5d2e325a7ae0", func := "loop.example/residuatedtables/laws.FnExactNotOf", spec := "fnExactNotOf", unfollowed := true, recurses := true, apart := false }
def FnExactNotOfSaid : Prop := fnExactNotOfRow.holds Try.pinned (OpenSpec.ofChange fnExactNotOfSpec)

/-- ITS FALSE NEIGHBOUR: 'it returns false'. Refute it at one input. -/
def fnExactNotOfWrong : ChangeSpec := { name := "fnExactNotOf", fn := fun _ => fun
  | [d1, d2] => { results := [.lit (.bool false)], args := [d1, d2] }
  | _ => none }
def FnExactNotOfWrongFalsely : Prop := fnExactNotOfRow.holds Try.pinned (OpenSpec.ofChange fnExactNotOfWrong)

/-- 'laws.FnExactNearOf': WHATEVER THE INPUT: true; the input reads as it did. -/
def fnExactNearOfSpec : ChangeSpec := { name := "fnExactNearOf", fn := fun _ => fun
  | [d1, d2, d3] => { results := [.lit (.bool true)], args := [d1, d2, d3] }
  | _ => none }
def fnExactNearOfRow : OpenClaim := { program := "ytpfnfglaokiipab", sum := "459a6bf8027f89bb4b5d845d403345038cacd850f4edf790dada5d2e325a7ae0", func := "loop.example/residuatedtables/laws.FnExactNearOf", spec := "fnExactNearOf", unfollowed := true, recurses := true, apart := false }
def FnExactNearOfSaid : Prop := fnExactNearOfRow.holds Try.pinned (OpenSpec.ofChange fnExactNearOfSpec)

/-- ITS FALSE NEIGHBOUR: 'it returns false'. Refute it at one input. -/
def fnExactNearOfWrong : ChangeSpec := { name := "fnExactNearOf", fn := fun _ => fun
  | [d1, d2, d3] => { results := [.lit (.bool false)], args := [d1, d2, d3] }
  | _ => none }
def FnExactNearOfWrongFalsely : Prop := fnExactNearOfRow.holds Try.pinned (OpenSpec.ofChange fnExactNearOfWrong)

/-- 'laws.FnExactPowerOf': WHATEVER THE INPUT: true; the input reads as it did. -/
def fnExactPowerOfSpec : ChangeSpec := { name := "fnExactPowerOf", fn := fun _ => fun
  | [d1, d2, d3] => { results := [.lit (.bool true)], args := [d1, d2, d3] }
  | _ => none }
def fnExactPowerOfRow : OpenClaim := { program := "ytpfnfglaokiipab", sum := "459a6bf8027f89bb4b5d845d403345038cacd850f4edf790dada5d2e325a7ae0", func := "loop.example/residuatedtables/laws.FnExactPowerOf", spec := "fnExactPowerOf", unfollowed := true, recurses := true, apart := false }
def FnExactPowerOfSaid : Prop := fnExactPowerOfRow.holds Try.pinned (OpenSpec.ofChange fnExactPowerOfSpec)

/-- ITS FALSE NEIGHBOUR: 'it returns false'. Refute it at one input. -/
def fnExactPowerOfWrong : ChangeSpec := { name := "fnExactPowerOf", fn := fun _ => fun
  | [d1, d2, d3] => { results := [.lit (.bool false)], args := [d1, d2, d3] }
  | _ => none }
def FnExactPowerOfWrongFalsely : Prop := fnExactPowerOfRow.holds Try.pinned (OpenSpec.ofChange fnExactPowerOfWrong)

/-- 'laws.FnExactDepthOf': WHATEVER THE INPUT: true; the input reads as it did. -/
def fnExactDepthOfSpec : ChangeSpec := { name := "fnExactDepthOf", fn := fun _ => fun
  | [d1, d2] => { results := [.lit (.bool true)], args := [d1, d2] }
  | _ => none }
def fnExactDepthOfRow : OpenClaim := { program := "ytpfnfglaokiipab", sum := "459a6bf8027f89bb4b5d845d403345038cacd850f4edf790dada5d2e325a7ae0", func := "loop.example/residuatedtables/laws.FnExactDepthOf", spec := "fnExactDepthOf", unfollowed := true, recurses := true, apart := false }
def FnExactDepthOfSaid : Prop := fnExactDepthOfRow.holds Try.pinned (OpenSpec.ofChange fnExactDepthOfSpec)

/-- ITS FALSE NEIGHBOUR: 'it returns false'. Refute it at one input. -/
def fnExactDepthOfWrong : ChangeSpec := { name := "fnExactDepthOf", fn := fun _ => fun
  | [d1, d2] => { results := [.lit (.bool false)], args := [d1, d2] }
  | _ => none }
def FnExactDepthOfWrongFalsely : Prop := fnExactDepthOfRow.holds Try.pinned (OpenSpec.ofChange fnExactDepthOfWrong)

/-- 'laws.FnExactHasProperty': WHATEVER THE INPUT: true; the input reads as it did. -/
def fnExactHasPropertySpec : ChangeSpec := { name := "fnExactHasProperty", fn := fun _ => fun
  | [d1, d2] => { results := [.lit (.bool true)], args := [d1, d2] }
  | _ => none }
def fnExactHasPropertyRow : OpenClaim := { program := "ytpfnfglaokiipab", sum := "459a6bf8027f89bb4b5d845d403345038cacd850f4edf790dada5d2e325a7ae0", func := "loop.example/residuatedtables/laws.FnExactHasProperty", spec := "fnExactHasProperty", unfollowed := true, recurses := true, apart := false }
def FnExactHasPropertySaid : Prop := fnExactHasPropertyRow.holds Try.pinned (OpenSpec.ofChange fnExactHasPropertySpec)

/-- ITS FALSE NEIGHBOUR: 'it returns false'. Refute it at one input. -/
def fnExactHasPropertyWrong : ChangeSpec := { name := "fnExactHasProperty", fn := fun _ => fun
  | [d1, d2] => { results := [.lit (.bool false)], args := [d1, d2] }
  | _ => none }
def FnExactHasPropertyWrongFalsely : Prop := fnExactHasPropertyRow.holds Try.pinned (OpenSpec.ofChange fnExactHasPropertyWrong)

/-- 'laws.FnExactSharpOf': WHATEVER THE INPUT: true; the input reads as it did. -/
def fnExactSharpOfSpec : ChangeSpec := { name := "fnExactSharpOf", fn := fun _ => fun
  | [d] => { results := [.lit (.bool true)], args := [d] }
  | _ => none }
def fnExactSharpOfRow : OpenClaim := { program := "ytpfnfglaokiipab", sum := "459a6bf8027f89bb4b5d845d403345038cacd850f4edf790dada5d2e325a7ae0", func := "loop.example/residuatedtables/laws.FnExactSharpOf", spec := "fnExactSharpOf", unfollowed := true, recurses := true, apart := false }
def FnExactSharpOfSaid : Prop := fnExactSharpOfRow.holds Try.pinned (OpenSpec.ofChange fnExactSharpOfSpec)

/-- ITS FALSE NEIGHBOUR: 'it returns false'. Refute it at one input. -/
def fnExactSharpOfWrong : ChangeSpec := { name := "fnExactSharpOf", fn := fun _ => fun
  | [d] => { results := [.lit (.bool false)], args := [d] }
  | _ => none }
def FnExactSharpOfWrongFalsely : Prop := fnExactSharpOfRow.holds Try.pinned (OpenSpec.ofChange fnExactSharpOfWrong)

/-- 'laws.FnExactFixedOf': WHATEVER THE INPUT: true; the input reads as it did. -/
def fnExactFixedOfSpec : ChangeSpec := { name := "fnExactFixedOf", fn := fun _ => fun
  | [d] => { results := [.lit (.bool true)], args := [d] }
  | _ => none }
def fnExactFixedOfRow : OpenClaim := { program := "ytpfnfglaokiipab", sum := "459a6bf8027f89bb4b5d845d403345038cacd850f4edf790dada5d2e325a7ae0", func := "loop.example/residuatedtables/laws.FnExactFixedOf", spec := "fnExactFixedOf", unfollowed := true, recurses := true, apart := false }
def FnExactFixedOfSaid : Prop := fnExactFixedOfRow.holds Try.pinned (OpenSpec.ofChange fnExactFixedOfSpec)

/-- ITS FALSE NEIGHBOUR: 'it returns false'. Refute it at one input. -/
def fnExactFixedOfWrong : ChangeSpec := { name := "fnExactFixedOf", fn := fun _ => fun
  | [d] => { results := [.lit (.bool false)], args := [d] }
  | _ => none }
def FnExactFixedOfWrongFalsely : Prop := fnExactFixedOfRow.holds Try.pinned (OpenSpec.ofChange fnExactFixedOfWrong)

/-- 'laws.FnExactMeetAlgebra': WHATEVER THE INPUT: true; the input reads as it did. -/
def fnExactMeetAlgebraSpec : ChangeSpec := { name := "fnExactMeetAlgebra", fn := fun _ => fun
  | [d] => { results := [.lit (.bool true)], args := [d] }
  | _ => none }
def fnExactMeetAlgebraRow : OpenClaim := { program := "ytpfnfglaokiipab", sum := "459a6bf8027f89bb4b5d845d403345038cacd850f4edf790dada5d2e325a7ae0", func := "loop.example/residuatedtables/laws.FnExactMeetAlgebra", spec := "fnExactMeetAlgebra", unfollowed := true, recurses := true, apart := false }
def FnExactMeetAlgebraSaid : Prop := fnExactMeetAlgebraRow.holds Try.pinned (OpenSpec.ofChange fnExactMeetAlgebraSpec)

/-- ITS FALSE NEIGHBOUR: 'it returns false'. Refute it at one input. -/
def fnExactMeetAlgebraWrong : ChangeSpec := { name := "fnExactMeetAlgebra", fn := fun _ => fun
  | [d] => { results := [.lit (.bool false)], args := [d] }
  | _ => none }
def FnExactMeetAlgebraWrongFalsely : Prop := fnExactMeetAlgebraRow.holds Try.pinned (OpenSpec.ofChange fnExactMeetAlgebraWrong)

/-- 'laws.FnExactSumChain': WHATEVER THE INPUT: true; the input reads as it did. -/
def fnExactSumChainSpec : ChangeSpec := { name := "fnExactSumChain", fn := fun _ => fun
  | [d] => { results := [.lit (.bool true)], args := [d] }
  | _ => none }
def fnExactSumChainRow : OpenClaim := { program := "ytpfnfglaokiipab", sum := "459a6bf8027f89bb4b5d845d403345038cacd850f4edf790dada5d2e325a7ae0", func := "loop.example/residuatedtables/laws.FnExactSumChain", spec := "fnExactSumChain", unfollowed := true, recurses := true, apart := false }
def FnExactSumChainSaid : Prop := fnExactSumChainRow.holds Try.pinned (OpenSpec.ofChange fnExactSumChainSpec)

/-- ITS FALSE NEIGHBOUR: 'it returns false'. Refute it at one input. -/
def fnExactSumChainWrong : ChangeSpec := { name := "fnExactSumChain", fn := fun _ => fun
  | [d] => { results := [.lit (.bool false)], args := [d] }
  | _ => none }
def FnExactSumChainWrongFalsely : Prop := fnExactSumChainRow.holds Try.pinned (OpenSpec.ofChange fnExactSumChainWrong)

/-- 'laws.FnExactStackAlgebras': WHATEVER THE INPUT: true; the input reads as it did. -/
def fnExactStackAlgebrasSpec : ChangeSpec := { name := "fnExactStackAlgebras", fn := fun _ => fun
  | [d1, d2] => { results := [.lit (.bool true)], args := [d1, d2] }
  | _ => none }
def fnExactStackAlgebrasRow : OpenClaim := { program := "ytpfnfglaokiipab", sum := "459a6bf8027f89bb4b5d845d403345038cacd850f4edf790dada5d2e325a7ae0", func := "loop.example/residuatedtables/laws.FnExactStackAlgebras", spec := "fnExactStackAlgebras", unfollowed := true, recurses := true, apart := false }
def FnExactStackAlgebrasSaid : Prop := fnExactStackAlgebrasRow.holds Try.pinned (OpenSpec.ofChange fnExactStackAlgebrasSpec)

/-- ITS FALSE NEIGHBOUR: 'it returns false'. Refute it at one input. -/
def fnExactStackAlgebrasWrong : ChangeSpec := { name := "fnExactStackAlgebras", fn := fun _ => fun
  | [d1, d2] => { results := [.lit (.bool false)], args := [d1, d2] }
  | _ => none }
def FnExactStackAlgebrasWrongFalsely : Prop := fnExactStackAlgebrasRow.holds Try.pinned (OpenSpec.ofChange fnExactStackAlgebrasWrong)

/- THE SECOND FORM. 'bulk': how many values and letters a reading holds, each counted each time it is reached (what is shared counts as often as it is met; a slice's spare places count too). A statement '..UptoSaid' is the law's where the arguments, and the package variables that the reading takes, are together of bulk at most 1048576: NARROWER than '..Said'. Prove '..Said' where nothing that the law and all that it calls make is longer than what came in: it says more and counts as full. Else prove '..UptoSaid'. A law counts once. -/
mutual
def uptoBulk {H : Type} : DataW H → Nat
  | .lit (.string bytes) => bytes.length + 1
  | .lit _ => 1
  | .nil => 1
  | .ptr d => uptoBulk d + 1
  | .slice elems spare => uptoBulkAll elems + uptoBulkAll spare + 1
  | .agg parts => uptoBulkAll parts + 1
  | .iface _ d => uptoBulk d + 1
  | .map entries => uptoBulkEntries entries + 1
  | .held _ => 1
def uptoBulkAll {H : Type} : List (DataW H) → Nat
  | [] => 0
  | d :: r => uptoBulk d + uptoBulkAll r
def uptoBulkEntries {H : Type} : List (Lit × DataW H) → Nat
  | [] => 0
  | x :: r => uptoBulkEntry x + uptoBulkEntries r
def uptoBulkEntry {H : Type} : Lit × DataW H → Nat
  | (.string bytes, d) => bytes.length + uptoBulk d + 1
  | (_, d) => uptoBulk d + 1
 end
def uptoSmall : (H : Type) → List (DataW H) → Bool := fun _ ds => decide (uptoBulkAll ds ≤ 1048576)
def OpenSpec.upto (s : _root_.Go.ChangeSpec) : _root_.Go.OpenSpec := { _root_.Go.OpenSpec.ofChange s with cond := some uptoSmall }

/-- 'laws.FnExactValidAlgebra', WHERE WHAT IT READS IS OF BULK AT MOST 1048576: true; the input reads as it did. -/
def fnExactValidAlgebraUptoRow : OpenClaim := { program := "ytpfnfglaokiipab", sum := "459a6bf8027f89bb4b5d845d403345038cacd850f4edf790dada5d2e325a7ae0", func := "loop.example/residuatedtables/laws.FnExactValidAlgebra", spec := "fnExactValidAlgebra", unfollowed := true, recurses := true, apart := false, narrowed := true }
def FnExactValidAlgebraUptoSaid : Prop := fnExactValidAlgebraUptoRow.holds Try.pinned (OpenSpec.upto fnExactValidAlgebraSpec)

/-- 'laws.FnExactImplyOf', WHERE WHAT IT READS IS OF BULK AT MOST 1048576: true; the input reads as it did. -/
def fnExactImplyOfUptoRow : OpenClaim := { program := "ytpfnfglaokiipab", sum := "459a6bf8027f89bb4b5d845d403345038cacd850f4edf790dada5d2e325a7ae0", func := "loop.example/residuatedtables/laws.FnExactImplyOf", spec := "fnExactImplyOf", unfollowed := true, recurses := true, apart := false, narrowed := true }
def FnExactImplyOfUptoSaid : Prop := fnExactImplyOfUptoRow.holds Try.pinned (OpenSpec.upto fnExactImplyOfSpec)

/-- 'laws.FnExactNotOf', WHERE WHAT IT READS IS OF BULK AT MOST 1048576: true; the input reads as it did. -/
def fnExactNotOfUptoRow : OpenClaim := { program := "ytpfnfglaokiipab", sum := "459a6bf8027f89bb4b5d845d403345038cacd850f4edf790dada5d2e325a7ae0", func := "loop.example/residuatedtables/laws.FnExactNotOf", spec := "fnExactNotOf", unfollowed := true, recurses := true, apart := false, narrowed := true }
def FnExactNotOfUptoSaid : Prop := fnExactNotOfUptoRow.holds Try.pinned (OpenSpec.upto fnExactNotOfSpec)

/-- 'laws.FnExactNearOf', WHERE WHAT IT READS IS OF BULK AT MOST 1048576: true; the input reads as it did. -/
def fnExactNearOfUptoRow : OpenClaim := { program := "ytpfnfglaokiipab", sum := "459a6bf8027f89bb4b5d845d403345038cacd850f4edf790dada5d2e325a7ae0", func := "loop.example/residuatedtables/laws.FnExactNearOf", spec := "fnExactNearOf", unfollowed := true, recurses := true, apart := false, narrowed := true }
def FnExactNearOfUptoSaid : Prop := fnExactNearOfUptoRow.holds Try.pinned (OpenSpec.upto fnExactNearOfSpec)

/-- 'laws.FnExactPowerOf', WHERE WHAT IT READS IS OF BULK AT MOST 1048576: true; the input reads as it did. -/
def fnExactPowerOfUptoRow : OpenClaim := { program := "ytpfnfglaokiipab", sum := "459a6bf8027f89bb4b5d845d403345038cacd850f4edf790dada5d2e325a7ae0", func := "loop.example/residuatedtables/laws.FnExactPowerOf", spec := "fnExactPowerOf", unfollowed := true, recurses := true, apart := false, narrowed := true }
def FnExactPowerOfUptoSaid : Prop := fnExactPowerOfUptoRow.holds Try.pinned (OpenSpec.upto fnExactPowerOfSpec)

/-- 'laws.FnExactDepthOf', WHERE WHAT IT READS IS OF BULK AT MOST 1048576: true; the input reads as it did. -/
def fnExactDepthOfUptoRow : OpenClaim := { program := "ytpfnfglaokiipab", sum := "459a6bf8027f89bb4b5d845d403345038cacd850f4edf790dada5d2e325a7ae0", func := "loop.example/residuatedtables/laws.FnExactDepthOf", spec := "fnExactDepthOf", unfollowed := true, recurses := true, apart := false, narrowed := true }
def FnExactDepthOfUptoSaid : Prop := fnExactDepthOfUptoRow.holds Try.pinned (OpenSpec.upto fnExactDepthOfSpec)

/-- 'laws.FnExactHasProperty', WHERE WHAT IT READS IS OF BULK AT MOST 1048576: true; the input reads as it did. -/
def fnExactHasPropertyUptoRow : OpenClaim := { program := "ytpfnfglaokiipab", sum := "459a6bf8027f89bb4b5d845d403345038cacd850f4edf790dada5d2e325a7ae0", func := "loop.example/residuatedtables/laws.FnExactHasProperty", spec := "fnExactHasProperty", unfollowed := true, recurses := true, apart := false, narrowed := true }
def FnExactHasPropertyUptoSaid : Prop := fnExactHasPropertyUptoRow.holds Try.pinned (OpenSpec.upto fnExactHasPropertySpec)

/-- 'laws.FnExactSharpOf', WHERE WHAT IT READS IS OF BULK AT MOST 1048576: true; the input reads as it did. -/
def fnExactSharpOfUptoRow : OpenClaim := { program := "ytpfnfglaokiipab", sum := "459a6bf8027f89bb4b5d845d403345038cacd850f4edf790dada5d2e325a7ae0", func := "loop.example/residuatedtables/laws.FnExactSharpOf", spec := "fnExactSharpOf", unfollowed := true, recurses := true, apart := false, narrowed := true }
def FnExactSharpOfUptoSaid : Prop := fnExactSharpOfUptoRow.holds Try.pinned (OpenSpec.upto fnExactSharpOfSpec)

/-- 'laws.FnExactFixedOf', WHERE WHAT IT READS IS OF BULK AT MOST 1048576: true; the input reads as it did. -/
def fnExactFixedOfUptoRow : OpenClaim := { program := "ytpfnfglaokiipab", sum := "459a6bf8027f89bb4b5d845d403345038cacd850f4edf790dada5d2e325a7ae0", func := "loop.example/residuatedtables/laws.FnExactFixedOf", spec := "fnExactFixedOf", unfollowed := true, recurses := true, apart := false, narrowed := true }
def FnExactFixedOfUptoSaid : Prop := fnExactFixedOfUptoRow.holds Try.pinned (OpenSpec.upto fnExactFixedOfSpec)

/-- 'laws.FnExactMeetAlgebra', WHERE WHAT IT READS IS OF BULK AT MOST 1048576: true; the input reads as it did. -/
def fnExactMeetAlgebraUptoRow : OpenClaim := { program := "ytpfnfglaokiipab", sum := "459a6bf8027f89bb4b5d845d403345038cacd850f4edf790dada5d2e325a7ae0", func := "loop.example/residuatedtables/laws.FnExactMeetAlgebra", spec := "fnExactMeetAlgebra", unfollowed := true, recurses := true, apart := false, narrowed := true }
def FnExactMeetAlgebraUptoSaid : Prop := fnExactMeetAlgebraUptoRow.holds Try.pinned (OpenSpec.upto fnExactMeetAlgebraSpec)

/-- 'laws.FnExactSumChain', WHERE WHAT IT READS IS OF BULK AT MOST 1048576: true; the input reads as it did. -/
def fnExactSumChainUptoRow : OpenClaim := { program := "ytpfnfglaokiipab", sum := "459a6bf8027f89bb4b5d845d403345038cacd850f4edf790dada5d2e325a7ae0", func := "loop.example/residuatedtables/laws.FnExactSumChain", spec := "fnExactSumChain", unfollowed := true, recurses := true, apart := false, narrowed := true }
def FnExactSumChainUptoSaid : Prop := fnExactSumChainUptoRow.holds Try.pinned (OpenSpec.upto fnExactSumChainSpec)

/-- 'laws.FnExactStackAlgebras', WHERE WHAT IT READS IS OF BULK AT MOST 1048576: true; the input reads as it did. -/
def fnExactStackAlgebrasUptoRow : OpenClaim := { program := "ytpfnfglaokiipab", sum := "459a6bf8027f89bb4b5d845d403345038cacd850f4edf790dada5d2e325a7ae0", func := "loop.example/residuatedtables/laws.FnExactStackAlgebras", spec := "fnExactStackAlgebras", unfollowed := true, recurses := true, apart := false, narrowed := true }
def FnExactStackAlgebrasUptoSaid : Prop := fnExactStackAlgebrasUptoRow.holds Try.pinned (OpenSpec.upto fnExactStackAlgebrasSpec)

end Rows
end Go.Proofs.Ytpfnfglaokiipab
