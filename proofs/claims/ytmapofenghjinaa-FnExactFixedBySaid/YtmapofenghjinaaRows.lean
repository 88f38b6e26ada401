/-
  No cell of these rows narrows 'for every input' (looked for: loops, veiled, ifaces, maps, wideKeys, modest, calm, conditions, laid).
  DERIVED. THE GIVEN ROWS OF THIS SEAT. 12 by the template 'for every input the law returns true; each argument reads behind the call as it read before'; 0 by the template 'total and deterministic' (their statements: YtmapofenghjinaaTotals.lean).
  GIVEN WITH THE SEED: the statements are not yours to turn. If you find one false, say at which input.
  Laid BY PROGRAM, IN A SANDBOX (cutbox-rows.mjs): the forced cells as the released guide's own fill.sh prints them over the translation 4ad9b4660ac34549… (all of the seat's roots in one cut). By AI agents, Wed Nov 11 2026. No macro, syntax, notation, axiom, sorry.
-/
import Derived.Test.YtmapofenghjinaaChecked
import GoSem.Claim
import GoSem.ClaimJoined
import GoSem.ClaimMapViews
import Derived.JoinedTies
import Derived.KernelRfl
namespace Go.Proofs.Ytmapofenghjinaa
/- THE CELL 'sum', in the pinned program and in every row, IS THE sha256 OF THE DUMP (.gsa) THAT YtmapofenghjinaaProg.lean LOADS. Nothing in Lean hashes anything: it is a label: what it is worth is what the hold of that sum in a sandbox is worth. -/
noncomputable def Try.pinned : Pinned := { name := "ytmapofenghjinaa", sum := "4ad9b4660ac34549d0a47ce2a3f6468c2315665678a40255a856fa3d1286c0ae", checked := Try.checked }
namespace Rows
def none {H : Type} : Left H := { results := [], args := [] }

/-- 'laws.FnExactHasProperty': WHATEVER THE INPUT: true; the input reads as it did. -/
def fnExactHasPropertySpec : ChangeSpec := { name := "fnExactHasProperty", fn := fun _ => fun
  | [d1, d2] => { results := [.lit (.bool true)], args := [d1, d2] }
  | _ => none }
def fnExactHasPropertyRow : OpenClaim := { program := "ytmapofenghjinaa", sum := "4ad9b4660ac34549d0a47ce2a3f6468c2315665678a40255a856fa3d1286c0ae", func := "loop.example/residuatedtables/laws.FnExactHasProperty", spec := "fnExactHasProperty", unfollowed := true, recurses := true, apart := false }
def FnExactHasPropertySaid : Prop := fnExactHasPropertyRow.holds Try.pinned (OpenSpec.ofChange fnExactHasPropertySpec)

/-- ITS FALSE NEIGHBOUR: 'it returns false'. Refute it at one input. -/
def fnExactHasPropertyWrong : ChangeSpec := { name := "fnExactHasProperty", fn := fun _ => fun
  | [d1, d2] => { results := [.lit (.bool false)], args := [d1, d2] }
  | _ => none }
def FnExactHasPropertyWrongFalsely : Prop := fnExactHasPropertyRow.holds Try.pinned (OpenSpec.ofChange fnExactHasPropertyWrong)

/-- 'laws.FnExactMeetAlgebra': WHATEVER THE INPUT: true; the input reads as it did. -/
def fnExactMeetAlgebraSpec : ChangeSpec := { name := "fnExactMeetAlgebra", fn := fun _ => fun
  | [d] => { results := [.lit (.bool true)], args := [d] }
  | _ => none }
def fnExactMeetAlgebraRow : OpenClaim := { program := "ytmapofenghjinaa", sum := "4ad9b4660ac34549d0a47ce2a3f6468c2315665678a40255a856fa3d1286c0ae", func := "loop.example/residuatedtables/laws.FnExactMeetAlgebra", spec := "fnExactMeetAlgebra", unfollowed := true, recurses := true, apart := false }
def FnExactMeetAlgebraSaid : Prop := fnExactMeetAlgebraRow.holds Try.pinned (OpenSpec.ofChange fnExactMeetAlgebraSpec)

/-- ITS FALSE NEIGHBOUR: 'it returns false'. Refute it at one input. -/
def fnExactMeetAlgebraWrong : ChangeSpec := { name := "fnExactMeetAlgebra", fn := fun _ => fun
  | [d] => { results := [.lit (.bool false)], args := [d] }
  | _ => none }
def FnExactMeetAlgebraWrongFalsely : Prop := fnExactMeetAlgebraRow.holds Try.pinned (OpenSpec.ofChange fnExactMeetAlgebraWrong)

/-- 'laws.FnExactStackAlgebras': WHATEVER THE INPUT: true; the input reads as it did. -/
def fnExactStackAlgebrasSpec : ChangeSpec := { name := "fnExactStackAlgebras", fn := fun _ => fun
  | [d1, d2] => { results := [.lit (.bool true)], args := [d1, d2] }
  | _ => none }
def fnExactStackAlgebrasRow : OpenClaim := { program := "ytmapofenghjinaa", sum := "4ad9b4660ac34549d0a47ce2a3f6468c2315665678a40255a856fa3d1286c0ae", func := "loop.example/residuatedtables/laws.FnExactStackAlgebras", spec := "fnExactStackAlgebras", unfollowed := true, recurses := true, apart := false }
def FnExactStackAlgebrasSaid : Prop := fnExactStackAlgebrasRow.holds Try.pinned (OpenSpec.ofChange fnExactStackAlgebrasSpec)

/-- ITS FALSE NEIGHBOUR: 'it returns false'. Refute it at one input. -/
def fnExactStackAlgebrasWrong : ChangeSpec := { name := "fnExactStackAlgebras", fn := fun _ => fun
  | [d1, d2] => { results := [.lit (.bool false)], args := [d1, d2] }
  | _ => none }
def FnExactStackAlgebrasWrongFalsely : Prop := fnExactStackAlgebrasRow.holds Try.pinned (OpenSpec.ofChange fnExactStackAlgebrasWrong)

/-- 'laws.FnExactCrossAlgebras': WHATEVER THE INPUT: true; the input reads as it did. -/
def fnExactCrossAlgebrasSpec : ChangeSpec := { name := "fnExactCrossAlgebras", fn := fun _ => fun
  | [d1, d2] => { results := [.lit (.bool true)], args := [d1, d2] }
  | _ => none }
def fnExactCrossAlgebrasRow : OpenClaim := { program := "ytmapofenghjinaa", sum := "4ad9b4660ac34549d0a47ce2a3f6468c2315665678a40255a856fa3d1286c0ae", func := "loop.example/residuatedtables/laws.FnExactCrossAlgebras", spec := "fnExactCrossAlgebras", unfollowed := true, recurses := true, apart := false }
def FnExactCrossAlgebrasSaid : Prop := fnExactCrossAlgebrasRow.holds Try.pinned (OpenSpec.ofChange fnExactCrossAlgebrasSpec)

/-- ITS FALSE NEIGHBOUR: 'it returns false'. Refute it at one input. -/
def fnExactCrossAlgebrasWrong : ChangeSpec := { name := "fnExactCrossAlgebras", fn := fun _ => fun
  | [d1, d2] => { results := [.lit (.bool false)], args := [d1, d2] }
  | _ => none }
def FnExactCrossAlgebrasWrongFalsely : Prop := fnExactCrossAlgebrasRow.holds Try.pinned (OpenSpec.ofChange fnExactCrossAlgebrasWrong)

/-- 'laws.FnExactQuotientOf': WHATEVER THE INPUT: true; the input reads as it did. -/
def fnExactQuotientOfSpec : ChangeSpec := { name := "fnExactQuotientOf", fn := fun _ => fun
  | [d1, d2] => { results := [.lit (.bool true)], args := [d1, d2] }
  | _ => none }
def fnExactQuotientOfRow : OpenClaim := { program := "ytmapofenghjinaa", sum := "4ad9b4660ac34549d0a47ce2a3f6468c2315665678a40255a856fa3d1286c0ae", func := "loop.example/residuatedtables/laws.FnExactQuotientOf", spec := "fnExactQuotientOf", unfollowed := true, recurses := true, apart := false }
def FnExactQuotientOfSaid : Prop := fnExactQuotientOfRow.holds Try.pinned (OpenSpec.ofChange fnExactQuotientOfSpec)

/-- ITS FALSE NEIGHBOUR: 'it returns false'. Refute it at one input. -/
def fnExactQuotientOfWrong : ChangeSpec := { name := "fnExactQuotientOf", fn := fun _ => fun
  | [d1, d2] => { results := [.lit (.bool false)], args := [d1, d2] }
  | _ => none }
def FnExactQuotientOfWrongFalsely : Prop := fnExactQuotientOfRow.holds Try.pinned (OpenSpec.ofChange fnExactQuotientOfWrong)

/-- 'laws.FnExactIsMap': WHATEVER THE INPUT: true; the input reads as it did. -/
def fnExactIsMapSpec : ChangeSpec := { name := "fnExactIsMap", fn := fun _ => fun
  | [d1, d2, d3] => { results := [.lit (.bool true)], args := [d1, d2, d3] }
  | _ => none }
def fnExactIsMapRow : OpenClaim := { program := "ytmapofenghjinaa", sum := "4ad9b4660ac34549d0a47ce2a3f6468c2315665678a40255a856fa3d1286c0ae", func := "loop.example/residuatedtables/laws.FnExactIsMap", spec := "fnExactIsMap", unfollowed := true, recurses := true, apart := false }
def FnExactIsMapSaid : Prop := fnExactIsMapRow.holds Try.pinned (OpenSpec.ofChange fnExactIsMapSpec)

/-- ITS FALSE NEIGHBOUR: 'it returns false'. Refute it at one input. -/
def fnExactIsMapWrong : ChangeSpec := { name := "fnExactIsMap", fn := fun _ => fun
  | [d1, d2, d3] => { results := [.lit (.bool false)], args := [d1, d2, d3] }
  | _ => none }
def FnExactIsMapWrongFalsely : Prop := fnExactIsMapRow.holds Try.pinned (OpenSpec.ofChange fnExactIsMapWrong)

/-- 'laws.FnExactKernelOf': WHATEVER THE INPUT: true; the input reads as it did. -/
def fnExactKernelOfSpec : ChangeSpec := { name := "fnExactKernelOf", fn := fun _ => fun
  | [d1, d2, d3] => { results := [.lit (.bool true)], args := [d1, d2, d3] }
  | _ => none }
def fnExactKernelOfRow : OpenClaim := { program := "ytmapofenghjinaa", sum := "4ad9b4660ac34549d0a47ce2a3f6468c2315665678a40255a856fa3d1286c0ae", func := "loop.example/residuatedtables/laws.FnExactKernelOf", spec := "fnExactKernelOf", unfollowed := true, recurses := true, apart := false }
def FnExactKernelOfSaid : Prop := fnExactKernelOfRow.holds Try.pinned (OpenSpec.ofChange fnExactKernelOfSpec)

/-- ITS FALSE NEIGHBOUR: 'it returns false'. Refute it at one input. -/
def fnExactKernelOfWrong : ChangeSpec := { name := "fnExactKernelOf", fn := fun _ => fun
  | [d1, d2, d3] => { results := [.lit (.bool false)], args := [d1, d2, d3] }
  | _ => none }
def FnExactKernelOfWrongFalsely : Prop := fnExactKernelOfRow.holds Try.pinned (OpenSpec.ofChange fnExactKernelOfWrong)

/-- 'laws.FnExactImageOf': WHATEVER THE INPUT: true; the input reads as it did. -/
def fnExactImageOfSpec : ChangeSpec := { name := "fnExactImageOf", fn := fun _ => fun
  | [d1, d2, d3] => { results := [.lit (.bool true)], args := [d1, d2, d3] }
  | _ => none }
def fnExactImageOfRow : OpenClaim := { program := "ytmapofenghjinaa", sum := "4ad9b4660ac34549d0a47ce2a3f6468c2315665678a40255a856fa3d1286c0ae", func := "loop.example/residuatedtables/laws.FnExactImageOf", spec := "fnExactImageOf", unfollowed := true, recurses := true, apart := false }
def FnExactImageOfSaid : Prop := fnExactImageOfRow.holds Try.pinned (OpenSpec.ofChange fnExactImageOfSpec)

/-- ITS FALSE NEIGHBOUR: 'it returns false'. Refute it at one input. -/
def fnExactImageOfWrong : ChangeSpec := { name := "fnExactImageOf", fn := fun _ => fun
  | [d1, d2, d3] => { results := [.lit (.bool false)], args := [d1, d2, d3] }
  | _ => none }
def FnExactImageOfWrongFalsely : Prop := fnExactImageOfRow.holds Try.pinned (OpenSpec.ofChange fnExactImageOfWrong)

/-- 'laws.FnExactPartsOf': WHATEVER THE INPUT: true; the input reads as it did. -/
def fnExactPartsOfSpec : ChangeSpec := { name := "fnExactPartsOf", fn := fun _ => fun
  | [d] => { results := [.lit (.bool true)], args := [d] }
  | _ => none }
def fnExactPartsOfRow : OpenClaim := { program := "ytmapofenghjinaa", sum := "4ad9b4660ac34549d0a47ce2a3f6468c2315665678a40255a856fa3d1286c0ae", func := "loop.example/residuatedtables/laws.FnExactPartsOf", spec := "fnExactPartsOf", unfollowed := true, recurses := true, apart := false }
def FnExactPartsOfSaid : Prop := fnExactPartsOfRow.holds Try.pinned (OpenSpec.ofChange fnExactPartsOfSpec)

/-- ITS FALSE NEIGHBOUR: 'it returns false'. Refute it at one input. -/
def fnExactPartsOfWrong : ChangeSpec := { name := "fnExactPartsOf", fn := fun _ => fun
  | [d] => { results := [.lit (.bool false)], args := [d] }
  | _ => none }
def FnExactPartsOfWrongFalsely : Prop := fnExactPartsOfRow.holds Try.pinned (OpenSpec.ofChange fnExactPartsOfWrong)

/-- 'laws.FnExactIsNucleus': WHATEVER THE INPUT: true; the input reads as it did. -/
def fnExactIsNucleusSpec : ChangeSpec := { name := "fnExactIsNucleus", fn := fun _ => fun
  | [d1, d2] => { results := [.lit (.bool true)], args := [d1, d2] }
  | _ => none }
def fnExactIsNucleusRow : OpenClaim := { program := "ytmapofenghjinaa", sum := "4ad9b4660ac34549d0a47ce2a3f6468c2315665678a40255a856fa3d1286c0ae", func := "loop.example/residuatedtables/laws.FnExactIsNucleus", spec := "fnExactIsNucleus", unfollowed := true, recurses := true, apart := false }
def FnExactIsNucleusSaid : Prop := fnExactIsNucleusRow.holds Try.pinned (OpenSpec.ofChange fnExactIsNucleusSpec)

/-- ITS FALSE NEIGHBOUR: 'it returns false'. Refute it at one input. -/
def fnExactIsNucleusWrong : ChangeSpec := { name := "fnExactIsNucleus", fn := fun _ => fun
  | [d1, d2] => { results := [.lit (.bool false)], args := [d1, d2] }
  | _ => none }
def FnExactIsNucleusWrongFalsely : Prop := fnExactIsNucleusRow.holds Try.pinned (OpenSpec.ofChange fnExactIsNucleusWrong)

/-- 'laws.FnExactTwiceNot': WHATEVER THE INPUT: true; the input reads as it did. -/
def fnExactTwiceNotSpec : ChangeSpec := { name := "fnExactTwiceNot", fn := fun _ => fun
  | [d] => { results := [.lit (.bool true)], args := [d] }
  | _ => none }
def fnExactTwiceNotRow : OpenClaim := { program := "ytmapofenghjinaa", sum := "4ad9b4660ac34549d0a47ce2a3f6468c2315665678a40255a856fa3d1286c0ae", func := "loop.example/residuatedtables/laws.FnExactTwiceNot", spec := "fnExactTwiceNot", unfollowed := true, recurses := true, apart := false }
def FnExactTwiceNotSaid : Prop := fnExactTwiceNotRow.holds Try.pinned (OpenSpec.ofChange fnExactTwiceNotSpec)

/-- ITS FALSE NEIGHBOUR: 'it returns false'. Refute it at one input. -/
def fnExactTwiceNotWrong : ChangeSpec := { name := "fnExactTwiceNot", fn := fun _ => fun
  | [d] => { results := [.lit (.bool false)], args := [d] }
  | _ => none }
def FnExactTwiceNotWrongFalsely : Prop := fnExactTwiceNotRow.holds Try.pinned (OpenSpec.ofChange fnExactTwiceNotWrong)

/-- 'laws.FnExactFixedBy': WHATEVER THE INPUT: true; the input reads as it did. -/
def fnExactFixedBySpec : ChangeSpec := { name := "fnExactFixedBy", fn := fun _ => fun
  | [d1, d2] => { results := [.lit (.bool true)], args := [d1, d2] }
  | _ => none }
def fnExactFixedByRow : OpenClaim := { program := "ytmapofenghjinaa", sum := "4ad9b4660ac34549d0a47ce2a3f6468c2315665678a40255a856fa3d1286c0ae", func := "loop.example/residuatedtables/laws.FnExactFixedBy", spec := "fnExactFixedBy", unfollowed := true, recurses := true, apart := false }
def FnExactFixedBySaid : Prop := fnExactFixedByRow.holds Try.pinned (OpenSpec.ofChange fnExactFixedBySpec)

/-- ITS FALSE NEIGHBOUR: 'it returns false'. Refute it at one input. -/
def fnExactFixedByWrong : ChangeSpec := { name := "fnExactFixedBy", fn := fun _ => fun
  | [d1, d2] => { results := [.lit (.bool false)], args := [d1, d2] }
  | _ => none }
def FnExactFixedByWrongFalsely : Prop := fnExactFixedByRow.holds Try.pinned (OpenSpec.ofChange fnExactFixedByWrong)

/- THE SECOND FORM. 'bulk': how many values and letters a reading holds, each counted each time it is reached (what is shared counts as often as it is met; a slice's spare places count too). A statement '..UptoSaid' is the law's where the arguments, and the package variables that the reading takes, are together of bulk at most 1048576: NARROWER than '..Said'. Prove '..Said' where nothing that the law and all that it calls make is longer than what came in: it says more and counts as full. Else prove '..UptoSaid'. A law counts once. -/
mutual
def uptoBulk {H : Type} : DataW H → Nat
  | .lit (.string bytes) => bytes.length + 1
  | .lit _ => 1
  | .nil => 1
  | .ptr d => uptoBulk d + 1
  | .slice elems spare => uptoBulkAll elems + uptoBulkAll spare + 1
  | .agg parts => uptoBulkAll parts + 1
  | .iface _ d => uptoBulk d + 1
  | .map entries => uptoBulkEntries entries + 1
  | .held _ => 1
def uptoBulkAll {H : Type} : List (DataW H) → Nat
  | [] => 0
  | d :: r => uptoBulk d + uptoBulkAll r
def uptoBulkEntries {H : Type} : List (Lit × DataW H) → Nat
  | [] => 0
  | x :: r => uptoBulkEntry x + uptoBulkEntries r
def uptoBulkEntry {H : Type} : Lit × DataW H → Nat
  | (.string bytes, d) => bytes.length + uptoBulk d + 1
  | (_, d) => uptoBulk d + 1
 end
def uptoSmall : (H : Type) → List (DataW H) → Bool := fun _ ds => decide (uptoBulkAll ds ≤ 1048576)
def OpenSpec.upto (s : _root_.Go.ChangeSpec) : _root_.Go.OpenSpec := { _root_.Go.OpenSpec.ofChange s with cond := some uptoSmall }

/-- 'laws.FnExactHasProperty', WHERE WHAT IT READS IS OF BULK AT MOST 1048576: true; the input reads as it did. -/
def fnExactHasPropertyUptoRow : OpenClaim := { program := "ytmapofenghjinaa", sum := "4ad9b4660ac34549d0a47ce2a3f6468c2315665678a40255a856fa3d1286c0ae", func := "loop.example/residuatedtables/laws.FnExactHasProperty", spec := "fnExactHasProperty", unfollowed := true, recurses := true, apart := false, narrowed := true }
def FnExactHasPropertyUptoSaid : Prop := fnExactHasPropertyUptoRow.holds Try.pinned (OpenSpec.upto fnExactHasPropertySpec)

/-- 'laws.FnExactMeetAlgebra', WHERE WHAT IT READS IS OF BULK AT MOST 1048576: true; the input reads as it did. -/
def fnExactMeetAlgebraUptoRow : OpenClaim := { program := "ytmapofenghjinaa", sum := "4ad9b4660ac34549d0a47ce2a3f6468c2315665678a40255a856fa3d1286c0ae", func := "loop.example/residuatedtables/laws.FnExactMeetAlgebra", spec := "fnExactMeetAlgebra", unfollowed := true, recurses := true, apart := false, narrowed := true }
def FnExactMeetAlgebraUptoSaid : Prop := fnExactMeetAlgebraUptoRow.holds Try.pinned (OpenSpec.upto fnExactMeetAlgebraSpec)

/-- 'laws.FnExactStackAlgebras', WHERE WHAT IT READS IS OF BULK AT MOST 1048576: true; the input reads as it did. -/
def fnExactStackAlgebrasUptoRow : OpenClaim := { program := "ytmapofenghjinaa", sum := "4ad9b4660ac34549d0a47ce2a3f6468c2315665678a40255a856fa3d1286c0ae", func := "loop.example/residuatedtables/laws.FnExactStackAlgebras", spec := "fnExactStackAlgebras", unfollowed := true, recurses := true, apart := false, narrowed := true }
def FnExactStackAlgebrasUptoSaid : Prop := fnExactStackAlgebrasUptoRow.holds Try.pinned (OpenSpec.upto fnExactStackAlgebrasSpec)

/-- 'laws.FnExactCrossAlgebras', WHERE WHAT IT READS IS OF BULK AT MOST 1048576: true; the input reads as it did. -/
def fnExactCrossAlgebrasUptoRow : OpenClaim := { program := "ytmapofenghjinaa", sum := "4ad9b4660ac34549d0a47ce2a3f6468c2315665678a40255a856fa3d1286c0ae", func := "loop.example/residuatedtables/laws.FnExactCrossAlgebras", spec := "fnExactCrossAlgebras", unfollowed := true, recurses := true, apart := false, narrowed := true }
def FnExactCrossAlgebrasUptoSaid : Prop := fnExactCrossAlgebrasUptoRow.holds Try.pinned (OpenSpec.upto fnExactCrossAlgebrasSpec)

/-- 'laws.FnExactQuotientOf', WHERE WHAT IT READS IS OF BULK AT MOST 1048576: true; the input reads as it did. -/
def fnExactQuotientOfUptoRow : OpenClaim := { program := "ytmapofenghjinaa", sum := "4ad9b4660ac34549d0a47ce2a3f6468c2315665678a40255a856fa3d1286c0ae", func := "loop.example/residuatedtables/laws.FnExactQuotientOf", spec := "fnExactQuotientOf", unfollowed := true, recurses := true, apart := false, narrowed := true }
def FnExactQuotientOfUptoSaid : Prop := fnExactQuotientOfUptoRow.holds Try.pinned (OpenSpec.upto fnExactQuotientOfSpec)

/-- 'laws.FnExactIsMap', WHERE WHAT IT READS IS OF BULK AT MOST 1048576: true; the input reads as it did. -/
def fnExactIsMapUptoRow : OpenClaim := { program := "ytmapofenghjinaa", sum := "4ad9b4660ac34549d0a47ce2a3f6468c2315665678a40255a856fa3d1286c0ae", func := "loop.example/residuatedtables/laws.FnExactIsMap", spec := "fnExactIsMap", unfollowed := true, recurses := true, apart := false, narrowed := true }
def FnExactIsMapUptoSaid : Prop := fnExactIsMapUptoRow.holds Try.pinned (OpenSpec.upto fnExactIsMapSpec)

/-- 'laws.FnExactKernelOf', WHERE WHAT IT READS IS OF BULK AT MOST 1048576: true; the input reads as it did. -/
def fnExactKernelOfUptoRow : OpenClaim := { program := "ytmapofenghjinaa", sum := "4ad9b4660ac34549d0a47ce2a3f6468c2315665678a40255a856fa3d1286c0ae", func := "loop.example/residuatedtables/laws.FnExactKernelOf", spec := "fnExactKernelOf", unfollowed := true, recurses := true, apart := false, narrowed := true }
def FnExactKernelOfUptoSaid : Prop := fnExactKernelOfUptoRow.holds Try.pinned (OpenSpec.upto fnExactKernelOfSpec)

/-- 'laws.FnExactImageOf', WHERE WHAT IT READS IS OF BULK AT MOST 1048576: true; the input reads as it did. -/
def fnExactImageOfUptoRow : OpenClaim := { program := "ytmapofenghjinaa", sum := "4ad9b4660ac34549d0a47ce2a3f6468c2315665678a40255a856fa3d1286c0ae", func := "loop.example/residuatedtables/laws.FnExactImageOf", spec := "fnExactImageOf", unfollowed := true, recurses := true, apart := false, narrowed := true }
def FnExactImageOfUptoSaid : Prop := fnExactImageOfUptoRow.holds Try.pinned (OpenSpec.upto fnExactImageOfSpec)

/-- 'laws.FnExactPartsOf', WHERE WHAT IT READS IS OF BULK AT MOST 1048576: true; the input reads as it did. -/
def fnExactPartsOfUptoRow : OpenClaim := { program := "ytmapofenghjinaa", sum := "4ad9b4660ac34549d0a47ce2a3f6468c2315665678a40255a856fa3d1286c0ae", func := "loop.example/residuatedtables/laws.FnExactPartsOf", spec := "fnExactPartsOf", unfollowed := true, recurses := true, apart := false, narrowed := true }
def FnExactPartsOfUptoSaid : Prop := fnExactPartsOfUptoRow.holds Try.pinned (OpenSpec.upto fnExactPartsOfSpec)

/-- 'laws.FnExactIsNucleus', WHERE WHAT IT READS IS OF BULK AT MOST 1048576: true; the input reads as it did. -/
def fnExactIsNucleusUptoRow : OpenClaim := { program := "ytmapofenghjinaa", sum := "4ad9b4660ac34549d0a47ce2a3f6468c2315665678a40255a856fa3d1286c0ae", func := "loop.example/residuatedtables/laws.FnExactIsNucleus", spec := "fnExactIsNucleus", unfollowed := true, recurses := true, apart := false, narrowed := true }
def FnExactIsNucleusUptoSaid : Prop := fnExactIsNucleusUptoRow.holds Try.pinned (OpenSpec.upto fnExactIsNucleusSpec)

/-- 'laws.FnExactTwiceNot', WHERE WHAT IT READS IS OF BULK AT MOST 1048576: true; the input reads as it did. -/
def fnExactTwiceNotUptoRow : OpenClaim := { program := "ytmapofenghjinaa", sum := "4ad9b4660ac34549d0a47ce2a3f6468c2315665678a40255a856fa3d1286c0ae", func := "loop.example/residuatedtables/laws.FnExactTwiceNot", spec := "fnExactTwiceNot", unfollowed := true, recurses := true, apart := false, narrowed := true }
def FnExactTwiceNotUptoSaid : Prop := fnExactTwiceNotUptoRow.holds Try.pinned (OpenSpec.upto fnExactTwiceNotSpec)

/-- 'laws.FnExactFixedBy', WHERE WHAT IT READS IS OF BULK AT MOST 1048576: true; the input reads as it did. -/
def fnExactFixedByUptoRow : OpenClaim := { program := "ytmapofenghjinaa", sum := "4ad9b4660ac34549d0a47ce2a3f6468c2315665678a40255a856fa3d1286c0ae", func := "loop.example/residuatedtables/laws.FnExactFixedBy", spec := "fnExactFixedBy", unfollowed := true, recurses := true, apart := false, narrowed := true }
def FnExactFixedByUptoSaid : Prop := fnExactFixedByUptoRow.holds Try.pinned (OpenSpec.upto fnExactFixedBySpec)

end Rows
end Go.Proofs.Ytmapofenghjinaa
