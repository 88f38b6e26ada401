/-
  No cell of these rows narrows 'for every input' (looked for: loops, veiled, ifaces, maps, wideKeys, modest, calm, conditions, laid).
  DERIVED. THE GIVEN ROWS OF THIS SEAT. 12 by the template 'for every input the law returns true; each argument reads behind the call as it read before'; 0 by the template 'total and deterministic' (their statements: YtpfnfglaokiipaaTotals.lean).
  GIVEN WITH THE SEED: the statements are not yours to turn. If you find one false, say at which input.
  Laid BY PROGRAM, IN A SANDBOX (cutbox-rows.mjs): the forced cells as the released guide's own fill.sh prints them over the translation 3c3718e77afeeda2… (all of the seat's roots in one cut). By AI agents, Wed Nov 11 2026. No macro, syntax, notation, axiom, sorry.
-/
import Derived.Test.YtpfnfglaokiipaaChecked
import GoSem.Claim
import GoSem.ClaimJoined
import GoSem.ClaimMapViews
import Derived.JoinedTies
import Derived.KernelRfl
namespace Go.Proofs.Ytpfnfglaokiipaa
/- THE CELL 'sum', in the pinned program and in every row, IS THE sha256 OF THE DUMP (.gsa) THAT YtpfnfglaokiipaaProg.lean LOADS. Nothing in Lean hashes anything: it is a label: what it is worth is what the hold of that sum in a sandbox is worth. -/
noncomputable def Try.pinned : Pinned := { name := "ytpfnfglaokiipaa", sum := "3c3718e77afeeda275505a61ddfc567668c86daa2ed4a54d92f7a6a03815e60c", checked := Try.checked }
namespace Rows
def none {H : Type} : Left H := { results := [], args := [] }

/-- 'laws.FnExactValidLattice': WHATEVER THE INPUT: true; the input reads as it did. -/
def fnExactValidLatticeSpec : ChangeSpec := { name := "fnExactValidLattice", fn := fun _ => fun
  | [d] => { results := [.lit (.bool true)], args := [d] }
  | _ => none }
def fnExactValidLatticeRow : OpenClaim := { program := "ytpfnfglaokiipaa", sum := "3c3718e77afeeda275505a61ddfc567668c86daa2ed4a54d92f7a6a03815e60c", func := "loop.example/residuatedtables/laws.FnExactValidLattice", spec := "fnExactValidLattice", unfollowed := true, recurses := true, apart := false }
def FnExactValidLatticeSaid : Prop := fnExactValidLatticeRow.holds Try.pinned (OpenSpec.ofChange fnExactValidLatticeSpec)

/-- ITS FALSE NEIGHBOUR: 'it returns false'. Refute it at one input. -/
def fnExactValidLatticeWrong : ChangeSpec := { name := "fnExactValidLattice", fn := fun _ => fun
  | [d] => { results := [.lit (.bool false)], args := [d] }
  | _ => none }
def FnExactValidLatticeWrongFalsely : Prop := fnExactValidLatticeRow.holds Try.pinned (OpenSpec.ofChange fnExactValidLatticeWrong)

/-- 'laws.FnExactIsBelow': WHATEVER THE INPUT: true; the input reads as it did. -/
def fnExactIsBelowSpec : ChangeSpec := { name := "fnExactIsBelow", fn := fun _ => fun
  | [d1, d2, d3] => { results := [.lit (.bool true)], args := [d1, d2, d3] }
  | _ => none }
def fnExactIsBelowRow : OpenClaim := { program := "ytpfnfglaokiipaa", sum := "3c3718e77afeeda275505a61ddfc567668c86daa2ed4a54d92f7a6a03815e60c", func := "loop.example/residuatedtables/laws.FnExactIsBelow", spec := "fnExactIsBelow", unfollowed := true, recurses := true, apart := false }
def FnExactIsBelowSaid : Prop := fnExactIsBelowRow.holds Try.pinned (OpenSpec.ofChange fnExactIsBelowSpec)

/-- ITS FALSE NEIGHBOUR: 'it returns false'. Refute it at one input. -/
def fnExactIsBelowWrong : ChangeSpec := { name := "fnExactIsBelow", fn := fun _ => fun
  | [d1, d2, d3] => { results := [.lit (.bool false)], args := [d1, d2, d3] }
  | _ => none }
def FnExactIsBelowWrongFalsely : Prop := fnExactIsBelowRow.holds Try.pinned (OpenSpec.ofChange fnExactIsBelowWrong)

/-- 'laws.FnExactMeetOf': WHATEVER THE INPUT: true; the input reads as it did. -/
def fnExactMeetOfSpec : ChangeSpec := { name := "fnExactMeetOf", fn := fun _ => fun
  | [d1, d2, d3] => { results := [.lit (.bool true)], args := [d1, d2, d3] }
  | _ => none }
def fnExactMeetOfRow : OpenClaim := { program := "ytpfnfglaokiipaa", sum := "3c3718e77afeeda275505a61ddfc567668c86daa2ed4a54d92f7a6a03815e60c", func := "loop.example/residuatedtables/laws.FnExactMeetOf", spec := "fnExactMeetOf", unfollowed := true, recurses := true, apart := false }
def FnExactMeetOfSaid : Prop := fnExactMeetOfRow.holds Try.pinned (OpenSpec.ofChange fnExactMeetOfSpec)

/-- ITS FALSE NEIGHBOUR: 'it returns false'. Refute it at one input. -/
def fnExactMeetOfWrong : ChangeSpec := { name := "fnExactMeetOf", fn := fun _ => fun
  | [d1, d2, d3] => { results := [.lit (.bool false)], args := [d1, d2, d3] }
  | _ => none }
def FnExactMeetOfWrongFalsely : Prop := fnExactMeetOfRow.holds Try.pinned (OpenSpec.ofChange fnExactMeetOfWrong)

/-- 'laws.FnExactJoinOf': WHATEVER THE INPUT: true; the input reads as it did. -/
def fnExactJoinOfSpec : ChangeSpec := { name := "fnExactJoinOf", fn := fun _ => fun
  | [d1, d2, d3] => { results := [.lit (.bool true)], args := [d1, d2, d3] }
  | _ => none }
def fnExactJoinOfRow : OpenClaim := { program := "ytpfnfglaokiipaa", sum := "3c3718e77afeeda275505a61ddfc567668c86daa2ed4a54d92f7a6a03815e60c", func := "loop.example/residuatedtables/laws.FnExactJoinOf", spec := "fnExactJoinOf", unfollowed := true, recurses := true, apart := false }
def FnExactJoinOfSaid : Prop := fnExactJoinOfRow.holds Try.pinned (OpenSpec.ofChange fnExactJoinOfSpec)

/-- ITS FALSE NEIGHBOUR: 'it returns false'. Refute it at one input. -/
def fnExactJoinOfWrong : ChangeSpec := { name := "fnExactJoinOf", fn := fun _ => fun
  | [d1, d2, d3] => { results := [.lit (.bool false)], args := [d1, d2, d3] }
  | _ => none }
def FnExactJoinOfWrongFalsely : Prop := fnExactJoinOfRow.holds Try.pinned (OpenSpec.ofChange fnExactJoinOfWrong)

/-- 'laws.FnExactCoversOf': WHATEVER THE INPUT: true; the input reads as it did. -/
def fnExactCoversOfSpec : ChangeSpec := { name := "fnExactCoversOf", fn := fun _ => fun
  | [d1, d2] => { results := [.lit (.bool true)], args := [d1, d2] }
  | _ => none }
def fnExactCoversOfRow : OpenClaim := { program := "ytpfnfglaokiipaa", sum := "3c3718e77afeeda275505a61ddfc567668c86daa2ed4a54d92f7a6a03815e60c", func := "loop.example/residuatedtables/laws.FnExactCoversOf", spec := "fnExactCoversOf", unfollowed := true, recurses := true, apart := false }
def FnExactCoversOfSaid : Prop := fnExactCoversOfRow.holds Try.pinned (OpenSpec.ofChange fnExactCoversOfSpec)

/-- ITS FALSE NEIGHBOUR: 'it returns false'. Refute it at one input. -/
def fnExactCoversOfWrong : ChangeSpec := { name := "fnExactCoversOf", fn := fun _ => fun
  | [d1, d2] => { results := [.lit (.bool false)], args := [d1, d2] }
  | _ => none }
def FnExactCoversOfWrongFalsely : Prop := fnExactCoversOfRow.holds Try.pinned (OpenSpec.ofChange fnExactCoversOfWrong)

/-- 'laws.FnExactIsChain': WHATEVER THE INPUT: true; the input reads as it did. -/
def fnExactIsChainSpec : ChangeSpec := { name := "fnExactIsChain", fn := fun _ => fun
  | [d] => { results := [.lit (.bool true)], args := [d] }
  | _ => none }
def fnExactIsChainRow : OpenClaim := { program := "ytpfnfglaokiipaa", sum := "3c3718e77afeeda275505a61ddfc567668c86daa2ed4a54d92f7a6a03815e60c", func := "loop.example/residuatedtables/laws.FnExactIsChain", spec := "fnExactIsChain", unfollowed := true, recurses := true, apart := false }
def FnExactIsChainSaid : Prop := fnExactIsChainRow.holds Try.pinned (OpenSpec.ofChange fnExactIsChainSpec)

/-- ITS FALSE NEIGHBOUR: 'it returns false'. Refute it at one input. -/
def fnExactIsChainWrong : ChangeSpec := { name := "fnExactIsChain", fn := fun _ => fun
  | [d] => { results := [.lit (.bool false)], args := [d] }
  | _ => none }
def FnExactIsChainWrongFalsely : Prop := fnExactIsChainRow.holds Try.pinned (OpenSpec.ofChange fnExactIsChainWrong)

/-- 'laws.FnExactIsDistributive': WHATEVER THE INPUT: true; the input reads as it did. -/
def fnExactIsDistributiveSpec : ChangeSpec := { name := "fnExactIsDistributive", fn := fun _ => fun
  | [d] => { results := [.lit (.bool true)], args := [d] }
  | _ => none }
def fnExactIsDistributiveRow : OpenClaim := { program := "ytpfnfglaokiipaa", sum := "3c3718e77afeeda275505a61ddfc567668c86daa2ed4a54d92f7a6a03815e60c", func := "loop.example/residuatedtables/laws.FnExactIsDistributive", spec := "fnExactIsDistributive", unfollowed := true, recurses := true, apart := false }
def FnExactIsDistributiveSaid : Prop := fnExactIsDistributiveRow.holds Try.pinned (OpenSpec.ofChange fnExactIsDistributiveSpec)

/-- ITS FALSE NEIGHBOUR: 'it returns false'. Refute it at one input. -/
def fnExactIsDistributiveWrong : ChangeSpec := { name := "fnExactIsDistributive", fn := fun _ => fun
  | [d] => { results := [.lit (.bool false)], args := [d] }
  | _ => none }
def FnExactIsDistributiveWrongFalsely : Prop := fnExactIsDistributiveRow.holds Try.pinned (OpenSpec.ofChange fnExactIsDistributiveWrong)

/-- 'laws.FnExactComplementsOf': WHATEVER THE INPUT: true; the input reads as it did. -/
def fnExactComplementsOfSpec : ChangeSpec := { name := "fnExactComplementsOf", fn := fun _ => fun
  | [d1, d2] => { results := [.lit (.bool true)], args := [d1, d2] }
  | _ => none }
def fnExactComplementsOfRow : OpenClaim := { program := "ytpfnfglaokiipaa", sum := "3c3718e77afeeda275505a61ddfc567668c86daa2ed4a54d92f7a6a03815e60c", func := "loop.example/residuatedtables/laws.FnExactComplementsOf", spec := "fnExactComplementsOf", unfollowed := true, recurses := true, apart := false }
def FnExactComplementsOfSaid : Prop := fnExactComplementsOfRow.holds Try.pinned (OpenSpec.ofChange fnExactComplementsOfSpec)

/-- ITS FALSE NEIGHBOUR: 'it returns false'. Refute it at one input. -/
def fnExactComplementsOfWrong : ChangeSpec := { name := "fnExactComplementsOf", fn := fun _ => fun
  | [d1, d2] => { results := [.lit (.bool false)], args := [d1, d2] }
  | _ => none }
def FnExactComplementsOfWrongFalsely : Prop := fnExactComplementsOfRow.holds Try.pinned (OpenSpec.ofChange fnExactComplementsOfWrong)

/-- 'laws.FnExactTurnedLattice': WHATEVER THE INPUT: true; the input reads as it did. -/
def fnExactTurnedLatticeSpec : ChangeSpec := { name := "fnExactTurnedLattice", fn := fun _ => fun
  | [d] => { results := [.lit (.bool true)], args := [d] }
  | _ => none }
def fnExactTurnedLatticeRow : OpenClaim := { program := "ytpfnfglaokiipaa", sum := "3c3718e77afeeda275505a61ddfc567668c86daa2ed4a54d92f7a6a03815e60c", func := "loop.example/residuatedtables/laws.FnExactTurnedLattice", spec := "fnExactTurnedLattice", unfollowed := true, recurses := true, apart := false }
def FnExactTurnedLatticeSaid : Prop := fnExactTurnedLatticeRow.holds Try.pinned (OpenSpec.ofChange fnExactTurnedLatticeSpec)

/-- ITS FALSE NEIGHBOUR: 'it returns false'. Refute it at one input. -/
def fnExactTurnedLatticeWrong : ChangeSpec := { name := "fnExactTurnedLattice", fn := fun _ => fun
  | [d] => { results := [.lit (.bool false)], args := [d] }
  | _ => none }
def FnExactTurnedLatticeWrongFalsely : Prop := fnExactTurnedLatticeRow.holds Try.pinned (OpenSpec.ofChange fnExactTurnedLatticeWrong)

/-- 'laws.FnExactChainOf': WHATEVER THE INPUT: true; the input reads as it did. -/
def fnExactChainOfSpec : ChangeSpec := { name := "fnExactChainOf", fn := fun _ => fun
  | [d] => { results := [.lit (.bool true)], args := [d] }
  | _ => none }
def fnExactChainOfRow : OpenClaim := { program := "ytpfnfglaokiipaa", sum := "3c3718e77afeeda275505a61ddfc567668c86daa2ed4a54d92f7a6a03815e60c", func := "loop.example/residuatedtables/laws.FnExactChainOf", spec := "fnExactChainOf", unfollowed := true, recurses := true, apart := false }
def FnExactChainOfSaid : Prop := fnExactChainOfRow.holds Try.pinned (OpenSpec.ofChange fnExactChainOfSpec)

/-- ITS FALSE NEIGHBOUR: 'it returns false'. Refute it at one input. -/
def fnExactChainOfWrong : ChangeSpec := { name := "fnExactChainOf", fn := fun _ => fun
  | [d] => { results := [.lit (.bool false)], args := [d] }
  | _ => none }
def FnExactChainOfWrongFalsely : Prop := fnExactChainOfRow.holds Try.pinned (OpenSpec.ofChange fnExactChainOfWrong)

/-- 'laws.FnExactCrossLattices': WHATEVER THE INPUT: true; the input reads as it did. -/
def fnExactCrossLatticesSpec : ChangeSpec := { name := "fnExactCrossLattices", fn := fun _ => fun
  | [d1, d2] => { results := [.lit (.bool true)], args := [d1, d2] }
  | _ => none }
def fnExactCrossLatticesRow : OpenClaim := { program := "ytpfnfglaokiipaa", sum := "3c3718e77afeeda275505a61ddfc567668c86daa2ed4a54d92f7a6a03815e60c", func := "loop.example/residuatedtables/laws.FnExactCrossLattices", spec := "fnExactCrossLattices", unfollowed := true, recurses := true, apart := false }
def FnExactCrossLatticesSaid : Prop := fnExactCrossLatticesRow.holds Try.pinned (OpenSpec.ofChange fnExactCrossLatticesSpec)

/-- ITS FALSE NEIGHBOUR: 'it returns false'. Refute it at one input. -/
def fnExactCrossLatticesWrong : ChangeSpec := { name := "fnExactCrossLattices", fn := fun _ => fun
  | [d1, d2] => { results := [.lit (.bool false)], args := [d1, d2] }
  | _ => none }
def FnExactCrossLatticesWrongFalsely : Prop := fnExactCrossLatticesRow.holds Try.pinned (OpenSpec.ofChange fnExactCrossLatticesWrong)

/-- 'laws.FnExactAllLattices': WHATEVER THE INPUT: true; the input reads as it did. -/
def fnExactAllLatticesSpec : ChangeSpec := { name := "fnExactAllLattices", fn := fun _ => fun
  | [d] => { results := [.lit (.bool true)], args := [d] }
  | _ => none }
def fnExactAllLatticesRow : OpenClaim := { program := "ytpfnfglaokiipaa", sum := "3c3718e77afeeda275505a61ddfc567668c86daa2ed4a54d92f7a6a03815e60c", func := "loop.example/residuatedtables/laws.FnExactAllLattices", spec := "fnExactAllLattices", unfollowed := true, recurses := true, apart := false }
def FnExactAllLatticesSaid : Prop := fnExactAllLatticesRow.holds Try.pinned (OpenSpec.ofChange fnExactAllLatticesSpec)

/-- ITS FALSE NEIGHBOUR: 'it returns false'. Refute it at one input. -/
def fnExactAllLatticesWrong : ChangeSpec := { name := "fnExactAllLattices", fn := fun _ => fun
  | [d] => { results := [.lit (.bool false)], args := [d] }
  | _ => none }
def FnExactAllLatticesWrongFalsely : Prop := fnExactAllLatticesRow.holds Try.pinned (OpenSpec.ofChange fnExactAllLatticesWrong)

/- THE SECOND FORM. 'bulk': how many values and letters a reading holds, each counted each time it is reached (what is shared counts as often as it is met; a slice's spare places count too). A statement '..UptoSaid' is the law's where the arguments, and the package variables that the reading takes, are together of bulk at most 1048576: NARROWER than '..Said'. Prove '..Said' where nothing that the law and all that it calls make is longer than what came in: it says more and counts as full. Else prove '..UptoSaid'. A law counts once. -/
mutual
def uptoBulk {H : Type} : DataW H → Nat
  | .lit (.string bytes) => bytes.length + 1
  | .lit _ => 1
  | .nil => 1
  | .ptr d => uptoBulk d + 1
  | .slice elems spare => uptoBulkAll elems + uptoBulkAll spare + 1
  | .agg parts => uptoBulkAll parts + 1
  | .iface _ d => uptoBulk d + 1
  | .map entries => uptoBulkEntries entries + 1
  | .held _ => 1
def uptoBulkAll {H : Type} : List (DataW H) → Nat
  | [] => 0
  | d :: r => uptoBulk d + uptoBulkAll r
def uptoBulkEntries {H : Type} : List (Lit × DataW H) → Nat
  | [] => 0
  | x :: r => uptoBulkEntry x + uptoBulkEntries r
def uptoBulkEntry {H : Type} : Lit × DataW H → Nat
  | (.string bytes, d) => bytes.length + uptoBulk d + 1
  | (_, d) => uptoBulk d + 1
 end
def uptoSmall : (H : Type) → List (DataW H) → Bool := fun _ ds => decide (uptoBulkAll ds ≤ 1048576)
def OpenSpec.upto (s : _root_.Go.ChangeSpec) : _root_.Go.OpenSpec := { _root_.Go.OpenSpec.ofChange s with cond := some uptoSmall }

/-- 'laws.FnExactValidLattice', WHERE WHAT IT READS IS OF BULK AT MOST 1048576: true; the input reads as it did. -/
def fnExactValidLatticeUptoRow : OpenClaim := { program := "ytpfnfglaokiipaa", sum := "3c3718e77afeeda275505a61ddfc567668c86daa2ed4a54d92f7a6a03815e60c", func := "loop.example/residuatedtables/laws.FnExactValidLattice", spec := "fnExactValidLattice", unfollowed := true, recurses := true, apart := false, narrowed := true }
def FnExactValidLatticeUptoSaid : Prop := fnExactValidLatticeUptoRow.holds Try.pinned (OpenSpec.upto fnExactValidLatticeSpec)

/-- 'laws.FnExactIsBelow', WHERE WHAT IT READS IS OF BULK AT MOST 1048576: true; the input reads as it did. -/
def fnExactIsBelowUptoRow : OpenClaim := { program := "ytpfnfglaokiipaa", sum := "3c3718e77afeeda275505a61ddfc567668c86daa2ed4a54d92f7a6a03815e60c", func := "loop.example/residuatedtables/laws.FnExactIsBelow", spec := "fnExactIsBelow", unfollowed := true, recurses := true, apart := false, narrowed := true }
def FnExactIsBelowUptoSaid : Prop := fnExactIsBelowUptoRow.holds Try.pinned (OpenSpec.upto fnExactIsBelowSpec)

/-- 'laws.FnExactMeetOf', WHERE WHAT IT READS IS OF BULK AT MOST 1048576: true; the input reads as it did. -/
def fnExactMeetOfUptoRow : OpenClaim := { program := "ytpfnfglaokiipaa", sum := "3c3718e77afeeda275505a61ddfc567668c86daa2ed4a54d92f7a6a03815e60c", func := "loop.example/residuatedtables/laws.FnExactMeetOf", spec := "fnExactMeetOf", unfollowed := true, recurses := true, apart := false, narrowed := true }
def FnExactMeetOfUptoSaid : Prop := fnExactMeetOfUptoRow.holds Try.pinned (OpenSpec.upto fnExactMeetOfSpec)

/-- 'laws.FnExactJoinOf', WHERE WHAT IT READS IS OF BULK AT MOST 1048576: true; the input reads as it did. -/
def fnExactJoinOfUptoRow : OpenClaim := { program := "ytpfnfglaokiipaa", sum := "3c3718e77afeeda275505a61ddfc567668c86daa2ed4a54d92f7a6a03815e60c", func := "loop.example/residuatedtables/laws.FnExactJoinOf", spec := "fnExactJoinOf", unfollowed := true, recurses := true, apart := false, narrowed := true }
def FnExactJoinOfUptoSaid : Prop := fnExactJoinOfUptoRow.holds Try.pinned (OpenSpec.upto fnExactJoinOfSpec)

/-- 'laws.FnExactCoversOf', WHERE WHAT IT READS IS OF BULK AT MOST 1048576: true; the input reads as it did. -/
def fnExactCoversOfUptoRow : OpenClaim := { program := "ytpfnfglaokiipaa", sum := "3c3718e77afeeda275505a61ddfc567668c86daa2ed4a54d92f7a6a03815e60c", func := "loop.example/residuatedtables/laws.FnExactCoversOf", spec := "fnExactCoversOf", unfollowed := true, recurses := true, apart := false, narrowed := true }
def FnExactCoversOfUptoSaid : Prop := fnExactCoversOfUptoRow.holds Try.pinned (OpenSpec.upto fnExactCoversOfSpec)

/-- 'laws.FnExactIsChain', WHERE WHAT IT READS IS OF BULK AT MOST 1048576: true; the input reads as it did. -/
def fnExactIsChainUptoRow : OpenClaim := { program := "ytpfnfglaokiipaa", sum := "3c3718e77afeeda275505a61ddfc567668c86daa2ed4a54d92f7a6a03815e60c", func := "loop.example/residuatedtables/laws.FnExactIsChain", spec := "fnExactIsChain", unfollowed := true, recurses := true, apart := false, narrowed := true }
def FnExactIsChainUptoSaid : Prop := fnExactIsChainUptoRow.holds Try.pinned (OpenSpec.upto fnExactIsChainSpec)

/-- 'laws.FnExactIsDistributive', WHERE WHAT IT READS IS OF BULK AT MOST 1048576: true; the input reads as it did. -/
def fnExactIsDistributiveUptoRow : OpenClaim := { program := "ytpfnfglaokiipaa", sum := "3c3718e77afeeda275505a61ddfc567668c86daa2ed4a54d92f7a6a03815e60c", func := "loop.example/residuatedtables/laws.FnExactIsDistributive", spec := "fnExactIsDistributive", unfollowed := true, recurses := true, apart := false, narrowed := true }
def FnExactIsDistributiveUptoSaid : Prop := fnExactIsDistributiveUptoRow.holds Try.pinned (OpenSpec.upto fnExactIsDistributiveSpec)

/-- 'laws.FnExactComplementsOf', WHERE WHAT IT READS IS OF BULK AT MOST 1048576: true; the input reads as it did. -/
def fnExactComplementsOfUptoRow : OpenClaim := { program := "ytpfnfglaokiipaa", sum := "3c3718e77afeeda275505a61ddfc567668c86daa2ed4a54d92f7a6a03815e60c", func := "loop.example/residuatedtables/laws.FnExactComplementsOf", spec := "fnExactComplementsOf", unfollowed := true, recurses := true, apart := false, narrowed := true }
def FnExactComplementsOfUptoSaid : Prop := fnExactComplementsOfUptoRow.holds Try.pinned (OpenSpec.upto fnExactComplementsOfSpec)

/-- 'laws.FnExactTurnedLattice', WHERE WHAT IT READS IS OF BULK AT MOST 1048576: true; the input reads as it did. -/
def fnExactTurnedLatticeUptoRow : OpenClaim := { program := "ytpfnfglaokiipaa", sum := "3c3718e77afeeda275505a61ddfc567668c86daa2ed4a54d92f7a6a03815e60c", func := "loop.example/residuatedtables/laws.FnExactTurnedLattice", spec := "fnExactTurnedLattice", unfollowed := true, recurses := true, apart := false, narrowed := true }
def FnExactTurnedLatticeUptoSaid : Prop := fnExactTurnedLatticeUptoRow.holds Try.pinned (OpenSpec.upto fnExactTurnedLatticeSpec)

/-- 'laws.FnExactChainOf', WHERE WHAT IT READS IS OF BULK AT MOST 1048576: true; the input reads as it did. -/
def fnExactChainOfUptoRow : OpenClaim := { program := "ytpfnfglaokiipaa", sum := "3c3718e77afeeda275505a61ddfc567668c86daa2ed4a54d92f7a6a03815e60c", func := "loop.example/residuatedtables/laws.FnExactChainOf", spec := "fnExactChainOf", unfollowed := true, recurses := true, apart := false, narrowed := true }
def FnExactChainOfUptoSaid : Prop := fnExactChainOfUptoRow.holds Try.pinned (OpenSpec.upto fnExactChainOfSpec)

/-- 'laws.FnExactCrossLattices', WHERE WHAT IT READS IS OF BULK AT MOST 1048576: true; the input reads as it did. -/
def fnExactCrossLatticesUptoRow : OpenClaim := { program := "ytpfnfglaokiipaa", sum := "3c3718e77afeeda275505a61ddfc567668c86daa2ed4a54d92f7a6a03815e60c", func := "loop.example/residuatedtables/laws.FnExactCrossLattices", spec := "fnExactCrossLattices", unfollowed := true, recurses := true, apart := false, narrowed := true }
def FnExactCrossLatticesUptoSaid : Prop := fnExactCrossLatticesUptoRow.holds Try.pinned (OpenSpec.upto fnExactCrossLatticesSpec)

/-- 'laws.FnExactAllLattices', WHERE WHAT IT READS IS OF BULK AT MOST 1048576: true; the input reads as it did. -/
def fnExactAllLatticesUptoRow : OpenClaim := { program := "ytpfnfglaokiipaa", sum := "3c3718e77afeeda275505a61ddfc567668c86daa2ed4a54d92f7a6a03815e60c", func := "loop.example/residuatedtables/laws.FnExactAllLattices", spec := "fnExactAllLattices", unfollowed := true, recurses := true, apart := false, narrowed := true }
def FnExactAllLatticesUptoSaid : Prop := fnExactAllLatticesUptoRow.holds Try.pinned (OpenSpec.upto fnExactAllLatticesSpec)

end Rows
end Go.Proofs.Ytpfnfglaokiipaa
