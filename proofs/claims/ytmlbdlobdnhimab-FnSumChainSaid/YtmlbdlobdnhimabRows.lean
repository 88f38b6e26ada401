/-
  No cell of these rows narrows 'for every input' (looked for: loops, veiled, ifaces, maps, wideKeys, modest, calm, conditions, laid).
  DERIVED. THE GIVEN ROWS OF THIS SEAT. 10 by the template 'for every input the law returns true; each argument reads behind the call as it read before'; 0 by the template 'total and deterministic' (their statements: YtmlbdlobdnhimabTotals.lean).
  GIVEN WITH THE SEED: the statements are not yours to turn. If you find one false, say at which input.
  Laid BY PROGRAM, IN A SANDBOX (cutbox-rows.mjs): the forced cells as the released guide's own fill.sh prints them over the translation 7e49d7301681aad2… (all of the seat's roots in one cut). By AI agents, Wed Nov 11 2026. No macro, syntax, notation, axiom, sorry.
-/
import Derived.Test.YtmlbdlobdnhimabChecked
import GoSem.Claim
import GoSem.ClaimJoined
import GoSem.ClaimMapViews
import Derived.JoinedTies
import Derived.KernelRfl
namespace Go.Proofs.Ytmlbdlobdnhimab
/- THE CELL 'sum', in the pinned program and in every row, IS THE sha256 OF THE DUMP (.gsa) THAT YtmlbdlobdnhimabProg.lean LOADS. Nothing in Lean hashes anything: it is a label: what it is worth is what the hold of that sum in a sandbox is worth. -/
noncomputable def Try.pinned : Pinned := { name := "ytmlbdlobdnhimab", sum := "7e49d7301681aad20a9cbd52b2cb3dd0a55d6b8eea9be6cd1b78d0bb7f61bc8f", checked := Try.checked }
namespace Rows
def none {H : Type} : Left H := { results := [], args := [] }

/-- 'laws.FnExactCrossAlgebras': WHATEVER THE INPUT: true; the input reads as it did. -/
def fnExactCrossAlgebrasSpec : ChangeSpec := { name := "fnExactCrossAlgebras", fn := fun _ => fun
  | [d1, d2] => { results := [.lit (.bool true)], args := [d1, d2] }
  | _ => none }
def fnExactCrossAlgebrasRow : OpenClaim := { program := "ytmlbdlobdnhimab", sum := "7e49d7301681aad20a9cbd52b2cb3dd0a55d6b8eea9be6cd1b78d0bb7f61bc8f", func := "loop.example/residuatedtables/laws.FnExactCrossAlgebras", spec := "fnExactCrossAlgebras", unfollowed := true, recurses := true, apart := false }
def FnExactCrossAlgebrasSaid : Prop := fnExactCrossAlgebrasRow.holds Try.pinned (OpenSpec.ofChange fnExactCrossAlgebrasSpec)

/-- ITS FALSE NEIGHBOUR: 'it returns false'. Refute it at one input. -/
def fnExactCrossAlgebrasWrong : ChangeSpec := { name := "fnExactCrossAlgebras", fn := fun _ => fun
  | [d1, d2] => { results := [.lit (.bool false)], args := [d1, d2] }
  | _ => none }
def FnExactCrossAlgebrasWrongFalsely : Prop := fnExactCrossAlgebrasRow.holds Try.pinned (OpenSpec.ofChange fnExactCrossAlgebrasWrong)

/-- 'laws.FnExactQuotientOf': WHATEVER THE INPUT: true; the input reads as it did. -/
def fnExactQuotientOfSpec : ChangeSpec := { name := "fnExactQuotientOf", fn := fun _ => fun
  | [d1, d2] => { results := [.lit (.bool true)], args := [d1, d2] }
  | _ => none }
def fnExactQuotientOfRow : OpenClaim := { program := "ytmlbdlobdnhimab", sum := "7e49d7301681aad20a9cbd52b2cb3dd0a55d6b8eea9be6cd1b78d0bb7f61bc8f", func := "loop.example/residuatedtables/laws.FnExactQuotientOf", spec := "fnExactQuotientOf", unfollowed := true, recurses := true, apart := false }
def FnExactQuotientOfSaid : Prop := fnExactQuotientOfRow.holds Try.pinned (OpenSpec.ofChange fnExactQuotientOfSpec)

/-- ITS FALSE NEIGHBOUR: 'it returns false'. Refute it at one input. -/
def fnExactQuotientOfWrong : ChangeSpec := { name := "fnExactQuotientOf", fn := fun _ => fun
  | [d1, d2] => { results := [.lit (.bool false)], args := [d1, d2] }
  | _ => none }
def FnExactQuotientOfWrongFalsely : Prop := fnExactQuotientOfRow.holds Try.pinned (OpenSpec.ofChange fnExactQuotientOfWrong)

/-- 'laws.FnExactChainsOf': WHATEVER THE INPUT: true; the input reads as it did. -/
def fnExactChainsOfSpec : ChangeSpec := { name := "fnExactChainsOf", fn := fun _ => fun
  | [d] => { results := [.lit (.bool true)], args := [d] }
  | _ => none }
def fnExactChainsOfRow : OpenClaim := { program := "ytmlbdlobdnhimab", sum := "7e49d7301681aad20a9cbd52b2cb3dd0a55d6b8eea9be6cd1b78d0bb7f61bc8f", func := "loop.example/residuatedtables/laws.FnExactChainsOf", spec := "fnExactChainsOf", unfollowed := true, recurses := true, apart := false }
def FnExactChainsOfSaid : Prop := fnExactChainsOfRow.holds Try.pinned (OpenSpec.ofChange fnExactChainsOfSpec)

/-- ITS FALSE NEIGHBOUR: 'it returns false'. Refute it at one input. -/
def fnExactChainsOfWrong : ChangeSpec := { name := "fnExactChainsOf", fn := fun _ => fun
  | [d] => { results := [.lit (.bool false)], args := [d] }
  | _ => none }
def FnExactChainsOfWrongFalsely : Prop := fnExactChainsOfRow.holds Try.pinned (OpenSpec.ofChange fnExactChainsOfWrong)

/-- 'laws.FnExactChainCount': WHATEVER THE INPUT: true; the input reads as it did. -/
def fnExactChainCountSpec : ChangeSpec := { name := "fnExactChainCount", fn := fun _ => fun
  | [d1, d2] => { results := [.lit (.bool true)], args := [d1, d2] }
  | _ => none }
def fnExactChainCountRow : OpenClaim := { program := "ytmlbdlobdnhimab", sum := "7e49d7301681aad20a9cbd52b2cb3dd0a55d6b8eea9be6cd1b78d0bb7f61bc8f", func := "loop.example/residuatedtables/laws.FnExactChainCount", spec := "fnExactChainCount", unfollowed := true, recurses := true, apart := false }
def FnExactChainCountSaid : Prop := fnExactChainCountRow.holds Try.pinned (OpenSpec.ofChange fnExactChainCountSpec)

/-- ITS FALSE NEIGHBOUR: 'it returns false'. Refute it at one input. -/
def fnExactChainCountWrong : ChangeSpec := { name := "fnExactChainCount", fn := fun _ => fun
  | [d1, d2] => { results := [.lit (.bool false)], args := [d1, d2] }
  | _ => none }
def FnExactChainCountWrongFalsely : Prop := fnExactChainCountRow.holds Try.pinned (OpenSpec.ofChange fnExactChainCountWrong)

/-- 'laws.FnExactStackOfSums': WHATEVER THE INPUT: true; the input reads as it did. -/
def fnExactStackOfSumsSpec : ChangeSpec := { name := "fnExactStackOfSums", fn := fun _ => fun
  | [d] => { results := [.lit (.bool true)], args := [d] }
  | _ => none }
def fnExactStackOfSumsRow : OpenClaim := { program := "ytmlbdlobdnhimab", sum := "7e49d7301681aad20a9cbd52b2cb3dd0a55d6b8eea9be6cd1b78d0bb7f61bc8f", func := "loop.example/residuatedtables/laws.FnExactStackOfSums", spec := "fnExactStackOfSums", unfollowed := true, recurses := true, apart := false }
def FnExactStackOfSumsSaid : Prop := fnExactStackOfSumsRow.holds Try.pinned (OpenSpec.ofChange fnExactStackOfSumsSpec)

/-- ITS FALSE NEIGHBOUR: 'it returns false'. Refute it at one input. -/
def fnExactStackOfSumsWrong : ChangeSpec := { name := "fnExactStackOfSums", fn := fun _ => fun
  | [d] => { results := [.lit (.bool false)], args := [d] }
  | _ => none }
def FnExactStackOfSumsWrongFalsely : Prop := fnExactStackOfSumsRow.holds Try.pinned (OpenSpec.ofChange fnExactStackOfSumsWrong)

/-- 'laws.FnExactSizesOf': WHATEVER THE INPUT: true; the input reads as it did. -/
def fnExactSizesOfSpec : ChangeSpec := { name := "fnExactSizesOf", fn := fun _ => fun
  | [d] => { results := [.lit (.bool true)], args := [d] }
  | _ => none }
def fnExactSizesOfRow : OpenClaim := { program := "ytmlbdlobdnhimab", sum := "7e49d7301681aad20a9cbd52b2cb3dd0a55d6b8eea9be6cd1b78d0bb7f61bc8f", func := "loop.example/residuatedtables/laws.FnExactSizesOf", spec := "fnExactSizesOf", unfollowed := true, recurses := true, apart := false }
def FnExactSizesOfSaid : Prop := fnExactSizesOfRow.holds Try.pinned (OpenSpec.ofChange fnExactSizesOfSpec)

/-- ITS FALSE NEIGHBOUR: 'it returns false'. Refute it at one input. -/
def fnExactSizesOfWrong : ChangeSpec := { name := "fnExactSizesOf", fn := fun _ => fun
  | [d] => { results := [.lit (.bool false)], args := [d] }
  | _ => none }
def FnExactSizesOfWrongFalsely : Prop := fnExactSizesOfRow.holds Try.pinned (OpenSpec.ofChange fnExactSizesOfWrong)

/-- 'laws.FnSumChain': WHATEVER THE INPUT: true; the input reads as it did. -/
def fnSumChainSpec : ChangeSpec := { name := "fnSumChain", fn := fun _ => fun
  | [d] => { results := [.lit (.bool true)], args := [d] }
  | _ => none }
def fnSumChainRow : OpenClaim := { program := "ytmlbdlobdnhimab", sum := "7e49d7301681aad20a9cbd52b2cb3dd0a55d6b8eea9be6cd1b78d0bb7f61bc8f", func := "loop.example/residuatedtables/laws.FnSumChain", spec := "fnSumChain", unfollowed := true, recurses := true, apart := false }
def FnSumChainSaid : Prop := fnSumChainRow.holds Try.pinned (OpenSpec.ofChange fnSumChainSpec)

/-- ITS FALSE NEIGHBOUR: 'it returns false'. Refute it at one input. -/
def fnSumChainWrong : ChangeSpec := { name := "fnSumChain", fn := fun _ => fun
  | [d] => { results := [.lit (.bool false)], args := [d] }
  | _ => none }
def FnSumChainWrongFalsely : Prop := fnSumChainRow.holds Try.pinned (OpenSpec.ofChange fnSumChainWrong)

/-- 'laws.FnMeetAlgebra': WHATEVER THE INPUT: true; the input reads as it did. -/
def fnMeetAlgebraSpec : ChangeSpec := { name := "fnMeetAlgebra", fn := fun _ => fun
  | [d] => { results := [.lit (.bool true)], args := [d] }
  | _ => none }
def fnMeetAlgebraRow : OpenClaim := { program := "ytmlbdlobdnhimab", sum := "7e49d7301681aad20a9cbd52b2cb3dd0a55d6b8eea9be6cd1b78d0bb7f61bc8f", func := "loop.example/residuatedtables/laws.FnMeetAlgebra", spec := "fnMeetAlgebra", unfollowed := true, recurses := true, apart := false }
def FnMeetAlgebraSaid : Prop := fnMeetAlgebraRow.holds Try.pinned (OpenSpec.ofChange fnMeetAlgebraSpec)

/-- ITS FALSE NEIGHBOUR: 'it returns false'. Refute it at one input. -/
def fnMeetAlgebraWrong : ChangeSpec := { name := "fnMeetAlgebra", fn := fun _ => fun
  | [d] => { results := [.lit (.bool false)], args := [d] }
  | _ => none }
def FnMeetAlgebraWrongFalsely : Prop := fnMeetAlgebraRow.holds Try.pinned (OpenSpec.ofChange fnMeetAlgebraWrong)

/-- 'laws.FnIsDistributive': WHATEVER THE INPUT: true; the input reads as it did. -/
def fnIsDistributiveSpec : ChangeSpec := { name := "fnIsDistributive", fn := fun _ => fun
  | [d] => { results := [.lit (.bool true)], args := [d] }
  | _ => none }
def fnIsDistributiveRow : OpenClaim := { program := "ytmlbdlobdnhimab", sum := "7e49d7301681aad20a9cbd52b2cb3dd0a55d6b8eea9be6cd1b78d0bb7f61bc8f", func := "loop.example/residuatedtables/laws.FnIsDistributive", spec := "fnIsDistributive", unfollowed := true, recurses := true, apart := false }
def FnIsDistributiveSaid : Prop := fnIsDistributiveRow.holds Try.pinned (OpenSpec.ofChange fnIsDistributiveSpec)

/-- ITS FALSE NEIGHBOUR: 'it returns false'. Refute it at one input. -/
def fnIsDistributiveWrong : ChangeSpec := { name := "fnIsDistributive", fn := fun _ => fun
  | [d] => { results := [.lit (.bool false)], args := [d] }
  | _ => none }
def FnIsDistributiveWrongFalsely : Prop := fnIsDistributiveRow.holds Try.pinned (OpenSpec.ofChange fnIsDistributiveWrong)

/-- 'laws.FnStackOfSums': WHATEVER THE INPUT: true; the input reads as it did. -/
def fnStackOfSumsSpec : ChangeSpec := { name := "fnStackOfSums", fn := fun _ => fun
  | [d] => { results := [.lit (.bool true)], args := [d] }
  | _ => none }
def fnStackOfSumsRow : OpenClaim := { program := "ytmlbdlobdnhimab", sum := "7e49d7301681aad20a9cbd52b2cb3dd0a55d6b8eea9be6cd1b78d0bb7f61bc8f", func := "loop.example/residuatedtables/laws.FnStackOfSums", spec := "fnStackOfSums", unfollowed := true, recurses := true, apart := false }
def FnStackOfSumsSaid : Prop := fnStackOfSumsRow.holds Try.pinned (OpenSpec.ofChange fnStackOfSumsSpec)

/-- ITS FALSE NEIGHBOUR: 'it returns false'. Refute it at one input. -/
def fnStackOfSumsWrong : ChangeSpec := { name := "fnStackOfSums", fn := fun _ => fun
  | [d] => { results := [.lit (.bool false)], args := [d] }
  | _ => none }
def FnStackOfSumsWrongFalsely : Prop := fnStackOfSumsRow.holds Try.pinned (OpenSpec.ofChange fnStackOfSumsWrong)

/- THE SECOND FORM. 'bulk': how many values and letters a reading holds, each counted each time it is reached (what is shared counts as often as it is met; a slice's spare places count too). A statement '..UptoSaid' is the law's where the arguments, and the package variables that the reading takes, are together of bulk at most 1048576: NARROWER than '..Said'. Prove '..Said' where nothing that the law and all that it calls make is longer than what came in: it says more and counts as full. Else prove '..UptoSaid'. A law counts once. -/
mutual
def uptoBulk {H : Type} : DataW H → Nat
  | .lit (.string bytes) => bytes.length + 1
  | .lit _ => 1
  | .nil => 1
  | .ptr d => uptoBulk d + 1
  | .slice elems spare => uptoBulkAll elems + uptoBulkAll spare + 1
  | .agg parts => uptoBulkAll parts + 1
  | .iface _ d => uptoBulk d + 1
  | .map entries => uptoBulkEntries entries + 1
  | .held _ => 1
def uptoBulkAll {H : Type} : List (DataW H) → Nat
  | [] => 0
  | d :: r => uptoBulk d + uptoBulkAll r
def uptoBulkEntries {H : Type} : List (Lit × DataW H) → Nat
  | [] => 0
  | x :: r => uptoBulkEntry x + uptoBulkEntries r
def uptoBulkEntry {H : Type} : Lit × DataW H → Nat
  | (.string bytes, d) => bytes.length + uptoBulk d + 1
  | (_, d) => uptoBulk d + 1
 end
def uptoSmall : (H : Type) → List (DataW H) → Bool := fun _ ds => decide (uptoBulkAll ds ≤ 1048576)
def OpenSpec.upto (s : _root_.Go.ChangeSpec) : _root_.Go.OpenSpec := { _root_.Go.OpenSpec.ofChange s with cond := some uptoSmall }

/-- 'laws.FnExactCrossAlgebras', WHERE WHAT IT READS IS OF BULK AT MOST 1048576: true; the input reads as it did. -/
def fnExactCrossAlgebrasUptoRow : OpenClaim := { program := "ytmlbdlobdnhimab", sum := "7e49d7301681aad20a9cbd52b2cb3dd0a55d6b8eea9be6cd1b78d0bb7f61bc8f", func := "loop.example/residuatedtables/laws.FnExactCrossAlgebras", spec := "fnExactCrossAlgebras", unfollowed := true, recurses := true, apart := false, narrowed := true }
def FnExactCrossAlgebrasUptoSaid : Prop := fnExactCrossAlgebrasUptoRow.holds Try.pinned (OpenSpec.upto fnExactCrossAlgebrasSpec)

/-- 'laws.FnExactQuotientOf', WHERE WHAT IT READS IS OF BULK AT MOST 1048576: true; the input reads as it did. -/
def fnExactQuotientOfUptoRow : OpenClaim := { program := "ytmlbdlobdnhimab", sum := "7e49d7301681aad20a9cbd52b2cb3dd0a55d6b8eea9be6cd1b78d0bb7f61bc8f", func := "loop.example/residuatedtables/laws.FnExactQuotientOf", spec := "fnExactQuotientOf", unfollowed := true, recurses := true, apart := false, narrowed := true }
def FnExactQuotientOfUptoSaid : Prop := fnExactQuotientOfUptoRow.holds Try.pinned (OpenSpec.upto fnExactQuotientOfSpec)

/-- 'laws.FnExactChainsOf', WHERE WHAT IT READS IS OF BULK AT MOST 1048576: true; the input reads as it did. -/
def fnExactChainsOfUptoRow : OpenClaim := { program := "ytmlbdlobdnhimab", sum := "7e49d7301681aad20a9cbd52b2cb3dd0a55d6b8eea9be6cd1b78d0bb7f61bc8f", func := "loop.example/residuatedtables/laws.FnExactChainsOf", spec := "fnExactChainsOf", unfollowed := true, recurses := true, apart := false, narrowed := true }
def FnExactChainsOfUptoSaid : Prop := fnExactChainsOfUptoRow.holds Try.pinned (OpenSpec.upto fnExactChainsOfSpec)

/-- 'laws.FnExactChainCount', WHERE WHAT IT READS IS OF BULK AT MOST 1048576: true; the input reads as it did. -/
def fnExactChainCountUptoRow : OpenClaim := { program := "ytmlbdlobdnhimab", sum := "7e49d7301681aad20a9cbd52b2cb3dd0a55d6b8eea9be6cd1b78d0bb7f61bc8f", func := "loop.example/residuatedtables/laws.FnExactChainCount", spec := "fnExactChainCount", unfollowed := true, recurses := true, apart := false, narrowed := true }
def FnExactChainCountUptoSaid : Prop := fnExactChainCountUptoRow.holds Try.pinned (OpenSpec.upto fnExactChainCountSpec)

/-- 'laws.FnExactStackOfSums', WHERE WHAT IT READS IS OF BULK AT MOST 1048576: true; the input reads as it did. -/
def fnExactStackOfSumsUptoRow : OpenClaim := { program := "ytmlbdlobdnhimab", sum := "7e49d7301681aad20a9cbd52b2cb3dd0a55d6b8eea9be6cd1b78d0bb7f61bc8f", func := "loop.example/residuatedtables/laws.FnExactStackOfSums", spec := "fnExactStackOfSums", unfollowed := true, recurses := true, apart := false, narrowed := true }
def FnExactStackOfSumsUptoSaid : Prop := fnExactStackOfSumsUptoRow.holds Try.pinned (OpenSpec.upto fnExactStackOfSumsSpec)

/-- 'laws.FnExactSizesOf', WHERE WHAT IT READS IS OF BULK AT MOST 1048576: true; the input reads as it did. -/
def fnExactSizesOfUptoRow : OpenClaim := { program := "ytmlbdlobdnhimab", sum := "7e49d7301681aad20a9cbd52b2cb3dd0a55d6b8eea9be6cd1b78d0bb7f61bc8f", func := "loop.example/residuatedtables/laws.FnExactSizesOf", spec := "fnExactSizesOf", unfollowed := true, recurses := true, apart := false, narrowed := true }
def FnExactSizesOfUptoSaid : Prop := fnExactSizesOfUptoRow.holds Try.pinned (OpenSpec.upto fnExactSizesOfSpec)

/-- 'laws.FnSumChain', WHERE WHAT IT READS IS OF BULK AT MOST 1048576: true; the input reads as it did. -/
def fnSumChainUptoRow : OpenClaim := { program := "ytmlbdlobdnhimab", sum := "7e49d7301681aad20a9cbd52b2cb3dd0a55d6b8eea9be6cd1b78d0bb7f61bc8f", func := "loop.example/residuatedtables/laws.FnSumChain", spec := "fnSumChain", unfollowed := true, recurses := true, apart := false, narrowed := true }
def FnSumChainUptoSaid : Prop := fnSumChainUptoRow.holds Try.pinned (OpenSpec.upto fnSumChainSpec)

/-- 'laws.FnMeetAlgebra', WHERE WHAT IT READS IS OF BULK AT MOST 1048576: true; the input reads as it did. -/
def fnMeetAlgebraUptoRow : OpenClaim := { program := "ytmlbdlobdnhimab", sum := "7e49d7301681aad20a9cbd52b2cb3dd0a55d6b8eea9be6cd1b78d0bb7f61bc8f", func := "loop.example/residuatedtables/laws.FnMeetAlgebra", spec := "fnMeetAlgebra", unfollowed := true, recurses := true, apart := false, narrowed := true }
def FnMeetAlgebraUptoSaid : Prop := fnMeetAlgebraUptoRow.holds Try.pinned (OpenSpec.upto fnMeetAlgebraSpec)

/-- 'laws.FnIsDistributive', WHERE WHAT IT READS IS OF BULK AT MOST 1048576: true; the input reads as it did. -/
def fnIsDistributiveUptoRow : OpenClaim := { program := "ytmlbdlobdnhimab", sum := "7e49d7301681aad20a9cbd52b2cb3dd0a55d6b8eea9be6cd1b78d0bb7f61bc8f", func := "loop.example/residuatedtables/laws.FnIsDistributive", spec := "fnIsDistributive", unfollowed := true, recurses := true, apart := false, narrowed := true }
def FnIsDistributiveUptoSaid : Prop := fnIsDistributiveUptoRow.holds Try.pinned (OpenSpec.upto fnIsDistributiveSpec)

/-- 'laws.FnStackOfSums', WHERE WHAT IT READS IS OF BULK AT MOST 1048576: true; the input reads as it did. -/
def fnStackOfSumsUptoRow : OpenClaim := { program := "ytmlbdlobdnhimab", sum := "7e49d7301681aad20a9cbd52b2cb3dd0a55d6b8eea9be6cd1b78d0bb7f61bc8f", func := "loop.example/residuatedtables/laws.FnStackOfSums", spec := "fnStackOfSums", unfollowed := true, recurses := true, apart := false, narrowed := true }
def FnStackOfSumsUptoSaid : Prop := fnStackOfSumsUptoRow.holds Try.pinned (OpenSpec.upto fnStackOfSumsSpec)

end Rows
end Go.Proofs.Ytmlbdlobdnhimab
