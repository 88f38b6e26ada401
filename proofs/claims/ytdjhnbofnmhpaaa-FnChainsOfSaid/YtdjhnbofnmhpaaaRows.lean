/-
  No cell of these rows narrows 'for every input' (looked for: loops, veiled, ifaces, maps, wideKeys, modest, calm, conditions, laid).
  DERIVED. THE GIVEN ROWS OF THIS SEAT. 4 by the template 'for every input the law returns true; each argument reads behind the call as it read before'; 0 by the template 'total and deterministic' (their statements: YtdjhnbofnmhpaaaTotals.lean).
  GIVEN WITH THE SEED: the statements are not yours to turn. If you find one false, say at which input.
  Laid BY PROGRAM, IN A SANDBOX (cutbox-rows.mjs): the forced cells as the released guide's own fill.sh prints them over the translation 3a941f3c77fd350b… (all of the seat's roots in one cut). By AI agents, Wed Nov 11 2026. No macro, syntax, notation, axiom, sorry.
-/
import Derived.Test.YtdjhnbofnmhpaaaChecked
import GoSem.Claim
import GoSem.ClaimJoined
import GoSem.ClaimMapViews
import Derived.JoinedTies
import Derived.KernelRfl
namespace Go.Proofs.Ytdjhnbofnmhpaaa
/- THE CELL 'sum', in the pinned program and in every row, IS THE sha256 OF THE DUMP (.gsa) THAT YtdjhnbofnmhpaaaProg.lean LOADS. Nothing in Lean hashes anything: it is a label: what it is worth is what the hold of that sum in a sandbox is worth. -/
noncomputable def Try.pinned : Pinned := { name := "ytdjhnbofnmhpaaa", sum := "3a941f3c77fd350b9a7a198a93eaf113aa7eb46ff68cad6cbf132e9b1dd8b53a", checked := Try.checked }
namespace Rows
def none {H : Type} : Left H := { results := [], args := [] }

/-- 'laws.FnExactChainsOf': WHATEVER THE INPUT: true; the input reads as it did. -/
def fnExactChainsOfSpec : ChangeSpec := { name := "fnExactChainsOf", fn := fun _ => fun
  | [d] => { results := [.lit (.bool true)], args := [d] }
  | _ => none }
def fnExactChainsOfRow : OpenClaim := { program := "ytdjhnbofnmhpaaa", sum := "3a941f3c77fd350b9a7a198a93eaf113aa7eb46ff68cad6cbf132e9b1dd8b53a", func := "loop.example/residuatedtables/laws.FnExactChainsOf", spec := "fnExactChainsOf", unfollowed := true, recurses := true, apart := false }
def FnExactChainsOfSaid : Prop := fnExactChainsOfRow.holds Try.pinned (OpenSpec.ofChange fnExactChainsOfSpec)

/-- ITS FALSE NEIGHBOUR: 'it returns false'. Refute it at one input. -/
def fnExactChainsOfWrong : ChangeSpec := { name := "fnExactChainsOf", fn := fun _ => fun
  | [d] => { results := [.lit (.bool false)], args := [d] }
  | _ => none }
def FnExactChainsOfWrongFalsely : Prop := fnExactChainsOfRow.holds Try.pinned (OpenSpec.ofChange fnExactChainsOfWrong)

/-- 'laws.FnExactChainCount': WHATEVER THE INPUT: true; the input reads as it did. -/
def fnExactChainCountSpec : ChangeSpec := { name := "fnExactChainCount", fn := fun _ => fun
  | [d1, d2] => { results := [.lit (.bool true)], args := [d1, d2] }
  | _ => none }
def fnExactChainCountRow : OpenClaim := { program := "ytdjhnbofnmhpaaa", sum := "3a941f3c77fd350b9a7a198a93eaf113aa7eb46ff68cad6cbf132e9b1dd8b53a", func := "loop.example/residuatedtables/laws.FnExactChainCount", spec := "fnExactChainCount", unfollowed := true, recurses := true, apart := false }
def FnExactChainCountSaid : Prop := fnExactChainCountRow.holds Try.pinned (OpenSpec.ofChange fnExactChainCountSpec)

/-- ITS FALSE NEIGHBOUR: 'it returns false'. Refute it at one input. -/
def fnExactChainCountWrong : ChangeSpec := { name := "fnExactChainCount", fn := fun _ => fun
  | [d1, d2] => { results := [.lit (.bool false)], args := [d1, d2] }
  | _ => none }
def FnExactChainCountWrongFalsely : Prop := fnExactChainCountRow.holds Try.pinned (OpenSpec.ofChange fnExactChainCountWrong)

/-- 'laws.FnChainCount': WHATEVER THE INPUT: true; the input reads as it did. -/
def fnChainCountSpec : ChangeSpec := { name := "fnChainCount", fn := fun _ => fun
  | [d] => { results := [.lit (.bool true)], args := [d] }
  | _ => none }
def fnChainCountRow : OpenClaim := { program := "ytdjhnbofnmhpaaa", sum := "3a941f3c77fd350b9a7a198a93eaf113aa7eb46ff68cad6cbf132e9b1dd8b53a", func := "loop.example/residuatedtables/laws.FnChainCount", spec := "fnChainCount", unfollowed := true, recurses := true, apart := false }
def FnChainCountSaid : Prop := fnChainCountRow.holds Try.pinned (OpenSpec.ofChange fnChainCountSpec)

/-- ITS FALSE NEIGHBOUR: 'it returns false'. Refute it at one input. -/
def fnChainCountWrong : ChangeSpec := { name := "fnChainCount", fn := fun _ => fun
  | [d] => { results := [.lit (.bool false)], args := [d] }
  | _ => none }
def FnChainCountWrongFalsely : Prop := fnChainCountRow.holds Try.pinned (OpenSpec.ofChange fnChainCountWrong)

/-- 'laws.FnChainsOf': WHATEVER THE INPUT: true; the input reads as it did. -/
def fnChainsOfSpec : ChangeSpec := { name := "fnChainsOf", fn := fun _ => fun
  | [d] => { results := [.lit (.bool true)], args := [d] }
  | _ => none }
def fnChainsOfRow : OpenClaim := { program := "ytdjhnbofnmhpaaa", sum := "3a941f3c77fd350b9a7a198a93eaf113aa7eb46ff68cad6cbf132e9b1dd8b53a", func := "loop.example/residuatedtables/laws.FnChainsOf", spec := "fnChainsOf", unfollowed := true, recurses := true, apart := false }
def FnChainsOfSaid : Prop := fnChainsOfRow.holds Try.pinned (OpenSpec.ofChange fnChainsOfSpec)

/-- ITS FALSE NEIGHBOUR: 'it returns false'. Refute it at one input. -/
def fnChainsOfWrong : ChangeSpec := { name := "fnChainsOf", fn := fun _ => fun
  | [d] => { results := [.lit (.bool false)], args := [d] }
  | _ => none }
def FnChainsOfWrongFalsely : Prop := fnChainsOfRow.holds Try.pinned (OpenSpec.ofChange fnChainsOfWrong)

/- THE SECOND FORM. 'bulk': how many values and letters a reading holds, each counted each time it is reached (what is shared counts as often as it is met; a slice's spare places count too). A statement '..UptoSaid' is the law's where the arguments, and the package variables that the reading takes, are together of bulk at most 1048576: NARROWER than '..Said'. Prove '..Said' where nothing that the law and all that it calls make is longer than what came in: it says more and counts as full. Else prove '..UptoSaid'. A law counts once. -/
mutual
def uptoBulk {H : Type} : DataW H → Nat
  | .lit (.string bytes) => bytes.length + 1
  | .lit _ => 1
  | .nil => 1
  | .ptr d => uptoBulk d + 1
  | .slice elems spare => uptoBulkAll elems + uptoBulkAll spare + 1
  | .agg parts => uptoBulkAll parts + 1
  | .iface _ d => uptoBulk d + 1
  | .map entries => uptoBulkEntries entries + 1
  | .held _ => 1
def uptoBulkAll {H : Type} : List (DataW H) → Nat
  | [] => 0
  | d :: r => uptoBulk d + uptoBulkAll r
def uptoBulkEntries {H : Type} : List (Lit × DataW H) → Nat
  | [] => 0
  | x :: r => uptoBulkEntry x + uptoBulkEntries r
def uptoBulkEntry {H : Type} : Lit × DataW H → Nat
  | (.string bytes, d) => bytes.length + uptoBulk d + 1
  | (_, d) => uptoBulk d + 1
 end
def uptoSmall : (H : Type) → List (DataW H) → Bool := fun _ ds => decide (uptoBulkAll ds ≤ 1048576)
def OpenSpec.upto (s : _root_.Go.ChangeSpec) : _root_.Go.OpenSpec := { _root_.Go.OpenSpec.ofChange s with cond := some uptoSmall }

/-- 'laws.FnExactChainsOf', WHERE WHAT IT READS IS OF BULK AT MOST 1048576: true; the input reads as it did. -/
def fnExactChainsOfUptoRow : OpenClaim := { program := "ytdjhnbofnmhpaaa", sum := "3a941f3c77fd350b9a7a198a93eaf113aa7eb46ff68cad6cbf132e9b1dd8b53a", func := "loop.example/residuatedtables/laws.FnExactChainsOf", spec := "fnExactChainsOf", unfollowed := true, recurses := true, apart := false, narrowed := true }
def FnExactChainsOfUptoSaid : Prop := fnExactChainsOfUptoRow.holds Try.pinned (OpenSpec.upto fnExactChainsOfSpec)

/-- 'laws.FnExactChainCount', WHERE WHAT IT READS IS OF BULK AT MOST 1048576: true; the input reads as it did. -/
def fnExactChainCountUptoRow : OpenClaim := { program := "ytdjhnbofnmhpaaa", sum := "3a941f3c77fd350b9a7a198a93eaf113aa7eb46ff68cad6cbf132e9b1dd8b53a", func := "loop.example/residuatedtables/laws.FnExactChainCount", spec := "fnExactChainCount", unfollowed := true, recurses := true, apart := false, narrowed := true }
def FnExactChainCountUptoSaid : Prop := fnExactChainCountUptoRow.holds Try.pinned (OpenSpec.upto fnExactChainCountSpec)

/-- 'laws.FnChainCount', WHERE WHAT IT READS IS OF BULK AT MOST 1048576: true; the input reads as it did. -/
def fnChainCountUptoRow : OpenClaim := { program := "ytdjhnbofnmhpaaa", sum := "3a941f3c77fd350b9a7a198a93eaf113aa7eb46ff68cad6cbf132e9b1dd8b53a", func := "loop.example/residuatedtables/laws.FnChainCount", spec := "fnChainCount", unfollowed := true, recurses := true, apart := false, narrowed := true }
def FnChainCountUptoSaid : Prop := fnChainCountUptoRow.holds Try.pinned (OpenSpec.upto fnChainCountSpec)

/-- 'laws.FnChainsOf', WHERE WHAT IT READS IS OF BULK AT MOST 1048576: true; the input reads as it did. -/
def fnChainsOfUptoRow : OpenClaim := { program := "ytdjhnbofnmhpaaa", sum := "3a941f3c77fd350b9a7a198a93eaf113aa7eb46ff68cad6cbf132e9b1dd8b53a", func := "loop.example/residuatedtables/laws.FnChainsOf", spec := "fnChainsOf", unfollowed := true, recurses := true, apart := false, narrowed := true }
def FnChainsOfUptoSaid : Prop := fnChainsOfUptoRow.holds Try.pinned (OpenSpec.upto fnChainsOfSpec)

end Rows
end Go.Proofs.Ytdjhnbofnmhpaaa
