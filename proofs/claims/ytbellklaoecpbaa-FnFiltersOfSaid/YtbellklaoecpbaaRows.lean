/-
  No cell of these rows narrows 'for every input' (looked for: loops, veiled, ifaces, maps, wideKeys, modest, calm, conditions, laid).
  DERIVED. THE GIVEN ROWS OF THIS SEAT. 12 by the template 'for every input the law returns true; each argument reads behind the call as it read before'; 0 by the template 'total and deterministic' (their statements: YtbellklaoecpbaaTotals.lean).
  GIVEN WITH THE SEED: the statements are not yours to turn. If you find one false, say at which input.
  Laid BY PROGRAM, IN A SANDBOX (cutbox-rows.mjs): the forced cells as the released guide's own fill.sh prints them over the translation 451dd7a249cad498… (all of the seat's roots in one cut). By AI agents, Wed Nov 11 2026. No macro, syntax, notation, axiom, sorry.
-/
import Derived.Test.YtbellklaoecpbaaChecked
import GoSem.Claim
import GoSem.ClaimJoined
import GoSem.ClaimMapViews
import Derived.JoinedTies
import Derived.KernelRfl
namespace Go.Proofs.Ytbellklaoecpbaa
/- THE CELL 'sum', in the pinned program and in every row, IS THE sha256 OF THE DUMP (.gsa) THAT YtbellklaoecpbaaProg.lean LOADS. Nothing in Lean hashes anything: it is a label: what it is worth is what the hold of that sum in a sandbox is worth. -/
noncomputable def Try.pinned : Pinned := { name := "ytbellklaoecpbaa", sum := "451dd7a249cad4986c674f56a4bcf0903d46c85cc9db68f26c4e5a0252215c01", checked := Try.checked }
namespace Rows
def none {H : Type} : Left H := { results := [], args := [] }

/-- 'laws.FnValidAlgebra': WHATEVER THE INPUT: true; the input reads as it did. -/
def fnValidAlgebraSpec : ChangeSpec := { name := "fnValidAlgebra", fn := fun _ => fun
  | [d] => { results := [.lit (.bool true)], args := [d] }
  | _ => none }
def fnValidAlgebraRow : OpenClaim := { program := "ytbellklaoecpbaa", sum := "451dd7a249cad4986c674f56a4bcf0903d46c85cc9db68f26c4e5a0252215c01", func := "loop.example/residuatedtables/laws.FnValidAlgebra", spec := "fnValidAlgebra", unfollowed := true, recurses := true, apart := false }
def FnValidAlgebraSaid : Prop := fnValidAlgebraRow.holds Try.pinned (OpenSpec.ofChange fnValidAlgebraSpec)

/-- ITS FALSE NEIGHBOUR: 'it returns false'. Refute it at one input. -/
def fnValidAlgebraWrong : ChangeSpec := { name := "fnValidAlgebra", fn := fun _ => fun
  | [d] => { results := [.lit (.bool false)], args := [d] }
  | _ => none }
def FnValidAlgebraWrongFalsely : Prop := fnValidAlgebraRow.holds Try.pinned (OpenSpec.ofChange fnValidAlgebraWrong)

/-- 'laws.FnImplyOf': WHATEVER THE INPUT: true; the input reads as it did. -/
def fnImplyOfSpec : ChangeSpec := { name := "fnImplyOf", fn := fun _ => fun
  | [d] => { results := [.lit (.bool true)], args := [d] }
  | _ => none }
def fnImplyOfRow : OpenClaim := { program := "ytbellklaoecpbaa", sum := "451dd7a249cad4986c674f56a4bcf0903d46c85cc9db68f26c4e5a0252215c01", func := "loop.example/residuatedtables/laws.FnImplyOf", spec := "fnImplyOf", unfollowed := true, recurses := true, apart := false }
def FnImplyOfSaid : Prop := fnImplyOfRow.holds Try.pinned (OpenSpec.ofChange fnImplyOfSpec)

/-- ITS FALSE NEIGHBOUR: 'it returns false'. Refute it at one input. -/
def fnImplyOfWrong : ChangeSpec := { name := "fnImplyOf", fn := fun _ => fun
  | [d] => { results := [.lit (.bool false)], args := [d] }
  | _ => none }
def FnImplyOfWrongFalsely : Prop := fnImplyOfRow.holds Try.pinned (OpenSpec.ofChange fnImplyOfWrong)

/-- 'laws.FnNotOf': WHATEVER THE INPUT: true; the input reads as it did. -/
def fnNotOfSpec : ChangeSpec := { name := "fnNotOf", fn := fun _ => fun
  | [d] => { results := [.lit (.bool true)], args := [d] }
  | _ => none }
def fnNotOfRow : OpenClaim := { program := "ytbellklaoecpbaa", sum := "451dd7a249cad4986c674f56a4bcf0903d46c85cc9db68f26c4e5a0252215c01", func := "loop.example/residuatedtables/laws.FnNotOf", spec := "fnNotOf", unfollowed := true, recurses := true, apart := false }
def FnNotOfSaid : Prop := fnNotOfRow.holds Try.pinned (OpenSpec.ofChange fnNotOfSpec)

/-- ITS FALSE NEIGHBOUR: 'it returns false'. Refute it at one input. -/
def fnNotOfWrong : ChangeSpec := { name := "fnNotOf", fn := fun _ => fun
  | [d] => { results := [.lit (.bool false)], args := [d] }
  | _ => none }
def FnNotOfWrongFalsely : Prop := fnNotOfRow.holds Try.pinned (OpenSpec.ofChange fnNotOfWrong)

/-- 'laws.FnNearOf': WHATEVER THE INPUT: true; the input reads as it did. -/
def fnNearOfSpec : ChangeSpec := { name := "fnNearOf", fn := fun _ => fun
  | [d] => { results := [.lit (.bool true)], args := [d] }
  | _ => none }
def fnNearOfRow : OpenClaim := { program := "ytbellklaoecpbaa", sum := "451dd7a249cad4986c674f56a4bcf0903d46c85cc9db68f26c4e5a0252215c01", func := "loop.example/residuatedtables/laws.FnNearOf", spec := "fnNearOf", unfollowed := true, recurses := true, apart := false }
def FnNearOfSaid : Prop := fnNearOfRow.holds Try.pinned (OpenSpec.ofChange fnNearOfSpec)

/-- ITS FALSE NEIGHBOUR: 'it returns false'. Refute it at one input. -/
def fnNearOfWrong : ChangeSpec := { name := "fnNearOf", fn := fun _ => fun
  | [d] => { results := [.lit (.bool false)], args := [d] }
  | _ => none }
def FnNearOfWrongFalsely : Prop := fnNearOfRow.holds Try.pinned (OpenSpec.ofChange fnNearOfWrong)

/-- 'laws.FnPowerOf': WHATEVER THE INPUT: true; the input reads as it did. -/
def fnPowerOfSpec : ChangeSpec := { name := "fnPowerOf", fn := fun _ => fun
  | [d] => { results := [.lit (.bool true)], args := [d] }
  | _ => none }
def fnPowerOfRow : OpenClaim := { program := "ytbellklaoecpbaa", sum := "451dd7a249cad4986c674f56a4bcf0903d46c85cc9db68f26c4e5a0252215c01", func := "loop.example/residuatedtables/laws.FnPowerOf", spec := "fnPowerOf", unfollowed := true, recurses := true, apart := false }
def FnPowerOfSaid : Prop := fnPowerOfRow.holds Try.pinned (OpenSpec.ofChange fnPowerOfSpec)

/-- ITS FALSE NEIGHBOUR: 'it returns false'. Refute it at one input. -/
def fnPowerOfWrong : ChangeSpec := { name := "fnPowerOf", fn := fun _ => fun
  | [d] => { results := [.lit (.bool false)], args := [d] }
  | _ => none }
def FnPowerOfWrongFalsely : Prop := fnPowerOfRow.holds Try.pinned (OpenSpec.ofChange fnPowerOfWrong)

/-- 'laws.FnHasProperty': WHATEVER THE INPUT: true; the input reads as it did. -/
def fnHasPropertySpec : ChangeSpec := { name := "fnHasProperty", fn := fun _ => fun
  | [d] => { results := [.lit (.bool true)], args := [d] }
  | _ => none }
def fnHasPropertyRow : OpenClaim := { program := "ytbellklaoecpbaa", sum := "451dd7a249cad4986c674f56a4bcf0903d46c85cc9db68f26c4e5a0252215c01", func := "loop.example/residuatedtables/laws.FnHasProperty", spec := "fnHasProperty", unfollowed := true, recurses := true, apart := false }
def FnHasPropertySaid : Prop := fnHasPropertyRow.holds Try.pinned (OpenSpec.ofChange fnHasPropertySpec)

/-- ITS FALSE NEIGHBOUR: 'it returns false'. Refute it at one input. -/
def fnHasPropertyWrong : ChangeSpec := { name := "fnHasProperty", fn := fun _ => fun
  | [d] => { results := [.lit (.bool false)], args := [d] }
  | _ => none }
def FnHasPropertyWrongFalsely : Prop := fnHasPropertyRow.holds Try.pinned (OpenSpec.ofChange fnHasPropertyWrong)

/-- 'laws.FnFixedOf': WHATEVER THE INPUT: true; the input reads as it did. -/
def fnFixedOfSpec : ChangeSpec := { name := "fnFixedOf", fn := fun _ => fun
  | [d] => { results := [.lit (.bool true)], args := [d] }
  | _ => none }
def fnFixedOfRow : OpenClaim := { program := "ytbellklaoecpbaa", sum := "451dd7a249cad4986c674f56a4bcf0903d46c85cc9db68f26c4e5a0252215c01", func := "loop.example/residuatedtables/laws.FnFixedOf", spec := "fnFixedOf", unfollowed := true, recurses := true, apart := false }
def FnFixedOfSaid : Prop := fnFixedOfRow.holds Try.pinned (OpenSpec.ofChange fnFixedOfSpec)

/-- ITS FALSE NEIGHBOUR: 'it returns false'. Refute it at one input. -/
def fnFixedOfWrong : ChangeSpec := { name := "fnFixedOf", fn := fun _ => fun
  | [d] => { results := [.lit (.bool false)], args := [d] }
  | _ => none }
def FnFixedOfWrongFalsely : Prop := fnFixedOfRow.holds Try.pinned (OpenSpec.ofChange fnFixedOfWrong)

/-- 'laws.FnSharpOf': WHATEVER THE INPUT: true; the input reads as it did. -/
def fnSharpOfSpec : ChangeSpec := { name := "fnSharpOf", fn := fun _ => fun
  | [d] => { results := [.lit (.bool true)], args := [d] }
  | _ => none }
def fnSharpOfRow : OpenClaim := { program := "ytbellklaoecpbaa", sum := "451dd7a249cad4986c674f56a4bcf0903d46c85cc9db68f26c4e5a0252215c01", func := "loop.example/residuatedtables/laws.FnSharpOf", spec := "fnSharpOf", unfollowed := true, recurses := true, apart := false }
def FnSharpOfSaid : Prop := fnSharpOfRow.holds Try.pinned (OpenSpec.ofChange fnSharpOfSpec)

/-- ITS FALSE NEIGHBOUR: 'it returns false'. Refute it at one input. -/
def fnSharpOfWrong : ChangeSpec := { name := "fnSharpOf", fn := fun _ => fun
  | [d] => { results := [.lit (.bool false)], args := [d] }
  | _ => none }
def FnSharpOfWrongFalsely : Prop := fnSharpOfRow.holds Try.pinned (OpenSpec.ofChange fnSharpOfWrong)

/-- 'laws.FnDepthOf': WHATEVER THE INPUT: true; the input reads as it did. -/
def fnDepthOfSpec : ChangeSpec := { name := "fnDepthOf", fn := fun _ => fun
  | [d] => { results := [.lit (.bool true)], args := [d] }
  | _ => none }
def fnDepthOfRow : OpenClaim := { program := "ytbellklaoecpbaa", sum := "451dd7a249cad4986c674f56a4bcf0903d46c85cc9db68f26c4e5a0252215c01", func := "loop.example/residuatedtables/laws.FnDepthOf", spec := "fnDepthOf", unfollowed := true, recurses := true, apart := false }
def FnDepthOfSaid : Prop := fnDepthOfRow.holds Try.pinned (OpenSpec.ofChange fnDepthOfSpec)

/-- ITS FALSE NEIGHBOUR: 'it returns false'. Refute it at one input. -/
def fnDepthOfWrong : ChangeSpec := { name := "fnDepthOf", fn := fun _ => fun
  | [d] => { results := [.lit (.bool false)], args := [d] }
  | _ => none }
def FnDepthOfWrongFalsely : Prop := fnDepthOfRow.holds Try.pinned (OpenSpec.ofChange fnDepthOfWrong)

/-- 'laws.FnIsFilter': WHATEVER THE INPUT: true; the input reads as it did. -/
def fnIsFilterSpec : ChangeSpec := { name := "fnIsFilter", fn := fun _ => fun
  | [d] => { results := [.lit (.bool true)], args := [d] }
  | _ => none }
def fnIsFilterRow : OpenClaim := { program := "ytbellklaoecpbaa", sum := "451dd7a249cad4986c674f56a4bcf0903d46c85cc9db68f26c4e5a0252215c01", func := "loop.example/residuatedtables/laws.FnIsFilter", spec := "fnIsFilter", unfollowed := true, recurses := true, apart := false }
def FnIsFilterSaid : Prop := fnIsFilterRow.holds Try.pinned (OpenSpec.ofChange fnIsFilterSpec)

/-- ITS FALSE NEIGHBOUR: 'it returns false'. Refute it at one input. -/
def fnIsFilterWrong : ChangeSpec := { name := "fnIsFilter", fn := fun _ => fun
  | [d] => { results := [.lit (.bool false)], args := [d] }
  | _ => none }
def FnIsFilterWrongFalsely : Prop := fnIsFilterRow.holds Try.pinned (OpenSpec.ofChange fnIsFilterWrong)

/-- 'laws.FnFiltersOf': WHATEVER THE INPUT: true; the input reads as it did. -/
def fnFiltersOfSpec : ChangeSpec := { name := "fnFiltersOf", fn := fun _ => fun
  | [d] => { results := [.lit (.bool true)], args := [d] }
  | _ => none }
def fnFiltersOfRow : OpenClaim := { program := "ytbellklaoecpbaa", sum := "451dd7a249cad4986c674f56a4bcf0903d46c85cc9db68f26c4e5a0252215c01", func := "loop.example/residuatedtables/laws.FnFiltersOf", spec := "fnFiltersOf", unfollowed := true, recurses := true, apart := false }
def FnFiltersOfSaid : Prop := fnFiltersOfRow.holds Try.pinned (OpenSpec.ofChange fnFiltersOfSpec)

/-- ITS FALSE NEIGHBOUR: 'it returns false'. Refute it at one input. -/
def fnFiltersOfWrong : ChangeSpec := { name := "fnFiltersOf", fn := fun _ => fun
  | [d] => { results := [.lit (.bool false)], args := [d] }
  | _ => none }
def FnFiltersOfWrongFalsely : Prop := fnFiltersOfRow.holds Try.pinned (OpenSpec.ofChange fnFiltersOfWrong)

/-- 'laws.FnFilterBy': WHATEVER THE INPUT: true; the input reads as it did. -/
def fnFilterBySpec : ChangeSpec := { name := "fnFilterBy", fn := fun _ => fun
  | [d] => { results := [.lit (.bool true)], args := [d] }
  | _ => none }
def fnFilterByRow : OpenClaim := { program := "ytbellklaoecpbaa", sum := "451dd7a249cad4986c674f56a4bcf0903d46c85cc9db68f26c4e5a0252215c01", func := "loop.example/residuatedtables/laws.FnFilterBy", spec := "fnFilterBy", unfollowed := true, recurses := true, apart := false }
def FnFilterBySaid : Prop := fnFilterByRow.holds Try.pinned (OpenSpec.ofChange fnFilterBySpec)

/-- ITS FALSE NEIGHBOUR: 'it returns false'. Refute it at one input. -/
def fnFilterByWrong : ChangeSpec := { name := "fnFilterBy", fn := fun _ => fun
  | [d] => { results := [.lit (.bool false)], args := [d] }
  | _ => none }
def FnFilterByWrongFalsely : Prop := fnFilterByRow.holds Try.pinned (OpenSpec.ofChange fnFilterByWrong)

/- THE SECOND FORM. 'bulk': how many values and letters a reading holds, each counted each time it is reached (what is shared counts as often as it is met; a slice's spare places count too). A statement '..UptoSaid' is the law's where the arguments, and the package variables that the reading takes, are together of bulk at most 1048576: NARROWER than '..Said'. Prove '..Said' where nothing that the law and all that it calls make is longer than what came in: it says more and counts as full. Else prove '..UptoSaid'. A law counts once. -/
mutual
def uptoBulk {H : Type} : DataW H → Nat
  | .lit (.string bytes) => bytes.length + 1
  | .lit _ => 1
  | .nil => 1
  | .ptr d => uptoBulk d + 1
  | .slice elems spare => uptoBulkAll elems + uptoBulkAll spare + 1
  | .agg parts => uptoBulkAll parts + 1
  | .iface _ d => uptoBulk d + 1
  | .map entries => uptoBulkEntries entries + 1
  | .held _ => 1
def uptoBulkAll {H : Type} : List (DataW H) → Nat
  | [] => 0
  | d :: r => uptoBulk d + uptoBulkAll r
def uptoBulkEntries {H : Type} : List (Lit × DataW H) → Nat
  | [] => 0
  | x :: r => uptoBulkEntry x + uptoBulkEntries r
def uptoBulkEntry {H : Type} : Lit × DataW H → Nat
  | (.string bytes, d) => bytes.length + uptoBulk d + 1
  | (_, d) => uptoBulk d + 1
 end
def uptoSmall : (H : Type) → List (DataW H) → Bool := fun _ ds => decide (uptoBulkAll ds ≤ 1048576)
def OpenSpec.upto (s : _root_.Go.ChangeSpec) : _root_.Go.OpenSpec := { _root_.Go.OpenSpec.ofChange s with cond := some uptoSmall }

/-- 'laws.FnValidAlgebra', WHERE WHAT IT READS IS OF BULK AT MOST 1048576: true; the input reads as it did. -/
def fnValidAlgebraUptoRow : OpenClaim := { program := "ytbellklaoecpbaa", sum := "451dd7a249cad4986c674f56a4bcf0903d46c85cc9db68f26c4e5a0252215c01", func := "loop.example/residuatedtables/laws.FnValidAlgebra", spec := "fnValidAlgebra", unfollowed := true, recurses := true, apart := false, narrowed := true }
def FnValidAlgebraUptoSaid : Prop := fnValidAlgebraUptoRow.holds Try.pinned (OpenSpec.upto fnValidAlgebraSpec)

/-- 'laws.FnImplyOf', WHERE WHAT IT READS IS OF BULK AT MOST 1048576: true; the input reads as it did. -/
def fnImplyOfUptoRow : OpenClaim := { program := "ytbellklaoecpbaa", sum := "451dd7a249cad4986c674f56a4bcf0903d46c85cc9db68f26c4e5a0252215c01", func := "loop.example/residuatedtables/laws.FnImplyOf", spec := "fnImplyOf", unfollowed := true, recurses := true, apart := false, narrowed := true }
def FnImplyOfUptoSaid : Prop := fnImplyOfUptoRow.holds Try.pinned (OpenSpec.upto fnImplyOfSpec)

/-- 'laws.FnNotOf', WHERE WHAT IT READS IS OF BULK AT MOST 1048576: true; the input reads as it did. -/
def fnNotOfUptoRow : OpenClaim := { program := "ytbellklaoecpbaa", sum := "451dd7a249cad4986c674f56a4bcf0903d46c85cc9db68f26c4e5a0252215c01", func := "loop.example/residuatedtables/laws.FnNotOf", spec := "fnNotOf", unfollowed := true, recurses := true, apart := false, narrowed := true }
def FnNotOfUptoSaid : Prop := fnNotOfUptoRow.holds Try.pinned (OpenSpec.upto fnNotOfSpec)

/-- 'laws.FnNearOf', WHERE WHAT IT READS IS OF BULK AT MOST 1048576: true; the input reads as it did. -/
def fnNearOfUptoRow : OpenClaim := { program := "ytbellklaoecpbaa", sum := "451dd7a249cad4986c674f56a4bcf0903d46c85cc9db68f26c4e5a0252215c01", func := "loop.example/residuatedtables/laws.FnNearOf", spec := "fnNearOf", unfollowed := true, recurses := true, apart := false, narrowed := true }
def FnNearOfUptoSaid : Prop := fnNearOfUptoRow.holds Try.pinned (OpenSpec.upto fnNearOfSpec)

/-- 'laws.FnPowerOf', WHERE WHAT IT READS IS OF BULK AT MOST 1048576: true; the input reads as it did. -/
def fnPowerOfUptoRow : OpenClaim := { program := "ytbellklaoecpbaa", sum := "451dd7a249cad4986c674f56a4bcf0903d46c85cc9db68f26c4e5a0252215c01", func := "loop.example/residuatedtables/laws.FnPowerOf", spec := "fnPowerOf", unfollowed := true, recurses := true, apart := false, narrowed := true }
def FnPowerOfUptoSaid : Prop := fnPowerOfUptoRow.holds Try.pinned (OpenSpec.upto fnPowerOfSpec)

/-- 'laws.FnHasProperty', WHERE WHAT IT READS IS OF BULK AT MOST 1048576: true; the input reads as it did. -/
def fnHasPropertyUptoRow : OpenClaim := { program := "ytbellklaoecpbaa", sum := "451dd7a249cad4986c674f56a4bcf0903d46c85cc9db68f26c4e5a0252215c01", func := "loop.example/residuatedtables/laws.FnHasProperty", spec := "fnHasProperty", unfollowed := true, recurses := true, apart := false, narrowed := true }
def FnHasPropertyUptoSaid : Prop := fnHasPropertyUptoRow.holds Try.pinned (OpenSpec.upto fnHasPropertySpec)

/-- 'laws.FnFixedOf', WHERE WHAT IT READS IS OF BULK AT MOST 1048576: true; the input reads as it did. -/
def fnFixedOfUptoRow : OpenClaim := { program := "ytbellklaoecpbaa", sum := "451dd7a249cad4986c674f56a4bcf0903d46c85cc9db68f26c4e5a0252215c01", func := "loop.example/residuatedtables/laws.FnFixedOf", spec := "fnFixedOf", unfollowed := true, recurses := true, apart := false, narrowed := true }
def FnFixedOfUptoSaid : Prop := fnFixedOfUptoRow.holds Try.pinned (OpenSpec.upto fnFixedOfSpec)

/-- 'laws.FnSharpOf', WHERE WHAT IT READS IS OF BULK AT MOST 1048576: true; the input reads as it did. -/
def fnSharpOfUptoRow : OpenClaim := { program := "ytbellklaoecpbaa", sum := "451dd7a249cad4986c674f56a4bcf0903d46c85cc9db68f26c4e5a0252215c01", func := "loop.example/residuatedtables/laws.FnSharpOf", spec := "fnSharpOf", unfollowed := true, recurses := true, apart := false, narrowed := true }
def FnSharpOfUptoSaid : Prop := fnSharpOfUptoRow.holds Try.pinned (OpenSpec.upto fnSharpOfSpec)

/-- 'laws.FnDepthOf', WHERE WHAT IT READS IS OF BULK AT MOST 1048576: true; the input reads as it did. -/
def fnDepthOfUptoRow : OpenClaim := { program := "ytbellklaoecpbaa", sum := "451dd7a249cad4986c674f56a4bcf0903d46c85cc9db68f26c4e5a0252215c01", func := "loop.example/residuatedtables/laws.FnDepthOf", spec := "fnDepthOf", unfollowed := true, recurses := true, apart := false, narrowed := true }
def FnDepthOfUptoSaid : Prop := fnDepthOfUptoRow.holds Try.pinned (OpenSpec.upto fnDepthOfSpec)

/-- 'laws.FnIsFilter', WHERE WHAT IT READS IS OF BULK AT MOST 1048576: true; the input reads as it did. -/
def fnIsFilterUptoRow : OpenClaim := { program := "ytbellklaoecpbaa", sum := "451dd7a249cad4986c674f56a4bcf0903d46c85cc9db68f26c4e5a0252215c01", func := "loop.example/residuatedtables/laws.FnIsFilter", spec := "fnIsFilter", unfollowed := true, recurses := true, apart := false, narrowed := true }
def FnIsFilterUptoSaid : Prop := fnIsFilterUptoRow.holds Try.pinned (OpenSpec.upto fnIsFilterSpec)

/-- 'laws.FnFiltersOf', WHERE WHAT IT READS IS OF BULK AT MOST 1048576: true; the input reads as it did. -/
def fnFiltersOfUptoRow : OpenClaim := { program := "ytbellklaoecpbaa", sum := "451dd7a249cad4986c674f56a4bcf0903d46c85cc9db68f26c4e5a0252215c01", func := "loop.example/residuatedtables/laws.FnFiltersOf", spec := "fnFiltersOf", unfollowed := true, recurses := true, apart := false, narrowed := true }
def FnFiltersOfUptoSaid : Prop := fnFiltersOfUptoRow.holds Try.pinned (OpenSpec.upto fnFiltersOfSpec)

/-- 'laws.FnFilterBy', WHERE WHAT IT READS IS OF BULK AT MOST 1048576: true; the input reads as it did. -/
def fnFilterByUptoRow : OpenClaim := { program := "ytbellklaoecpbaa", sum := "451dd7a249cad4986c674f56a4bcf0903d46c85cc9db68f26c4e5a0252215c01", func := "loop.example/residuatedtables/laws.FnFilterBy", spec := "fnFilterBy", unfollowed := true, recurses := true, apart := false, narrowed := true }
def FnFilterByUptoSaid : Prop := fnFilterByUptoRow.holds Try.pinned (OpenSpec.upto fnFilterBySpec)

end Rows
end Go.Proofs.Ytbellklaoecpbaa
