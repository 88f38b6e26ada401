/-
  No cell of these rows narrows 'for every input' (looked for: loops, veiled, ifaces, maps, wideKeys, modest, calm, conditions, laid).
  DERIVED. THE GIVEN ROWS OF THIS SEAT. 8 by the template 'for every input the law returns true; each argument reads behind the call as it read before'; 0 by the template 'total and deterministic' (their statements: YtjcambkjcagcoaaTotals.lean).
  GIVEN WITH THE SEED: the statements are not yours to turn. If you find one false, say at which input.
  Laid BY PROGRAM, IN A SANDBOX (cutbox-rows.mjs): the forced cells as the released guide's own fill.sh prints them over the translation a6e6f8653b9c63cf… (all of the seat's roots in one cut). By AI agents, Wed Nov 11 2026. No macro, syntax, notation, axiom, sorry.
-/
import Derived.Test.YtjcambkjcagcoaaChecked
import GoSem.Claim
import GoSem.ClaimJoined
import GoSem.ClaimMapViews
import Derived.JoinedTies
import Derived.KernelRfl
namespace Go.Proofs.Ytjcambkjcagcoaa
/- THE CELL 'sum', in the pinned program and in every row, IS THE sha256 OF THE DUMP (.gsa) THAT YtjcambkjcagcoaaProg.lean LOADS. Nothing in Lean hashes anything: it is a label: what it is worth is what the hold of that sum in a sandbox is worth. -/
noncomputable def Try.pinned : Pinned := { name := "ytjcambkjcagcoaa", sum := "a6e6f8653b9c63cf110f4f43417c83dda119d713dbe4a830837a207061755e6d", checked := Try.checked }
namespace Rows
def none {H : Type} : Left H := { results := [], args := [] }

/-- 'laws.FnFixedBy': WHATEVER THE INPUT: true; the input reads as it did. -/
def fnFixedBySpec : ChangeSpec := { name := "fnFixedBy", fn := fun _ => fun
  | [d] => { results := [.lit (.bool true)], args := [d] }
  | _ => none }
def fnFixedByRow : OpenClaim := { program := "ytjcambkjcagcoaa", sum := "a6e6f8653b9c63cf110f4f43417c83dda119d713dbe4a830837a207061755e6d", func := "loop.example/residuatedtables/laws.FnFixedBy", spec := "fnFixedBy", unfollowed := true, recurses := true, apart := false }
def FnFixedBySaid : Prop := fnFixedByRow.holds Try.pinned (OpenSpec.ofChange fnFixedBySpec)

/-- ITS FALSE NEIGHBOUR: 'it returns false'. Refute it at one input. -/
def fnFixedByWrong : ChangeSpec := { name := "fnFixedBy", fn := fun _ => fun
  | [d] => { results := [.lit (.bool false)], args := [d] }
  | _ => none }
def FnFixedByWrongFalsely : Prop := fnFixedByRow.holds Try.pinned (OpenSpec.ofChange fnFixedByWrong)

/-- 'laws.FnExactQuotientOf': WHATEVER THE INPUT: true; the input reads as it did. -/
def fnExactQuotientOfSpec : ChangeSpec := { name := "fnExactQuotientOf", fn := fun _ => fun
  | [d1, d2] => { results := [.lit (.bool true)], args := [d1, d2] }
  | _ => none }
def fnExactQuotientOfRow : OpenClaim := { program := "ytjcambkjcagcoaa", sum := "a6e6f8653b9c63cf110f4f43417c83dda119d713dbe4a830837a207061755e6d", func := "loop.example/residuatedtables/laws.FnExactQuotientOf", spec := "fnExactQuotientOf", unfollowed := true, recurses := true, apart := false }
def FnExactQuotientOfSaid : Prop := fnExactQuotientOfRow.holds Try.pinned (OpenSpec.ofChange fnExactQuotientOfSpec)

/-- ITS FALSE NEIGHBOUR: 'it returns false'. Refute it at one input. -/
def fnExactQuotientOfWrong : ChangeSpec := { name := "fnExactQuotientOf", fn := fun _ => fun
  | [d1, d2] => { results := [.lit (.bool false)], args := [d1, d2] }
  | _ => none }
def FnExactQuotientOfWrongFalsely : Prop := fnExactQuotientOfRow.holds Try.pinned (OpenSpec.ofChange fnExactQuotientOfWrong)

/-- 'laws.FnQuotientOf': WHATEVER THE INPUT: true; the input reads as it did. -/
def fnQuotientOfSpec : ChangeSpec := { name := "fnQuotientOf", fn := fun _ => fun
  | [d] => { results := [.lit (.bool true)], args := [d] }
  | _ => none }
def fnQuotientOfRow : OpenClaim := { program := "ytjcambkjcagcoaa", sum := "a6e6f8653b9c63cf110f4f43417c83dda119d713dbe4a830837a207061755e6d", func := "loop.example/residuatedtables/laws.FnQuotientOf", spec := "fnQuotientOf", unfollowed := true, recurses := true, apart := false }
def FnQuotientOfSaid : Prop := fnQuotientOfRow.holds Try.pinned (OpenSpec.ofChange fnQuotientOfSpec)

/-- ITS FALSE NEIGHBOUR: 'it returns false'. Refute it at one input. -/
def fnQuotientOfWrong : ChangeSpec := { name := "fnQuotientOf", fn := fun _ => fun
  | [d] => { results := [.lit (.bool false)], args := [d] }
  | _ => none }
def FnQuotientOfWrongFalsely : Prop := fnQuotientOfRow.holds Try.pinned (OpenSpec.ofChange fnQuotientOfWrong)

/-- 'laws.FnExactGreatestFilters': WHATEVER THE INPUT: true; the input reads as it did. -/
def fnExactGreatestFiltersSpec : ChangeSpec := { name := "fnExactGreatestFilters", fn := fun _ => fun
  | [d] => { results := [.lit (.bool true)], args := [d] }
  | _ => none }
def fnExactGreatestFiltersRow : OpenClaim := { program := "ytjcambkjcagcoaa", sum := "a6e6f8653b9c63cf110f4f43417c83dda119d713dbe4a830837a207061755e6d", func := "loop.example/residuatedtables/laws.FnExactGreatestFilters", spec := "fnExactGreatestFilters", unfollowed := true, recurses := true, apart := false }
def FnExactGreatestFiltersSaid : Prop := fnExactGreatestFiltersRow.holds Try.pinned (OpenSpec.ofChange fnExactGreatestFiltersSpec)

/-- ITS FALSE NEIGHBOUR: 'it returns false'. Refute it at one input. -/
def fnExactGreatestFiltersWrong : ChangeSpec := { name := "fnExactGreatestFilters", fn := fun _ => fun
  | [d] => { results := [.lit (.bool false)], args := [d] }
  | _ => none }
def FnExactGreatestFiltersWrongFalsely : Prop := fnExactGreatestFiltersRow.holds Try.pinned (OpenSpec.ofChange fnExactGreatestFiltersWrong)

/-- 'laws.FnExactRadicalOf': WHATEVER THE INPUT: true; the input reads as it did. -/
def fnExactRadicalOfSpec : ChangeSpec := { name := "fnExactRadicalOf", fn := fun _ => fun
  | [d] => { results := [.lit (.bool true)], args := [d] }
  | _ => none }
def fnExactRadicalOfRow : OpenClaim := { program := "ytjcambkjcagcoaa", sum := "a6e6f8653b9c63cf110f4f43417c83dda119d713dbe4a830837a207061755e6d", func := "loop.example/residuatedtables/laws.FnExactRadicalOf", spec := "fnExactRadicalOf", unfollowed := true, recurses := true, apart := false }
def FnExactRadicalOfSaid : Prop := fnExactRadicalOfRow.holds Try.pinned (OpenSpec.ofChange fnExactRadicalOfSpec)

/-- ITS FALSE NEIGHBOUR: 'it returns false'. Refute it at one input. -/
def fnExactRadicalOfWrong : ChangeSpec := { name := "fnExactRadicalOf", fn := fun _ => fun
  | [d] => { results := [.lit (.bool false)], args := [d] }
  | _ => none }
def FnExactRadicalOfWrongFalsely : Prop := fnExactRadicalOfRow.holds Try.pinned (OpenSpec.ofChange fnExactRadicalOfWrong)

/-- 'laws.FnExactIsLocal': WHATEVER THE INPUT: true; the input reads as it did. -/
def fnExactIsLocalSpec : ChangeSpec := { name := "fnExactIsLocal", fn := fun _ => fun
  | [d] => { results := [.lit (.bool true)], args := [d] }
  | _ => none }
def fnExactIsLocalRow : OpenClaim := { program := "ytjcambkjcagcoaa", sum := "a6e6f8653b9c63cf110f4f43417c83dda119d713dbe4a830837a207061755e6d", func := "loop.example/residuatedtables/laws.FnExactIsLocal", spec := "fnExactIsLocal", unfollowed := true, recurses := true, apart := false }
def FnExactIsLocalSaid : Prop := fnExactIsLocalRow.holds Try.pinned (OpenSpec.ofChange fnExactIsLocalSpec)

/-- ITS FALSE NEIGHBOUR: 'it returns false'. Refute it at one input. -/
def fnExactIsLocalWrong : ChangeSpec := { name := "fnExactIsLocal", fn := fun _ => fun
  | [d] => { results := [.lit (.bool false)], args := [d] }
  | _ => none }
def FnExactIsLocalWrongFalsely : Prop := fnExactIsLocalRow.holds Try.pinned (OpenSpec.ofChange fnExactIsLocalWrong)

/-- 'laws.FnIsSimple': WHATEVER THE INPUT: true; the input reads as it did. -/
def fnIsSimpleSpec : ChangeSpec := { name := "fnIsSimple", fn := fun _ => fun
  | [d] => { results := [.lit (.bool true)], args := [d] }
  | _ => none }
def fnIsSimpleRow : OpenClaim := { program := "ytjcambkjcagcoaa", sum := "a6e6f8653b9c63cf110f4f43417c83dda119d713dbe4a830837a207061755e6d", func := "loop.example/residuatedtables/laws.FnIsSimple", spec := "fnIsSimple", unfollowed := true, recurses := true, apart := false }
def FnIsSimpleSaid : Prop := fnIsSimpleRow.holds Try.pinned (OpenSpec.ofChange fnIsSimpleSpec)

/-- ITS FALSE NEIGHBOUR: 'it returns false'. Refute it at one input. -/
def fnIsSimpleWrong : ChangeSpec := { name := "fnIsSimple", fn := fun _ => fun
  | [d] => { results := [.lit (.bool false)], args := [d] }
  | _ => none }
def FnIsSimpleWrongFalsely : Prop := fnIsSimpleRow.holds Try.pinned (OpenSpec.ofChange fnIsSimpleWrong)

/-- 'laws.FnStackAlgebras': WHATEVER THE INPUT: true; the input reads as it did. -/
def fnStackAlgebrasSpec : ChangeSpec := { name := "fnStackAlgebras", fn := fun _ => fun
  | [d] => { results := [.lit (.bool true)], args := [d] }
  | _ => none }
def fnStackAlgebrasRow : OpenClaim := { program := "ytjcambkjcagcoaa", sum := "a6e6f8653b9c63cf110f4f43417c83dda119d713dbe4a830837a207061755e6d", func := "loop.example/residuatedtables/laws.FnStackAlgebras", spec := "fnStackAlgebras", unfollowed := true, recurses := true, apart := false }
def FnStackAlgebrasSaid : Prop := fnStackAlgebrasRow.holds Try.pinned (OpenSpec.ofChange fnStackAlgebrasSpec)

/-- ITS FALSE NEIGHBOUR: 'it returns false'. Refute it at one input. -/
def fnStackAlgebrasWrong : ChangeSpec := { name := "fnStackAlgebras", fn := fun _ => fun
  | [d] => { results := [.lit (.bool false)], args := [d] }
  | _ => none }
def FnStackAlgebrasWrongFalsely : Prop := fnStackAlgebrasRow.holds Try.pinned (OpenSpec.ofChange fnStackAlgebrasWrong)

/- THE SECOND FORM. 'bulk': how many values and letters a reading holds, each counted each time it is reached (what is shared counts as often as it is met; a slice's spare places count too). A statement '..UptoSaid' is the law's where the arguments, and the package variables that the reading takes, are together of bulk at most 1048576: NARROWER than '..Said'. Prove '..Said' where nothing that the law and all that it calls make is longer than what came in: it says more and counts as full. Else prove '..UptoSaid'. A law counts once. -/
mutual
def uptoBulk {H : Type} : DataW H → Nat
  | .lit (.string bytes) => bytes.length + 1
  | .lit _ => 1
  | .nil => 1
  | .ptr d => uptoBulk d + 1
  | .slice elems spare => uptoBulkAll elems + uptoBulkAll spare + 1
  | .agg parts => uptoBulkAll parts + 1
  | .iface _ d => uptoBulk d + 1
  | .map entries => uptoBulkEntries entries + 1
  | .held _ => 1
def uptoBulkAll {H : Type} : List (DataW H) → Nat
  | [] => 0
  | d :: r => uptoBulk d + uptoBulkAll r
def uptoBulkEntries {H : Type} : List (Lit × DataW H) → Nat
  | [] => 0
  | x :: r => uptoBulkEntry x + uptoBulkEntries r
def uptoBulkEntry {H : Type} : Lit × DataW H → Nat
  | (.string bytes, d) => bytes.length + uptoBulk d + 1
  | (_, d) => uptoBulk d + 1
 end
def uptoSmall : (H : Type) → List (DataW H) → Bool := fun _ ds => decide (uptoBulkAll ds ≤ 1048576)
def OpenSpec.upto (s : _root_.Go.ChangeSpec) : _root_.Go.OpenSpec := { _root_.Go.OpenSpec.ofChange s with cond := some uptoSmall }

/-- 'laws.FnFixedBy', WHERE WHAT IT READS IS OF BULK AT MOST 1048576: true; the input reads as it did. -/
def fnFixedByUptoRow : OpenClaim := { program := "ytjcambkjcagcoaa", sum := "a6e6f8653b9c63cf110f4f43417c83dda119d713dbe4a830837a207061755e6d", func := "loop.example/residuatedtables/laws.FnFixedBy", spec := "fnFixedBy", unfollowed := true, recurses := true, apart := false, narrowed := true }
def FnFixedByUptoSaid : Prop := fnFixedByUptoRow.holds Try.pinned (OpenSpec.upto fnFixedBySpec)

/-- 'laws.FnExactQuotientOf', WHERE WHAT IT READS IS OF BULK AT MOST 1048576: true; the input reads as it did. -/
def fnExactQuotientOfUptoRow : OpenClaim := { program := "ytjcambkjcagcoaa", sum := "a6e6f8653b9c63cf110f4f43417c83dda119d713dbe4a830837a207061755e6d", func := "loop.example/residuatedtables/laws.FnExactQuotientOf", spec := "fnExactQuotientOf", unfollowed := true, recurses := true, apart := false, narrowed := true }
def FnExactQuotientOfUptoSaid : Prop := fnExactQuotientOfUptoRow.holds Try.pinned (OpenSpec.upto fnExactQuotientOfSpec)

/-- 'laws.FnQuotientOf', WHERE WHAT IT READS IS OF BULK AT MOST 1048576: true; the input reads as it did. -/
def fnQuotientOfUptoRow : OpenClaim := { program := "ytjcambkjcagcoaa", sum := "a6e6f8653b9c63cf110f4f43417c83dda119d713dbe4a830837a207061755e6d", func := "loop.example/residuatedtables/laws.FnQuotientOf", spec := "fnQuotientOf", unfollowed := true, recurses := true, apart := false, narrowed := true }
def FnQuotientOfUptoSaid : Prop := fnQuotientOfUptoRow.holds Try.pinned (OpenSpec.upto fnQuotientOfSpec)

/-- 'laws.FnExactGreatestFilters', WHERE WHAT IT READS IS OF BULK AT MOST 1048576: true; the input reads as it did. -/
def fnExactGreatestFiltersUptoRow : OpenClaim := { program := "ytjcambkjcagcoaa", sum := "a6e6f8653b9c63cf110f4f43417c83dda119d713dbe4a830837a207061755e6d", func := "loop.example/residuatedtables/laws.FnExactGreatestFilters", spec := "fnExactGreatestFilters", unfollowed := true, recurses := true, apart := false, narrowed := true }
def FnExactGreatestFiltersUptoSaid : Prop := fnExactGreatestFiltersUptoRow.holds Try.pinned (OpenSpec.upto fnExactGreatestFiltersSpec)

/-- 'laws.FnExactRadicalOf', WHERE WHAT IT READS IS OF BULK AT MOST 1048576: true; the input reads as it did. -/
def fnExactRadicalOfUptoRow : OpenClaim := { program := "ytjcambkjcagcoaa", sum := "a6e6f8653b9c63cf110f4f43417c83dda119d713dbe4a830837a207061755e6d", func := "loop.example/residuatedtables/laws.FnExactRadicalOf", spec := "fnExactRadicalOf", unfollowed := true, recurses := true, apart := false, narrowed := true }
def FnExactRadicalOfUptoSaid : Prop := fnExactRadicalOfUptoRow.holds Try.pinned (OpenSpec.upto fnExactRadicalOfSpec)

/-- 'laws.FnExactIsLocal', WHERE WHAT IT READS IS OF BULK AT MOST 1048576: true; the input reads as it did. -/
def fnExactIsLocalUptoRow : OpenClaim := { program := "ytjcambkjcagcoaa", sum := "a6e6f8653b9c63cf110f4f43417c83dda119d713dbe4a830837a207061755e6d", func := "loop.example/residuatedtables/laws.FnExactIsLocal", spec := "fnExactIsLocal", unfollowed := true, recurses := true, apart := false, narrowed := true }
def FnExactIsLocalUptoSaid : Prop := fnExactIsLocalUptoRow.holds Try.pinned (OpenSpec.upto fnExactIsLocalSpec)

/-- 'laws.FnIsSimple', WHERE WHAT IT READS IS OF BULK AT MOST 1048576: true; the input reads as it did. -/
def fnIsSimpleUptoRow : OpenClaim := { program := "ytjcambkjcagcoaa", sum := "a6e6f8653b9c63cf110f4f43417c83dda119d713dbe4a830837a207061755e6d", func := "loop.example/residuatedtables/laws.FnIsSimple", spec := "fnIsSimple", unfollowed := true, recurses := true, apart := false, narrowed := true }
def FnIsSimpleUptoSaid : Prop := fnIsSimpleUptoRow.holds Try.pinned (OpenSpec.upto fnIsSimpleSpec)

/-- 'laws.FnStackAlgebras', WHERE WHAT IT READS IS OF BULK AT MOST 1048576: true; the input reads as it did. -/
def fnStackAlgebrasUptoRow : OpenClaim := { program := "ytjcambkjcagcoaa", sum := "a6e6f8653b9c63cf110f4f43417c83dda119d713dbe4a830837a207061755e6d", func := "loop.example/residuatedtables/laws.FnStackAlgebras", spec := "fnStackAlgebras", unfollowed := true, recurses := true, apart := false, narrowed := true }
def FnStackAlgebrasUptoSaid : Prop := fnStackAlgebrasUptoRow.holds Try.pinned (OpenSpec.upto fnStackAlgebrasSpec)

end Rows
end Go.Proofs.Ytjcambkjcagcoaa
