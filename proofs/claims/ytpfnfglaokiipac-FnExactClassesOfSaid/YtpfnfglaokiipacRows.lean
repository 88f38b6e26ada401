/-
  No cell of these rows narrows 'for every input' (looked for: loops, veiled, ifaces, maps, wideKeys, modest, calm, conditions, laid).
  DERIVED. THE GIVEN ROWS OF THIS SEAT. 12 by the template 'for every input the law returns true; each argument reads behind the call as it read before'; 0 by the template 'total and deterministic' (their statements: YtpfnfglaokiipacTotals.lean).
  GIVEN WITH THE SEED: the statements are not yours to turn. If you find one false, say at which input.
  Laid BY PROGRAM, IN A SANDBOX (cutbox-rows.mjs): the forced cells as the released guide's own fill.sh prints them over the translation 4f8735708f9e5914… (all of the seat's roots in one cut). By AI agents, Wed Nov 11 2026. No macro, syntax, notation, axiom, sorry.
-/
import Derived.Test.YtpfnfglaokiipacChecked
import GoSem.Claim
import GoSem.ClaimJoined
import GoSem.ClaimMapViews
import Derived.JoinedTies
import Derived.KernelRfl
namespace Go.Proofs.Ytpfnfglaokiipac
/- THE CELL 'sum', in the pinned program and in every row, IS THE sha256 OF THE DUMP (.gsa) THAT YtpfnfglaokiipacProg.lean LOADS. Nothing in Lean hashes anything: it is a label: what it is worth is what the hold of that sum in a sandbox is worth. -/
noncomputable def Try.pinned : Pinned := { name := "ytpfnfglaokiipac", sum := "4f8735708f9e5914a21eb0f1aa78fd76794bd1172ded0859955e95e0345fbc79", checked := Try.checked }
namespace Rows
def none {H : Type} : Left H := { results := [], args := [] }

/-- 'laws.FnExactCrossAlgebras': WHATEVER THE INPUT: true; the input reads as it did. -/
def fnExactCrossAlgebrasSpec : ChangeSpec := { name := "fnExactCrossAlgebras", fn := fun _ => fun
  | [d1, d2] => { results := [.lit (.bool true)], args := [d1, d2] }
  | _ => none }
def fnExactCrossAlgebrasRow : OpenClaim := { program := "ytpfnfglaokiipac", sum := "4f8735708f9e5914a21eb0f1aa78fd76794bd1172ded0859955e95e0345fbc79", func := "loop.example/residuatedtables/laws.FnExactCrossAlgebras", spec := "fnExactCrossAlgebras", unfollowed := true, recurses := true, apart := false }
def FnExactCrossAlgebrasSaid : Prop := fnExactCrossAlgebrasRow.holds Try.pinned (OpenSpec.ofChange fnExactCrossAlgebrasSpec)

/-- ITS FALSE NEIGHBOUR: 'it returns false'. Refute it at one input. -/
def fnExactCrossAlgebrasWrong : ChangeSpec := { name := "fnExactCrossAlgebras", fn := fun _ => fun
  | [d1, d2] => { results := [.lit (.bool false)], args := [d1, d2] }
  | _ => none }
def FnExactCrossAlgebrasWrongFalsely : Prop := fnExactCrossAlgebrasRow.holds Try.pinned (OpenSpec.ofChange fnExactCrossAlgebrasWrong)

/-- 'laws.FnExactIsFilter': WHATEVER THE INPUT: true; the input reads as it did. -/
def fnExactIsFilterSpec : ChangeSpec := { name := "fnExactIsFilter", fn := fun _ => fun
  | [d1, d2] => { results := [.lit (.bool true)], args := [d1, d2] }
  | _ => none }
def fnExactIsFilterRow : OpenClaim := { program := "ytpfnfglaokiipac", sum := "4f8735708f9e5914a21eb0f1aa78fd76794bd1172ded0859955e95e0345fbc79", func := "loop.example/residuatedtables/laws.FnExactIsFilter", spec := "fnExactIsFilter", unfollowed := true, recurses := true, apart := false }
def FnExactIsFilterSaid : Prop := fnExactIsFilterRow.holds Try.pinned (OpenSpec.ofChange fnExactIsFilterSpec)

/-- ITS FALSE NEIGHBOUR: 'it returns false'. Refute it at one input. -/
def fnExactIsFilterWrong : ChangeSpec := { name := "fnExactIsFilter", fn := fun _ => fun
  | [d1, d2] => { results := [.lit (.bool false)], args := [d1, d2] }
  | _ => none }
def FnExactIsFilterWrongFalsely : Prop := fnExactIsFilterRow.holds Try.pinned (OpenSpec.ofChange fnExactIsFilterWrong)

/-- 'laws.FnExactFiltersOf': WHATEVER THE INPUT: true; the input reads as it did. -/
def fnExactFiltersOfSpec : ChangeSpec := { name := "fnExactFiltersOf", fn := fun _ => fun
  | [d] => { results := [.lit (.bool true)], args := [d] }
  | _ => none }
def fnExactFiltersOfRow : OpenClaim := { program := "ytpfnfglaokiipac", sum := "4f8735708f9e5914a21eb0f1aa78fd76794bd1172ded0859955e95e0345fbc79", func := "loop.example/residuatedtables/laws.FnExactFiltersOf", spec := "fnExactFiltersOf", unfollowed := true, recurses := true, apart := false }
def FnExactFiltersOfSaid : Prop := fnExactFiltersOfRow.holds Try.pinned (OpenSpec.ofChange fnExactFiltersOfSpec)

/-- ITS FALSE NEIGHBOUR: 'it returns false'. Refute it at one input. -/
def fnExactFiltersOfWrong : ChangeSpec := { name := "fnExactFiltersOf", fn := fun _ => fun
  | [d] => { results := [.lit (.bool false)], args := [d] }
  | _ => none }
def FnExactFiltersOfWrongFalsely : Prop := fnExactFiltersOfRow.holds Try.pinned (OpenSpec.ofChange fnExactFiltersOfWrong)

/-- 'laws.FnExactFilterBy': WHATEVER THE INPUT: true; the input reads as it did. -/
def fnExactFilterBySpec : ChangeSpec := { name := "fnExactFilterBy", fn := fun _ => fun
  | [d1, d2] => { results := [.lit (.bool true)], args := [d1, d2] }
  | _ => none }
def fnExactFilterByRow : OpenClaim := { program := "ytpfnfglaokiipac", sum := "4f8735708f9e5914a21eb0f1aa78fd76794bd1172ded0859955e95e0345fbc79", func := "loop.example/residuatedtables/laws.FnExactFilterBy", spec := "fnExactFilterBy", unfollowed := true, recurses := true, apart := false }
def FnExactFilterBySaid : Prop := fnExactFilterByRow.holds Try.pinned (OpenSpec.ofChange fnExactFilterBySpec)

/-- ITS FALSE NEIGHBOUR: 'it returns false'. Refute it at one input. -/
def fnExactFilterByWrong : ChangeSpec := { name := "fnExactFilterBy", fn := fun _ => fun
  | [d1, d2] => { results := [.lit (.bool false)], args := [d1, d2] }
  | _ => none }
def FnExactFilterByWrongFalsely : Prop := fnExactFilterByRow.holds Try.pinned (OpenSpec.ofChange fnExactFilterByWrong)

/-- 'laws.FnExactClassesOf': WHATEVER THE INPUT: true; the input reads as it did. -/
def fnExactClassesOfSpec : ChangeSpec := { name := "fnExactClassesOf", fn := fun _ => fun
  | [d1, d2] => { results := [.lit (.bool true)], args := [d1, d2] }
  | _ => none }
def fnExactClassesOfRow : OpenClaim := { program := "ytpfnfglaokiipac", sum := "4f8735708f9e5914a21eb0f1aa78fd76794bd1172ded0859955e95e0345fbc79", func := "loop.example/residuatedtables/laws.FnExactClassesOf", spec := "fnExactClassesOf", unfollowed := true, recurses := true, apart := false }
def FnExactClassesOfSaid : Prop := fnExactClassesOfRow.holds Try.pinned (OpenSpec.ofChange fnExactClassesOfSpec)

/-- ITS FALSE NEIGHBOUR: 'it returns false'. Refute it at one input. -/
def fnExactClassesOfWrong : ChangeSpec := { name := "fnExactClassesOf", fn := fun _ => fun
  | [d1, d2] => { results := [.lit (.bool false)], args := [d1, d2] }
  | _ => none }
def FnExactClassesOfWrongFalsely : Prop := fnExactClassesOfRow.holds Try.pinned (OpenSpec.ofChange fnExactClassesOfWrong)

/-- 'laws.FnExactQuotientOf': WHATEVER THE INPUT: true; the input reads as it did. -/
def fnExactQuotientOfSpec : ChangeSpec := { name := "fnExactQuotientOf", fn := fun _ => fun
  | [d1, d2] => { results := [.lit (.bool true)], args := [d1, d2] }
  | _ => none }
def fnExactQuotientOfRow : OpenClaim := { program := "ytpfnfglaokiipac", sum := "4f8735708f9e5914a21eb0f1aa78fd76794bd1172ded0859955e95e0345fbc79", func := "loop.example/residuatedtables/laws.FnExactQuotientOf", spec := "fnExactQuotientOf", unfollowed := true, recurses := true, apart := false }
def FnExactQuotientOfSaid : Prop := fnExactQuotientOfRow.holds Try.pinned (OpenSpec.ofChange fnExactQuotientOfSpec)

/-- ITS FALSE NEIGHBOUR: 'it returns false'. Refute it at one input. -/
def fnExactQuotientOfWrong : ChangeSpec := { name := "fnExactQuotientOf", fn := fun _ => fun
  | [d1, d2] => { results := [.lit (.bool false)], args := [d1, d2] }
  | _ => none }
def FnExactQuotientOfWrongFalsely : Prop := fnExactQuotientOfRow.holds Try.pinned (OpenSpec.ofChange fnExactQuotientOfWrong)

/-- 'laws.FnExactPrimeFilters': WHATEVER THE INPUT: true; the input reads as it did. -/
def fnExactPrimeFiltersSpec : ChangeSpec := { name := "fnExactPrimeFilters", fn := fun _ => fun
  | [d] => { results := [.lit (.bool true)], args := [d] }
  | _ => none }
def fnExactPrimeFiltersRow : OpenClaim := { program := "ytpfnfglaokiipac", sum := "4f8735708f9e5914a21eb0f1aa78fd76794bd1172ded0859955e95e0345fbc79", func := "loop.example/residuatedtables/laws.FnExactPrimeFilters", spec := "fnExactPrimeFilters", unfollowed := true, recurses := true, apart := false }
def FnExactPrimeFiltersSaid : Prop := fnExactPrimeFiltersRow.holds Try.pinned (OpenSpec.ofChange fnExactPrimeFiltersSpec)

/-- ITS FALSE NEIGHBOUR: 'it returns false'. Refute it at one input. -/
def fnExactPrimeFiltersWrong : ChangeSpec := { name := "fnExactPrimeFilters", fn := fun _ => fun
  | [d] => { results := [.lit (.bool false)], args := [d] }
  | _ => none }
def FnExactPrimeFiltersWrongFalsely : Prop := fnExactPrimeFiltersRow.holds Try.pinned (OpenSpec.ofChange fnExactPrimeFiltersWrong)

/-- 'laws.FnExactGreatestFilters': WHATEVER THE INPUT: true; the input reads as it did. -/
def fnExactGreatestFiltersSpec : ChangeSpec := { name := "fnExactGreatestFilters", fn := fun _ => fun
  | [d] => { results := [.lit (.bool true)], args := [d] }
  | _ => none }
def fnExactGreatestFiltersRow : OpenClaim := { program := "ytpfnfglaokiipac", sum := "4f8735708f9e5914a21eb0f1aa78fd76794bd1172ded0859955e95e0345fbc79", func := "loop.example/residuatedtables/laws.FnExactGreatestFilters", spec := "fnExactGreatestFilters", unfollowed := true, recurses := true, apart := false }
def FnExactGreatestFiltersSaid : Prop := fnExactGreatestFiltersRow.holds Try.pinned (OpenSpec.ofChange fnExactGreatestFiltersSpec)

/-- ITS FALSE NEIGHBOUR: 'it returns false'. Refute it at one input. -/
def fnExactGreatestFiltersWrong : ChangeSpec := { name := "fnExactGreatestFilters", fn := fun _ => fun
  | [d] => { results := [.lit (.bool false)], args := [d] }
  | _ => none }
def FnExactGreatestFiltersWrongFalsely : Prop := fnExactGreatestFiltersRow.holds Try.pinned (OpenSpec.ofChange fnExactGreatestFiltersWrong)

/-- 'laws.FnExactRadicalOf': WHATEVER THE INPUT: true; the input reads as it did. -/
def fnExactRadicalOfSpec : ChangeSpec := { name := "fnExactRadicalOf", fn := fun _ => fun
  | [d] => { results := [.lit (.bool true)], args := [d] }
  | _ => none }
def fnExactRadicalOfRow : OpenClaim := { program := "ytpfnfglaokiipac", sum := "4f8735708f9e5914a21eb0f1aa78fd76794bd1172ded0859955e95e0345fbc79", func := "loop.example/residuatedtables/laws.FnExactRadicalOf", spec := "fnExactRadicalOf", unfollowed := true, recurses := true, apart := false }
def FnExactRadicalOfSaid : Prop := fnExactRadicalOfRow.holds Try.pinned (OpenSpec.ofChange fnExactRadicalOfSpec)

/-- ITS FALSE NEIGHBOUR: 'it returns false'. Refute it at one input. -/
def fnExactRadicalOfWrong : ChangeSpec := { name := "fnExactRadicalOf", fn := fun _ => fun
  | [d] => { results := [.lit (.bool false)], args := [d] }
  | _ => none }
def FnExactRadicalOfWrongFalsely : Prop := fnExactRadicalOfRow.holds Try.pinned (OpenSpec.ofChange fnExactRadicalOfWrong)

/-- 'laws.FnExactIsSimple': WHATEVER THE INPUT: true; the input reads as it did. -/
def fnExactIsSimpleSpec : ChangeSpec := { name := "fnExactIsSimple", fn := fun _ => fun
  | [d] => { results := [.lit (.bool true)], args := [d] }
  | _ => none }
def fnExactIsSimpleRow : OpenClaim := { program := "ytpfnfglaokiipac", sum := "4f8735708f9e5914a21eb0f1aa78fd76794bd1172ded0859955e95e0345fbc79", func := "loop.example/residuatedtables/laws.FnExactIsSimple", spec := "fnExactIsSimple", unfollowed := true, recurses := true, apart := false }
def FnExactIsSimpleSaid : Prop := fnExactIsSimpleRow.holds Try.pinned (OpenSpec.ofChange fnExactIsSimpleSpec)

/-- ITS FALSE NEIGHBOUR: 'it returns false'. Refute it at one input. -/
def fnExactIsSimpleWrong : ChangeSpec := { name := "fnExactIsSimple", fn := fun _ => fun
  | [d] => { results := [.lit (.bool false)], args := [d] }
  | _ => none }
def FnExactIsSimpleWrongFalsely : Prop := fnExactIsSimpleRow.holds Try.pinned (OpenSpec.ofChange fnExactIsSimpleWrong)

/-- 'laws.FnExactIsLocal': WHATEVER THE INPUT: true; the input reads as it did. -/
def fnExactIsLocalSpec : ChangeSpec := { name := "fnExactIsLocal", fn := fun _ => fun
  | [d] => { results := [.lit (.bool true)], args := [d] }
  | _ => none }
def fnExactIsLocalRow : OpenClaim := { program := "ytpfnfglaokiipac", sum := "4f8735708f9e5914a21eb0f1aa78fd76794bd1172ded0859955e95e0345fbc79", func := "loop.example/residuatedtables/laws.FnExactIsLocal", spec := "fnExactIsLocal", unfollowed := true, recurses := true, apart := false }
def FnExactIsLocalSaid : Prop := fnExactIsLocalRow.holds Try.pinned (OpenSpec.ofChange fnExactIsLocalSpec)

/-- ITS FALSE NEIGHBOUR: 'it returns false'. Refute it at one input. -/
def fnExactIsLocalWrong : ChangeSpec := { name := "fnExactIsLocal", fn := fun _ => fun
  | [d] => { results := [.lit (.bool false)], args := [d] }
  | _ => none }
def FnExactIsLocalWrongFalsely : Prop := fnExactIsLocalRow.holds Try.pinned (OpenSpec.ofChange fnExactIsLocalWrong)

/-- 'laws.FnExactHeartOf': WHATEVER THE INPUT: true; the input reads as it did. -/
def fnExactHeartOfSpec : ChangeSpec := { name := "fnExactHeartOf", fn := fun _ => fun
  | [d] => { results := [.lit (.bool true)], args := [d] }
  | _ => none }
def fnExactHeartOfRow : OpenClaim := { program := "ytpfnfglaokiipac", sum := "4f8735708f9e5914a21eb0f1aa78fd76794bd1172ded0859955e95e0345fbc79", func := "loop.example/residuatedtables/laws.FnExactHeartOf", spec := "fnExactHeartOf", unfollowed := true, recurses := true, apart := false }
def FnExactHeartOfSaid : Prop := fnExactHeartOfRow.holds Try.pinned (OpenSpec.ofChange fnExactHeartOfSpec)

/-- ITS FALSE NEIGHBOUR: 'it returns false'. Refute it at one input. -/
def fnExactHeartOfWrong : ChangeSpec := { name := "fnExactHeartOf", fn := fun _ => fun
  | [d] => { results := [.lit (.bool false)], args := [d] }
  | _ => none }
def FnExactHeartOfWrongFalsely : Prop := fnExactHeartOfRow.holds Try.pinned (OpenSpec.ofChange fnExactHeartOfWrong)

/- THE SECOND FORM. 'bulk': how many values and letters a reading holds, each counted each time it is reached (what is shared counts as often as it is met; a slice's spare places count too). A statement '..UptoSaid' is the law's where the arguments, and the package variables that the reading takes, are together of bulk at most 1048576: NARROWER than '..Said'. Prove '..Said' where nothing that the law and all that it calls make is longer than what came in: it says more and counts as full. Else prove '..UptoSaid'. A law counts once. -/
mutual
def uptoBulk {H : Type} : DataW H → Nat
  | .lit (.string bytes) => bytes.length + 1
  | .lit _ => 1
  | .nil => 1
  | .ptr d => uptoBulk d + 1
  | .slice elems spare => uptoBulkAll elems + uptoBulkAll spare + 1
  | .agg parts => uptoBulkAll parts + 1
  | .iface _ d => uptoBulk d + 1
  | .map entries => uptoBulkEntries entries + 1
  | .held _ => 1
def uptoBulkAll {H : Type} : List (DataW H) → Nat
  | [] => 0
  | d :: r => uptoBulk d + uptoBulkAll r
def uptoBulkEntries {H : Type} : List (Lit × DataW H) → Nat
  | [] => 0
  | x :: r => uptoBulkEntry x + uptoBulkEntries r
def uptoBulkEntry {H : Type} : Lit × DataW H → Nat
  | (.string bytes, d) => bytes.length + uptoBulk d + 1
  | (_, d) => uptoBulk d + 1
 end
def uptoSmall : (H : Type) → List (DataW H) → Bool := fun _ ds => decide (uptoBulkAll ds ≤ 1048576)
def OpenSpec.upto (s : _root_.Go.ChangeSpec) : _root_.Go.OpenSpec := { _root_.Go.OpenSpec.ofChange s with cond := some uptoSmall }

/-- 'laws.FnExactCrossAlgebras', WHERE WHAT IT READS IS OF BULK AT MOST 1048576: true; the input reads as it did. -/
def fnExactCrossAlgebrasUptoRow : OpenClaim := { program := "ytpfnfglaokiipac", sum := "4f8735708f9e5914a21eb0f1aa78fd76794bd1172ded0859955e95e0345fbc79", func := "loop.example/residuatedtables/laws.FnExactCrossAlgebras", spec := "fnExactCrossAlgebras", unfollowed := true, recurses := true, apart := false, narrowed := true }
def FnExactCrossAlgebrasUptoSaid : Prop := fnExactCrossAlgebrasUptoRow.holds Try.pinned (OpenSpec.upto fnExactCrossAlgebrasSpec)

/-- 'laws.FnExactIsFilter', WHERE WHAT IT READS IS OF BULK AT MOST 1048576: true; the input reads as it did. -/
def fnExactIsFilterUptoRow : OpenClaim := { program := "ytpfnfglaokiipac", sum := "4f8735708f9e5914a21eb0f1aa78fd76794bd1172ded0859955e95e0345fbc79", func := "loop.example/residuatedtables/laws.FnExactIsFilter", spec := "fnExactIsFilter", unfollowed := true, recurses := true, apart := false, narrowed := true }
def FnExactIsFilterUptoSaid : Prop := fnExactIsFilterUptoRow.holds Try.pinned (OpenSpec.upto fnExactIsFilterSpec)

/-- 'laws.FnExactFiltersOf', WHERE WHAT IT READS IS OF BULK AT MOST 1048576: true; the input reads as it did. -/
def fnExactFiltersOfUptoRow : OpenClaim := { program := "ytpfnfglaokiipac", sum := "4f8735708f9e5914a21eb0f1aa78fd76794bd1172ded0859955e95e0345fbc79", func := "loop.example/residuatedtables/laws.FnExactFiltersOf", spec := "fnExactFiltersOf", unfollowed := true, recurses := true, apart := false, narrowed := true }
def FnExactFiltersOfUptoSaid : Prop := fnExactFiltersOfUptoRow.holds Try.pinned (OpenSpec.upto fnExactFiltersOfSpec)

/-- 'laws.FnExactFilterBy', WHERE WHAT IT READS IS OF BULK AT MOST 1048576: true; the input reads as it did. -/
def fnExactFilterByUptoRow : OpenClaim := { program := "ytpfnfglaokiipac", sum := "4f8735708f9e5914a21eb0f1aa78fd76794bd1172ded0859955e95e0345fbc79", func := "loop.example/residuatedtables/laws.FnExactFilterBy", spec := "fnExactFilterBy", unfollowed := true, recurses := true, apart := false, narrowed := true }
def FnExactFilterByUptoSaid : Prop := fnExactFilterByUptoRow.holds Try.pinned (OpenSpec.upto fnExactFilterBySpec)

/-- 'laws.FnExactClassesOf', WHERE WHAT IT READS IS OF BULK AT MOST 1048576: true; the input reads as it did. -/
def fnExactClassesOfUptoRow : OpenClaim := { program := "ytpfnfglaokiipac", sum := "4f8735708f9e5914a21eb0f1aa78fd76794bd1172ded0859955e95e0345fbc79", func := "loop.example/residuatedtables/laws.FnExactClassesOf", spec := "fnExactClassesOf", unfollowed := true, recurses := true, apart := false, narrowed := true }
def FnExactClassesOfUptoSaid : Prop := fnExactClassesOfUptoRow.holds Try.pinned (OpenSpec.upto fnExactClassesOfSpec)

/-- 'laws.FnExactQuotientOf', WHERE WHAT IT READS IS OF BULK AT MOST 1048576: true; the input reads as it did. -/
def fnExactQuotientOfUptoRow : OpenClaim := { program := "ytpfnfglaokiipac", sum := "4f8735708f9e5914a21eb0f1aa78fd76794bd1172ded0859955e95e0345fbc79", func := "loop.example/residuatedtables/laws.FnExactQuotientOf", spec := "fnExactQuotientOf", unfollowed := true, recurses := true, apart := false, narrowed := true }
def FnExactQuotientOfUptoSaid : Prop := fnExactQuotientOfUptoRow.holds Try.pinned (OpenSpec.upto fnExactQuotientOfSpec)

/-- 'laws.FnExactPrimeFilters', WHERE WHAT IT READS IS OF BULK AT MOST 1048576: true; the input reads as it did. -/
def fnExactPrimeFiltersUptoRow : OpenClaim := { program := "ytpfnfglaokiipac", sum := "4f8735708f9e5914a21eb0f1aa78fd76794bd1172ded0859955e95e0345fbc79", func := "loop.example/residuatedtables/laws.FnExactPrimeFilters", spec := "fnExactPrimeFilters", unfollowed := true, recurses := true, apart := false, narrowed := true }
def FnExactPrimeFiltersUptoSaid : Prop := fnExactPrimeFiltersUptoRow.holds Try.pinned (OpenSpec.upto fnExactPrimeFiltersSpec)

/-- 'laws.FnExactGreatestFilters', WHERE WHAT IT READS IS OF BULK AT MOST 1048576: true; the input reads as it did. -/
def fnExactGreatestFiltersUptoRow : OpenClaim := { program := "ytpfnfglaokiipac", sum := "4f8735708f9e5914a21eb0f1aa78fd76794bd1172ded0859955e95e0345fbc79", func := "loop.example/residuatedtables/laws.FnExactGreatestFilters", spec := "fnExactGreatestFilters", unfollowed := true, recurses := true, apart := false, narrowed := true }
def FnExactGreatestFiltersUptoSaid : Prop := fnExactGreatestFiltersUptoRow.holds Try.pinned (OpenSpec.upto fnExactGreatestFiltersSpec)

/-- 'laws.FnExactRadicalOf', WHERE WHAT IT READS IS OF BULK AT MOST 1048576: true; the input reads as it did. -/
def fnExactRadicalOfUptoRow : OpenClaim := { program := "ytpfnfglaokiipac", sum := "4f8735708f9e5914a21eb0f1aa78fd76794bd1172ded0859955e95e0345fbc79", func := "loop.example/residuatedtables/laws.FnExactRadicalOf", spec := "fnExactRadicalOf", unfollowed := true, recurses := true, apart := false, narrowed := true }
def FnExactRadicalOfUptoSaid : Prop := fnExactRadicalOfUptoRow.holds Try.pinned (OpenSpec.upto fnExactRadicalOfSpec)

/-- 'laws.FnExactIsSimple', WHERE WHAT IT READS IS OF BULK AT MOST 1048576: true; the input reads as it did. -/
def fnExactIsSimpleUptoRow : OpenClaim := { program := "ytpfnfglaokiipac", sum := "4f8735708f9e5914a21eb0f1aa78fd76794bd1172ded0859955e95e0345fbc79", func := "loop.example/residuatedtables/laws.FnExactIsSimple", spec := "fnExactIsSimple", unfollowed := true, recurses := true, apart := false, narrowed := true }
def FnExactIsSimpleUptoSaid : Prop := fnExactIsSimpleUptoRow.holds Try.pinned (OpenSpec.upto fnExactIsSimpleSpec)

/-- 'laws.FnExactIsLocal', WHERE WHAT IT READS IS OF BULK AT MOST 1048576: true; the input reads as it did. -/
def fnExactIsLocalUptoRow : OpenClaim := { program := "ytpfnfglaokiipac", sum := "4f8735708f9e5914a21eb0f1aa78fd76794bd1172ded0859955e95e0345fbc79", func := "loop.example/residuatedtables/laws.FnExactIsLocal", spec := "fnExactIsLocal", unfollowed := true, recurses := true, apart := false, narrowed := true }
def FnExactIsLocalUptoSaid : Prop := fnExactIsLocalUptoRow.holds Try.pinned (OpenSpec.upto fnExactIsLocalSpec)

/-- 'laws.FnExactHeartOf', WHERE WHAT IT READS IS OF BULK AT MOST 1048576: true; the input reads as it did. -/
def fnExactHeartOfUptoRow : OpenClaim := { program := "ytpfnfglaokiipac", sum := "4f8735708f9e5914a21eb0f1aa78fd76794bd1172ded0859955e95e0345fbc79", func := "loop.example/residuatedtables/laws.FnExactHeartOf", spec := "fnExactHeartOf", unfollowed := true, recurses := true, apart := false, narrowed := true }
def FnExactHeartOfUptoSaid : Prop := fnExactHeartOfUptoRow.holds Try.pinned (OpenSpec.upto fnExactHeartOfSpec)

end Rows
end Go.Proofs.Ytpfnfglaokiipac
