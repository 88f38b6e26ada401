/-
  No cell of these rows narrows 'for every input' (looked for: loops, veiled, ifaces, maps, wideKeys, modest, calm, conditions, laid).
  DERIVED. THE GIVEN ROWS OF THIS SEAT. 5 by the template 'for every input the law returns true; each argument reads behind the call as it read before'; 0 by the template 'total and deterministic' (their statements: YtjcambkjcagcoaaGreatTotals.lean).
  GIVEN WITH THE SEED: the statements are not yours to turn. If you find one false, say at which input.
  Laid BY PROGRAM, IN A SANDBOX (cutbox-rows.mjs): the forced cells as the released guide's own fill.sh prints them over the translation fce8c85f6707105c… (all of the seat's roots in one cut). By AI agents, Wed Nov 11 2026. No macro, syntax, notation, axiom, sorry.
-/
import Derived.Test.YtjcambkjcagcoaaGreatChecked
import GoSem.Claim
import GoSem.ClaimJoined
import GoSem.ClaimMapViews
import Derived.JoinedTies
import Derived.KernelRfl
namespace Go.Proofs.YtjcambkjcagcoaaGreat
/- THE CELL 'sum', in the pinned program and in every row, IS THE sha256 OF THE DUMP (.gsa) THAT YtjcambkjcagcoaaGreatProg.lean LOADS. Nothing in Lean hashes anything: it is a label: what it is worth is what the hold of that sum in a sandbox is worth. -/
noncomputable def Tryz.pinned : Pinned := { name := "ytjcambkjcagcoaagreat", sum := "fce8c85f6707105c6847c0e66e1c0aecdaa7ce87953d87ea20d8618588fd3798", checked := Tryz.checked }
namespace Rows
def none {H : Type} : Left H := { results := [], args := [] }

/-- 'laws.FnPrimeFilters': WHATEVER THE INPUT: true; the input reads as it did. -/
def fnPrimeFiltersSpec : ChangeSpec := { name := "fnPrimeFilters", fn := fun _ => fun
  | [d] => { results := [.lit (.bool true)], args := [d] }
  | _ => none }
def fnPrimeFiltersRow : OpenClaim := { program := "ytjcambkjcagcoaagreat", sum := "fce8c85f6707105c6847c0e66e1c0aecdaa7ce87953d87ea20d8618588fd3798", func := "loop.example/residuatedtables/laws.FnPrimeFilters", spec := "fnPrimeFilters", unfollowed := true, recurses := true, apart := false }
def FnPrimeFiltersSaid : Prop := fnPrimeFiltersRow.holds Tryz.pinned (OpenSpec.ofChange fnPrimeFiltersSpec)

/-- ITS FALSE NEIGHBOUR: 'it returns false'. Refute it at one input. -/
def fnPrimeFiltersWrong : ChangeSpec := { name := "fnPrimeFilters", fn := fun _ => fun
  | [d] => { results := [.lit (.bool false)], args := [d] }
  | _ => none }
def FnPrimeFiltersWrongFalsely : Prop := fnPrimeFiltersRow.holds Tryz.pinned (OpenSpec.ofChange fnPrimeFiltersWrong)

/-- 'laws.FnIsTrue': WHATEVER THE INPUT: true; the input reads as it did. -/
def fnIsTrueSpec : ChangeSpec := { name := "fnIsTrue", fn := fun _ => fun
  | [d] => { results := [.lit (.bool true)], args := [d] }
  | _ => none }
def fnIsTrueRow : OpenClaim := { program := "ytjcambkjcagcoaagreat", sum := "fce8c85f6707105c6847c0e66e1c0aecdaa7ce87953d87ea20d8618588fd3798", func := "loop.example/residuatedtables/laws.FnIsTrue", spec := "fnIsTrue", unfollowed := true, recurses := true, apart := false }
def FnIsTrueSaid : Prop := fnIsTrueRow.holds Tryz.pinned (OpenSpec.ofChange fnIsTrueSpec)

/-- ITS FALSE NEIGHBOUR: 'it returns false'. Refute it at one input. -/
def fnIsTrueWrong : ChangeSpec := { name := "fnIsTrue", fn := fun _ => fun
  | [d] => { results := [.lit (.bool false)], args := [d] }
  | _ => none }
def FnIsTrueWrongFalsely : Prop := fnIsTrueRow.holds Tryz.pinned (OpenSpec.ofChange fnIsTrueWrong)

/-- 'laws.FnGreatestFilters': WHATEVER THE INPUT: true; the input reads as it did. -/
def fnGreatestFiltersSpec : ChangeSpec := { name := "fnGreatestFilters", fn := fun _ => fun
  | [d] => { results := [.lit (.bool true)], args := [d] }
  | _ => none }
def fnGreatestFiltersRow : OpenClaim := { program := "ytjcambkjcagcoaagreat", sum := "fce8c85f6707105c6847c0e66e1c0aecdaa7ce87953d87ea20d8618588fd3798", func := "loop.example/residuatedtables/laws.FnGreatestFilters", spec := "fnGreatestFilters", unfollowed := true, recurses := true, apart := false }
def FnGreatestFiltersSaid : Prop := fnGreatestFiltersRow.holds Tryz.pinned (OpenSpec.ofChange fnGreatestFiltersSpec)

/-- ITS FALSE NEIGHBOUR: 'it returns false'. Refute it at one input. -/
def fnGreatestFiltersWrong : ChangeSpec := { name := "fnGreatestFilters", fn := fun _ => fun
  | [d] => { results := [.lit (.bool false)], args := [d] }
  | _ => none }
def FnGreatestFiltersWrongFalsely : Prop := fnGreatestFiltersRow.holds Tryz.pinned (OpenSpec.ofChange fnGreatestFiltersWrong)

/-- 'laws.FnRadicalOf': WHATEVER THE INPUT: true; the input reads as it did. -/
def fnRadicalOfSpec : ChangeSpec := { name := "fnRadicalOf", fn := fun _ => fun
  | [d] => { results := [.lit (.bool true)], args := [d] }
  | _ => none }
def fnRadicalOfRow : OpenClaim := { program := "ytjcambkjcagcoaagreat", sum := "fce8c85f6707105c6847c0e66e1c0aecdaa7ce87953d87ea20d8618588fd3798", func := "loop.example/residuatedtables/laws.FnRadicalOf", spec := "fnRadicalOf", unfollowed := true, recurses := true, apart := false }
def FnRadicalOfSaid : Prop := fnRadicalOfRow.holds Tryz.pinned (OpenSpec.ofChange fnRadicalOfSpec)

/-- ITS FALSE NEIGHBOUR: 'it returns false'. Refute it at one input. -/
def fnRadicalOfWrong : ChangeSpec := { name := "fnRadicalOf", fn := fun _ => fun
  | [d] => { results := [.lit (.bool false)], args := [d] }
  | _ => none }
def FnRadicalOfWrongFalsely : Prop := fnRadicalOfRow.holds Tryz.pinned (OpenSpec.ofChange fnRadicalOfWrong)

/-- 'laws.FnIsLocal': WHATEVER THE INPUT: true; the input reads as it did. -/
def fnIsLocalSpec : ChangeSpec := { name := "fnIsLocal", fn := fun _ => fun
  | [d] => { results := [.lit (.bool true)], args := [d] }
  | _ => none }
def fnIsLocalRow : OpenClaim := { program := "ytjcambkjcagcoaagreat", sum := "fce8c85f6707105c6847c0e66e1c0aecdaa7ce87953d87ea20d8618588fd3798", func := "loop.example/residuatedtables/laws.FnIsLocal", spec := "fnIsLocal", unfollowed := true, recurses := true, apart := false }
def FnIsLocalSaid : Prop := fnIsLocalRow.holds Tryz.pinned (OpenSpec.ofChange fnIsLocalSpec)

/-- ITS FALSE NEIGHBOUR: 'it returns false'. Refute it at one input. -/
def fnIsLocalWrong : ChangeSpec := { name := "fnIsLocal", fn := fun _ => fun
  | [d] => { results := [.lit (.bool false)], args := [d] }
  | _ => none }
def FnIsLocalWrongFalsely : Prop := fnIsLocalRow.holds Tryz.pinned (OpenSpec.ofChange fnIsLocalWrong)

/- THE SECOND FORM. 'bulk': how many values and letters a reading holds, each counted each time it is reached (what is shared counts as often as it is met; a slice's spare places count too). A statement '..UptoSaid' is the law's where the arguments, and the package variables that the reading takes, are together of bulk at most 1048576: NARROWER than '..Said'. Prove '..Said' where nothing that the law and all that it calls make is longer than what came in: it says more and counts as full. Else prove '..UptoSaid'. A law counts once. -/
mutual
def uptoBulk {H : Type} : DataW H → Nat
  | .lit (.string bytes) => bytes.length + 1
  | .lit _ => 1
  | .nil => 1
  | .ptr d => uptoBulk d + 1
  | .slice elems spare => uptoBulkAll elems + uptoBulkAll spare + 1
  | .agg parts => uptoBulkAll parts + 1
  | .iface _ d => uptoBulk d + 1
  | .map entries => uptoBulkEntries entries + 1
  | .held _ => 1
def uptoBulkAll {H : Type} : List (DataW H) → Nat
  | [] => 0
  | d :: r => uptoBulk d + uptoBulkAll r
def uptoBulkEntries {H : Type} : List (Lit × DataW H) → Nat
  | [] => 0
  | x :: r => uptoBulkEntry x + uptoBulkEntries r
def uptoBulkEntry {H : Type} : Lit × DataW H → Nat
  | (.string bytes, d) => bytes.length + uptoBulk d + 1
  | (_, d) => uptoBulk d + 1
 end
def uptoSmall : (H : Type) → List (DataW H) → Bool := fun _ ds => decide (uptoBulkAll ds ≤ 1048576)
def OpenSpec.upto (s : _root_.Go.ChangeSpec) : _root_.Go.OpenSpec := { _root_.Go.OpenSpec.ofChange s with cond := some uptoSmall }

/-- 'laws.FnPrimeFilters', WHERE WHAT IT READS IS OF BULK AT MOST 1048576: true; the input reads as it did. -/
def fnPrimeFiltersUptoRow : OpenClaim := { program := "ytjcambkjcagcoaagreat", sum := "fce8c85f6707105c6847c0e66e1c0aecdaa7ce87953d87ea20d8618588fd3798", func := "loop.example/residuatedtables/laws.FnPrimeFilters", spec := "fnPrimeFilters", unfollowed := true, recurses := true, apart := false, narrowed := true }
def FnPrimeFiltersUptoSaid : Prop := fnPrimeFiltersUptoRow.holds Tryz.pinned (OpenSpec.upto fnPrimeFiltersSpec)

/-- 'laws.FnIsTrue', WHERE WHAT IT READS IS OF BULK AT MOST 1048576: true; the input reads as it did. -/
def fnIsTrueUptoRow : OpenClaim := { program := "ytjcambkjcagcoaagreat", sum := "fce8c85f6707105c6847c0e66e1c0aecdaa7ce87953d87ea20d8618588fd3798", func := "loop.example/residuatedtables/laws.FnIsTrue", spec := "fnIsTrue", unfollowed := true, recurses := true, apart := false, narrowed := true }
def FnIsTrueUptoSaid : Prop := fnIsTrueUptoRow.holds Tryz.pinned (OpenSpec.upto fnIsTrueSpec)

/-- 'laws.FnGreatestFilters', WHERE WHAT IT READS IS OF BULK AT MOST 1048576: true; the input reads as it did. -/
def fnGreatestFiltersUptoRow : OpenClaim := { program := "ytjcambkjcagcoaagreat", sum := "fce8c85f6707105c6847c0e66e1c0aecdaa7ce87953d87ea20d8618588fd3798", func := "loop.example/residuatedtables/laws.FnGreatestFilters", spec := "fnGreatestFilters", unfollowed := true, recurses := true, apart := false, narrowed := true }
def FnGreatestFiltersUptoSaid : Prop := fnGreatestFiltersUptoRow.holds Tryz.pinned (OpenSpec.upto fnGreatestFiltersSpec)

/-- 'laws.FnRadicalOf', WHERE WHAT IT READS IS OF BULK AT MOST 1048576: true; the input reads as it did. -/
def fnRadicalOfUptoRow : OpenClaim := { program := "ytjcambkjcagcoaagreat", sum := "fce8c85f6707105c6847c0e66e1c0aecdaa7ce87953d87ea20d8618588fd3798", func := "loop.example/residuatedtables/laws.FnRadicalOf", spec := "fnRadicalOf", unfollowed := true, recurses := true, apart := false, narrowed := true }
def FnRadicalOfUptoSaid : Prop := fnRadicalOfUptoRow.holds Tryz.pinned (OpenSpec.upto fnRadicalOfSpec)

/-- 'laws.FnIsLocal', WHERE WHAT IT READS IS OF BULK AT MOST 1048576: true; the input reads as it did. -/
def fnIsLocalUptoRow : OpenClaim := { program := "ytjcambkjcagcoaagreat", sum := "fce8c85f6707105c6847c0e66e1c0aecdaa7ce87953d87ea20d8618588fd3798", func := "loop.example/residuatedtables/laws.FnIsLocal", spec := "fnIsLocal", unfollowed := true, recurses := true, apart := false, narrowed := true }
def FnIsLocalUptoSaid : Prop := fnIsLocalUptoRow.holds Tryz.pinned (OpenSpec.upto fnIsLocalSpec)

end Rows
end Go.Proofs.YtjcambkjcagcoaaGreat
