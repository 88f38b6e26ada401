/-
  No cell of these rows narrows 'for every input' (looked for: loops, veiled, ifaces, maps, wideKeys, modest, calm, conditions, laid).
  DERIVED. THE GIVEN ROWS OF THIS SEAT. 11 by the template 'for every input the law returns true; each argument reads behind the call as it read before'; 0 by the template 'total and deterministic' (their statements: YtaflhjjnkejcoaaTotals.lean).
  GIVEN WITH THE SEED: the statements are not yours to turn. If you find one false, say at which input.
  Laid BY PROGRAM, IN A SANDBOX (cutbox-rows.mjs): the forced cells as the released guide's own fill.sh prints them over the translation 0c6dbb34d2f72221… (all of the seat's roots in one cut). By AI agents, Wed Nov 11 2026. No macro, syntax, notation, axiom, sorry.
-/
import Derived.Test.YtaflhjjnkejcoaaChecked
import GoSem.Claim
import GoSem.ClaimJoined
import GoSem.ClaimMapViews
import Derived.JoinedTies
import Derived.KernelRfl
namespace Go.Proofs.Ytaflhjjnkejcoaa
/- THE CELL 'sum', in the pinned program and in every row, IS THE sha256 OF THE DUMP (.gsa) THAT YtaflhjjnkejcoaaProg.lean LOADS. Nothing in Lean hashes anything: it is a label: what it is worth is what the hold of that sum in a sandbox is worth. -/
noncomputable def Try.pinned : Pinned := { name := "ytaflhjjnkejcoaa", sum := "0c6dbb34d2f72221e329049c63b8103d69e803049bf5100dc408ac7f9229474f", checked := Try.checked }
namespace Rows
def none {H : Type} : Left H := { results := [], args := [] }

/-- 'laws.FnPowerOf': WHATEVER THE INPUT: true; the input reads as it did. -/
def fnPowerOfSpec : ChangeSpec := { name := "fnPowerOf", fn := fun _ => fun
  | [d] => { results := [.lit (.bool true)], args := [d] }
  | _ => none }
def fnPowerOfRow : OpenClaim := { program := "ytaflhjjnkejcoaa", sum := "0c6dbb34d2f72221e329049c63b8103d69e803049bf5100dc408ac7f9229474f", func := "loop.example/residuatedtables/laws.FnPowerOf", spec := "fnPowerOf", unfollowed := true, recurses := true, apart := false }
def FnPowerOfSaid : Prop := fnPowerOfRow.holds Try.pinned (OpenSpec.ofChange fnPowerOfSpec)

/-- ITS FALSE NEIGHBOUR: 'it returns false'. Refute it at one input. -/
def fnPowerOfWrong : ChangeSpec := { name := "fnPowerOf", fn := fun _ => fun
  | [d] => { results := [.lit (.bool false)], args := [d] }
  | _ => none }
def FnPowerOfWrongFalsely : Prop := fnPowerOfRow.holds Try.pinned (OpenSpec.ofChange fnPowerOfWrong)

/-- 'laws.FnHasProperty': WHATEVER THE INPUT: true; the input reads as it did. -/
def fnHasPropertySpec : ChangeSpec := { name := "fnHasProperty", fn := fun _ => fun
  | [d] => { results := [.lit (.bool true)], args := [d] }
  | _ => none }
def fnHasPropertyRow : OpenClaim := { program := "ytaflhjjnkejcoaa", sum := "0c6dbb34d2f72221e329049c63b8103d69e803049bf5100dc408ac7f9229474f", func := "loop.example/residuatedtables/laws.FnHasProperty", spec := "fnHasProperty", unfollowed := true, recurses := true, apart := false }
def FnHasPropertySaid : Prop := fnHasPropertyRow.holds Try.pinned (OpenSpec.ofChange fnHasPropertySpec)

/-- ITS FALSE NEIGHBOUR: 'it returns false'. Refute it at one input. -/
def fnHasPropertyWrong : ChangeSpec := { name := "fnHasProperty", fn := fun _ => fun
  | [d] => { results := [.lit (.bool false)], args := [d] }
  | _ => none }
def FnHasPropertyWrongFalsely : Prop := fnHasPropertyRow.holds Try.pinned (OpenSpec.ofChange fnHasPropertyWrong)

/-- 'laws.FnSharpOf': WHATEVER THE INPUT: true; the input reads as it did. -/
def fnSharpOfSpec : ChangeSpec := { name := "fnSharpOf", fn := fun _ => fun
  | [d] => { results := [.lit (.bool true)], args := [d] }
  | _ => none }
def fnSharpOfRow : OpenClaim := { program := "ytaflhjjnkejcoaa", sum := "0c6dbb34d2f72221e329049c63b8103d69e803049bf5100dc408ac7f9229474f", func := "loop.example/residuatedtables/laws.FnSharpOf", spec := "fnSharpOf", unfollowed := true, recurses := true, apart := false }
def FnSharpOfSaid : Prop := fnSharpOfRow.holds Try.pinned (OpenSpec.ofChange fnSharpOfSpec)

/-- ITS FALSE NEIGHBOUR: 'it returns false'. Refute it at one input. -/
def fnSharpOfWrong : ChangeSpec := { name := "fnSharpOf", fn := fun _ => fun
  | [d] => { results := [.lit (.bool false)], args := [d] }
  | _ => none }
def FnSharpOfWrongFalsely : Prop := fnSharpOfRow.holds Try.pinned (OpenSpec.ofChange fnSharpOfWrong)

/-- 'laws.FnDepthOf': WHATEVER THE INPUT: true; the input reads as it did. -/
def fnDepthOfSpec : ChangeSpec := { name := "fnDepthOf", fn := fun _ => fun
  | [d] => { results := [.lit (.bool true)], args := [d] }
  | _ => none }
def fnDepthOfRow : OpenClaim := { program := "ytaflhjjnkejcoaa", sum := "0c6dbb34d2f72221e329049c63b8103d69e803049bf5100dc408ac7f9229474f", func := "loop.example/residuatedtables/laws.FnDepthOf", spec := "fnDepthOf", unfollowed := true, recurses := true, apart := false }
def FnDepthOfSaid : Prop := fnDepthOfRow.holds Try.pinned (OpenSpec.ofChange fnDepthOfSpec)

/-- ITS FALSE NEIGHBOUR: 'it returns false'. Refute it at one input. -/
def fnDepthOfWrong : ChangeSpec := { name := "fnDepthOf", fn := fun _ => fun
  | [d] => { results := [.lit (.bool false)], args := [d] }
  | _ => none }
def FnDepthOfWrongFalsely : Prop := fnDepthOfRow.holds Try.pinned (OpenSpec.ofChange fnDepthOfWrong)

/-- 'laws.FnIsFilter': WHATEVER THE INPUT: true; the input reads as it did. -/
def fnIsFilterSpec : ChangeSpec := { name := "fnIsFilter", fn := fun _ => fun
  | [d] => { results := [.lit (.bool true)], args := [d] }
  | _ => none }
def fnIsFilterRow : OpenClaim := { program := "ytaflhjjnkejcoaa", sum := "0c6dbb34d2f72221e329049c63b8103d69e803049bf5100dc408ac7f9229474f", func := "loop.example/residuatedtables/laws.FnIsFilter", spec := "fnIsFilter", unfollowed := true, recurses := true, apart := false }
def FnIsFilterSaid : Prop := fnIsFilterRow.holds Try.pinned (OpenSpec.ofChange fnIsFilterSpec)

/-- ITS FALSE NEIGHBOUR: 'it returns false'. Refute it at one input. -/
def fnIsFilterWrong : ChangeSpec := { name := "fnIsFilter", fn := fun _ => fun
  | [d] => { results := [.lit (.bool false)], args := [d] }
  | _ => none }
def FnIsFilterWrongFalsely : Prop := fnIsFilterRow.holds Try.pinned (OpenSpec.ofChange fnIsFilterWrong)

/-- 'laws.FnFilterBy': WHATEVER THE INPUT: true; the input reads as it did. -/
def fnFilterBySpec : ChangeSpec := { name := "fnFilterBy", fn := fun _ => fun
  | [d] => { results := [.lit (.bool true)], args := [d] }
  | _ => none }
def fnFilterByRow : OpenClaim := { program := "ytaflhjjnkejcoaa", sum := "0c6dbb34d2f72221e329049c63b8103d69e803049bf5100dc408ac7f9229474f", func := "loop.example/residuatedtables/laws.FnFilterBy", spec := "fnFilterBy", unfollowed := true, recurses := true, apart := false }
def FnFilterBySaid : Prop := fnFilterByRow.holds Try.pinned (OpenSpec.ofChange fnFilterBySpec)

/-- ITS FALSE NEIGHBOUR: 'it returns false'. Refute it at one input. -/
def fnFilterByWrong : ChangeSpec := { name := "fnFilterBy", fn := fun _ => fun
  | [d] => { results := [.lit (.bool false)], args := [d] }
  | _ => none }
def FnFilterByWrongFalsely : Prop := fnFilterByRow.holds Try.pinned (OpenSpec.ofChange fnFilterByWrong)

/-- 'laws.FnClassesOf': WHATEVER THE INPUT: true; the input reads as it did. -/
def fnClassesOfSpec : ChangeSpec := { name := "fnClassesOf", fn := fun _ => fun
  | [d] => { results := [.lit (.bool true)], args := [d] }
  | _ => none }
def fnClassesOfRow : OpenClaim := { program := "ytaflhjjnkejcoaa", sum := "0c6dbb34d2f72221e329049c63b8103d69e803049bf5100dc408ac7f9229474f", func := "loop.example/residuatedtables/laws.FnClassesOf", spec := "fnClassesOf", unfollowed := true, recurses := true, apart := false }
def FnClassesOfSaid : Prop := fnClassesOfRow.holds Try.pinned (OpenSpec.ofChange fnClassesOfSpec)

/-- ITS FALSE NEIGHBOUR: 'it returns false'. Refute it at one input. -/
def fnClassesOfWrong : ChangeSpec := { name := "fnClassesOf", fn := fun _ => fun
  | [d] => { results := [.lit (.bool false)], args := [d] }
  | _ => none }
def FnClassesOfWrongFalsely : Prop := fnClassesOfRow.holds Try.pinned (OpenSpec.ofChange fnClassesOfWrong)

/-- 'laws.FnIsSimple': WHATEVER THE INPUT: true; the input reads as it did. -/
def fnIsSimpleSpec : ChangeSpec := { name := "fnIsSimple", fn := fun _ => fun
  | [d] => { results := [.lit (.bool true)], args := [d] }
  | _ => none }
def fnIsSimpleRow : OpenClaim := { program := "ytaflhjjnkejcoaa", sum := "0c6dbb34d2f72221e329049c63b8103d69e803049bf5100dc408ac7f9229474f", func := "loop.example/residuatedtables/laws.FnIsSimple", spec := "fnIsSimple", unfollowed := true, recurses := true, apart := false }
def FnIsSimpleSaid : Prop := fnIsSimpleRow.holds Try.pinned (OpenSpec.ofChange fnIsSimpleSpec)

/-- ITS FALSE NEIGHBOUR: 'it returns false'. Refute it at one input. -/
def fnIsSimpleWrong : ChangeSpec := { name := "fnIsSimple", fn := fun _ => fun
  | [d] => { results := [.lit (.bool false)], args := [d] }
  | _ => none }
def FnIsSimpleWrongFalsely : Prop := fnIsSimpleRow.holds Try.pinned (OpenSpec.ofChange fnIsSimpleWrong)

/-- 'laws.FnHeartOf': WHATEVER THE INPUT: true; the input reads as it did. -/
def fnHeartOfSpec : ChangeSpec := { name := "fnHeartOf", fn := fun _ => fun
  | [d] => { results := [.lit (.bool true)], args := [d] }
  | _ => none }
def fnHeartOfRow : OpenClaim := { program := "ytaflhjjnkejcoaa", sum := "0c6dbb34d2f72221e329049c63b8103d69e803049bf5100dc408ac7f9229474f", func := "loop.example/residuatedtables/laws.FnHeartOf", spec := "fnHeartOf", unfollowed := true, recurses := true, apart := false }
def FnHeartOfSaid : Prop := fnHeartOfRow.holds Try.pinned (OpenSpec.ofChange fnHeartOfSpec)

/-- ITS FALSE NEIGHBOUR: 'it returns false'. Refute it at one input. -/
def fnHeartOfWrong : ChangeSpec := { name := "fnHeartOf", fn := fun _ => fun
  | [d] => { results := [.lit (.bool false)], args := [d] }
  | _ => none }
def FnHeartOfWrongFalsely : Prop := fnHeartOfRow.holds Try.pinned (OpenSpec.ofChange fnHeartOfWrong)

/-- 'laws.FnPartsOf': WHATEVER THE INPUT: true; the input reads as it did. -/
def fnPartsOfSpec : ChangeSpec := { name := "fnPartsOf", fn := fun _ => fun
  | [d] => { results := [.lit (.bool true)], args := [d] }
  | _ => none }
def fnPartsOfRow : OpenClaim := { program := "ytaflhjjnkejcoaa", sum := "0c6dbb34d2f72221e329049c63b8103d69e803049bf5100dc408ac7f9229474f", func := "loop.example/residuatedtables/laws.FnPartsOf", spec := "fnPartsOf", unfollowed := true, recurses := true, apart := false }
def FnPartsOfSaid : Prop := fnPartsOfRow.holds Try.pinned (OpenSpec.ofChange fnPartsOfSpec)

/-- ITS FALSE NEIGHBOUR: 'it returns false'. Refute it at one input. -/
def fnPartsOfWrong : ChangeSpec := { name := "fnPartsOf", fn := fun _ => fun
  | [d] => { results := [.lit (.bool false)], args := [d] }
  | _ => none }
def FnPartsOfWrongFalsely : Prop := fnPartsOfRow.holds Try.pinned (OpenSpec.ofChange fnPartsOfWrong)

/-- 'laws.FnTwiceNot': WHATEVER THE INPUT: true; the input reads as it did. -/
def fnTwiceNotSpec : ChangeSpec := { name := "fnTwiceNot", fn := fun _ => fun
  | [d] => { results := [.lit (.bool true)], args := [d] }
  | _ => none }
def fnTwiceNotRow : OpenClaim := { program := "ytaflhjjnkejcoaa", sum := "0c6dbb34d2f72221e329049c63b8103d69e803049bf5100dc408ac7f9229474f", func := "loop.example/residuatedtables/laws.FnTwiceNot", spec := "fnTwiceNot", unfollowed := true, recurses := true, apart := false }
def FnTwiceNotSaid : Prop := fnTwiceNotRow.holds Try.pinned (OpenSpec.ofChange fnTwiceNotSpec)

/-- ITS FALSE NEIGHBOUR: 'it returns false'. Refute it at one input. -/
def fnTwiceNotWrong : ChangeSpec := { name := "fnTwiceNot", fn := fun _ => fun
  | [d] => { results := [.lit (.bool false)], args := [d] }
  | _ => none }
def FnTwiceNotWrongFalsely : Prop := fnTwiceNotRow.holds Try.pinned (OpenSpec.ofChange fnTwiceNotWrong)

/- THE SECOND FORM. 'bulk': how many values and letters a reading holds, each counted each time it is reached (what is shared counts as often as it is met; a slice's spare places count too). A statement '..UptoSaid' is the law's where the arguments, and the package variables that the reading takes, are together of bulk at most 1048576: NARROWER than '..Said'. Prove '..Said' where nothing that the law and all that it calls make is longer than what came in: it says more and counts as full. Else prove '..UptoSaid'. A law counts once. -/
mutual
def uptoBulk {H : Type} : DataW H → Nat
  | .lit (.string bytes) => bytes.length + 1
  | .lit _ => 1
  | .nil => 1
  | .ptr d => uptoBulk d + 1
  | .slice elems spare => uptoBulkAll elems + uptoBulkAll spare + 1
  | .agg parts => uptoBulkAll parts + 1
  | .iface _ d => uptoBulk d + 1
  | .map entries => uptoBulkEntries entries + 1
  | .held _ => 1
def uptoBulkAll {H : Type} : List (DataW H) → Nat
  | [] => 0
  | d :: r => uptoBulk d + uptoBulkAll r
def uptoBulkEntries {H : Type} : List (Lit × DataW H) → Nat
  | [] => 0
  | x :: r => uptoBulkEntry x + uptoBulkEntries r
def uptoBulkEntry {H : Type} : Lit × DataW H → Nat
  | (.string bytes, d) => bytes.length + uptoBulk d + 1
  | (_, d) => uptoBulk d + 1
 end
def uptoSmall : (H : Type) → List (DataW H) → Bool := fun _ ds => decide (uptoBulkAll ds ≤ 1048576)
def OpenSpec.upto (s : _root_.Go.ChangeSpec) : _root_.Go.OpenSpec := { _root_.Go.OpenSpec.ofChange s with cond := some uptoSmall }

/-- 'laws.FnPowerOf', WHERE WHAT IT READS IS OF BULK AT MOST 1048576: true; the input reads as it did. -/
def fnPowerOfUptoRow : OpenClaim := { program := "ytaflhjjnkejcoaa", sum := "0c6dbb34d2f72221e329049c63b8103d69e803049bf5100dc408ac7f9229474f", func := "loop.example/residuatedtables/laws.FnPowerOf", spec := "fnPowerOf", unfollowed := true, recurses := true, apart := false, narrowed := true }
def FnPowerOfUptoSaid : Prop := fnPowerOfUptoRow.holds Try.pinned (OpenSpec.upto fnPowerOfSpec)

/-- 'laws.FnHasProperty', WHERE WHAT IT READS IS OF BULK AT MOST 1048576: true; the input reads as it did. -/
def fnHasPropertyUptoRow : OpenClaim := { program := "ytaflhjjnkejcoaa", sum := "0c6dbb34d2f72221e329049c63b8103d69e803049bf5100dc408ac7f9229474f", func := "loop.example/residuatedtables/laws.FnHasProperty", spec := "fnHasProperty", unfollowed := true, recurses := true, apart := false, narrowed := true }
def FnHasPropertyUptoSaid : Prop := fnHasPropertyUptoRow.holds Try.pinned (OpenSpec.upto fnHasPropertySpec)

/-- 'laws.FnSharpOf', WHERE WHAT IT READS IS OF BULK AT MOST 1048576: true; the input reads as it did. -/
def fnSharpOfUptoRow : OpenClaim := { program := "ytaflhjjnkejcoaa", sum := "0c6dbb34d2f72221e329049c63b8103d69e803049bf5100dc408ac7f9229474f", func := "loop.example/residuatedtables/laws.FnSharpOf", spec := "fnSharpOf", unfollowed := true, recurses := true, apart := false, narrowed := true }
def FnSharpOfUptoSaid : Prop := fnSharpOfUptoRow.holds Try.pinned (OpenSpec.upto fnSharpOfSpec)

/-- 'laws.FnDepthOf', WHERE WHAT IT READS IS OF BULK AT MOST 1048576: true; the input reads as it did. -/
def fnDepthOfUptoRow : OpenClaim := { program := "ytaflhjjnkejcoaa", sum := "0c6dbb34d2f72221e329049c63b8103d69e803049bf5100dc408ac7f9229474f", func := "loop.example/residuatedtables/laws.FnDepthOf", spec := "fnDepthOf", unfollowed := true, recurses := true, apart := false, narrowed := true }
def FnDepthOfUptoSaid : Prop := fnDepthOfUptoRow.holds Try.pinned (OpenSpec.upto fnDepthOfSpec)

/-- 'laws.FnIsFilter', WHERE WHAT IT READS IS OF BULK AT MOST 1048576: true; the input reads as it did. -/
def fnIsFilterUptoRow : OpenClaim := { program := "ytaflhjjnkejcoaa", sum := "0c6dbb34d2f72221e329049c63b8103d69e803049bf5100dc408ac7f9229474f", func := "loop.example/residuatedtables/laws.FnIsFilter", spec := "fnIsFilter", unfollowed := true, recurses := true, apart := false, narrowed := true }
def FnIsFilterUptoSaid : Prop := fnIsFilterUptoRow.holds Try.pinned (OpenSpec.upto fnIsFilterSpec)

/-- 'laws.FnFilterBy', WHERE WHAT IT READS IS OF BULK AT MOST 1048576: true; the input reads as it did. -/
def fnFilterByUptoRow : OpenClaim := { program := "ytaflhjjnkejcoaa", sum := "0c6dbb34d2f72221e329049c63b8103d69e803049bf5100dc408ac7f9229474f", func := "loop.example/residuatedtables/laws.FnFilterBy", spec := "fnFilterBy", unfollowed := true, recurses := true, apart := false, narrowed := true }
def FnFilterByUptoSaid : Prop := fnFilterByUptoRow.holds Try.pinned (OpenSpec.upto fnFilterBySpec)

/-- 'laws.FnClassesOf', WHERE WHAT IT READS IS OF BULK AT MOST 1048576: true; the input reads as it did. -/
def fnClassesOfUptoRow : OpenClaim := { program := "ytaflhjjnkejcoaa", sum := "0c6dbb34d2f72221e329049c63b8103d69e803049bf5100dc408ac7f9229474f", func := "loop.example/residuatedtables/laws.FnClassesOf", spec := "fnClassesOf", unfollowed := true, recurses := true, apart := false, narrowed := true }
def FnClassesOfUptoSaid : Prop := fnClassesOfUptoRow.holds Try.pinned (OpenSpec.upto fnClassesOfSpec)

/-- 'laws.FnIsSimple', WHERE WHAT IT READS IS OF BULK AT MOST 1048576: true; the input reads as it did. -/
def fnIsSimpleUptoRow : OpenClaim := { program := "ytaflhjjnkejcoaa", sum := "0c6dbb34d2f72221e329049c63b8103d69e803049bf5100dc408ac7f9229474f", func := "loop.example/residuatedtables/laws.FnIsSimple", spec := "fnIsSimple", unfollowed := true, recurses := true, apart := false, narrowed := true }
def FnIsSimpleUptoSaid : Prop := fnIsSimpleUptoRow.holds Try.pinned (OpenSpec.upto fnIsSimpleSpec)

/-- 'laws.FnHeartOf', WHERE WHAT IT READS IS OF BULK AT MOST 1048576: true; the input reads as it did. -/
def fnHeartOfUptoRow : OpenClaim := { program := "ytaflhjjnkejcoaa", sum := "0c6dbb34d2f72221e329049c63b8103d69e803049bf5100dc408ac7f9229474f", func := "loop.example/residuatedtables/laws.FnHeartOf", spec := "fnHeartOf", unfollowed := true, recurses := true, apart := false, narrowed := true }
def FnHeartOfUptoSaid : Prop := fnHeartOfUptoRow.holds Try.pinned (OpenSpec.upto fnHeartOfSpec)

/-- 'laws.FnPartsOf', WHERE WHAT IT READS IS OF BULK AT MOST 1048576: true; the input reads as it did. -/
def fnPartsOfUptoRow : OpenClaim := { program := "ytaflhjjnkejcoaa", sum := "0c6dbb34d2f72221e329049c63b8103d69e803049bf5100dc408ac7f9229474f", func := "loop.example/residuatedtables/laws.FnPartsOf", spec := "fnPartsOf", unfollowed := true, recurses := true, apart := false, narrowed := true }
def FnPartsOfUptoSaid : Prop := fnPartsOfUptoRow.holds Try.pinned (OpenSpec.upto fnPartsOfSpec)

/-- 'laws.FnTwiceNot', WHERE WHAT IT READS IS OF BULK AT MOST 1048576: true; the input reads as it did. -/
def fnTwiceNotUptoRow : OpenClaim := { program := "ytaflhjjnkejcoaa", sum := "0c6dbb34d2f72221e329049c63b8103d69e803049bf5100dc408ac7f9229474f", func := "loop.example/residuatedtables/laws.FnTwiceNot", spec := "fnTwiceNot", unfollowed := true, recurses := true, apart := false, narrowed := true }
def FnTwiceNotUptoSaid : Prop := fnTwiceNotUptoRow.holds Try.pinned (OpenSpec.upto fnTwiceNotSpec)

end Rows
end Go.Proofs.Ytaflhjjnkejcoaa
