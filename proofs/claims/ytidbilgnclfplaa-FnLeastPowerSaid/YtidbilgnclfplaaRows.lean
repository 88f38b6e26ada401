/-
  No cell of these rows narrows 'for every input' (looked for: loops, veiled, ifaces, maps, wideKeys, modest, calm, conditions, laid).
  DERIVED. THE GIVEN ROWS OF THIS SEAT. 13 by the template 'for every input the law returns true; each argument reads behind the call as it read before'; 0 by the template 'total and deterministic' (their statements: YtidbilgnclfplaaTotals.lean).
  GIVEN WITH THE SEED: the statements are not yours to turn. If you find one false, say at which input.
  Laid BY PROGRAM, IN A SANDBOX (cutbox-rows.mjs): the forced cells as the released guide's own fill.sh prints them over the translation 0154225f41337cae… (all of the seat's roots in one cut). By AI agents, Wed Nov 11 2026. No macro, syntax, notation, axiom, sorry.
-/
import Derived.Test.YtidbilgnclfplaaChecked
import GoSem.Claim
import GoSem.ClaimJoined
import GoSem.ClaimMapViews
import Derived.JoinedTies
import Derived.KernelRfl
namespace Go.Proofs.Ytidbilgnclfplaa
/- THE CELL 'sum', in the pinned program and in every row, IS THE sha256 OF THE DUMP (.gsa) THAT YtidbilgnclfplaaProg.lean LOADS. Nothing in Lean hashes anything: it is a label: what it is worth is what the hold of that sum in a sandbox is worth. -/
noncomputable def Try.pinned : Pinned := { name := "ytidbilgnclfplaa", sum := "0154225f41337cae36ee70363b4b814dd63f6964d078f891518552ea84e9f59d", checked := Try.checked }
namespace Rows
def none {H : Type} : Left H := { results := [], args := [] }

/-- 'laws.FnExactParseTerm': WHATEVER THE INPUT: true; the input reads as it did. -/
def fnExactParseTermSpec : ChangeSpec := { name := "fnExactParseTerm", fn := fun _ => fun
  | [d] => { results := [.lit (.bool true)], args := [d] }
  | _ => none }
def fnExactParseTermRow : OpenClaim := { program := "ytidbilgnclfplaa", sum := "0154225f41337cae36ee70363b4b814dd63f6964d078f891518552ea84e9f59d", func := "loop.example/residuatedtables/laws.FnExactParseTerm", spec := "fnExactParseTerm", inPlace := ["internal/bytealg.IndexByteString"], unfollowed := true, recurses := true, apart := false }
def FnExactParseTermSaid : Prop := fnExactParseTermRow.holds Try.pinned (OpenSpec.ofChange fnExactParseTermSpec)

/-- ITS FALSE NEIGHBOUR: 'it returns false'. Refute it at one input. -/
def fnExactParseTermWrong : ChangeSpec := { name := "fnExactParseTerm", fn := fun _ => fun
  | [d] => { results := [.lit (.bool false)], args := [d] }
  | _ => none }
def FnExactParseTermWrongFalsely : Prop := fnExactParseTermRow.holds Try.pinned (OpenSpec.ofChange fnExactParseTermWrong)

/-- 'laws.FnExactValueOf': WHATEVER THE INPUT: true; the input reads as it did. -/
def fnExactValueOfSpec : ChangeSpec := { name := "fnExactValueOf", fn := fun _ => fun
  | [d1, d2, d3] => { results := [.lit (.bool true)], args := [d1, d2, d3] }
  | _ => none }
def fnExactValueOfRow : OpenClaim := { program := "ytidbilgnclfplaa", sum := "0154225f41337cae36ee70363b4b814dd63f6964d078f891518552ea84e9f59d", func := "loop.example/residuatedtables/laws.FnExactValueOf", spec := "fnExactValueOf", unfollowed := true, recurses := true, apart := false }
def FnExactValueOfSaid : Prop := fnExactValueOfRow.holds Try.pinned (OpenSpec.ofChange fnExactValueOfSpec)

/-- ITS FALSE NEIGHBOUR: 'it returns false'. Refute it at one input. -/
def fnExactValueOfWrong : ChangeSpec := { name := "fnExactValueOf", fn := fun _ => fun
  | [d1, d2, d3] => { results := [.lit (.bool false)], args := [d1, d2, d3] }
  | _ => none }
def FnExactValueOfWrongFalsely : Prop := fnExactValueOfRow.holds Try.pinned (OpenSpec.ofChange fnExactValueOfWrong)

/-- 'laws.FnExactRefuteTerm': WHATEVER THE INPUT: true; the input reads as it did. -/
def fnExactRefuteTermSpec : ChangeSpec := { name := "fnExactRefuteTerm", fn := fun _ => fun
  | [d1, d2] => { results := [.lit (.bool true)], args := [d1, d2] }
  | _ => none }
def fnExactRefuteTermRow : OpenClaim := { program := "ytidbilgnclfplaa", sum := "0154225f41337cae36ee70363b4b814dd63f6964d078f891518552ea84e9f59d", func := "loop.example/residuatedtables/laws.FnExactRefuteTerm", spec := "fnExactRefuteTerm", unfollowed := true, recurses := true, apart := false }
def FnExactRefuteTermSaid : Prop := fnExactRefuteTermRow.holds Try.pinned (OpenSpec.ofChange fnExactRefuteTermSpec)

/-- ITS FALSE NEIGHBOUR: 'it returns false'. Refute it at one input. -/
def fnExactRefuteTermWrong : ChangeSpec := { name := "fnExactRefuteTerm", fn := fun _ => fun
  | [d1, d2] => { results := [.lit (.bool false)], args := [d1, d2] }
  | _ => none }
def FnExactRefuteTermWrongFalsely : Prop := fnExactRefuteTermRow.holds Try.pinned (OpenSpec.ofChange fnExactRefuteTermWrong)

/-- 'laws.FnExactIsTrue': WHATEVER THE INPUT: true; the input reads as it did. -/
def fnExactIsTrueSpec : ChangeSpec := { name := "fnExactIsTrue", fn := fun _ => fun
  | [d1, d2] => { results := [.lit (.bool true)], args := [d1, d2] }
  | _ => none }
def fnExactIsTrueRow : OpenClaim := { program := "ytidbilgnclfplaa", sum := "0154225f41337cae36ee70363b4b814dd63f6964d078f891518552ea84e9f59d", func := "loop.example/residuatedtables/laws.FnExactIsTrue", spec := "fnExactIsTrue", unfollowed := true, recurses := true, apart := false }
def FnExactIsTrueSaid : Prop := fnExactIsTrueRow.holds Try.pinned (OpenSpec.ofChange fnExactIsTrueSpec)

/-- ITS FALSE NEIGHBOUR: 'it returns false'. Refute it at one input. -/
def fnExactIsTrueWrong : ChangeSpec := { name := "fnExactIsTrue", fn := fun _ => fun
  | [d1, d2] => { results := [.lit (.bool false)], args := [d1, d2] }
  | _ => none }
def FnExactIsTrueWrongFalsely : Prop := fnExactIsTrueRow.holds Try.pinned (OpenSpec.ofChange fnExactIsTrueWrong)

/-- 'laws.FnExactFollows': WHATEVER THE INPUT: true; the input reads as it did. -/
def fnExactFollowsSpec : ChangeSpec := { name := "fnExactFollows", fn := fun _ => fun
  | [d1, d2, d3] => { results := [.lit (.bool true)], args := [d1, d2, d3] }
  | _ => none }
def fnExactFollowsRow : OpenClaim := { program := "ytidbilgnclfplaa", sum := "0154225f41337cae36ee70363b4b814dd63f6964d078f891518552ea84e9f59d", func := "loop.example/residuatedtables/laws.FnExactFollows", spec := "fnExactFollows", unfollowed := true, recurses := true, apart := false }
def FnExactFollowsSaid : Prop := fnExactFollowsRow.holds Try.pinned (OpenSpec.ofChange fnExactFollowsSpec)

/-- ITS FALSE NEIGHBOUR: 'it returns false'. Refute it at one input. -/
def fnExactFollowsWrong : ChangeSpec := { name := "fnExactFollows", fn := fun _ => fun
  | [d1, d2, d3] => { results := [.lit (.bool false)], args := [d1, d2, d3] }
  | _ => none }
def FnExactFollowsWrongFalsely : Prop := fnExactFollowsRow.holds Try.pinned (OpenSpec.ofChange fnExactFollowsWrong)

/-- 'laws.FnExactLeastPower': WHATEVER THE INPUT: true; the input reads as it did. -/
def fnExactLeastPowerSpec : ChangeSpec := { name := "fnExactLeastPower", fn := fun _ => fun
  | [d1, d2, d3] => { results := [.lit (.bool true)], args := [d1, d2, d3] }
  | _ => none }
def fnExactLeastPowerRow : OpenClaim := { program := "ytidbilgnclfplaa", sum := "0154225f41337cae36ee70363b4b814dd63f6964d078f891518552ea84e9f59d", func := "loop.example/residuatedtables/laws.FnExactLeastPower", spec := "fnExactLeastPower", unfollowed := true, recurses := true, apart := false }
def FnExactLeastPowerSaid : Prop := fnExactLeastPowerRow.holds Try.pinned (OpenSpec.ofChange fnExactLeastPowerSpec)

/-- ITS FALSE NEIGHBOUR: 'it returns false'. Refute it at one input. -/
def fnExactLeastPowerWrong : ChangeSpec := { name := "fnExactLeastPower", fn := fun _ => fun
  | [d1, d2, d3] => { results := [.lit (.bool false)], args := [d1, d2, d3] }
  | _ => none }
def FnExactLeastPowerWrongFalsely : Prop := fnExactLeastPowerRow.holds Try.pinned (OpenSpec.ofChange fnExactLeastPowerWrong)

/-- 'laws.FnValidTerm': WHATEVER THE INPUT: true; the input reads as it did. -/
def fnValidTermSpec : ChangeSpec := { name := "fnValidTerm", fn := fun _ => fun
  | [d] => { results := [.lit (.bool true)], args := [d] }
  | _ => none }
def fnValidTermRow : OpenClaim := { program := "ytidbilgnclfplaa", sum := "0154225f41337cae36ee70363b4b814dd63f6964d078f891518552ea84e9f59d", func := "loop.example/residuatedtables/laws.FnValidTerm", spec := "fnValidTerm", unfollowed := true, recurses := true, apart := false }
def FnValidTermSaid : Prop := fnValidTermRow.holds Try.pinned (OpenSpec.ofChange fnValidTermSpec)

/-- ITS FALSE NEIGHBOUR: 'it returns false'. Refute it at one input. -/
def fnValidTermWrong : ChangeSpec := { name := "fnValidTerm", fn := fun _ => fun
  | [d] => { results := [.lit (.bool false)], args := [d] }
  | _ => none }
def FnValidTermWrongFalsely : Prop := fnValidTermRow.holds Try.pinned (OpenSpec.ofChange fnValidTermWrong)

/-- 'laws.FnTermText': WHATEVER THE INPUT: true; the input reads as it did. -/
def fnTermTextSpec : ChangeSpec := { name := "fnTermText", fn := fun _ => fun
  | [d] => { results := [.lit (.bool true)], args := [d] }
  | _ => none }
def fnTermTextRow : OpenClaim := { program := "ytidbilgnclfplaa", sum := "0154225f41337cae36ee70363b4b814dd63f6964d078f891518552ea84e9f59d", func := "loop.example/residuatedtables/laws.FnTermText", spec := "fnTermText", inPlace := ["internal/bytealg.IndexByteString"], unfollowed := true, recurses := true, apart := false }
def FnTermTextSaid : Prop := fnTermTextRow.holds Try.pinned (OpenSpec.ofChange fnTermTextSpec)

/-- ITS FALSE NEIGHBOUR: 'it returns false'. Refute it at one input. -/
def fnTermTextWrong : ChangeSpec := { name := "fnTermText", fn := fun _ => fun
  | [d] => { results := [.lit (.bool false)], args := [d] }
  | _ => none }
def FnTermTextWrongFalsely : Prop := fnTermTextRow.holds Try.pinned (OpenSpec.ofChange fnTermTextWrong)

/-- 'laws.FnParseTerm': WHATEVER THE INPUT: true; the input reads as it did. -/
def fnParseTermSpec : ChangeSpec := { name := "fnParseTerm", fn := fun _ => fun
  | [d] => { results := [.lit (.bool true)], args := [d] }
  | _ => none }
def fnParseTermRow : OpenClaim := { program := "ytidbilgnclfplaa", sum := "0154225f41337cae36ee70363b4b814dd63f6964d078f891518552ea84e9f59d", func := "loop.example/residuatedtables/laws.FnParseTerm", spec := "fnParseTerm", inPlace := ["internal/bytealg.IndexByteString"], unfollowed := true, recurses := true, apart := false }
def FnParseTermSaid : Prop := fnParseTermRow.holds Try.pinned (OpenSpec.ofChange fnParseTermSpec)

/-- ITS FALSE NEIGHBOUR: 'it returns false'. Refute it at one input. -/
def fnParseTermWrong : ChangeSpec := { name := "fnParseTerm", fn := fun _ => fun
  | [d] => { results := [.lit (.bool false)], args := [d] }
  | _ => none }
def FnParseTermWrongFalsely : Prop := fnParseTermRow.holds Try.pinned (OpenSpec.ofChange fnParseTermWrong)

/-- 'laws.FnValueOf': WHATEVER THE INPUT: true; the input reads as it did. -/
def fnValueOfSpec : ChangeSpec := { name := "fnValueOf", fn := fun _ => fun
  | [d] => { results := [.lit (.bool true)], args := [d] }
  | _ => none }
def fnValueOfRow : OpenClaim := { program := "ytidbilgnclfplaa", sum := "0154225f41337cae36ee70363b4b814dd63f6964d078f891518552ea84e9f59d", func := "loop.example/residuatedtables/laws.FnValueOf", spec := "fnValueOf", unfollowed := true, recurses := true, apart := false }
def FnValueOfSaid : Prop := fnValueOfRow.holds Try.pinned (OpenSpec.ofChange fnValueOfSpec)

/-- ITS FALSE NEIGHBOUR: 'it returns false'. Refute it at one input. -/
def fnValueOfWrong : ChangeSpec := { name := "fnValueOf", fn := fun _ => fun
  | [d] => { results := [.lit (.bool false)], args := [d] }
  | _ => none }
def FnValueOfWrongFalsely : Prop := fnValueOfRow.holds Try.pinned (OpenSpec.ofChange fnValueOfWrong)

/-- 'laws.FnRefuteTerm': WHATEVER THE INPUT: true; the input reads as it did. -/
def fnRefuteTermSpec : ChangeSpec := { name := "fnRefuteTerm", fn := fun _ => fun
  | [d] => { results := [.lit (.bool true)], args := [d] }
  | _ => none }
def fnRefuteTermRow : OpenClaim := { program := "ytidbilgnclfplaa", sum := "0154225f41337cae36ee70363b4b814dd63f6964d078f891518552ea84e9f59d", func := "loop.example/residuatedtables/laws.FnRefuteTerm", spec := "fnRefuteTerm", unfollowed := true, recurses := true, apart := false }
def FnRefuteTermSaid : Prop := fnRefuteTermRow.holds Try.pinned (OpenSpec.ofChange fnRefuteTermSpec)

/-- ITS FALSE NEIGHBOUR: 'it returns false'. Refute it at one input. -/
def fnRefuteTermWrong : ChangeSpec := { name := "fnRefuteTerm", fn := fun _ => fun
  | [d] => { results := [.lit (.bool false)], args := [d] }
  | _ => none }
def FnRefuteTermWrongFalsely : Prop := fnRefuteTermRow.holds Try.pinned (OpenSpec.ofChange fnRefuteTermWrong)

/-- 'laws.FnFollows': WHATEVER THE INPUT: true; the input reads as it did. -/
def fnFollowsSpec : ChangeSpec := { name := "fnFollows", fn := fun _ => fun
  | [d] => { results := [.lit (.bool true)], args := [d] }
  | _ => none }
def fnFollowsRow : OpenClaim := { program := "ytidbilgnclfplaa", sum := "0154225f41337cae36ee70363b4b814dd63f6964d078f891518552ea84e9f59d", func := "loop.example/residuatedtables/laws.FnFollows", spec := "fnFollows", unfollowed := true, recurses := true, apart := false }
def FnFollowsSaid : Prop := fnFollowsRow.holds Try.pinned (OpenSpec.ofChange fnFollowsSpec)

/-- ITS FALSE NEIGHBOUR: 'it returns false'. Refute it at one input. -/
def fnFollowsWrong : ChangeSpec := { name := "fnFollows", fn := fun _ => fun
  | [d] => { results := [.lit (.bool false)], args := [d] }
  | _ => none }
def FnFollowsWrongFalsely : Prop := fnFollowsRow.holds Try.pinned (OpenSpec.ofChange fnFollowsWrong)

/-- 'laws.FnLeastPower': WHATEVER THE INPUT: true; the input reads as it did. -/
def fnLeastPowerSpec : ChangeSpec := { name := "fnLeastPower", fn := fun _ => fun
  | [d] => { results := [.lit (.bool true)], args := [d] }
  | _ => none }
def fnLeastPowerRow : OpenClaim := { program := "ytidbilgnclfplaa", sum := "0154225f41337cae36ee70363b4b814dd63f6964d078f891518552ea84e9f59d", func := "loop.example/residuatedtables/laws.FnLeastPower", spec := "fnLeastPower", unfollowed := true, recurses := true, apart := false }
def FnLeastPowerSaid : Prop := fnLeastPowerRow.holds Try.pinned (OpenSpec.ofChange fnLeastPowerSpec)

/-- ITS FALSE NEIGHBOUR: 'it returns false'. Refute it at one input. -/
def fnLeastPowerWrong : ChangeSpec := { name := "fnLeastPower", fn := fun _ => fun
  | [d] => { results := [.lit (.bool false)], args := [d] }
  | _ => none }
def FnLeastPowerWrongFalsely : Prop := fnLeastPowerRow.holds Try.pinned (OpenSpec.ofChange fnLeastPowerWrong)

/- THE SECOND FORM. 'bulk': how many values and letters a reading holds, each counted each time it is reached (what is shared counts as often as it is met; a slice's spare places count too). A statement '..UptoSaid' is the law's where the arguments, and the package variables that the reading takes, are together of bulk at most 1048576: NARROWER than '..Said'. Prove '..Said' where nothing that the law and all that it calls make is longer than what came in: it says more and counts as full. Else prove '..UptoSaid'. A law counts once. -/
mutual
def uptoBulk {H : Type} : DataW H → Nat
  | .lit (.string bytes) => bytes.length + 1
  | .lit _ => 1
  | .nil => 1
  | .ptr d => uptoBulk d + 1
  | .slice elems spare => uptoBulkAll elems + uptoBulkAll spare + 1
  | .agg parts => uptoBulkAll parts + 1
  | .iface _ d => uptoBulk d + 1
  | .map entries => uptoBulkEntries entries + 1
  | .held _ => 1
def uptoBulkAll {H : Type} : List (DataW H) → Nat
  | [] => 0
  | d :: r => uptoBulk d + uptoBulkAll r
def uptoBulkEntries {H : Type} : List (Lit × DataW H) → Nat
  | [] => 0
  | x :: r => uptoBulkEntry x + uptoBulkEntries r
def uptoBulkEntry {H : Type} : Lit × DataW H → Nat
  | (.string bytes, d) => bytes.length + uptoBulk d + 1
  | (_, d) => uptoBulk d + 1
 end
def uptoSmall : (H : Type) → List (DataW H) → Bool := fun _ ds => decide (uptoBulkAll ds ≤ 1048576)
def OpenSpec.upto (s : _root_.Go.ChangeSpec) : _root_.Go.OpenSpec := { _root_.Go.OpenSpec.ofChange s with cond := some uptoSmall }

/-- 'laws.FnExactParseTerm', WHERE WHAT IT READS IS OF BULK AT MOST 1048576: true; the input reads as it did. -/
def fnExactParseTermUptoRow : OpenClaim := { program := "ytidbilgnclfplaa", sum := "0154225f41337cae36ee70363b4b814dd63f6964d078f891518552ea84e9f59d", func := "loop.example/residuatedtables/laws.FnExactParseTerm", spec := "fnExactParseTerm", inPlace := ["internal/bytealg.IndexByteString"], unfollowed := true, recurses := true, apart := false, narrowed := true }
def FnExactParseTermUptoSaid : Prop := fnExactParseTermUptoRow.holds Try.pinned (OpenSpec.upto fnExactParseTermSpec)

/-- 'laws.FnExactValueOf', WHERE WHAT IT READS IS OF BULK AT MOST 1048576: true; the input reads as it did. -/
def fnExactValueOfUptoRow : OpenClaim := { program := "ytidbilgnclfplaa", sum := "0154225f41337cae36ee70363b4b814dd63f6964d078f891518552ea84e9f59d", func := "loop.example/residuatedtables/laws.FnExactValueOf", spec := "fnExactValueOf", unfollowed := true, recurses := true, apart := false, narrowed := true }
def FnExactValueOfUptoSaid : Prop := fnExactValueOfUptoRow.holds Try.pinned (OpenSpec.upto fnExactValueOfSpec)

/-- 'laws.FnExactRefuteTerm', WHERE WHAT IT READS IS OF BULK AT MOST 1048576: true; the input reads as it did. -/
def fnExactRefuteTermUptoRow : OpenClaim := { program := "ytidbilgnclfplaa", sum := "0154225f41337cae36ee70363b4b814dd63f6964d078f891518552ea84e9f59d", func := "loop.example/residuatedtables/laws.FnExactRefuteTerm", spec := "fnExactRefuteTerm", unfollowed := true, recurses := true, apart := false, narrowed := true }
def FnExactRefuteTermUptoSaid : Prop := fnExactRefuteTermUptoRow.holds Try.pinned (OpenSpec.upto fnExactRefuteTermSpec)

/-- 'laws.FnExactIsTrue', WHERE WHAT IT READS IS OF BULK AT MOST 1048576: true; the input reads as it did. -/
def fnExactIsTrueUptoRow : OpenClaim := { program := "ytidbilgnclfplaa", sum := "0154225f41337cae36ee70363b4b814dd63f6964d078f891518552ea84e9f59d", func := "loop.example/residuatedtables/laws.FnExactIsTrue", spec := "fnExactIsTrue", unfollowed := true, recurses := true, apart := false, narrowed := true }
def FnExactIsTrueUptoSaid : Prop := fnExactIsTrueUptoRow.holds Try.pinned (OpenSpec.upto fnExactIsTrueSpec)

/-- 'laws.FnExactFollows', WHERE WHAT IT READS IS OF BULK AT MOST 1048576: true; the input reads as it did. -/
def fnExactFollowsUptoRow : OpenClaim := { program := "ytidbilgnclfplaa", sum := "0154225f41337cae36ee70363b4b814dd63f6964d078f891518552ea84e9f59d", func := "loop.example/residuatedtables/laws.FnExactFollows", spec := "fnExactFollows", unfollowed := true, recurses := true, apart := false, narrowed := true }
def FnExactFollowsUptoSaid : Prop := fnExactFollowsUptoRow.holds Try.pinned (OpenSpec.upto fnExactFollowsSpec)

/-- 'laws.FnExactLeastPower', WHERE WHAT IT READS IS OF BULK AT MOST 1048576: true; the input reads as it did. -/
def fnExactLeastPowerUptoRow : OpenClaim := { program := "ytidbilgnclfplaa", sum := "0154225f41337cae36ee70363b4b814dd63f6964d078f891518552ea84e9f59d", func := "loop.example/residuatedtables/laws.FnExactLeastPower", spec := "fnExactLeastPower", unfollowed := true, recurses := true, apart := false, narrowed := true }
def FnExactLeastPowerUptoSaid : Prop := fnExactLeastPowerUptoRow.holds Try.pinned (OpenSpec.upto fnExactLeastPowerSpec)

/-- 'laws.FnValidTerm', WHERE WHAT IT READS IS OF BULK AT MOST 1048576: true; the input reads as it did. -/
def fnValidTermUptoRow : OpenClaim := { program := "ytidbilgnclfplaa", sum := "0154225f41337cae36ee70363b4b814dd63f6964d078f891518552ea84e9f59d", func := "loop.example/residuatedtables/laws.FnValidTerm", spec := "fnValidTerm", unfollowed := true, recurses := true, apart := false, narrowed := true }
def FnValidTermUptoSaid : Prop := fnValidTermUptoRow.holds Try.pinned (OpenSpec.upto fnValidTermSpec)

/-- 'laws.FnTermText', WHERE WHAT IT READS IS OF BULK AT MOST 1048576: true; the input reads as it did. -/
def fnTermTextUptoRow : OpenClaim := { program := "ytidbilgnclfplaa", sum := "0154225f41337cae36ee70363b4b814dd63f6964d078f891518552ea84e9f59d", func := "loop.example/residuatedtables/laws.FnTermText", spec := "fnTermText", inPlace := ["internal/bytealg.IndexByteString"], unfollowed := true, recurses := true, apart := false, narrowed := true }
def FnTermTextUptoSaid : Prop := fnTermTextUptoRow.holds Try.pinned (OpenSpec.upto fnTermTextSpec)

/-- 'laws.FnParseTerm', WHERE WHAT IT READS IS OF BULK AT MOST 1048576: true; the input reads as it did. -/
def fnParseTermUptoRow : OpenClaim := { program := "ytidbilgnclfplaa", sum := "0154225f41337cae36ee70363b4b814dd63f6964d078f891518552ea84e9f59d", func := "loop.example/residuatedtables/laws.FnParseTerm", spec := "fnParseTerm", inPlace := ["internal/bytealg.IndexByteString"], unfollowed := true, recurses := true, apart := false, narrowed := true }
def FnParseTermUptoSaid : Prop := fnParseTermUptoRow.holds Try.pinned (OpenSpec.upto fnParseTermSpec)

/-- 'laws.FnValueOf', WHERE WHAT IT READS IS OF BULK AT MOST 1048576: true; the input reads as it did. -/
def fnValueOfUptoRow : OpenClaim := { program := "ytidbilgnclfplaa", sum := "0154225f41337cae36ee70363b4b814dd63f6964d078f891518552ea84e9f59d", func := "loop.example/residuatedtables/laws.FnValueOf", spec := "fnValueOf", unfollowed := true, recurses := true, apart := false, narrowed := true }
def FnValueOfUptoSaid : Prop := fnValueOfUptoRow.holds Try.pinned (OpenSpec.upto fnValueOfSpec)

/-- 'laws.FnRefuteTerm', WHERE WHAT IT READS IS OF BULK AT MOST 1048576: true; the input reads as it did. -/
def fnRefuteTermUptoRow : OpenClaim := { program := "ytidbilgnclfplaa", sum := "0154225f41337cae36ee70363b4b814dd63f6964d078f891518552ea84e9f59d", func := "loop.example/residuatedtables/laws.FnRefuteTerm", spec := "fnRefuteTerm", unfollowed := true, recurses := true, apart := false, narrowed := true }
def FnRefuteTermUptoSaid : Prop := fnRefuteTermUptoRow.holds Try.pinned (OpenSpec.upto fnRefuteTermSpec)

/-- 'laws.FnFollows', WHERE WHAT IT READS IS OF BULK AT MOST 1048576: true; the input reads as it did. -/
def fnFollowsUptoRow : OpenClaim := { program := "ytidbilgnclfplaa", sum := "0154225f41337cae36ee70363b4b814dd63f6964d078f891518552ea84e9f59d", func := "loop.example/residuatedtables/laws.FnFollows", spec := "fnFollows", unfollowed := true, recurses := true, apart := false, narrowed := true }
def FnFollowsUptoSaid : Prop := fnFollowsUptoRow.holds Try.pinned (OpenSpec.upto fnFollowsSpec)

/-- 'laws.FnLeastPower', WHERE WHAT IT READS IS OF BULK AT MOST 1048576: true; the input reads as it did. -/
def fnLeastPowerUptoRow : OpenClaim := { program := "ytidbilgnclfplaa", sum := "0154225f41337cae36ee70363b4b814dd63f6964d078f891518552ea84e9f59d", func := "loop.example/residuatedtables/laws.FnLeastPower", spec := "fnLeastPower", unfollowed := true, recurses := true, apart := false, narrowed := true }
def FnLeastPowerUptoSaid : Prop := fnLeastPowerUptoRow.holds Try.pinned (OpenSpec.upto fnLeastPowerSpec)

end Rows
end Go.Proofs.Ytidbilgnclfplaa
