import Derived.Test.YtidbilgnclfplaaG9
import Derived.Test.YtidbilgnclfplaaH10
namespace Go.Proofs.Ytidbilgnclfplaa
open Go.RowKit
set_option linter.unusedVariables false

def prQ0 (L : List Int) (T : List (List Int)) (x y : Int) : Bool := jn L (imp L T x y) (imp L T y x) == (L.length : Int) - 1
def prQ1 (L : List Int) (T : List (List Int)) (x y : Int) : Bool := tv T x (imp L T x y) == mt L x y
def prQ2 (L : List Int) (T : List (List Int)) (x y : Int) : Bool := imp L T (imp L T x 0) 0 == x
def prQ3 (L : List Int) (T : List (List Int)) (x y : Int) : Bool := tv T x x == x
def prQ4 (L : List Int) (T : List (List Int)) (x y : Int) : Bool := jn L x (imp L T x 0) == (L.length : Int) - 1
/-- the properties, by number -/
def prQ : Nat → List Int → List (List Int) → Int → Int → Bool
  | 0 => prQ0
  | 1 => prQ1
  | 2 => prQ2
  | 3 => prQ3
  | _ => prQ4
/-- which property a name is, 5 for none -/
def prIx (s : ByteArray) : Nat :=
  if s.toList == [112, 114, 101, 108, 105, 110, 101, 97, 114] then 0 else if s.toList == [100, 105, 118, 105, 115, 105, 98, 108, 101] then 1 else if s.toList == [105, 110, 118, 111, 108, 117, 116, 105, 118, 101] then 2 else if s.toList == [105, 100, 101, 109, 112, 111, 116, 101, 110, 116] then 3 else if s.toList == [98, 111, 111, 108, 101, 97, 110] then 4 else 5
def hasB (k : Nat) (L : List Int) (T : List (List Int)) : Bool := all2 (L.length : Int) (prQ k L T)
end Go.Proofs.Ytidbilgnclfplaa

namespace Go.Proofs.Ytidbilgnclfplaa
open Go.RowKit
set_option linter.unusedVariables false

end Go.Proofs.Ytidbilgnclfplaa

namespace Go.Proofs.Ytidbilgnclfplaa
open Go.RowKit
set_option linter.unusedVariables false

/-- what HasProperty answers -/
def hpB (s : ByteArray) (L : List Int) (T : List (List Int)) : Bool := algB L T && (decide (prIx s < 5) && hasB (prIx s) L T)
theorem prIx_0 {s : ByteArray} (q0 : (s.toList == [112, 114, 101, 108, 105, 110, 101, 97, 114]) = true) : prIx s = 0 := by unfold prIx; rw [if_pos q0]
theorem prIx_1 {s : ByteArray} (q0 : (s.toList == [112, 114, 101, 108, 105, 110, 101, 97, 114]) = false) (q1 : (s.toList == [100, 105, 118, 105, 115, 105, 98, 108, 101]) = true) : prIx s = 1 := by unfold prIx; rw [if_neg (by rw [q0]; decide), if_pos q1]
theorem prIx_2 {s : ByteArray} (q0 : (s.toList == [112, 114, 101, 108, 105, 110, 101, 97, 114]) = false) (q1 : (s.toList == [100, 105, 118, 105, 115, 105, 98, 108, 101]) = false) (q2 : (s.toList == [105, 110, 118, 111, 108, 117, 116, 105, 118, 101]) = true) : prIx s = 2 := by unfold prIx; rw [if_neg (by rw [q0]; decide), if_neg (by rw [q1]; decide), if_pos q2]
theorem prIx_3 {s : ByteArray} (q0 : (s.toList == [112, 114, 101, 108, 105, 110, 101, 97, 114]) = false) (q1 : (s.toList == [100, 105, 118, 105, 115, 105, 98, 108, 101]) = false) (q2 : (s.toList == [105, 110, 118, 111, 108, 117, 116, 105, 118, 101]) = false) (q3 : (s.toList == [105, 100, 101, 109, 112, 111, 116, 101, 110, 116]) = true) : prIx s = 3 := by unfold prIx; rw [if_neg (by rw [q0]; decide), if_neg (by rw [q1]; decide), if_neg (by rw [q2]; decide), if_pos q3]
theorem prIx_4 {s : ByteArray} (q0 : (s.toList == [112, 114, 101, 108, 105, 110, 101, 97, 114]) = false) (q1 : (s.toList == [100, 105, 118, 105, 115, 105, 98, 108, 101]) = false) (q2 : (s.toList == [105, 110, 118, 111, 108, 117, 116, 105, 118, 101]) = false) (q3 : (s.toList == [105, 100, 101, 109, 112, 111, 116, 101, 110, 116]) = false) (q4 : (s.toList == [98, 111, 111, 108, 101, 97, 110]) = true) : prIx s = 4 := by unfold prIx; rw [if_neg (by rw [q0]; decide), if_neg (by rw [q1]; decide), if_neg (by rw [q2]; decide), if_neg (by rw [q3]; decide), if_pos q4]
theorem prIx_5 {s : ByteArray} (q0 : (s.toList == [112, 114, 101, 108, 105, 110, 101, 97, 114]) = false) (q1 : (s.toList == [100, 105, 118, 105, 115, 105, 98, 108, 101]) = false) (q2 : (s.toList == [105, 110, 118, 111, 108, 117, 116, 105, 118, 101]) = false) (q3 : (s.toList == [105, 100, 101, 109, 112, 111, 116, 101, 110, 116]) = false) (q4 : (s.toList == [98, 111, 111, 108, 101, 97, 110]) = false) : prIx s = 5 := by unfold prIx; rw [if_neg (by rw [q0]; decide), if_neg (by rw [q1]; decide), if_neg (by rw [q2]; decide), if_neg (by rw [q3]; decide), if_neg (by rw [q4]; decide)]
theorem hp_0 {s : ByteArray} (q0 : (s.toList == [112, 114, 101, 108, 105, 110, 101, 97, 114]) = true) {L : List Int} {T : List (List Int)} (h : algB L T = true) : hpB s L T = hasB 0 L T := by unfold hpB; rw [h, prIx_0 q0]; rfl
theorem hp_1 {s : ByteArray} (q0 : (s.toList == [112, 114, 101, 108, 105, 110, 101, 97, 114]) = false) (q1 : (s.toList == [100, 105, 118, 105, 115, 105, 98, 108, 101]) = true) {L : List Int} {T : List (List Int)} (h : algB L T = true) : hpB s L T = hasB 1 L T := by unfold hpB; rw [h, prIx_1 q0 q1]; rfl
theorem hp_2 {s : ByteArray} (q0 : (s.toList == [112, 114, 101, 108, 105, 110, 101, 97, 114]) = false) (q1 : (s.toList == [100, 105, 118, 105, 115, 105, 98, 108, 101]) = false) (q2 : (s.toList == [105, 110, 118, 111, 108, 117, 116, 105, 118, 101]) = true) {L : List Int} {T : List (List Int)} (h : algB L T = true) : hpB s L T = hasB 2 L T := by unfold hpB; rw [h, prIx_2 q0 q1 q2]; rfl
theorem hp_3 {s : ByteArray} (q0 : (s.toList == [112, 114, 101, 108, 105, 110, 101, 97, 114]) = false) (q1 : (s.toList == [100, 105, 118, 105, 115, 105, 98, 108, 101]) = false) (q2 : (s.toList == [105, 110, 118, 111, 108, 117, 116, 105, 118, 101]) = false) (q3 : (s.toList == [105, 100, 101, 109, 112, 111, 116, 101, 110, 116]) = true) {L : List Int} {T : List (List Int)} (h : algB L T = true) : hpB s L T = hasB 3 L T := by unfold hpB; rw [h, prIx_3 q0 q1 q2 q3]; rfl
theorem hp_4 {s : ByteArray} (q0 : (s.toList == [112, 114, 101, 108, 105, 110, 101, 97, 114]) = false) (q1 : (s.toList == [100, 105, 118, 105, 115, 105, 98, 108, 101]) = false) (q2 : (s.toList == [105, 110, 118, 111, 108, 117, 116, 105, 118, 101]) = false) (q3 : (s.toList == [105, 100, 101, 109, 112, 111, 116, 101, 110, 116]) = false) (q4 : (s.toList == [98, 111, 111, 108, 101, 97, 110]) = true) {L : List Int} {T : List (List Int)} (h : algB L T = true) : hpB s L T = hasB 4 L T := by unfold hpB; rw [h, prIx_4 q0 q1 q2 q3 q4]; rfl
theorem hp_5 {s : ByteArray} (q0 : (s.toList == [112, 114, 101, 108, 105, 110, 101, 97, 114]) = false) (q1 : (s.toList == [100, 105, 118, 105, 115, 105, 98, 108, 101]) = false) (q2 : (s.toList == [105, 110, 118, 111, 108, 117, 116, 105, 118, 101]) = false) (q3 : (s.toList == [105, 100, 101, 109, 112, 111, 116, 101, 110, 116]) = false) (q4 : (s.toList == [98, 111, 111, 108, 101, 97, 110]) = false) {L : List Int} {T : List (List Int)} (h : algB L T = true) : hpB s L T = false := by unfold hpB; rw [h, prIx_5 q0 q1 q2 q3 q4]; rfl
theorem hp_no (s : ByteArray) {L : List Int} {T : List (List Int)} (h : algB L T = false) : hpB s L T = false := by unfold hpB; rw [h]; rfl
end Go.Proofs.Ytidbilgnclfplaa
