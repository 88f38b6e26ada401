import Derived.Test.YtjcambkjcagcoaaGreatTM3
import Derived.BigQuiet
import Derived.Deep.RegionWith
import Derived.Test.YtjcambkjcagcoaaGreatI5
namespace Go.Proofs.YtjcambkjcagcoaaGreat
open Go.RowKit

theorem num_cases {x : Int} (h : isLf x = true ∨ x = 12 ∨ isSg x = true) : x = 0 ∨ x = 1 ∨ x = 2 ∨ x = 10 ∨ x = 11 ∨ x = 12 ∨ x = 13 ∨ x = 14 ∨ x = 15 ∨ x = 16 := by
  unfold isLf isNm isSg at h
  rw [Bool.or_eq_true, Bool.or_eq_true, Bool.and_eq_true, Bool.and_eq_true, decide_eq_true_eq, decide_eq_true_eq, decide_eq_true_eq, decide_eq_true_eq, beq_iff_eq, beq_iff_eq] at h
  omega
theorem str_add {P : Program} (a b : ByteArray) (w : World) (h : a.size + b.size ≤ 9223372036854775807) : (Op.stringOp .add a b).run P w = .ok (.string (a ++ b)) w := by
  have : ¬ ((9223372036854775807 : Int) < (a.size : Int) + (b.size : Int)) := by omega
  simp [Op.stringOp, this]
theorem upon_of {P : Program} {o : Oper} {a : Act} {K : Act → World → Prop} {Q : Exit → Act → World → Prop} {r r' : _} (h : r = r') (h' : Oper.upon P o a K Q r') : Oper.upon P o a K Q r := h ▸ h'
set_option maxHeartbeats 400000 in
theorem leafHead_any (x : Int) (w : World) : Calls Tryz.prog 212 #[.agg #[.int .i64 x]] w fun e w' => e = .returned (.int .i64 x) ∧ Below w.heap.size w w' := by
  go_enter Tryz.func212, Tryz.ntmps212
  go_wp2
  go_ret
  exact ⟨rfl, by first | exact Below.refl _ _ | exact (Below.refl _ _).alloc (Nat.le_refl _) _⟩
set_option maxHeartbeats 400000 in
theorem oppHead_any (y : Value) (w : World) : Calls Tryz.prog 210 #[.agg #[y]] w fun e w' => e = .returned (.int .i64 12) ∧ Below w.heap.size w w' := by
  go_enter Tryz.func210, Tryz.ntmps210
  go_wp2
  go_ret
  exact ⟨rfl, by first | exact Below.refl _ _ | exact (Below.refl _ _).alloc (Nat.le_refl _) _⟩
set_option maxHeartbeats 400000 in
theorem comHead_any (x : Int) (y z : Value) (w : World) : Calls Tryz.prog 211 #[.agg #[.int .i64 x, y, z]] w fun e w' => e = .returned (.int .i64 x) ∧ Below w.heap.size w w' := by
  go_enter Tryz.func211, Tryz.ntmps211
  go_wp2
  go_ret
  exact ⟨rfl, by first | exact Below.refl _ _ | exact (Below.refl _ _).alloc (Nat.le_refl _) _⟩
theorem tmV_if : ∀ {k : Nat} {t r : List Int}, tmR k t = some r → ∃ T y, tmV k t = .iface T y
  | 0, _, _, h => by cases h
  | _ + 1, [], _, h => by cases h
  | k + 1, x :: t, r, _ => by
    cases h1 : isLf x with
    | true => exact ⟨_, _, tmV_leaf h1⟩
    | false =>
      by_cases h2 : x = 12
      · exact ⟨_, _, tmV_opp h1 h2⟩
      · exact ⟨_, _, tmV_sign h1 h2⟩
/-- the text of numbers -/
def ttI (t : List Int) : ByteArray := if vtB t then txI t.length t else ⟨#[]⟩
theorem vtB_parts {t : List Int} (h : vtB t = true) : t.length ≤ 15 ∧ tmR t.length t = some [] := by
  unfold vtB at h
  rw [Bool.and_eq_true, decide_eq_true_eq, beq_iff_eq] at h
  exact h
end Go.Proofs.YtjcambkjcagcoaaGreat
