import Derived.Test.YthjbfdoclifhoaaG3
import Derived.Test.YthjbfdoclifhoaaD3
import Derived.Test.YthjbfdoclifhoaaA5
import Derived.Test.YthjbfdoclifhoaaM5
namespace Go.Proofs.Ythjbfdoclifhoaa
open Go.RowKit

/-- x and y are elements of the algebra -/
def algIn (L : List Int) (T : List (List Int)) (x y : Int) : Bool := algB L T && (decide (0 ≤ x) && decide (x ≤ L.length - 1)) && (decide (0 ≤ y) && decide (y ≤ L.length - 1))
theorem algIn_parts {L : List Int} {T : List (List Int)} {x y : Int} (h : algIn L T x y = true) : algB L T = true ∧ 0 ≤ x ∧ x < num L ∧ 0 ≤ y ∧ y < num L := by
  unfold algIn at h
  simp only [Bool.and_eq_true, decide_eq_true_eq] at h
  have : num L = L.length := rfl
  exact ⟨h.1.1, h.1.2.1, by omega, h.2.1, by omega⟩
end Go.Proofs.Ythjbfdoclifhoaa

namespace Go.Proofs.Ythjbfdoclifhoaa
open Go.RowKit

def implyI (L : List Int) (T : List (List Int)) (x y : Int) : Int := if algIn L T x y then imp L T x y else -1
def notI (L : List Int) (T : List (List Int)) (x : Int) : Int := if algIn L T x x then imp L T x 0 else -1
def nearO (L : List Int) (T : List (List Int)) (x y : Int) : Int := if algIn L T x y then nearI L T x y else -1
end Go.Proofs.Ythjbfdoclifhoaa

namespace Go.Proofs.Ythjbfdoclifhoaa
open Go.RowKit

theorem withB_twoI {L : List Int} {x y : Int} : withB L [x, y] = ((decide (0 ≤ x) && decide (x ≤ (L.length : Int) - 1)) && (decide (0 ≤ y) && decide (y ≤ (L.length : Int) - 1))) := by
  unfold withB
  rw [show ((List.length [x, y] : Nat) : Int) = (0 + 1) + 1 from rfl, allI_succ _ (by omega), allI_succ _ (by omega), allI_zero, Bool.true_and]
  unfold inE
  rw [show nth [x, y] 0 = x from rfl, show nth [x, y] (0 + 1) = y from rfl, decide_eq_decide.2 (show x < (L.length : Int) ↔ x ≤ (L.length : Int) - 1 by omega), decide_eq_decide.2 (show y < (L.length : Int) ↔ y ≤ (L.length : Int) - 1 by omega)]
theorem withB_one {L : List Int} {x : Int} : withB L [x] = (decide (0 ≤ x) && decide (x ≤ (L.length : Int) - 1)) := by
  unfold withB
  rw [show ((List.length [x] : Nat) : Int) = 0 + 1 from rfl, allI_succ _ (by omega), allI_zero, Bool.true_and]
  unfold inE
  rw [show nth [x] 0 = x from rfl, decide_eq_decide.2 (show x < (L.length : Int) ↔ x ≤ (L.length : Int) - 1 by omega)]
theorem aw_two {L : List Int} {T : List (List Int)} {x y : Int} : awB L T [x, y] = algIn L T x y := by
  unfold awB algIn; rw [withB_twoI]; exact (Bool.and_assoc _ _ _).symm
theorem aw_one {L : List Int} {T : List (List Int)} {x : Int} : awB L T [x] = algIn L T x x := by
  unfold awB algIn; rw [withB_one]
  cases algB L T <;> cases (decide (0 ≤ x) && decide (x ≤ (L.length : Int) - 1)) <;> rfl
theorem AlgAt.alloc {w : World} {b : Nat} {L : List Int} {T : List (List Int)} (h : AlgAt w b L T) (o : Obj) : AlgAt (w.alloc o) b L T := h.below ((Below.refl w.heap.size w).alloc (Nat.le_refl _) o) h.lt
set_option maxRecDepth 100000 in
set_option maxHeartbeats 1000000 in
/-- impl.algebra.not -/
theorem not_any (L : List Int) (T : List (List Int)) (x : Int) (w : World) (h : algB L T = true) (x0 : 0 ≤ x) (x1 : x < num L) :
    Calls Try.prog 63 #[.agg (algOf L T), .int .i64 x] w fun e w' => e = .returned (.int .i64 (imp L T x 0)) ∧ Below w.heap.size w w' := by
  obtain ⟨n1, n6⟩ := lat_len (algB_parts h).1
  have x6 : x < 6 := by omega
  have d : (w.alloc (.cells (algOf L T) 58)).cell? ⟨w.heap.size, 145 + x.toNat * 6, none⟩ = some (.int .i64 (imp L T x 0)) := by
    have := (AlgAt.new w L T).i x0 x6 (y := 0) (by omega) (by omega)
    rwa [impG_in x1 (by omega)] at this
  obtain ⟨w1, hw1⟩ : ∃ w1, w1 = w.alloc (.cells (algOf L T) 58) := ⟨_, rfl⟩
  rw [← hw1] at d
  have hB : Below w.heap.size w w1 := by rw [hw1]; exact (Below.refl _ _).alloc (Nat.le_refl _) _
  go_enter Try.func63, Try.ntmps63
  go_wp2_with (rw [← hw1]; clear hw1)
  go_ret
  exact ⟨rfl, hB⟩

end Go.Proofs.Ythjbfdoclifhoaa
