import Derived.Test.YtpfnfglaokiipacG5
namespace Go.Proofs.Ytpfnfglaokiipac
open Go.RowKit

theorem withB_two {L : List Int} {x y : Int} : withB L [x, y] = ((decide (0 ≤ x) && decide (x ≤ (L.length : Int) - 1)) && (decide (0 ≤ y) && decide (y ≤ (L.length : Int) - 1))) := by
  unfold withB
  rw [show ((List.length [x, y] : Nat) : Int) = (0 + 1) + 1 from rfl, allI_succ _ (by omega), allI_succ _ (by omega), allI_zero, Bool.true_and]
  unfold inE
  rw [show nth [x, y] 0 = x from rfl, show nth [x, y] (0 + 1) = y from rfl, decide_eq_decide.2 (show x < (L.length : Int) ↔ x ≤ (L.length : Int) - 1 by omega), decide_eq_decide.2 (show y < (L.length : Int) ↔ y ≤ (L.length : Int) - 1 by omega)]
theorem withB_one {L : List Int} {x : Int} : withB L [x] = (decide (0 ≤ x) && decide (x ≤ (L.length : Int) - 1)) := by
  unfold withB
  rw [show ((List.length [x] : Nat) : Int) = 0 + 1 from rfl, allI_succ _ (by omega), allI_zero, Bool.true_and]
  unfold inE
  rw [show nth [x] 0 = x from rfl, decide_eq_decide.2 (show x < (L.length : Int) ↔ x ≤ (L.length : Int) - 1 by omega)]
theorem aw_two {L : List Int} {T : List (List Int)} {x y : Int} : awB L T [x, y] = algIn L T x y := by
  unfold awB algIn; rw [withB_two]; exact (Bool.and_assoc _ _ _).symm
theorem aw_one {L : List Int} {T : List (List Int)} {x : Int} : awB L T [x] = algIn L T x x := by
  unfold awB algIn; rw [withB_one]
  cases algB L T <;> cases (decide (0 ≤ x) && decide (x ≤ (L.length : Int) - 1)) <;> rfl
theorem AlgAt.alloc {w : World} {b : Nat} {L : List Int} {T : List (List Int)} (h : AlgAt w b L T) (o : Obj) : AlgAt (w.alloc o) b L T := h.below ((Below.refl w.heap.size w).alloc (Nat.le_refl _) o) h.lt
set_option maxRecDepth 100000 in
set_option maxHeartbeats 1000000 in
/-- impl.algebra.near -/
theorem nearM_any (L : List Int) (T : List (List Int)) (x y : Int) (w : World) (h : algB L T = true) (x0 : 0 ≤ x) (x1 : x < num L) (y0 : 0 ≤ y) (y1 : y < num L) :
    Calls Try.prog 109 #[.agg (algOf L T), .int .i64 x, .int .i64 y] w fun e w' => e = .returned (.int .i64 (nearI L T x y)) ∧ Below w.heap.size w w' := by
  obtain ⟨n1, n6⟩ := lat_len (algB_parts h).1
  obtain ⟨i0, i1⟩ := imp_lt T x y (algB_parts h).1
  obtain ⟨j0, j1⟩ := imp_lt T y x (algB_parts h).1
  have x6 : x < 6 := by omega
  have y6 : y < 6 := by omega
  have i6 : imp L T x y < 6 := by omega
  have j6 : imp L T y x < 6 := by omega
  have d0 := (AlgAt.new w L T).i x0 x6 y0 y6
  have d1 := (AlgAt.new w L T).i y0 y6 x0 x6
  have d2 := (AlgAt.new w L T).t i0 i6 j0 j6
  rw [impG_in x1 y1] at d0
  rw [impG_in y1 x1] at d1
  rw [timG_in i1 j1] at d2
  obtain ⟨w1, hw1⟩ : ∃ w1, w1 = w.alloc (.cells (algOf L T) 60) := ⟨_, rfl⟩
  rw [← hw1] at d0 d1 d2
  have hB : Below w.heap.size w w1 := by rw [hw1]; exact (Below.refl _ _).alloc (Nat.le_refl _) _
  have hv := Lib.hid (show nearI L T x y = tv T (imp L T x y) (imp L T y x) from rfl)
  go_enter Try.func109, Try.ntmps109
  go_wp2_with (rw [← hw1]; clear hw1)
  go_quiet (fail)
  go_wp2
  go_ret
  exact ⟨ret_int (by rw [hv.out]), hB.trans (Dr.below ⟨_, rfl⟩ _)⟩

end Go.Proofs.Ytpfnfglaokiipac
