import Derived.Test.YtjcambkjcagcoaaK1
import Derived.Test.YtjcambkjcagcoaaL5
import Derived.Test.YtjcambkjcagcoaaH10
namespace Go.Proofs.Ytjcambkjcagcoaa
open Go.RowKit

set_option maxRecDepth 100000 in
set_option maxHeartbeats 1000000 in
/-- impl.lattice.greatest -/
theorem greatest_any (L : List Int) (w : World) (n1 : (L.length : Int) ≤ 6) :
    Calls Try.prog 95 #[.agg (latOf L)] w fun e w' => e = .returned (.int .i64 (L.length - 1)) ∧ Below w.heap.size w w' := by
  obtain ⟨w1, hw1⟩ : ∃ w1, w1 = w.alloc (.cells (latOf L) 67) := ⟨_, rfl⟩
  have hB : Below w.heap.size w w1 := by rw [hw1]; exact (Below.refl _ _).alloc (Nat.le_refl _) _
  have hL : LatAt w1 w.heap.size L := by rw [hw1]; exact LatAt.new w L
  have c0 := hL.size
  have k1 : IntKind.i64.wrap ((L.length : Int) - 1) = L.length - 1 := IntWalk.i64_in _ (by omega)
  go_enter Try.func95, Try.ntmps95
  go_wp2_with (rw [← hw1]; clear hw1)
  go_ret
  exact ⟨rfl, hB⟩

end Go.Proofs.Ytjcambkjcagcoaa

namespace Go.Proofs.Ytjcambkjcagcoaa
open Go.RowKit

def powO (L : List Int) (T : List (List Int)) (x k : Int) : Int := if algIn L T x x && (decide (0 ≤ k) && decide (k ≤ 20)) then powr L T x k else -1
theorem powO_f1 {L : List Int} {T : List (List Int)} {x k : Int} (h : algIn L T x x = false) : powO L T x k = -1 := by unfold powO; rw [h]; rfl
theorem powO_f2 {L : List Int} {T : List (List Int)} {x k : Int} (h : (decide (0 ≤ k) && decide (k ≤ 20)) = false) : powO L T x k = -1 := by unfold powO; rw [h, Bool.and_false]; rfl
theorem powO_t {L : List Int} {T : List (List Int)} {x k : Int} (h : algIn L T x x = true) (hk : (decide (0 ≤ k) && decide (k ≤ 20)) = true) : powO L T x k = powr L T x k := by unfold powO; rw [h, hk]; rfl
set_option maxRecDepth 100000 in
set_option maxHeartbeats 1000000 in
/-- impl.algebra.power -/
theorem powerM_any (L : List Int) (T : List (List Int)) (x k : Int) (w : World) (h : algB L T = true) (x0 : 0 ≤ x) (x1 : x < num L) (k0 : 0 ≤ k) (k1 : k ≤ 64) :
    Calls Try.prog 134 #[.agg (algOf L T), .int .i64 x, .int .i64 k] w fun e w' => e = .returned (.int .i64 (powr L T x k)) ∧ Below w.heap.size w w' := by
  obtain ⟨hlat, hsh, _⟩ := algB_parts h
  obtain ⟨n1, n6⟩ := lat_len hlat
  have hn : num L = L.length := rfl
  have n6' : (L.length : Int) ≤ 6 := by omega
  have x6 : x < 6 := by omega
  obtain ⟨w1, hw1⟩ : ∃ w1, w1 = w.alloc (.cells (algOf L T) 69) := ⟨_, rfl⟩
  have hB : Below w.heap.size w w1 := by rw [hw1]; exact (Below.refl _ _).alloc (Nat.le_refl _) _
  have hA : AlgAt w1 w.heap.size L T := by rw [hw1]; exact AlgAt.new w L T
  have HL := Lib.hid hlat
  have HS := Lib.hid hsh
  have HN := Lib.hid hn
  clear hlat hsh h hn
  go_enter Try.func134, Try.ntmps134
  go_wp2_with (first
    | (rw [← hw1]; clear hw1)
    | (refine wpList_load_mid_w rfl 67 _ rfl w.heap.size 0 rfl _ _ hA.lat Try.underlying67 rfl (size_latOf L) ?_)
    | (go_at_call 95; refine (greatest_any L _ n6').mono ?_; rintro e w2 ⟨rfl, h2⟩))
  have hA2 := hA.below h2 hA.lt
  have B2 := hB.trans (h2.mono hB.size)
  clear hA h2 hB
  go_loopw [7, 12] (fun p c wr => ∃ m : Int, 0 ≤ m ∧ m ≤ k ∧ c = .int .i64 m ∧ p = .int .i64 (powr L T x m) ∧ w2 = wr) (fun _ c _ => (64 - intOf c).toNat)
  case atStart => exact ⟨0, by omega, by omega, rfl, by rw [powr_zero, HN.out], rfl⟩
  case round =>
    obtain ⟨m, m0, m1, rfl, rfl, rfl⟩ := hrel
    by_cases hm : m < k
    · obtain ⟨p0, p1⟩ := powr_lt HL.out HS.out x0 x1 m
      have p6 : powr L T x m < 6 := by omega
      have d := hA2.t p0 p6 x0 x6
      rw [timG_in p1 x1] at d
      have hsu := Lib.hid (powr_succ L T x m0)
      go_wp2
      go_roundw
      case rel => exact ⟨m + 1, by omega, by omega, rfl, by rw [hsu.out], trivial⟩
      case measure => simp [intOf]; omega
    · have e : m = k := by omega
      subst e
      go_wp2
      go_ret
      exact ⟨rfl, B2⟩

end Go.Proofs.Ytjcambkjcagcoaa
