import Derived.Test.YthjbfdoclifhoaaP2
import Derived.Test.YthjbfdoclifhoaaM10
import Derived.Test.YthjbfdoclifhoaaU3
import Derived.Test.YthjbfdoclifhoaaG6
import Derived.Test.YthjbfdoclifhoaaG9
import Derived.Test.YthjbfdoclifhoaaA5
import Derived.Maps.AppendAt
import Derived.Test.YthjbfdoclifhoaaG3
namespace Go.Proofs.Ythjbfdoclifhoaa
open Go.RowKit
set_option linter.unusedVariables false

/-- the order of a stack, and its products -/
def stG (L M : List Int) (m x y : Int) : Bool := if x < m ∧ y < m then bl L x y else if m ≤ x ∧ m ≤ y then bl M (x - m) (y - m) else decide (x < y)
def stP (T U : List (List Int)) (m x y : Int) : Int := if x < m ∧ y < m then tv T x y else if m ≤ x ∧ m ≤ y then m + tv U (x - m) (y - m) else if x < y then x else y
def stOk (L : List Int) (T : List (List Int)) (M : List Int) (U : List (List Int)) : Bool := algB L T && (algB M U && decide ((L.length : Int) - 1 + M.length ≤ 6))
def stL (L : List Int) (T : List (List Int)) (M : List Int) (U : List (List Int)) : List Int := if stOk L T M U then upL (stG L M ((L.length : Int) - 1)) ((L.length : Int) - 1 + M.length) else []
def stT (L : List Int) (T : List (List Int)) (M : List Int) (U : List (List Int)) : List (List Int) := if stOk L T M U then tabL (stP T U ((L.length : Int) - 1)) ((L.length : Int) - 1 + M.length) else []
section
variable {L M : List Int} {T U : List (List Int)}
theorem st_yes (h1 : algB L T = true) (h2 : algB M U = true) (h3 : (L.length : Int) - 1 + M.length ≤ 6) : stOk L T M U = true ∧ stL L T M U = upL (stG L M ((L.length : Int) - 1)) ((L.length : Int) - 1 + M.length) ∧ stT L T M U = tabL (stP T U ((L.length : Int) - 1)) ((L.length : Int) - 1 + M.length) := by
  have h : stOk L T M U = true := by unfold stOk; rw [h1, h2, decide_eq_true h3]; rfl
  exact ⟨h, by unfold stL; rw [h]; rfl, by unfold stT; rw [h]; rfl⟩
theorem st_no (h : stOk L T M U = false) : stL L T M U = [] ∧ stT L T M U = [] := ⟨by unfold stL; rw [h]; rfl, by unfold stT; rw [h]; rfl⟩
theorem st_ti (L : List Int) (T : List (List Int)) (M : List Int) (U : List (List Int)) : Ti (stL L T M U) (stT L T M U) := by
  cases h : stOk L T M U with
  | false => rw [(st_no h).1, (st_no h).2]; exact Ti.zero
  | true =>
    have h3 : (L.length : Int) - 1 + M.length ≤ 6 := by
      unfold stOk at h
      exact of_decide_eq_true (Bool.and_eq_true_iff.1 (Bool.and_eq_true_iff.1 h).2).2
    unfold stL stT
    rw [h, if_pos rfl, if_pos rfl]
    refine ⟨by rw [stU_len]; omega, by rw [tabL_len]; omega, fun j hj => ?_⟩
    rw [tabL_len] at hj
    rw [tabL_rlen _ hj]; omega
theorem stG_a {m x y : Int} (h1 : x < m) (h2 : y < m) : stG L M m x y = bl L x y := if_pos ⟨h1, h2⟩
theorem stG_b {m x y : Int} (h1 : m ≤ x) (h2 : m ≤ y) : stG L M m x y = bl M (x - m) (y - m) := by unfold stG; rw [if_neg (by omega), if_pos ⟨h1, h2⟩]
theorem stG_c {m x y : Int} (h1 : ¬ (x < m ∧ y < m)) (h2 : ¬ (m ≤ x ∧ m ≤ y)) : stG L M m x y = decide (x < y) := by unfold stG; rw [if_neg h1, if_neg h2]
theorem stP_a {m x y : Int} (h1 : x < m) (h2 : y < m) : stP T U m x y = tv T x y := if_pos ⟨h1, h2⟩
theorem stP_b {m x y : Int} (h1 : m ≤ x) (h2 : m ≤ y) : stP T U m x y = m + tv U (x - m) (y - m) := by unfold stP; rw [if_neg (by omega), if_pos ⟨h1, h2⟩]
theorem stP_c {m x y : Int} (h1 : x < m) (h2 : m ≤ y) : stP T U m x y = x := by unfold stP; rw [if_neg (by omega), if_neg (by omega), if_pos (by omega)]
theorem stP_d {m x y : Int} (h1 : m ≤ x) (h2 : y < m) : stP T U m x y = y := by unfold stP; rw [if_neg (by omega), if_neg (by omega), if_neg (by omega)]
end
theorem enters_st1 : Enters 30 := enters_of Try.func30 (by kernel_rfl) rfl
set_option maxHeartbeats 1000000 in
theorem st1_any (L : List Int) (T : List (List Int)) (M : List Int) (U : List (List Int)) (m : Int) (bf ba bb : Nat) (x y : Int) (w : World) (hf : w.heap[bf]? = some (.cells #[.int .i64 m] 3 (0, 0))) (hA : AlgAt w ba L T) (hB : AlgAt w bb M U) (h : algB L T = true) (h2 : algB M U = true) (hm : m = (L.length : Int) - 1) (x0 : 0 ≤ x) (x1 : x < m + M.length) (y0 : 0 ≤ y) (y1 : y < m + M.length) :
    Calls Try.prog 30 #[.int .i64 x, .int .i64 y, .pointer (some ⟨bf, 0, none⟩), .pointer (some ⟨ba, 0, none⟩), .pointer (some ⟨bb, 0, none⟩)] w fun e w' => e = .returned (.bool (stG L M m x y)) ∧ Dr w w' := by
  have cf := cell_of_one hf
  obtain ⟨l1, l6⟩ := lat_len (alg_lat h)
  obtain ⟨k1, k6⟩ := lat_len (alg_lat h2)
  have hnl : num L = L.length := rfl
  have hnm : num M = M.length := rfl
  have HA := Lib.hid h
  have HB := Lib.hid h2
  clear h h2 hf
  by_cases hxm : x < m <;> by_cases hym : y < m
  · have x6 : x < 6 := by omega
    have y6 : y < 6 := by omega
    have d0 := hA.g x0 x6 y0 y6
    rw [ordG_in (by omega) (by omega)] at d0
    clear hnl hnm hm hA hB
    go_enter Try.func30, Try.ntmps30
    go_wp2
    go_ret
    exact ⟨ret_bool (by rw [stG_a hxm hym]), Dr.refl _⟩
  · clear hnl hnm hA hB
    go_enter Try.func30, Try.ntmps30
    go_wp2
    go_ret
    exact ⟨ret_bool (by rw [stG_c (by omega) (by omega)]), Dr.refl _⟩
  · clear hnl hnm hA hB
    go_enter Try.func30, Try.ntmps30
    go_wp2
    go_ret
    exact ⟨ret_bool (by rw [stG_c (by omega) (by omega)]), Dr.refl _⟩
  · have x6 : x - m < 6 := by omega
    have y6 : y - m < 6 := by omega
    have u0 : 0 ≤ x - m := by omega
    have v0 : 0 ≤ y - m := by omega
    have kx : IntKind.i64.wrap (x - m) = x - m := IntWalk.i64_in _ (by omega)
    have ky : IntKind.i64.wrap (y - m) = y - m := IntWalk.i64_in _ (by omega)
    have d0 := hB.g u0 x6 v0 y6
    rw [ordG_in (by omega) (by omega)] at d0
    clear hnl hnm hm hA hB
    go_enter Try.func30, Try.ntmps30
    go_wp2
    go_quiet (fail)
    go_wp2
    go_ret
    exact ⟨ret_bool (by rw [stG_b (by omega) (by omega)]), ⟨_, rfl⟩⟩
theorem enters_st2 : Enters 31 := enters_of Try.func31 (by kernel_rfl) rfl
set_option maxHeartbeats 1000000 in
theorem st2_any (L : List Int) (T : List (List Int)) (M : List Int) (U : List (List Int)) (m : Int) (bf ba bb : Nat) (x y : Int) (w : World) (hf : w.heap[bf]? = some (.cells #[.int .i64 m] 3 (0, 0))) (hA : AlgAt w ba L T) (hB : AlgAt w bb M U) (h : algB L T = true) (h2 : algB M U = true) (hm : m = (L.length : Int) - 1) (x0 : 0 ≤ x) (x1 : x < m + M.length) (y0 : 0 ≤ y) (y1 : y < m + M.length) :
    Calls Try.prog 31 #[.int .i64 x, .int .i64 y, .pointer (some ⟨bf, 0, none⟩), .pointer (some ⟨ba, 0, none⟩), .pointer (some ⟨bb, 0, none⟩)] w fun e w' => e = .returned (.int .i64 (stP T U m x y)) ∧ Below w.heap.size w w' := by
  have cf := cell_of_one hf
  obtain ⟨l1, l6⟩ := lat_len (alg_lat h)
  obtain ⟨k1, k6⟩ := lat_len (alg_lat h2)
  have hnl : num L = L.length := rfl
  have hnm : num M = M.length := rfl
  have HA := Lib.hid h
  have HB := Lib.hid h2
  clear h h2 hf
  by_cases hxm : x < m <;> by_cases hym : y < m
  · have x6 : x < 6 := by omega
    have y6 : y < 6 := by omega
    have d0 := hA.t x0 x6 y0 y6
    rw [timG_in (by omega) (by omega)] at d0
    have ht := tv_el HA.out (show El L x from ⟨x0, by omega⟩) (show El L y from ⟨y0, by omega⟩)
    obtain ⟨t0, t1⟩ := ht
    clear hnl hnm hm hA hB
    go_enter Try.func31, Try.ntmps31
    go_wp2
    go_ret
    exact ⟨ret_int (by rw [stP_a hxm hym]), Below.refl _ _⟩
  · clear hnl hnm hA hB
    go_enter Try.func31, Try.ntmps31
    go_wp2
    go_ret
    exact ⟨ret_int (by rw [stP_c (by omega) (by omega)]), Below.refl _ _⟩
  · clear hnl hnm hA hB
    go_enter Try.func31, Try.ntmps31
    go_wp2
    go_ret
    exact ⟨ret_int (by rw [stP_d (by omega) (by omega)]), Below.refl _ _⟩
  · have x6 : x - m < 6 := by omega
    have y6 : y - m < 6 := by omega
    have u0 : 0 ≤ x - m := by omega
    have v0 : 0 ≤ y - m := by omega
    have kx : IntKind.i64.wrap (x - m) = x - m := IntWalk.i64_in _ (by omega)
    have ky : IntKind.i64.wrap (y - m) = y - m := IntWalk.i64_in _ (by omega)
    have d0 := hB.t u0 x6 v0 y6
    rw [timG_in (by omega) (by omega)] at d0
    have ht := tv_el HB.out (show El M (x - m) from ⟨u0, by omega⟩) (show El M (y - m) from ⟨v0, by omega⟩)
    have kz : IntKind.i64.wrap (m + tv U (x - m) (y - m)) = m + tv U (x - m) (y - m) := IntWalk.i64_in _ (by have := ht.1; have := ht.2; omega)
    obtain ⟨t0, t1⟩ := ht
    clear hnl hnm hm hA hB
    go_enter Try.func31, Try.ntmps31
    go_wp2
    go_quiet (fail)
    go_wp2
    go_ret
    exact ⟨ret_int (by rw [stP_b (by omega) (by omega)]), Dr.below ⟨_, rfl⟩ _⟩
end Go.Proofs.Ythjbfdoclifhoaa

namespace Go.Proofs.Ythjbfdoclifhoaa
open Go.RowKit
set_option linter.unusedVariables false

theorem alg_tlen {L : List Int} {T : List (List Int)} (h : algB L T = true) : (T.length : Int) = L.length := shape_len (alg_shape h)
end Go.Proofs.Ythjbfdoclifhoaa

namespace Go.Proofs.Ythjbfdoclifhoaa
open Go.RowKit
set_option linter.unusedVariables false
end Go.Proofs.Ythjbfdoclifhoaa
