import Derived.Test.YtmlbdlobdnhimaaA4
namespace Go.Proofs.Ytmlbdlobdnhimaa
open Go.RowKit

def goodB (L : List Int) (x y : Int) : Bool := latB L && (decide (0 ≤ x) && decide (x ≤ num L - 1)) && (decide (0 ≤ y) && decide (y ≤ num L - 1))
def isBelowB (L : List Int) (x y : Int) : Bool := goodB L x y && bl L x y
def meetOfI (L : List Int) (x y : Int) : Int := if goodB L x y then mt L x y else -1
def joinOfI (L : List Int) (x y : Int) : Int := if goodB L x y then jn L x y else -1
def chainXY (L : List Int) (x y : Int) : Bool := bl L x y || bl L y x
def chainB (L : List Int) : Bool := allI (num L) fun x => allI (num L) (chainXY L x)
theorem goodB_parts {L : List Int} {x y : Int} (h : goodB L x y = true) : latB L = true ∧ 1 ≤ num L ∧ num L ≤ 6 ∧ Small L ∧ 0 ≤ x ∧ x < num L ∧ 0 ≤ y ∧ y < num L := by
  unfold goodB at h
  simp only [Bool.and_eq_true, decide_eq_true_eq] at h
  obtain ⟨⟨a, b, c⟩, d, e⟩ := h
  obtain ⟨h1, h6, hs⟩ := latB_parts a
  exact ⟨a, h1, h6, hs, b, by omega, d, by omega⟩

set_option maxHeartbeats 400000 in
/-- spec.ValidLattice -/
theorem specValidLattice_any (a : Option Addr) (cap : Nat) (L : List Int) (w : World) (hr : Rd w a L) :
    Calls Try.prog 17 #[.slice a L.length cap] w fun e w' => e = .returned (.bool (latB L)) ∧ Dr w w' := by
  go_enter Try.func17, Try.ntmps17
  go_wp2_with (go_at_call 60; refine (validLattice_any _ _ _ _ hr).mono ?_; rintro e w1 ⟨rfl, hd⟩)
  go_ret
  exact ⟨rfl, hd⟩

set_option maxHeartbeats 400000 in
/-- spec.good -/
theorem good_any (a : Option Addr) (cap : Nat) (L : List Int) (x y : Int) (w : World) (hr : Rd w a L) (hm : L.length ≤ maxLen) :
    Calls Try.prog 66 #[.slice a L.length cap, .int .i64 x, .int .i64 y] w fun e w' => e = .returned (.bool (goodB L x y)) ∧ Dr w w' := by
  unfold maxLen at hm
  have hg : goodB L x y = (latB L && (decide (0 ≤ x) && decide (x ≤ (L.length : Int) - 1)) && (decide (0 ≤ y) && decide (y ≤ (L.length : Int) - 1))) := rfl
  have HG := Lib.hid hg; clear hg
  cases hA : latB L <;> cases hB : (decide (0 ≤ x) && decide (x ≤ (L.length : Int) - 1)) <;> cases hC : (decide (0 ≤ y) && decide (y ≤ (L.length : Int) - 1))
  all_goals
    rw [hA, hB, hC] at HG
    go_enter Try.func66, Try.ntmps66
    go_wp2_with (first | (go_at_call 60; refine (validLattice_any _ _ _ _ hr).mono ?_; rintro e w1 ⟨rfl, hd⟩) | (go_at_call 81; refine (inRange_any _ _ _ _).mono ?_; rintro e w' ⟨rfl, rfl⟩))
    go_ret
    exact ⟨ret_bool HG.out.symm, by assumption⟩

set_option maxHeartbeats 400000 in
/-- spec.IsBelow -/
theorem specIsBelow_any (a : Option Addr) (cap : Nat) (L : List Int) (x y : Int) (w : World) (hr : Rd w a L) (hm : L.length ≤ maxLen) :
    Calls Try.prog 21 #[.slice a L.length cap, .int .i64 x, .int .i64 y] w fun e w' => e = .returned (.bool (isBelowB L x y)) ∧ Dr w w' := by
  have hg : isBelowB L x y = (goodB L x y && bl L x y) := rfl
  have HG := Lib.hid hg; clear hg
  cases hA : goodB L x y with
  | false =>
    rw [hA] at HG
    go_enter Try.func21, Try.ntmps21
    go_wp2_with (go_at_call 66; refine (good_any _ _ _ _ _ _ hr hm).mono ?_; rintro e w1 ⟨rfl, hd⟩)
    go_ret
    exact ⟨ret_bool HG.out.symm, by assumption⟩
  | true =>
    obtain ⟨_, h1, h6, hs, x0, x1, y0, y1⟩ := goodB_parts hA
    obtain ⟨b, off, rfl, hc⟩ := hr.pos h1
    rw [hA] at HG
    go_enter Try.func21, Try.ntmps21
    go_wp2_with (first | (go_at_call 66; refine (good_any _ _ _ _ _ _ hr hm).mono ?_; rintro e w1 ⟨rfl, hd⟩) | (go_at_call 67; refine (below_any _ _ _ L _ _ _ (hd.cells hc) hs x0 x1 y0 (by omega)).mono ?_; rintro e w' ⟨rfl, rfl⟩))
    go_ret
    exact ⟨ret_bool HG.out.symm, by assumption⟩

set_option maxHeartbeats 400000 in
/-- spec.MeetOf -/
theorem specMeetOf_any (a : Option Addr) (cap : Nat) (L : List Int) (x y : Int) (w : World) (hr : Rd w a L) (hm : L.length ≤ maxLen) :
    Calls Try.prog 25 #[.slice a L.length cap, .int .i64 x, .int .i64 y] w fun e w' => e = .returned (.int .i64 (meetOfI L x y)) ∧ Dr w w' := by
  have hg : meetOfI L x y = if goodB L x y then mt L x y else -1 := rfl
  have HG := Lib.hid hg; clear hg
  cases hA : goodB L x y with
  | false =>
    rw [hA] at HG
    go_enter Try.func25, Try.ntmps25
    go_wp2_with (go_at_call 66; refine (good_any _ _ _ _ _ _ hr hm).mono ?_; rintro e w1 ⟨rfl, hd⟩)
    go_ret
    exact ⟨ret_int HG.out.symm, by assumption⟩
  | true =>
    obtain ⟨_, h1, h6, hs, x0, x1, y0, y1⟩ := goodB_parts hA
    obtain ⟨b, off, rfl, hc⟩ := hr.pos h1
    rw [hA] at HG
    go_enter Try.func25, Try.ntmps25
    go_wp2_with (first | (go_at_call 66; refine (good_any _ _ _ _ _ _ hr hm).mono ?_; rintro e w1 ⟨rfl, hd⟩) | (go_at_call 68; refine (meet_any _ _ _ L _ _ _ (hd.cells hc) hs x0 x1 y0 y1).mono ?_; rintro e w' ⟨rfl, rfl⟩))
    go_ret
    exact ⟨ret_int HG.out.symm, by assumption⟩

set_option maxHeartbeats 400000 in
/-- spec.JoinOf -/
theorem specJoinOf_any (a : Option Addr) (cap : Nat) (L : List Int) (x y : Int) (w : World) (hr : Rd w a L) (hm : L.length ≤ maxLen) :
    Calls Try.prog 27 #[.slice a L.length cap, .int .i64 x, .int .i64 y] w fun e w' => e = .returned (.int .i64 (joinOfI L x y)) ∧ Dr w w' := by
  have hg : joinOfI L x y = if goodB L x y then jn L x y else -1 := rfl
  have HG := Lib.hid hg; clear hg
  cases hA : goodB L x y with
  | false =>
    rw [hA] at HG
    go_enter Try.func27, Try.ntmps27
    go_wp2_with (go_at_call 66; refine (good_any _ _ _ _ _ _ hr hm).mono ?_; rintro e w1 ⟨rfl, hd⟩)
    go_ret
    exact ⟨ret_int HG.out.symm, by assumption⟩
  | true =>
    obtain ⟨_, h1, h6, hs, x0, x1, y0, y1⟩ := goodB_parts hA
    obtain ⟨b, off, rfl, hc⟩ := hr.pos h1
    rw [hA] at HG
    go_enter Try.func27, Try.ntmps27
    go_wp2_with (first | (go_at_call 66; refine (good_any _ _ _ _ _ _ hr hm).mono ?_; rintro e w1 ⟨rfl, hd⟩) | (go_at_call 69; refine (join_any _ _ _ L _ _ _ (hd.cells hc) hs x0 x1 y0 y1).mono ?_; rintro e w' ⟨rfl, rfl⟩))
    go_ret
    exact ⟨ret_int HG.out.symm, by assumption⟩

set_option maxRecDepth 100000 in
set_option maxHeartbeats 1000000 in
/-- spec.isChain -/
theorem isChain_any (b off cap : Nat) (L : List Int) (w : World) (hc : Cells w b off L) (hs : Small L) :
    Calls Try.prog 75 #[.slice (some ⟨b, off, none⟩) L.length cap] w fun e w' => e = .returned (.bool (chainB L)) ∧ w = w' := by
  have hl := hs.len
  have hn : num L = L.length := rfl
  have HN := Lib.hid hn; clear hn
  have hn1 : num L ≤ L.length := by rw [HN.out]; omega
  have hn2 : (L.length : Int) ≤ num L := by rw [HN.out]; omega
  go_enter Try.func75, Try.ntmps75
  go_wp2
  go_loop [3] (fun x => ∃ k : Int, 0 ≤ k ∧ k ≤ num L ∧ x = .int .i64 k ∧ AllTo k (fun x => allI (num L) (chainXY L x))) (fun x => (6 - intOf x).toNat)
  case atStart => exact ⟨0, by omega, by omega, rfl, AllTo.zero _⟩
  case round =>
    obtain ⟨x, x0, x1, rfl, hx⟩ := hrel
    by_cases hxn : x < num L
    · have hxl : x < L.length := by omega
      go_wp2
      go_loop [4] (fun y => ∃ k : Int, 0 ≤ k ∧ k ≤ num L ∧ y = .int .i64 k ∧ AllTo k (chainXY L x)) (fun y => (6 - intOf y).toNat)
      case atStart => exact ⟨0, by omega, by omega, rfl, AllTo.zero _⟩
      case round =>
        obtain ⟨y, y0, y1, rfl, hy⟩ := hrel
        by_cases hyn : y < num L
        · have hyl : y < L.length := by omega
          cases hA : bl L x y <;> cases hB : bl L y x
          all_goals go_wp2_with (go_at_call 67; refine (below_any _ _ _ L _ _ _ hc hs (by omega) (by omega) (by omega) (by omega)).mono ?_; rintro e w' ⟨rfl, rfl⟩)
          all_goals first | (go_ret; exact ⟨ret_bool (allI_false (p := fun x => allI (num L) (chainXY L x)) x x0 hxn (allI_false y y0 hyn (by unfold chainXY; rw [hA, hB]; rfl))).symm, rfl⟩) | skip
          all_goals
            go_round
            case rel => exact ⟨y + 1, by omega, by omega, rfl, hy.succ (by unfold chainXY; rw [hA, hB]; rfl)⟩
            case measure => simp [intOf]; omega
        · have ht := hy.all (by omega : num L ≤ y)
          have HT := Lib.hid ht; clear ht
          go_wp2
          go_round
          case rel => exact ⟨x + 1, by omega, by omega, rfl, hx.succ HT.out⟩
          case measure => simp [intOf]; omega
    · have ht := hx.all (by omega : num L ≤ x)
      have HT := Lib.hid ht; clear ht
      go_wp2
      go_ret
      exact ⟨ret_bool HT.out.symm, rfl⟩

set_option maxHeartbeats 400000 in
/-- spec.IsChain -/
theorem specIsChain_any (a : Option Addr) (cap : Nat) (L : List Int) (w : World) (hr : Rd w a L) :
    Calls Try.prog 36 #[.slice a L.length cap] w fun e w' => e = .returned (.bool (latB L && chainB L)) ∧ Dr w w' := by
  cases hA : latB L with
  | false =>
    go_enter Try.func36, Try.ntmps36
    go_wp2_with (go_at_call 60; refine (validLattice_any _ _ _ _ hr).mono ?_; rintro e w1 ⟨rfl, hd⟩)
    go_ret
    exact ⟨rfl, by assumption⟩
  | true =>
    obtain ⟨h1, h6, hs⟩ := latB_parts hA
    obtain ⟨b, off, rfl, hc⟩ := hr.pos h1
    go_enter Try.func36, Try.ntmps36
    go_wp2_with (first | (go_at_call 60; refine (validLattice_any _ _ _ _ hr).mono ?_; rintro e w1 ⟨rfl, hd⟩) | (go_at_call 75; refine (isChain_any _ _ _ L _ (hd.cells hc) hs).mono ?_; rintro e w' ⟨rfl, rfl⟩))
    go_ret
    exact ⟨rfl, by assumption⟩
theorem below_is (b off cap : Nat) (L : List Int) (x y : Int) (w : World) (hc : Cells w b off L) (hs : Small L) (x0 : 0 ≤ x) (x1 : x < num L) (y0 : 0 ≤ y) (y1 : y ≤ 30) {r : Bool} (h : bl L x y = r) :
    Calls Try.prog 67 #[.slice (some ⟨b, off, none⟩) L.length cap, .int .i64 x, .int .i64 y] w fun e w' => e = .returned (.bool r) ∧ w = w' := by
  subst h; exact below_any b off cap L x y w hc hs x0 x1 y0 y1
end Go.Proofs.Ytmlbdlobdnhimaa
