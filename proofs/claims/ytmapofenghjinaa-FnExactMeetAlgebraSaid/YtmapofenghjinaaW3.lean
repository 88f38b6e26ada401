import Derived.Test.YtmapofenghjinaaW2
import Derived.Test.YtmapofenghjinaaR2
namespace Go.Proofs.Ytmapofenghjinaa
open Go.RowKit

def distXYZ (L : List Int) (x y z : Int) : Bool := mt L x (jn L y z) == jn L (mt L x y) (mt L x z)
def distXY (L : List Int) (x y : Int) : Bool := allI (num L) (distXYZ L x y)
def distX (L : List Int) (x : Int) : Bool := allI (num L) (distXY L x)
def distB (L : List Int) : Bool := allI (num L) (distX L)
theorem mt_lt {L : List Int} (h : latB L = true) {x y : Int} (x0 : 0 ≤ x) (x1 : x < num L) (y0 : 0 ≤ y) (y1 : y < num L) : 0 ≤ mt L x y ∧ mt L x y < num L := by
  have p := (mt_pos h x0 x1 y0 y1).1
  rcases firstI_cases (num L) (isMeetB L x y) with ⟨e, _⟩ | ⟨a, b, _⟩
  · have : mt L x y = -1 := e
    omega
  · exact ⟨a, b⟩
theorem jn_lt {L : List Int} (h : latB L = true) {x y : Int} (x0 : 0 ≤ x) (x1 : x < num L) (y0 : 0 ≤ y) (y1 : y < num L) : 0 ≤ jn L x y ∧ jn L x y < num L := by
  have p := (mt_pos h x0 x1 y0 y1).2
  rcases firstI_cases (num L) (isJoinB L x y) with ⟨e, _⟩ | ⟨a, b, _⟩
  · have : jn L x y = -1 := e
    omega
  · exact ⟨a, b⟩

set_option maxRecDepth 100000 in
set_option maxHeartbeats 2000000 in
/-- spec.distributive -/
theorem distributive_any (b off cap : Nat) (L : List Int) (w : World) (hc : Cells w b off L) (hlat : latB L = true) :
    Calls Try.prog 58 #[.slice (some ⟨b, off, none⟩) L.length cap] w fun e w' => e = .returned (.bool (distB L)) ∧ w = w' := by
  obtain ⟨h1, h6, hs⟩ := latB_parts hlat
  have HL := Lib.hid hlat; clear hlat
  have hn : num L = L.length := rfl
  have HN := Lib.hid hn; clear hn
  have hn1 : num L ≤ L.length := by rw [HN.out]; omega
  have hn2 : (L.length : Int) ≤ num L := by rw [HN.out]; omega
  go_enter Try.func58, Try.ntmps58
  go_wp2
  go_loop [3] (fun x => ∃ k : Int, 0 ≤ k ∧ k ≤ num L ∧ x = .int .i64 k ∧ AllTo k (distX L)) (fun x => (6 - intOf x).toNat)
  case atStart => exact ⟨0, by omega, by omega, rfl, AllTo.zero _⟩
  case round =>
    obtain ⟨x, x0, x1, rfl, hx⟩ := hrel
    by_cases hxn : x < num L
    · have hxl : x < L.length := by omega
      go_wp2
      go_loop [4] (fun y => ∃ k : Int, 0 ≤ k ∧ k ≤ num L ∧ y = .int .i64 k ∧ AllTo k (distXY L x)) (fun y => (6 - intOf y).toNat)
      case atStart => exact ⟨0, by omega, by omega, rfl, AllTo.zero _⟩
      case round =>
        obtain ⟨y, y0, y1, rfl, hy⟩ := hrel
        by_cases hyn : y < num L
        · have hyl : y < L.length := by omega
          go_wp2
          go_loop [5] (fun z => ∃ k : Int, 0 ≤ k ∧ k ≤ num L ∧ z = .int .i64 k ∧ AllTo k (distXYZ L x y)) (fun z => (6 - intOf z).toNat)
          case atStart => exact ⟨0, by omega, by omega, rfl, AllTo.zero _⟩
          case round =>
            obtain ⟨z, z0, z1, rfl, hz⟩ := hrel
            by_cases hzn : z < num L
            · have hzl : z < L.length := by omega
              obtain ⟨a0, a1⟩ := jn_lt HL.out y0 hyn z0 hzn
              obtain ⟨b0, b1⟩ := mt_lt HL.out x0 hxn y0 hyn
              obtain ⟨c0, c1⟩ := mt_lt HL.out x0 hxn z0 hzn
              cases hq : mt L x (jn L y z) != jn L (mt L x y) (mt L x z)
              case false =>
                have hv := Lib.hid (show distXYZ L x y z = true by unfold distXYZ; simpa [bne] using hq)
                go_wp2_with (first | (go_at_call 108; refine (meet_any _ _ _ L _ _ _ hc hs (by omega) (by omega) (by omega) (by omega)).mono ?_; rintro e w' ⟨rfl, rfl⟩) | (go_at_call 106; refine (join_any _ _ _ L _ _ _ hc hs (by omega) (by omega) (by omega) (by omega)).mono ?_; rintro e w' ⟨rfl, rfl⟩))
                go_round
                case rel => exact ⟨z + 1, by omega, by omega, rfl, hz.succ hv.out⟩
                case measure => simp [intOf]; omega
              case true =>
                have hv := Lib.hid (show distB L = false from allI_false (p := distX L) x x0 hxn (allI_false (p := distXY L x) y y0 hyn (allI_false (p := distXYZ L x y) z z0 hzn (by unfold distXYZ; simpa [bne] using hq))))
                go_wp2_with (first | (go_at_call 108; refine (meet_any _ _ _ L _ _ _ hc hs (by omega) (by omega) (by omega) (by omega)).mono ?_; rintro e w' ⟨rfl, rfl⟩) | (go_at_call 106; refine (join_any _ _ _ L _ _ _ hc hs (by omega) (by omega) (by omega) (by omega)).mono ?_; rintro e w' ⟨rfl, rfl⟩))
                go_ret
                exact ⟨ret_bool hv.out.symm, rfl⟩
            · have ht := Lib.hid (show distXY L x y = true from hz.all (by omega : num L ≤ z))
              go_wp2
              go_round
              case rel => exact ⟨y + 1, by omega, by omega, rfl, hy.succ ht.out⟩
              case measure => simp [intOf]; omega
        · have ht := Lib.hid (show distX L x = true from hy.all (by omega : num L ≤ y))
          go_wp2
          go_round
          case rel => exact ⟨x + 1, by omega, by omega, rfl, hx.succ ht.out⟩
          case measure => simp [intOf]; omega
    · have ht := Lib.hid (show distB L = true from hx.all (by omega : num L ≤ x))
      go_wp2
      go_ret
      exact ⟨ret_bool ht.out.symm, rfl⟩

end Go.Proofs.Ytmapofenghjinaa
