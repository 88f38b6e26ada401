import Derived.Test.YtpfnfglaokiipabA2
namespace Go.Proofs.Ytpfnfglaokiipab
open Go.RowKit

set_option maxHeartbeats 400000 in
/-- spec.validOrder: no numbers, or more than six -/
theorem validOrder_len (a : Option Addr) (cap : Nat) (L : List Int) (w : World) (hl : num L < 1 ∨ 6 < num L) :
    Calls Try.prog 101 #[.slice a L.length cap] w fun e w' => e = .returned (.bool (voB L)) ∧ w = w' := by
  have hv := Lib.hid (voB_len hl)
  have hn : (decide (1 ≤ (L.length : Int)) && decide ((L.length : Int) ≤ 6)) = false := by
    unfold num at hl
    rw [Bool.eq_false_iff, Ne, Bool.and_eq_true, decide_eq_true_eq, decide_eq_true_eq]; omega
  go_enter Try.func101, Try.ntmps101
  go_wp2_with (go_at_call 60; refine (inRange_any _ _ _ _).mono ?_; rintro e w' ⟨rfl, rfl⟩)
  all_goals (go_ret; exact ⟨ret_bool hv.out.symm, rfl⟩)

set_option maxRecDepth 100000 in
set_option maxHeartbeats 2000000 in
/-- spec.validOrder: one to six numbers -/
theorem validOrder_six (b off cap : Nat) (L : List Int) (w : World) (hc : Cells w b off L) (h1 : 1 ≤ num L) (h6 : num L ≤ 6) :
    Calls Try.prog 101 #[.slice (some ⟨b, off, none⟩) L.length cap] w fun e w' => e = .returned (.bool (voB L)) ∧ Dr w w' := by
  have hc0 := hc
  have hn : num L = L.length := rfl
  have HN := Lib.hid hn; clear hn
  have hn1 : num L ≤ L.length := by rw [HN.out]; omega
  have hn2 : (L.length : Int) ≤ num L := by rw [HN.out]; omega
  have hin : (decide (1 ≤ (L.length : Int)) && decide ((L.length : Int) ≤ 6)) = true := by
    rw [Bool.and_eq_true, decide_eq_true_eq, decide_eq_true_eq]; omega
  have p1 := pw_30 L.length (by omega)
  have p2 := pw_pos L.length
  go_enter Try.func101, Try.ntmps101
  go_wp2_with (go_at_call 60; refine (inRange_any _ _ _ _).mono ?_; rintro e w' ⟨rfl, rfl⟩)
  go_loopw [4] (fun x wr => ∃ k : Int, 0 ≤ k ∧ k ≤ num L ∧ x = .int .i64 k ∧ AllTo k (inR L) ∧ Dr w wr) (fun x _ => (6 - intOf x).toNat)
  case atStart => exact ⟨0, by omega, by omega, rfl, AllTo.zero _, Dr.refl _⟩
  case round =>
    obtain ⟨k, k0, k1, rfl, hall, hd⟩ := hrel
    replace hc := hd.cells hc
    by_cases hk : k < num L
    · have c1 := hc.at k k0 hk
      have hkl : k < L.length := by omega
      have hir : inR L k = (decide (0 ≤ nth L k) && decide (nth L k ≤ pw L.length - 1)) := rfl
      cases hi : inR L k with
      | true =>
        rw [hi] at hir
        have hir2 := hir.symm
        clear hir
        have HI := Lib.hid hi; clear hi
        go_wp2
        go_quiet (first | (go_at_call 110; exact q_same (power_any _ _ (by omega) (by omega))) | (go_at_call 60; exact q_same (inRange_any _ _ _ _)))
        go_wp2
        go_roundw
        case rel => exact ⟨k + 1, by omega, by omega, rfl, hall.succ HI.out, hd.more _⟩
        case measure => simp [intOf]; omega
      | false =>
        rw [hi] at hir
        have hir2 := hir.symm
        clear hir
        have hv := Lib.hid (voB_rng k0 hk hi)
        clear hi
        go_wp2
        go_quiet (first | (go_at_call 110; exact q_same (power_any _ _ (by omega) (by omega))) | (go_at_call 60; exact q_same (inRange_any _ _ _ _)))
        go_wp2
        go_ret
        exact ⟨ret_bool hv.out.symm, hd.more _⟩
    · have hr : AllTo (num L) (inR L) := fun j j0 j1 => hall j j0 (by omega)
      have hs := small_of h6 hr
      clear hall
      go_wp2
      obtain ⟨w1, rfl⟩ : ∃ w1 : World, w1 = wr := ⟨_, rfl⟩
      go_loopw [5] (fun x wr => ∃ k : Int, 0 ≤ k ∧ k ≤ num L ∧ x = .int .i64 k ∧ AllTo k (ordX L) ∧ Dr w wr) (fun x _ => (6 - intOf x).toNat)
      case atStart => exact ⟨0, by omega, by omega, rfl, AllTo.zero _, hd⟩
      case round =>
        obtain ⟨x, x0, x1, rfl, hx, hd2⟩ := hrel
        replace hc := hd2.cells hc0
        by_cases hxn : x < num L
        · have hxl : x < L.length := by omega
          have hnl : num L - 1 = L.length - 1 := by omega
          have HNL := Lib.hid hnl; clear hnl
          cases hA : bl L x x <;> cases hB : bl L 0 x <;> cases hC : bl L x (L.length - 1)
          all_goals go_wp2_with (go_at_call 91; refine (below_any _ _ _ L _ _ _ hc hs (by omega) (by omega) (by omega) (by omega)).mono ?_; rintro e w' ⟨rfl, rfl⟩)
          all_goals first | (go_ret; exact ⟨ret_bool (voB_ord x0 hxn (ordX_f1 (by rw [HNL.out, hA, hB, hC]; rfl))).symm, hd2⟩) | skip
          have hb : (bl L x x && bl L 0 x && bl L x (num L - 1)) = true := by rw [HNL.out, hA, hB, hC]; rfl
          clear hA hB hC
          have HB := Lib.hid hb; clear hb
          obtain ⟨w2, rfl⟩ : ∃ w2 : World, w2 = wr := ⟨_, rfl⟩
          go_loopw [6] (fun y wr => ∃ k : Int, 0 ≤ k ∧ k ≤ num L ∧ y = .int .i64 k ∧ AllTo k (ordXY L x) ∧ Dr w wr) (fun y _ => (6 - intOf y).toNat)
          case atStart => exact ⟨0, by omega, by omega, rfl, AllTo.zero _, hd2⟩
          case round =>
            obtain ⟨y, y0, y1, rfl, hy, hd3⟩ := hrel
            replace hc := hd3.cells hc0
            by_cases hyn : y < num L
            · have hyl : y < L.length := by omega
              cases hA : x != y <;> cases hB : bl L x y <;> cases hC : bl L y x
              all_goals go_wp2_with (go_at_call 91; refine (below_any _ _ _ L _ _ _ hc hs (by omega) (by omega) (by omega) (by omega)).mono ?_; rintro e w' ⟨rfl, rfl⟩)
              all_goals first | (go_ret; exact ⟨ret_bool (voB_ord x0 hxn (ordX_f2 y0 hyn (ordXY_f1 (by rw [hA, hB, hC]; rfl)))).symm, hd3⟩) | skip
              all_goals
                have hb2 : (x != y && bl L x y && bl L y x) = false := by rw [hA, hB, hC]; rfl
                clear hA hB hC
                have HB2 := Lib.hid hb2; clear hb2
                obtain ⟨w3, rfl⟩ : ∃ w3 : World, w3 = wr := ⟨_, rfl⟩
                go_loopw [7] (fun z wr => ∃ k : Int, 0 ≤ k ∧ k ≤ num L ∧ z = .int .i64 k ∧ AllTo k (ordXYZ L x y) ∧ Dr w wr) (fun z _ => (6 - intOf z).toNat)
                case atStart => exact ⟨0, by omega, by omega, rfl, AllTo.zero _, hd3⟩
                case round =>
                  obtain ⟨z, z0, z1, rfl, hz, hd4⟩ := hrel
                  replace hc := hd4.cells hc0
                  by_cases hzn : z < num L
                  · have hzl : z < L.length := by omega
                    cases hA : bl L x y <;> cases hB : bl L y z <;> cases hC : bl L x z
                    all_goals go_wp2_with (go_at_call 91; refine (below_any _ _ _ L _ _ _ hc hs (by omega) (by omega) (by omega) (by omega)).mono ?_; rintro e w' ⟨rfl, rfl⟩)
                    all_goals first | (go_ret; exact ⟨ret_bool (voB_ord x0 hxn (ordX_f2 y0 hyn (ordXY_f2 z0 hzn (by unfold ordXYZ; rw [hA, hB, hC]; rfl)))).symm, hd4⟩) | skip
                    all_goals
                      go_roundw
                      case rel => exact ⟨z + 1, by omega, by omega, rfl, hz.succ (by unfold ordXYZ; rw [hA, hB, hC]; rfl), hd4⟩
                      case measure => simp [intOf]; omega
                  · have ht := ordXY_t HB2.out (by omega : num L ≤ z) hz
                    have HT := Lib.hid ht; clear ht
                    go_wp2
                    go_roundw
                    case rel => exact ⟨y + 1, by omega, by omega, rfl, hy.succ HT.out, hd4⟩
                    case measure => simp [intOf]; omega
            · have ht := ordX_t HB.out (by omega : num L ≤ y) hy
              have HT := Lib.hid ht; clear ht
              go_wp2
              go_roundw
              case rel => exact ⟨x + 1, by omega, by omega, rfl, hx.succ HT.out, hd3⟩
              case measure => simp [intOf]; omega
        · have hv := Lib.hid (voB_t h1 h6 hr (by omega : num L ≤ x) hx)
          go_wp2
          go_ret
          exact ⟨ret_bool hv.out.symm, hd2⟩
end Go.Proofs.Ytpfnfglaokiipab
