import Derived.Test.YtpfnfglaokiipabA1
namespace Go.Proofs.Ytpfnfglaokiipab
open Go.RowKit

set_option maxRecDepth 100000 in
set_option maxHeartbeats 2000000 in
/-- spec.meet -/
theorem meet_any (b off cap : Nat) (L : List Int) (x y : Int) (w : World) (hc : Cells w b off L) (hs : Small L) (x0 : 0 ≤ x) (x1 : x < num L) (y0 : 0 ≤ y) (y1 : y < num L) :
    Calls Try.prog 93 #[.slice (some ⟨b, off, none⟩) L.length cap, .int .i64 x, .int .i64 y] w fun e w' => e = .returned (.int .i64 (mt L x y)) ∧ w = w' := by
  have hl := hs.len
  have hn : num L = L.length := rfl
  have HN := Lib.hid hn; clear hn
  have hn1 : num L ≤ L.length := by rw [HN.out]; omega
  have hn2 : (L.length : Int) ≤ num L := by rw [HN.out]; omega
  go_enter Try.func93, Try.ntmps93
  go_wp2
  go_loop [7] (fun z => ∃ k : Int, 0 ≤ k ∧ k ≤ num L ∧ z = .int .i64 k ∧ NoneTo k (isMeetB L x y)) (fun z => (6 - intOf z).toNat)
  case atStart => exact ⟨0, by omega, by omega, rfl, NoneTo.zero _⟩
  case round =>
    obtain ⟨k, k0, k1, rfl, hno⟩ := hrel
    by_cases hk : k < num L
    · go_wp2_with (go_at_call 91; refine (below_any _ _ _ L _ _ _ hc hs (by omega) (by omega) (by omega) (by omega)).mono ?_; rintro e w' ⟨rfl, rfl⟩)
      all_goals
        go_loop [8, 9] (fun o z => ∃ j : Int, 0 ≤ j ∧ j ≤ num L ∧ z = .int .i64 j ∧ o = .bool (okTo (bl L k x && bl L k y) (meetQ L x y k) j)) (fun _ z => (6 - intOf z).toNat)
        case atStart => exact ⟨0, by omega, by omega, rfl, by simp [okTo_zero, *]⟩
        case round =>
          obtain ⟨j, j0, j1, rfl, rfl⟩ := hrel
          have hsu := okTo_succ (bl L k x && bl L k y) (meetQ L x y k) j j0
          have HS := Lib.hid hsu; clear hsu
          by_cases hj : j < num L
          · cases hok : okTo (bl L k x && bl L k y) (meetQ L x y k) j with
            | true =>
              rw [hok] at HS
              clear hok
              go_wp2_with (go_at_call 91; refine (below_any _ _ _ L _ _ _ hc hs (by omega) (by omega) (by omega) (by omega)).mono ?_; rintro e w' ⟨rfl, rfl⟩)
              all_goals
                go_round
                case rel => exact ⟨j + 1, by omega, by omega, rfl, by rw [HS.out]; simp [meetQ, *]⟩
                case measure => simp [intOf]; omega
            | false =>
              have he := okTo_end j1 (.inr hok)
              rw [hok, ← isMeetB_eq] at he
              have HE := Lib.hid he; clear he hok HS
              go_wp2
              go_round
              case rel => exact ⟨k + 1, by omega, by omega, rfl, hno.succ HE.out⟩
              case measure => simp [intOf]; omega
          · have he := okTo_end (A := bl L k x && bl L k y) (q := meetQ L x y k) j1 (.inl (by omega))
            rw [← isMeetB_eq] at he
            have HE := Lib.hid he; clear he HS
            cases hok : okTo (bl L k x && bl L k y) (meetQ L x y k) j with
            | true =>
              rw [hok] at HE
              clear hok
              have hf := firstI_some k0 hk hno HE.out
              have HF := Lib.hid hf; clear hf
              go_wp2
              go_ret
              exact ⟨ret_int HF.out.symm, rfl⟩
            | false =>
              rw [hok] at HE
              clear hok
              go_wp2
              go_round
              case rel => exact ⟨k + 1, by omega, by omega, rfl, hno.succ HE.out⟩
              case measure => simp [intOf]; omega
    · have hf : mt L x y = -1 := firstI_none fun j h0 h1 => hno j h0 (by omega)
      have HF := Lib.hid hf; clear hf
      go_wp2
      go_ret
      exact ⟨ret_int HF.out.symm, rfl⟩

set_option maxRecDepth 100000 in
set_option maxHeartbeats 2000000 in
/-- spec.join -/
theorem join_any (b off cap : Nat) (L : List Int) (x y : Int) (w : World) (hc : Cells w b off L) (hs : Small L) (x0 : 0 ≤ x) (x1 : x < num L) (y0 : 0 ≤ y) (y1 : y < num L) :
    Calls Try.prog 67 #[.slice (some ⟨b, off, none⟩) L.length cap, .int .i64 x, .int .i64 y] w fun e w' => e = .returned (.int .i64 (jn L x y)) ∧ w = w' := by
  have hl := hs.len
  have hn : num L = L.length := rfl
  have HN := Lib.hid hn; clear hn
  have hn1 : num L ≤ L.length := by rw [HN.out]; omega
  have hn2 : (L.length : Int) ≤ num L := by rw [HN.out]; omega
  go_enter Try.func67, Try.ntmps67
  go_wp2
  go_loop [7] (fun z => ∃ k : Int, 0 ≤ k ∧ k ≤ num L ∧ z = .int .i64 k ∧ NoneTo k (isJoinB L x y)) (fun z => (6 - intOf z).toNat)
  case atStart => exact ⟨0, by omega, by omega, rfl, NoneTo.zero _⟩
  case round =>
    obtain ⟨k, k0, k1, rfl, hno⟩ := hrel
    by_cases hk : k < num L
    · go_wp2_with (go_at_call 91; refine (below_any _ _ _ L _ _ _ hc hs (by omega) (by omega) (by omega) (by omega)).mono ?_; rintro e w' ⟨rfl, rfl⟩)
      all_goals
        go_loop [8, 9] (fun o z => ∃ j : Int, 0 ≤ j ∧ j ≤ num L ∧ z = .int .i64 j ∧ o = .bool (okTo (bl L x k && bl L y k) (joinQ L x y k) j)) (fun _ z => (6 - intOf z).toNat)
        case atStart => exact ⟨0, by omega, by omega, rfl, by simp [okTo_zero, *]⟩
        case round =>
          obtain ⟨j, j0, j1, rfl, rfl⟩ := hrel
          have hsu := okTo_succ (bl L x k && bl L y k) (joinQ L x y k) j j0
          have HS := Lib.hid hsu; clear hsu
          by_cases hj : j < num L
          · cases hok : okTo (bl L x k && bl L y k) (joinQ L x y k) j with
            | true =>
              rw [hok] at HS
              clear hok
              go_wp2_with (go_at_call 91; refine (below_any _ _ _ L _ _ _ hc hs (by omega) (by omega) (by omega) (by omega)).mono ?_; rintro e w' ⟨rfl, rfl⟩)
              all_goals
                go_round
                case rel => exact ⟨j + 1, by omega, by omega, rfl, by rw [HS.out]; simp [joinQ, *]⟩
                case measure => simp [intOf]; omega
            | false =>
              have he := okTo_end j1 (.inr hok)
              rw [hok, ← isJoinB_eq] at he
              have HE := Lib.hid he; clear he hok HS
              go_wp2
              go_round
              case rel => exact ⟨k + 1, by omega, by omega, rfl, hno.succ HE.out⟩
              case measure => simp [intOf]; omega
          · have he := okTo_end (A := bl L x k && bl L y k) (q := joinQ L x y k) j1 (.inl (by omega))
            rw [← isJoinB_eq] at he
            have HE := Lib.hid he; clear he HS
            cases hok : okTo (bl L x k && bl L y k) (joinQ L x y k) j with
            | true =>
              rw [hok] at HE
              clear hok
              have hf := firstI_some k0 hk hno HE.out
              have HF := Lib.hid hf; clear hf
              go_wp2
              go_ret
              exact ⟨ret_int HF.out.symm, rfl⟩
            | false =>
              rw [hok] at HE
              clear hok
              go_wp2
              go_round
              case rel => exact ⟨k + 1, by omega, by omega, rfl, hno.succ HE.out⟩
              case measure => simp [intOf]; omega
    · have hf : jn L x y = -1 := firstI_none fun j h0 h1 => hno j h0 (by omega)
      have HF := Lib.hid hf; clear hf
      go_wp2
      go_ret
      exact ⟨ret_int HF.out.symm, rfl⟩

end Go.Proofs.Ytpfnfglaokiipab
