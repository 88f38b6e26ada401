import Derived.Test.YtmlbdlobdnhimaaZ8
import Derived.Test.YtmlbdlobdnhimaaZ5
import Derived.Test.YtmlbdlobdnhimaaFN2
import Derived.Test.YtmlbdlobdnhimaaW4
namespace Go.Proofs.Ytmlbdlobdnhimaa
open Go.RowKit
theorem upL_congr {g k : Int → Int → Bool} {n : Int} (h : ∀ x y, 0 ≤ x → x < n → 0 ≤ y → y < n → g x y = k x y) : upL g n = upL k n := by
  unfold upL
  refine List.map_congr_left fun i hi => ?_
  have := List.mem_range.1 hi
  exact rowTo_congr fun j j0 j1 => h i j (by omega) (by omega) j0 j1
theorem chain_num {n : Int} (n1 : 1 ≤ n) : num (chainTo n n) = n := by unfold num; exact chainTo_len n n (by omega)
theorem chain_bl {n x y : Int} (n1 : 1 ≤ n) (x0 : 0 ≤ x) (x1 : x < n) (y0 : 0 ≤ y) (y1 : y < n) : bl (chainTo n n) x y = decide (x ≤ y) := by
  rw [← upL_chain n (by omega), upL_bl _ x0 x1 y0 y1]; rfl
theorem chain_chain {n : Int} (n1 : 1 ≤ n) : chainB (chainTo n n) = true := by
  unfold chainB
  rw [chain_num n1, allI_iff]
  intro x x0 x1
  rw [allI_iff]
  intro y y0 y1
  unfold chainXY
  rw [chain_bl n1 x0 x1 y0 y1, chain_bl n1 y0 y1 x0 x1, Bool.or_eq_true, decide_eq_true_eq, decide_eq_true_eq]
  omega
theorem chain_turn {n : Int} (n1 : 1 ≤ n) (n6 : n ≤ 6) : turnedI (chainTo n n) = chainTo n n := by
  rw [turnedI_t (chain_lat n1 n6)]
  unfold turnL
  rw [chain_num n1]
  have : upL (turnG (chainTo n n)) n = upL leG n := upL_congr fun x y x0 x1 y0 y1 => by
    unfold turnG leG
    rw [chain_num n1, chain_bl n1 (by omega) (by omega) (by omega) (by omega)]
    exact decide_eq_decide.2 (by omega)
  rw [this, upL_chain n (by omega)]
set_option maxRecDepth 100000 in
set_option maxHeartbeats 2000000 in
/-- laws.FnChainOf -/
theorem lawPChainOf (a0 : Option Addr) (len0 cap0 : Nat) (w : World) (hy : RdY w a0 len0 w.heap.size) (hc : len0 ≤ cap0) (hm : len0 ≤ maxLen) :
    Calls Try.prog 11 #[.slice a0 len0 cap0] w fun e w' => e = .returned (.bool true) ∧ Below w.heap.size w w' := by
  by_cases hbig : 1048576 < len0
  · have hbig2 : (1048576 : Int) < len0 := by omega
    go_enter Try.func11, Try.ntmps11
    go_wp2
    go_ret
    exact ⟨rfl, Below.refl _ _⟩
  · have hs : len0 ≤ 1048576 := by omega
    have hs2 : ¬ (1048576 : Int) < len0 := by omega
    go_enter Try.func11, Try.ntmps11
    go_wp2_with fail
    refine (drawChainOf_any a0 len0 cap0 w hy hc hs).mono ?_
    rintro e w1 ⟨n, rfl, nl, nh, hb⟩
    have _ := hm
    clear hs hs2 hbig hy hm hc
    have hS : St w none [] w1 := ⟨hb, fun h => absurd rfl h⟩
    have hV6 := chainI_len n
    obtain ⟨V, hV⟩ : ∃ V, V = chainI n := ⟨_, rfl⟩
    rw [← hV] at hV6
    have hM2 : V.length ≤ 1073741824 := by omega
    have HI := Lib.hid (show ∀ (w : World), Calls Try.prog 44 #[.int .i64 n] w (RetSl w.heap.size V w) from fun w => by rw [hV]; exact implChainOf_any n w)
    have HP := Lib.hid (show ∀ (w : World), Calls Try.prog 45 #[.int .i64 n] w (RetSl w.heap.size V w) from fun w => by rw [hV]; exact specChainOf_any n w)
    have HV := Lib.hid hV
    clear hb hV
    by_cases hn : 1 ≤ n ∧ n ≤ 6
    · obtain ⟨n1, n6⟩ := hn
      have hVe : V = chainTo n n := by rw [HV.out]; exact chainI_in ⟨n1, n6⟩
      have hl : latB V = true := by rw [hVe]; exact chain_lat n1 n6
      have hc : chainB V = true := by rw [hVe]; exact chain_chain n1
      have hlen : (V.length : Int) = n := by rw [hVe]; exact chainTo_len n n (by omega)
      have hne : ((V.length : Int) == 0) = false := by rw [beq_eq_false_iff_ne]; omega
      have hVL : turnedI V = V := by rw [hVe]; exact chain_turn n1 n6
      have HJ := Lib.hid (show ∀ (a : Option Addr) (cap : Nat) (w : World), Rd w a V → Calls Try.prog 19 #[.slice a V.length cap] w (RetSl w.heap.size V w) from fun a cap w h => by have := implTurnedLattice_any a cap V w h; rwa [hVL] at this)
      have HVE := Lib.hid hVe
      have HLN := Lib.hid hlen
      have HL := Lib.hid hl
      have HC := Lib.hid hc
      clear hVe hVL hlen hl hc
      go_wp2_with (first
        | go_skip
        | (go_at_call 44; refine (HI.out _).mono ?_; rintro e wz ⟨ahT, chT, rfl, ohT, hb⟩; replace hS := hS.next hb; (try replace hT := hT.next hb); (try replace hU := hU.next hb); have hT : St w ahT V wz := ⟨hS.1, ohT.rd⟩; clear ohT)
        | (go_at_call 45; refine (HP.out _).mono ?_; rintro e wz ⟨ahU, chU, rfl, ohU, hb⟩; replace hS := hS.next hb; (try replace hT := hT.next hb); (try replace hU := hU.next hb); have hU : St w ahU V wz := ⟨hS.1, ohU.rd⟩; clear ohU)
        | (go_at_call 30; refine (equalInts_same _ _ _ _ V _ hT.2 hU.2 hM2).mono ?_; rintro e wz ⟨rfl, hb⟩; replace hS := hS.dr hb; (try replace hT := hT.dr hb); (try replace hU := hU.dr hb)))
      clear hU
      go_loopw [5, 6] (fun i _ wr => ∃ x : Int, 0 ≤ x ∧ x ≤ n ∧ i = .int .i64 x ∧ St w none [] wr ∧ St w ahT V wr) (fun i _ _ => (6 - intOf i).toNat)
      case atStart => exact ⟨0, by omega, by omega, rfl, hS, hT⟩
      case round =>
        obtain ⟨x, x0, x1, rfl, hS, hT⟩ := hrel
        by_cases hx : x < n
        · go_wp2
          go_loopw [6] (fun i wr => ∃ y : Int, 0 ≤ y ∧ y ≤ n ∧ i = .int .i64 y ∧ St w none [] wr ∧ St w ahT V wr) (fun i _ => (6 - intOf i).toNat)
          case atStart => exact ⟨0, by omega, by omega, rfl, hS, hT⟩
          case round =>
            obtain ⟨y, y0, y1, rfl, hS, hT⟩ := hrel
            by_cases hy : y < n
            · have hb : bl V x y = decide (x ≤ y) := by rw [HVE.out]; exact chain_bl n1 x0 hx y0 hy
              have g1 : isBelowB V x y = decide (x ≤ y) := by
                unfold isBelowB
                rw [good_el.2 ⟨HL.out, ⟨x0, by unfold num; rw [HLN.out]; exact hx⟩, ⟨y0, by unfold num; rw [HLN.out]; exact hy⟩⟩, hb]; rfl
              clear hb
              by_cases hxy : x ≤ y
              · rw [decide_eq_true hxy] at g1
                go_wp2_with (first
        | go_skip
        | (go_at_call 18; refine (implIsBelow_any _ _ V _ _ _ hT.2).mono ?_; rintro e wz ⟨rfl, hb⟩; replace hS := hS.next hb; (try replace hT := hT.next hb); (try replace hU := hU.next hb)))
                go_roundw
                case rel => exact ⟨y + 1, by omega, by omega, rfl, hS, hT⟩
                case measure => simp [intOf]; omega
              · rw [decide_eq_false hxy] at g1
                go_wp2_with (first
        | go_skip
        | (go_at_call 18; refine (implIsBelow_any _ _ V _ _ _ hT.2).mono ?_; rintro e wz ⟨rfl, hb⟩; replace hS := hS.next hb; (try replace hT := hT.next hb); (try replace hU := hU.next hb)))
                go_roundw
                case rel => exact ⟨y + 1, by omega, by omega, rfl, hS, hT⟩
                case measure => simp [intOf]; omega
            · go_wp2
              go_roundw
              case rel => exact ⟨x + 1, by omega, by omega, rfl, hS, hT⟩
              case measure => simp [intOf]; omega
        · have hl := HL.out
          have hc := HC.out
          have hln : ((V.length : Int) == n) = true := by rw [beq_iff_eq]; exact HLN.out
          go_wp2_with (first
        | go_skip
        | (go_at_call 35; refine (implIsChain_any _ _ V _ hT.2).mono ?_; rintro e wz ⟨rfl, hb⟩; replace hS := hS.next hb; (try replace hT := hT.next hb); (try replace hU := hU.next hb))
        | (go_at_call 19; refine (HJ.out _ _ _ hT.2).mono ?_; rintro e wz ⟨ahU, chU, rfl, ohU, hb⟩; replace hS := hS.next hb; (try replace hT := hT.next hb); (try replace hU := hU.next hb); have hU : St w ahU V wz := ⟨hS.1, ohU.rd⟩; clear ohU)
        | (go_at_call 30; refine (equalInts_same _ _ _ _ V _ hU.2 hT.2 hM2).mono ?_; rintro e wz ⟨rfl, hb⟩; replace hS := hS.dr hb; (try replace hT := hT.dr hb); (try replace hU := hU.dr hb)))
          go_ret
          exact ⟨rfl, hS.1⟩
    · have hVe : V = [] := by rw [HV.out]; exact chainI_out hn
      subst hVe
      go_wp2_with (first
        | go_skip
        | (go_at_call 44; refine (HI.out _).mono ?_; rintro e wz ⟨ahT, chT, rfl, ohT, hb⟩; replace hS := hS.next hb; (try replace hT := hT.next hb); (try replace hU := hU.next hb); have hT : St w ahT [] wz := ⟨hS.1, ohT.rd⟩; clear ohT)
        | (go_at_call 45; refine (HP.out _).mono ?_; rintro e wz ⟨ahU, chU, rfl, ohU, hb⟩; replace hS := hS.next hb; (try replace hT := hT.next hb); (try replace hU := hU.next hb); have hU : St w ahU [] wz := ⟨hS.1, ohU.rd⟩; clear ohU)
        | (go_at_call 30; refine (equalInts_same _ _ _ _ [] _ hT.2 hU.2 hM2).mono ?_; rintro e wz ⟨rfl, hb⟩; replace hS := hS.dr hb; (try replace hT := hT.dr hb); (try replace hU := hU.dr hb)))
      go_ret
      exact ⟨rfl, hS.1⟩
end Go.Proofs.Ytmlbdlobdnhimaa
