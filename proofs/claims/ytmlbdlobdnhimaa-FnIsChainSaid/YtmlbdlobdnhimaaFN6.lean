import Derived.Test.YtmlbdlobdnhimaaZ8
import Derived.Test.YtmlbdlobdnhimaaZ5
import Derived.Test.YtmlbdlobdnhimaaFN2
import Derived.Test.YtmlbdlobdnhimaaM10
import Derived.Test.YtmlbdlobdnhimaaF2
namespace Go.Proofs.Ytmlbdlobdnhimaa
open Go.RowKit
set_option maxRecDepth 100000 in
set_option maxHeartbeats 2000000 in
/-- laws.FnIsChain -/
theorem lawPIsChain (a0 : Option Addr) (len0 cap0 : Nat) (w : World) (hy : RdY w a0 len0 w.heap.size) (hc : len0 ≤ cap0) (hm : len0 ≤ maxLen) :
    Calls Try.prog 8 #[.slice a0 len0 cap0] w fun e w' => e = .returned (.bool true) ∧ Below w.heap.size w w' := by
  by_cases hbig : 1048576 < len0
  · have hbig2 : (1048576 : Int) < len0 := by omega
    go_enter Try.func8, Try.ntmps8
    go_wp2
    go_ret
    exact ⟨rfl, Below.refl _ _⟩
  · have hs : len0 ≤ 1048576 := by omega
    have hs2 : ¬ (1048576 : Int) < len0 := by omega
    go_enter Try.func8, Try.ntmps8
    go_wp2_with fail
    refine (drawIsChain_any a0 len0 cap0 w hy hc hs).mono ?_
    rintro e w1 ⟨L, a, cap, rfl, ho, l8, hb⟩
    have _ := hm
    clear hs hs2 hbig hy hm hc
    have hS : St w a L w1 := ⟨hb, ho.rd⟩
    have hM : L.length ≤ maxLen := by unfold maxLen; omega
    clear hb ho
    cases hl : latB L with
    | false =>
      go_wp2_with (first
        | go_skip
        | (go_at_call 35; refine (implIsChain_any _ _ L _ hS.2).mono ?_; rintro e wz ⟨rfl, hb⟩; replace hS := hS.next hb; (try replace hT := hT.next hb); (try replace hU := hU.next hb))
        | (go_at_call 36; refine (specIsChain_any _ _ L _ hS.2).mono ?_; rintro e wz ⟨rfl, hb⟩; replace hS := hS.dr hb; (try replace hT := hT.dr hb); (try replace hU := hU.dr hb))
        | (go_at_call 16; refine (implValidLattice_any _ _ L _ hS.2).mono ?_; rintro e wz ⟨rfl, hb⟩; replace hS := hS.next hb; (try replace hT := hT.next hb); (try replace hU := hU.next hb)))
      go_ret
      exact ⟨rfl, hS.1⟩
    | true =>
      obtain ⟨n1, n6⟩ := lat_len hl
      have n1' : (1 : Int) ≤ L.length := n1
      have n6' : (L.length : Int) ≤ 6 := n6
      have HL := Lib.hid hl
      go_wp2_with (first
        | go_skip
        | (go_at_call 35; refine (implIsChain_any _ _ L _ hS.2).mono ?_; rintro e wz ⟨rfl, hb⟩; replace hS := hS.next hb; (try replace hT := hT.next hb); (try replace hU := hU.next hb))
        | (go_at_call 36; refine (specIsChain_any _ _ L _ hS.2).mono ?_; rintro e wz ⟨rfl, hb⟩; replace hS := hS.dr hb; (try replace hT := hT.dr hb); (try replace hU := hU.dr hb))
        | (go_at_call 16; refine (implValidLattice_any _ _ L _ hS.2).mono ?_; rintro e wz ⟨rfl, hb⟩; replace hS := hS.next hb; (try replace hT := hT.next hb); (try replace hU := hU.next hb)))
      go_loopw [5, 6] (fun ov i wr => ∃ k : Int, 0 ≤ k ∧ k ≤ (L.length : Int) - 1 ∧ i = .int .i64 k ∧ ov = .bool (allI k (covLen L)) ∧ St w a L wr) (fun _ i _ => ((L.length : Int) - intOf i).toNat)
      case atStart => exact ⟨0, by omega, by omega, rfl, rfl, hS⟩
      case round =>
        obtain ⟨k, k0, k1, rfl, rfl, hS⟩ := hrel
        by_cases hk : k < (L.length : Int) - 1
        · have hk2 : k + 1 < L.length := by omega
          have hx : El L k := ⟨k0, by unfold num; omega⟩
          have hV : covI L k = filtTo (covQ L k) (num L) := covI_t (good_el.2 ⟨HL.out, hx, hx⟩)
          have hV6 := covI_len L k
          obtain ⟨V, hVe⟩ : ∃ V, V = covI L k := ⟨_, rfl⟩
          rw [← hVe] at hV hV6
          have HI := Lib.hid (show ∀ (a : Option Addr) (cap : Nat) (w : World), Rd w a L → Calls Try.prog 29 #[.slice a L.length cap, .int .i64 k] w (RetSl w.heap.size V w) from fun a cap w h => by rw [hVe]; exact implCoversOf_any a cap L k w h)
          have hcl : ((V.length : Int) == 1) = covLen L k := by
            unfold covLen
            rw [← hV, Bool.eq_iff_iff, beq_iff_eq, decide_eq_true_eq]
            omega
          have HS := Lib.hid (allI_succ k k0 (covLen L))
          clear hx hV hVe
          cases h1 : allI k (covLen L) with
          | false =>
            go_wp2_with (first
        | go_skip
        | (go_at_call 29; refine (HI.out _ _ _ hS.2).mono ?_; rintro e wz ⟨ahT, chT, rfl, ohT, hb⟩; replace hS := hS.next hb; (try replace hT := hT.next hb); (try replace hU := hU.next hb); have hT : St w ahT V wz := ⟨hS.1, ohT.rd⟩; clear ohT))
            go_roundw
            case rel => exact ⟨k + 1, by omega, by omega, rfl, by rw [HS.out, h1]; rfl, hS⟩
            case measure => simp [intOf]; omega
          | true =>
            cases h2 : covLen L k with
            | false =>
              rw [h2] at hcl
              go_wp2_with (first
        | go_skip
        | (go_at_call 29; refine (HI.out _ _ _ hS.2).mono ?_; rintro e wz ⟨ahT, chT, rfl, ohT, hb⟩; replace hS := hS.next hb; (try replace hT := hT.next hb); (try replace hU := hU.next hb); have hT : St w ahT V wz := ⟨hS.1, ohT.rd⟩; clear ohT))
              go_roundw
              case rel => exact ⟨k + 1, by omega, by omega, rfl, by rw [HS.out, h1, h2]; rfl, hS⟩
              case measure => simp [intOf]; omega
            | true =>
              rw [h2] at hcl
              go_wp2_with (first
        | go_skip
        | (go_at_call 29; refine (HI.out _ _ _ hS.2).mono ?_; rintro e wz ⟨ahT, chT, rfl, ohT, hb⟩; replace hS := hS.next hb; (try replace hT := hT.next hb); (try replace hU := hU.next hb); have hT : St w ahT V wz := ⟨hS.1, ohT.rd⟩; clear ohT))
              go_roundw
              case rel => exact ⟨k + 1, by omega, by omega, rfl, by rw [HS.out, h1, h2]; rfl, hS⟩
              case measure => simp [intOf]; omega
        · have e : k = (L.length : Int) - 1 := by omega
          have hk2 : ¬ (k + 1 < L.length) := by omega
          have hcc : allI k (covLen L) = chainB L := by rw [e]; exact (chain_cov HL.out).symm
          rw [hcc]
          clear e hcc
          cases hc : chainB L with
          | false =>
            go_wp2_with (first
        | go_skip
        | (go_at_call 37; refine (implIsDistributive_any _ _ L _ hS.2).mono ?_; rintro e wz ⟨rfl, hb⟩; replace hS := hS.next hb; (try replace hT := hT.next hb); (try replace hU := hU.next hb)))
            go_ret
            exact ⟨rfl, hS.1⟩
          | true =>
            have hd : distB L = true := chain_dist HL.out hc
            go_wp2_with (first
        | go_skip
        | (go_at_call 37; refine (implIsDistributive_any _ _ L _ hS.2).mono ?_; rintro e wz ⟨rfl, hb⟩; replace hS := hS.next hb; (try replace hT := hT.next hb); (try replace hU := hU.next hb)))
            go_ret
            exact ⟨rfl, hS.1⟩
end Go.Proofs.Ytmlbdlobdnhimaa
