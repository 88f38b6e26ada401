import Derived.Test.YtmlbdlobdnhimaaZ8
import Derived.Test.YtmlbdlobdnhimaaZ5
import Derived.Test.YtmlbdlobdnhimaaFN2
namespace Go.Proofs.Ytmlbdlobdnhimaa
open Go.RowKit
set_option maxRecDepth 100000 in
set_option maxHeartbeats 2000000 in
/-- laws.FnTurnedLattice -/
theorem lawPTurnedLattice (a0 : Option Addr) (len0 cap0 : Nat) (w : World) (hy : RdY w a0 len0 w.heap.size) (hc : len0 ≤ cap0) (hm : len0 ≤ maxLen) :
    Calls Try.prog 10 #[.slice a0 len0 cap0] w fun e w' => e = .returned (.bool true) ∧ Below w.heap.size w w' := by
  by_cases hbig : 1048576 < len0
  · have hbig2 : (1048576 : Int) < len0 := by omega
    go_enter Try.func10, Try.ntmps10
    go_wp2
    go_ret
    exact ⟨rfl, Below.refl _ _⟩
  · have hs : len0 ≤ 1048576 := by omega
    have hs2 : ¬ (1048576 : Int) < len0 := by omega
    go_enter Try.func10, Try.ntmps10
    go_wp2_with fail
    refine (drawTurnedLattice_any a0 len0 cap0 w hy hc hs).mono ?_
    rintro e w1 ⟨L, a, cap, rfl, ho, l8, hb⟩
    have _ := hm
    clear hs hs2 hbig hy hm hc
    have hS : St w a L w1 := ⟨hb, ho.rd⟩
    have hV6 := turnedI_len L
    obtain ⟨V, hV⟩ : ∃ V, V = turnedI L := ⟨_, rfl⟩
    rw [← hV] at hV6
    have hM2 : V.length ≤ 1073741824 := by omega
    have hM3 : L.length ≤ 1073741824 := by omega
    have HI := Lib.hid (show ∀ (a : Option Addr) (cap : Nat) (w : World), Rd w a L → Calls Try.prog 19 #[.slice a L.length cap] w (RetSl w.heap.size V w) from fun a cap w h => by rw [hV]; exact implTurnedLattice_any a cap L w h)
    have HP := Lib.hid (show ∀ (a : Option Addr) (cap : Nat) (w : World), Rd w a L → Calls Try.prog 42 #[.slice a L.length cap] w (RetSl w.heap.size V w) from fun a cap w h => by rw [hV]; exact specTurnedLattice_any a cap L w h)
    have HV := Lib.hid hV
    clear hb ho hV
    cases hl : latB L with
    | false =>
      go_wp2_with (first
        | go_skip
        | (go_at_call 19; refine (HI.out _ _ _ hS.2).mono ?_; rintro e wz ⟨ahT, chT, rfl, ohT, hb⟩; replace hS := hS.next hb; (try replace hT := hT.next hb); (try replace hU := hU.next hb); have hT : St w ahT V wz := ⟨hS.1, ohT.rd⟩; clear ohT)
        | (go_at_call 42; refine (HP.out _ _ _ hS.2).mono ?_; rintro e wz ⟨ahU, chU, rfl, ohU, hb⟩; replace hS := hS.next hb; (try replace hT := hT.next hb); (try replace hU := hU.next hb); have hU : St w ahU V wz := ⟨hS.1, ohU.rd⟩; clear ohU)
        | (go_at_call 30; refine (equalInts_same _ _ _ _ V _ hT.2 hU.2 hM2).mono ?_; rintro e wz ⟨rfl, hb⟩; replace hS := hS.dr hb; (try replace hT := hT.dr hb); (try replace hU := hU.dr hb))
        | (go_at_call 16; refine (implValidLattice_any _ _ L _ hS.2).mono ?_; rintro e wz ⟨rfl, hb⟩; replace hS := hS.next hb; (try replace hT := hT.next hb); (try replace hU := hU.next hb)))
      go_ret
      exact ⟨rfl, hS.1⟩
    | true =>
      obtain ⟨n1, n6⟩ := lat_len hl
      have n1' : (1 : Int) ≤ L.length := n1
      have n6' : (L.length : Int) ≤ 6 := n6
      have hVe : V = turnL L := by rw [HV.out]; exact turnedI_t hl
      have hVL : turnedI V = L := by rw [hVe, turnedI_t (turn_lat hl)]; exact turn_turn hl
      have HVE := Lib.hid hVe
      have HL := Lib.hid hl
      have HJ := Lib.hid (show ∀ (a : Option Addr) (cap : Nat) (w : World), Rd w a V → Calls Try.prog 19 #[.slice a V.length cap] w (RetSl w.heap.size L w) from fun a cap w h => by have := implTurnedLattice_any a cap V w h; rwa [hVL] at this)
      clear hVe hVL
      go_wp2_with (first
        | go_skip
        | (go_at_call 19; refine (HI.out _ _ _ hS.2).mono ?_; rintro e wz ⟨ahT, chT, rfl, ohT, hb⟩; replace hS := hS.next hb; (try replace hT := hT.next hb); (try replace hU := hU.next hb); have hT : St w ahT V wz := ⟨hS.1, ohT.rd⟩; clear ohT)
        | (go_at_call 42; refine (HP.out _ _ _ hS.2).mono ?_; rintro e wz ⟨ahU, chU, rfl, ohU, hb⟩; replace hS := hS.next hb; (try replace hT := hT.next hb); (try replace hU := hU.next hb); have hU : St w ahU V wz := ⟨hS.1, ohU.rd⟩; clear ohU)
        | (go_at_call 30; refine (equalInts_same _ _ _ _ V _ hT.2 hU.2 hM2).mono ?_; rintro e wz ⟨rfl, hb⟩; replace hS := hS.dr hb; (try replace hT := hT.dr hb); (try replace hU := hU.dr hb))
        | (go_at_call 16; refine (implValidLattice_any _ _ L _ hS.2).mono ?_; rintro e wz ⟨rfl, hb⟩; replace hS := hS.next hb; (try replace hT := hT.next hb); (try replace hU := hU.next hb)))
      clear hU
      go_loopw [6, 7] (fun i _ wr => ∃ x : Int, 0 ≤ x ∧ x ≤ L.length ∧ i = .int .i64 x ∧ St w a L wr ∧ St w ahT V wr) (fun i _ _ => ((L.length : Int) - intOf i).toNat)
      case atStart => exact ⟨0, by omega, by omega, rfl, hS, hT⟩
      case round =>
        obtain ⟨x, x0, x1, rfl, hS, hT⟩ := hrel
        by_cases hx : x < L.length
        · have HX := Lib.hid (show El L x from ⟨x0, hx⟩)
          go_wp2
          go_loopw [7] (fun i wr => ∃ y : Int, 0 ≤ y ∧ y ≤ L.length ∧ i = .int .i64 y ∧ St w a L wr ∧ St w ahT V wr) (fun i _ => ((L.length : Int) - intOf i).toNat)
          case atStart => exact ⟨0, by omega, by omega, rfl, hS, hT⟩
          case round =>
            obtain ⟨y, y0, y1, rfl, hS, hT⟩ := hrel
            by_cases hy : y < L.length
            · have HY := Lib.hid (show El L y from ⟨y0, hy⟩)
              have g1 : isBelowB V ((L.length : Int) - 1 - y) ((L.length : Int) - 1 - x) = isBelowB L x y := by
                show isBelowB V (num L - 1 - y) (num L - 1 - x) = _
                unfold isBelowB
                rw [HVE.out, good_el.2 ⟨turn_lat HL.out, el_turn.2 (el_rv HY.out), el_turn.2 (el_rv HX.out)⟩, good_el.2 ⟨HL.out, HX.out, HY.out⟩, turn_bl (el_rv HY.out) (el_rv HX.out), rv_rv, rv_rv]
              cases hq : isBelowB L x y with
              | false =>
                rw [hq] at g1
                go_wp2_with (first
        | go_skip
        | (go_at_call_of 18 (Value.slice ahT V.length chT); refine (implIsBelow_any _ _ V _ _ _ hT.2).mono ?_; rintro e wz ⟨rfl, hb⟩; replace hS := hS.next hb; (try replace hT := hT.next hb); (try replace hU := hU.next hb))
        | (go_at_call_of 18 (Value.slice a L.length cap); refine (implIsBelow_any _ _ L _ _ _ hS.2).mono ?_; rintro e wz ⟨rfl, hb⟩; replace hS := hS.next hb; (try replace hT := hT.next hb); (try replace hU := hU.next hb)))
                go_roundw
                case rel => exact ⟨y + 1, by omega, by omega, rfl, hS, hT⟩
                case measure => simp [intOf]; omega
              | true =>
                rw [hq] at g1
                go_wp2_with (first
        | go_skip
        | (go_at_call_of 18 (Value.slice ahT V.length chT); refine (implIsBelow_any _ _ V _ _ _ hT.2).mono ?_; rintro e wz ⟨rfl, hb⟩; replace hS := hS.next hb; (try replace hT := hT.next hb); (try replace hU := hU.next hb))
        | (go_at_call_of 18 (Value.slice a L.length cap); refine (implIsBelow_any _ _ L _ _ _ hS.2).mono ?_; rintro e wz ⟨rfl, hb⟩; replace hS := hS.next hb; (try replace hT := hT.next hb); (try replace hU := hU.next hb)))
                go_roundw
                case rel => exact ⟨y + 1, by omega, by omega, rfl, hS, hT⟩
                case measure => simp [intOf]; omega
            · go_wp2
              go_roundw
              case rel => exact ⟨x + 1, by omega, by omega, rfl, hS, hT⟩
              case measure => simp [intOf]; omega
        · go_wp2_with (first
        | go_skip
        | (go_at_call 19; refine (HJ.out _ _ _ hT.2).mono ?_; rintro e wz ⟨ahU, chU, rfl, ohU, hb⟩; replace hS := hS.next hb; (try replace hT := hT.next hb); (try replace hU := hU.next hb); have hU : St w ahU L wz := ⟨hS.1, ohU.rd⟩; clear ohU)
        | (go_at_call 30; refine (equalInts_same _ _ _ _ L _ hU.2 hS.2 hM3).mono ?_; rintro e wz ⟨rfl, hb⟩; replace hS := hS.dr hb; (try replace hT := hT.dr hb); (try replace hU := hU.dr hb)))
          go_ret
          exact ⟨rfl, hS.1⟩
end Go.Proofs.Ytmlbdlobdnhimaa
