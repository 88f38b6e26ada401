import Derived.Test.YtmlbdlobdnhimaaZ8
import Derived.Test.YtmlbdlobdnhimaaZ5
import Derived.Test.YtmlbdlobdnhimaaFN2
namespace Go.Proofs.Ytmlbdlobdnhimaa
open Go.RowKit
set_option maxRecDepth 100000 in
set_option maxHeartbeats 2000000 in
/-- laws.FnValidLattice -/
theorem lawPValidLattice (a0 : Option Addr) (len0 cap0 : Nat) (w : World) (hy : RdY w a0 len0 w.heap.size) (hc : len0 ≤ cap0) (hm : len0 ≤ maxLen) :
    Calls Try.prog 3 #[.slice a0 len0 cap0] w fun e w' => e = .returned (.bool true) ∧ Below w.heap.size w w' := by
  by_cases hbig : 1048576 < len0
  · have hbig2 : (1048576 : Int) < len0 := by omega
    go_enter Try.func3, Try.ntmps3
    go_wp2
    go_ret
    exact ⟨rfl, Below.refl _ _⟩
  · have hs : len0 ≤ 1048576 := by omega
    have hs2 : ¬ (1048576 : Int) < len0 := by omega
    go_enter Try.func3, Try.ntmps3
    go_wp2_with fail
    refine (drawValidLattice_any a0 len0 cap0 w hy hc hs).mono ?_
    rintro e w1 ⟨L, a, cap, rfl, ho, l8, hb⟩
    have _ := hm
    clear hs hs2 hbig hy hm hc
    have hS : St w a L w1 := ⟨hb, ho.rd⟩
    clear hb ho
    cases hl : latB L with
    | false =>
      go_wp2_with (first
        | go_skip
        | (go_at_call 16; refine (implValidLattice_any _ _ L _ hS.2).mono ?_; rintro e wz ⟨rfl, hb⟩; replace hS := hS.next hb; (try replace hT := hT.next hb); (try replace hU := hU.next hb))
        | (go_at_call 17; refine (specValidLattice_any _ _ L _ hS.2).mono ?_; rintro e wz ⟨rfl, hb⟩; replace hS := hS.dr hb; (try replace hT := hT.dr hb); (try replace hU := hU.dr hb)))
      go_ret
      exact ⟨rfl, hS.1⟩
    | true =>
      obtain ⟨n1, n6⟩ := lat_len hl
      have n1' : (1 : Int) ≤ L.length := n1
      have ht : latB (turnedI L) = true := by rw [turnedI_t hl]; exact turn_lat hl
      have HL := Lib.hid hl
      go_wp2_with (first
        | go_skip
        | (go_at_call 16; refine (implValidLattice_any _ _ L _ hS.2).mono ?_; rintro e wz ⟨rfl, hb⟩; replace hS := hS.next hb; (try replace hT := hT.next hb); (try replace hU := hU.next hb))
        | (go_at_call 17; refine (specValidLattice_any _ _ L _ hS.2).mono ?_; rintro e wz ⟨rfl, hb⟩; replace hS := hS.dr hb; (try replace hT := hT.dr hb); (try replace hU := hU.dr hb)))
      go_loopw [6] (fun i wr => ∃ k : Int, 0 ≤ k ∧ k ≤ L.length ∧ i = .int .i64 k ∧ St w a L wr) (fun i _ => ((L.length : Int) - intOf i).toNat)
      case atStart => exact ⟨0, by omega, by omega, rfl, hS⟩
      case round =>
        obtain ⟨k, k0, k1, rfl, hS⟩ := hrel
        by_cases hk : k < L.length
        · have hx : El L k := ⟨k0, hk⟩
          have g1 : isBelowB L 0 k = true := by unfold isBelowB; rw [good_el.2 ⟨HL.out, el_0 HL.out, hx⟩, bl_low HL.out hx]; rfl
          have g2 : isBelowB L k ((L.length : Int) - 1) = true := by
            show isBelowB L k (num L - 1) = true
            unfold isBelowB; rw [good_el.2 ⟨HL.out, hx, el_t HL.out⟩]; exact bl_top HL.out hx
          have g3 : isBelowB L k k = true := by unfold isBelowB; rw [good_el.2 ⟨HL.out, hx, hx⟩, bl_refl HL.out hx]; rfl
          clear hx
          go_wp2_with (first
        | go_skip
        | (go_at_call 18; refine (implIsBelow_any _ _ L _ _ _ hS.2).mono ?_; rintro e wz ⟨rfl, hb⟩; replace hS := hS.next hb; (try replace hT := hT.next hb); (try replace hU := hU.next hb)))
          go_roundw
          case rel => exact ⟨k + 1, by omega, by omega, rfl, hS⟩
          case measure => simp [intOf]; omega
        · go_wp2_with (first
        | go_skip
        | (go_at_call 19; refine (implTurnedLattice_any _ _ L _ hS.2).mono ?_; rintro e wz ⟨ahT, chT, rfl, ohT, hb⟩; replace hS := hS.next hb; (try replace hT := hT.next hb); (try replace hU := hU.next hb); have hT : St w ahT (turnedI L) wz := ⟨hS.1, ohT.rd⟩; clear ohT)
        | (go_at_call 16; refine (implValidLattice_any _ _ (turnedI L) _ hT.2).mono ?_; rintro e wz ⟨rfl, hb⟩; replace hS := hS.next hb; (try replace hT := hT.next hb); (try replace hU := hU.next hb)))
          go_ret
          exact ⟨rfl, hS.1⟩
end Go.Proofs.Ytmlbdlobdnhimaa
