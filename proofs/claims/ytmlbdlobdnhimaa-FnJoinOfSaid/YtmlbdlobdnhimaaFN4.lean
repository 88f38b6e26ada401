import Derived.Test.YtmlbdlobdnhimaaZ8
import Derived.Test.YtmlbdlobdnhimaaZ5
import Derived.Test.YtmlbdlobdnhimaaFN2
namespace Go.Proofs.Ytmlbdlobdnhimaa
open Go.RowKit
set_option maxRecDepth 100000 in
set_option maxHeartbeats 2000000 in
/-- laws.FnJoinOf -/
theorem lawPJoinOf (a0 : Option Addr) (len0 cap0 : Nat) (w : World) (hy : RdY w a0 len0 w.heap.size) (hc : len0 ≤ cap0) (hm : len0 ≤ maxLen) :
    Calls Try.prog 6 #[.slice a0 len0 cap0] w fun e w' => e = .returned (.bool true) ∧ Below w.heap.size w w' := by
  by_cases hbig : 1048576 < len0
  · have hbig2 : (1048576 : Int) < len0 := by omega
    go_enter Try.func6, Try.ntmps6
    go_wp2
    go_ret
    exact ⟨rfl, Below.refl _ _⟩
  · have hs : len0 ≤ 1048576 := by omega
    have hs2 : ¬ (1048576 : Int) < len0 := by omega
    go_enter Try.func6, Try.ntmps6
    go_wp2_with fail
    refine (drawJoinOf_any a0 len0 cap0 w hy hc hs).mono ?_
    rintro e w1 ⟨L, a, cap, x, y, rfl, ho, l8, xl, xh, yl, yh, hb⟩
    have _ := hm
    clear hs hs2 hbig hy hm hc
    have hS : St w a L w1 := ⟨hb, ho.rd⟩
    have hM : L.length ≤ maxLen := by unfold maxLen; omega
    clear hb ho
    cases hG : goodB L x y with
    | false =>
      have v2 : joinOfI L x y = -1 := by unfold joinOfI; rw [hG]; rfl
      clear hG
      go_wp2_with (first
        | go_skip
        | (go_at_call 23; refine (implJoinOf_any _ _ L x y _ hS.2).mono ?_; rintro e wz ⟨rfl, hb⟩; replace hS := hS.next hb; (try replace hT := hT.next hb); (try replace hU := hU.next hb))
        | (go_at_call 27; refine (specJoinOf_any _ _ L x y _ hS.2 hM).mono ?_; rintro e wz ⟨rfl, hb⟩; replace hS := hS.dr hb; (try replace hT := hT.dr hb); (try replace hU := hU.dr hb)))
      go_ret
      exact ⟨rfl, hS.1⟩
    | true =>
      obtain ⟨hl, hx, hy⟩ := good_el.1 hG
      have he := jn_el hl hx hy
      have hlen := turnL_len L
      have hnum : num L = L.length := rfl
      have v2 : joinOfI L x y = jn L x y := by unfold joinOfI; rw [hG]; rfl
      have v4 : joinOfI L y x = jn L x y := by unfold joinOfI; rw [good_el.2 ⟨hl, hy, hx⟩, ← jn_comm hl hx hy]; rfl
      have v3 : meetOfI L x (jn L x y) = x := by unfold meetOfI; rw [good_el.2 ⟨hl, hx, he⟩]; simp [mt_jn hl hx hy]
      obtain ⟨V, hV⟩ : ∃ V, V = turnedI L := ⟨_, rfl⟩
      have HC := Lib.hid (show ∀ (a : Option Addr) (cap : Nat) (w : World), Rd w a L → Calls Try.prog 19 #[.slice a L.length cap] w (RetSl w.heap.size V w) from fun a cap w h => by rw [hV]; exact implTurnedLattice_any a cap L w h)
      have v5 : meetOfI V ((L.length : Int) - 1 - x) ((L.length : Int) - 1 - y) = (L.length : Int) - 1 - jn L x y := by
        unfold meetOfI; rw [hV, turnedI_t hl, ← hnum, good_el.2 ⟨turn_lat hl, el_turn.2 (el_rv hx), el_turn.2 (el_rv hy)⟩, ← turn_mt hl hx hy]; rfl
      have m0 : ¬ jn L x y < 0 := by have := he.1; omega
      have m1 : 0 ≤ jn L x y := he.1
      have m2 : jn L x y < L.length := he.2
      obtain ⟨t, ht⟩ : ∃ t, t = jn L x y := ⟨_, rfl⟩
      rw [← ht] at v2 v3 v4 v5 m0 m1 m2
      have l1 : (L.length : Int) ≤ 8 := by omega
      have l2 : (1 : Int) ≤ L.length := by omega
      clear hG hl hx hy he ht hlen hnum hV
      go_wp2_with (first
        | go_skip
        | (go_at_call_of 22 (Value.slice ahT V.length chT); refine (implMeetOf_any _ _ V _ _ _ hT.2).mono ?_; rintro e wz ⟨rfl, hb⟩; replace hS := hS.next hb; (try replace hT := hT.next hb); (try replace hU := hU.next hb))
        | (go_at_call_of 22 (Value.slice a L.length cap); refine (implMeetOf_any _ _ L _ _ _ hS.2).mono ?_; rintro e wz ⟨rfl, hb⟩; replace hS := hS.next hb; (try replace hT := hT.next hb); (try replace hU := hU.next hb))
        | (go_at_call 23; refine (implJoinOf_any _ _ L _ _ _ hS.2).mono ?_; rintro e wz ⟨rfl, hb⟩; replace hS := hS.next hb; (try replace hT := hT.next hb); (try replace hU := hU.next hb))
        | (go_at_call 27; refine (specJoinOf_any _ _ L x y _ hS.2 hM).mono ?_; rintro e wz ⟨rfl, hb⟩; replace hS := hS.dr hb; (try replace hT := hT.dr hb); (try replace hU := hU.dr hb))
        | (go_at_call 19; refine (HC.out _ _ _ hS.2).mono ?_; rintro e wz ⟨ahT, chT, rfl, ohT, hb⟩; replace hS := hS.next hb; (try replace hT := hT.next hb); (try replace hU := hU.next hb); have hT : St w ahT V wz := ⟨hS.1, ohT.rd⟩; clear ohT))
      go_ret
      exact ⟨rfl, hS.1⟩
end Go.Proofs.Ytmlbdlobdnhimaa
