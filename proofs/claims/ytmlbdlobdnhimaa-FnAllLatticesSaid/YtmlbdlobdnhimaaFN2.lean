import Derived.Test.YtmlbdlobdnhimaaZ8
import Derived.Test.YtmlbdlobdnhimaaZ5
import Derived.Test.YtmlbdlobdnhimaaM9
import Derived.Test.YtmlbdlobdnhimaaW4
namespace Go.Proofs.Ytmlbdlobdnhimaa
open Go.RowKit
/-- where a law's walk stands: nothing of old has turned, and a list reads as it did -/
def St (w : World) (a : Option Addr) (L : List Int) (wc : World) : Prop := Below w.heap.size w wc ∧ Rd wc a L
theorem St.next {w wc w' : World} {a : Option Addr} {L : List Int} (h : St w a L wc) (hb : Below wc.heap.size wc w') : St w a L w' := ⟨h.1.trans (hb.mono h.1.size), h.2.below hb⟩
theorem St.dr {w wc w' : World} {a : Option Addr} {L : List Int} (h : St w a L wc) (hd : Dr wc w') : St w a L w' := h.next (hd.below _)
set_option maxRecDepth 100000 in
set_option maxHeartbeats 2000000 in
/-- laws.FnIsBelow -/
theorem lawPIsBelow (a0 : Option Addr) (len0 cap0 : Nat) (w : World) (hy : RdY w a0 len0 w.heap.size) (hc : len0 ≤ cap0) (hm : len0 ≤ maxLen) :
    Calls Try.prog 4 #[.slice a0 len0 cap0] w fun e w' => e = .returned (.bool true) ∧ Below w.heap.size w w' := by
  by_cases hbig : 1048576 < len0
  · have hbig2 : (1048576 : Int) < len0 := by omega
    go_enter Try.func4, Try.ntmps4
    go_wp2
    go_ret
    exact ⟨rfl, Below.refl _ _⟩
  · have hs : len0 ≤ 1048576 := by omega
    have hs2 : ¬ (1048576 : Int) < len0 := by omega
    go_enter Try.func4, Try.ntmps4
    go_wp2_with fail
    refine (drawIsBelow_any a0 len0 cap0 w hy hc hs).mono ?_
    rintro e w1 ⟨L, a, cap, x, y, rfl, ho, l8, xl, xh, yl, yh, hb⟩
    have _ := hm
    clear hs hs2 hbig hy hm hc
    have hS : St w a L w1 := ⟨hb, ho.rd⟩
    have hM : L.length ≤ maxLen := by unfold maxLen; omega
    clear hb ho
    cases hG : goodB L x y with
    | false =>
      have v1 : isBelowB L x y = false := by unfold isBelowB; rw [hG]; rfl
      have v2 : meetOfI L x y = -1 := by unfold meetOfI; rw [hG]; rfl
      clear hG
      go_wp2_with (first
        | go_skip
        | (go_at_call 18; refine (implIsBelow_any _ _ L x y _ hS.2).mono ?_; rintro e wz ⟨rfl, hb⟩; replace hS := hS.next hb; (try replace hT := hT.next hb); (try replace hU := hU.next hb))
        | (go_at_call 21; refine (specIsBelow_any _ _ L x y _ hS.2 hM).mono ?_; rintro e wz ⟨rfl, hb⟩; replace hS := hS.dr hb; (try replace hT := hT.dr hb); (try replace hU := hU.dr hb))
        | (go_at_call 22; refine (implMeetOf_any _ _ L x y _ hS.2).mono ?_; rintro e wz ⟨rfl, hb⟩; replace hS := hS.next hb; (try replace hT := hT.next hb); (try replace hU := hU.next hb)))
      go_ret
      exact ⟨rfl, hS.1⟩
    | true =>
      obtain ⟨hl, hx, hy⟩ := good_el.1 hG
      have v1 : isBelowB L x y = bl L x y := by unfold isBelowB; rw [hG]; rfl
      have v2 : meetOfI L x y = mt L x y := by unfold meetOfI; rw [hG]; rfl
      have v3 : joinOfI L x y = jn L x y := by unfold joinOfI; rw [hG]; rfl
      have m0 : ¬ mt L x y < 0 := by have := (mt_el hl hx hy).1; omega
      cases hb : bl L x y with
      | false =>
        have e1 : (mt L x y == x) = false := by rw [← bl_mt_iff hl hx hy, hb]
        have e2 : (jn L x y == y) = false := by rw [← bl_jn_iff hl hx hy, hb]
        rw [hb] at v1
        clear hG hl hx hy hb
        go_wp2_with (first
        | go_skip
        | (go_at_call 18; refine (implIsBelow_any _ _ L x y _ hS.2).mono ?_; rintro e wz ⟨rfl, hb⟩; replace hS := hS.next hb; (try replace hT := hT.next hb); (try replace hU := hU.next hb))
        | (go_at_call 21; refine (specIsBelow_any _ _ L x y _ hS.2 hM).mono ?_; rintro e wz ⟨rfl, hb⟩; replace hS := hS.dr hb; (try replace hT := hT.dr hb); (try replace hU := hU.dr hb))
        | (go_at_call 22; refine (implMeetOf_any _ _ L x y _ hS.2).mono ?_; rintro e wz ⟨rfl, hb⟩; replace hS := hS.next hb; (try replace hT := hT.next hb); (try replace hU := hU.next hb))
        | (go_at_call 23; refine (implJoinOf_any _ _ L x y _ hS.2).mono ?_; rintro e wz ⟨rfl, hb⟩; replace hS := hS.next hb; (try replace hT := hT.next hb); (try replace hU := hU.next hb)))
        go_ret
        exact ⟨rfl, hS.1⟩
      | true =>
        have e1 : mt L x y = x := mt_of_le hl hx hy hb
        have e2 : jn L x y = y := jn_of_le hl hx hy hb
        rw [hb] at v1
        rw [e1] at v2 m0
        rw [e2] at v3
        clear hG hl hx hy hb e1 e2
        go_wp2_with (first
        | go_skip
        | (go_at_call 18; refine (implIsBelow_any _ _ L x y _ hS.2).mono ?_; rintro e wz ⟨rfl, hb⟩; replace hS := hS.next hb; (try replace hT := hT.next hb); (try replace hU := hU.next hb))
        | (go_at_call 21; refine (specIsBelow_any _ _ L x y _ hS.2 hM).mono ?_; rintro e wz ⟨rfl, hb⟩; replace hS := hS.dr hb; (try replace hT := hT.dr hb); (try replace hU := hU.dr hb))
        | (go_at_call 22; refine (implMeetOf_any _ _ L x y _ hS.2).mono ?_; rintro e wz ⟨rfl, hb⟩; replace hS := hS.next hb; (try replace hT := hT.next hb); (try replace hU := hU.next hb))
        | (go_at_call 23; refine (implJoinOf_any _ _ L x y _ hS.2).mono ?_; rintro e wz ⟨rfl, hb⟩; replace hS := hS.next hb; (try replace hT := hT.next hb); (try replace hU := hU.next hb)))
        go_ret
        exact ⟨rfl, hS.1⟩
end Go.Proofs.Ytmlbdlobdnhimaa
