import Derived.Test.YtmlbdlobdnhimaaZ8
import Derived.Test.YtmlbdlobdnhimaaZ5
import Derived.Test.YtmlbdlobdnhimaaFN2
namespace Go.Proofs.Ytmlbdlobdnhimaa
open Go.RowKit
set_option maxRecDepth 100000 in
set_option maxHeartbeats 2000000 in
/-- laws.FnMeetOf -/
theorem lawPMeetOf (a0 : Option Addr) (len0 cap0 : Nat) (w : World) (hy : RdY w a0 len0 w.heap.size) (hc : len0 ≤ cap0) (hm : len0 ≤ maxLen) :
    Calls Try.prog 5 #[.slice a0 len0 cap0] w fun e w' => e = .returned (.bool true) ∧ Below w.heap.size w w' := by
  by_cases hbig : 1048576 < len0
  · have hbig2 : (1048576 : Int) < len0 := by omega
    go_enter Try.func5, Try.ntmps5
    go_wp2
    go_ret
    exact ⟨rfl, Below.refl _ _⟩
  · have hs : len0 ≤ 1048576 := by omega
    have hs2 : ¬ (1048576 : Int) < len0 := by omega
    go_enter Try.func5, Try.ntmps5
    go_wp2_with fail
    refine (drawMeetOf_any a0 len0 cap0 w hy hc hs).mono ?_
    rintro e w1 ⟨L, a, cap, x, y, rfl, ho, l8, xl, xh, yl, yh, hb⟩
    have _ := hm
    clear hs hs2 hbig hy hm hc
    have hS : St w a L w1 := ⟨hb, ho.rd⟩
    have hM : L.length ≤ maxLen := by unfold maxLen; omega
    clear hb ho
    cases hG : goodB L x y with
    | false =>
      have v2 : meetOfI L x y = -1 := by unfold meetOfI; rw [hG]; rfl
      clear hG
      go_wp2_with (first
        | go_skip
        | (go_at_call 22; refine (implMeetOf_any _ _ L x y _ hS.2).mono ?_; rintro e wz ⟨rfl, hb⟩; replace hS := hS.next hb; (try replace hT := hT.next hb); (try replace hU := hU.next hb))
        | (go_at_call 25; refine (specMeetOf_any _ _ L x y _ hS.2 hM).mono ?_; rintro e wz ⟨rfl, hb⟩; replace hS := hS.dr hb; (try replace hT := hT.dr hb); (try replace hU := hU.dr hb)))
      go_ret
      exact ⟨rfl, hS.1⟩
    | true =>
      obtain ⟨hl, hx, hy⟩ := good_el.1 hG
      have he := mt_el hl hx hy
      have v2 : meetOfI L x y = mt L x y := by unfold meetOfI; rw [hG]; rfl
      have v4 : meetOfI L y x = mt L x y := by unfold meetOfI; rw [good_el.2 ⟨hl, hy, hx⟩, ← mt_comm hl hx hy]; rfl
      have v3 : joinOfI L x (mt L x y) = x := by unfold joinOfI; rw [good_el.2 ⟨hl, hx, he⟩, ← jn_mt hl hx hy]; simp [jn_mt hl hx hy]
      have m0 : ¬ mt L x y < 0 := by have := he.1; omega
      have hz : ∀ z, El L z → (isBelowB L z x && isBelowB L z y) = isBelowB L z (mt L x y) := fun z hz => by
        unfold isBelowB; rw [good_el.2 ⟨hl, hz, hx⟩, good_el.2 ⟨hl, hz, hy⟩, good_el.2 ⟨hl, hz, he⟩]; exact bl_mt hl hx hy hz
      obtain ⟨t, ht⟩ : ∃ t, t = mt L x y := ⟨_, rfl⟩
      rw [← ht] at v2 v3 v4 m0 hz
      have HZ := Lib.hid hz
      clear hG hl hx hy he ht hz
      go_wp2_with (first
        | go_skip
        | (go_at_call 22; refine (implMeetOf_any _ _ L x y _ hS.2).mono ?_; rintro e wz ⟨rfl, hb⟩; replace hS := hS.next hb; (try replace hT := hT.next hb); (try replace hU := hU.next hb))
        | (go_at_call 25; refine (specMeetOf_any _ _ L x y _ hS.2 hM).mono ?_; rintro e wz ⟨rfl, hb⟩; replace hS := hS.dr hb; (try replace hT := hT.dr hb); (try replace hU := hU.dr hb)))
      go_loopw [7] (fun i wr => ∃ k : Int, 0 ≤ k ∧ k ≤ L.length ∧ i = .int .i64 k ∧ St w a L wr) (fun i _ => ((L.length : Int) - intOf i).toNat)
      case atStart => exact ⟨0, by omega, by omega, rfl, hS⟩
      case round =>
        obtain ⟨k, k0, k1, rfl, hS⟩ := hrel
        by_cases hk : k < L.length
        · have h3 := HZ.out k ⟨k0, hk⟩
          cases h1 : isBelowB L k x with
          | false =>
            rw [h1, Bool.false_and] at h3
            replace h3 := h3.symm
            go_wp2_with (first
        | go_skip
        | (go_at_call 18; refine (implIsBelow_any _ _ L _ _ _ hS.2).mono ?_; rintro e wz ⟨rfl, hb⟩; replace hS := hS.next hb; (try replace hT := hT.next hb); (try replace hU := hU.next hb)))
            go_roundw
            case rel => exact ⟨k + 1, by omega, by omega, rfl, hS⟩
            case measure => simp [intOf]; omega
          | true =>
            rw [h1, Bool.true_and] at h3
            replace h3 := h3.symm
            cases h2 : isBelowB L k y with
            | false =>
              rw [h2] at h3
              go_wp2_with (first
        | go_skip
        | (go_at_call 18; refine (implIsBelow_any _ _ L _ _ _ hS.2).mono ?_; rintro e wz ⟨rfl, hb⟩; replace hS := hS.next hb; (try replace hT := hT.next hb); (try replace hU := hU.next hb)))
              go_roundw
              case rel => exact ⟨k + 1, by omega, by omega, rfl, hS⟩
              case measure => simp [intOf]; omega
            | true =>
              rw [h2] at h3
              go_wp2_with (first
        | go_skip
        | (go_at_call 18; refine (implIsBelow_any _ _ L _ _ _ hS.2).mono ?_; rintro e wz ⟨rfl, hb⟩; replace hS := hS.next hb; (try replace hT := hT.next hb); (try replace hU := hU.next hb)))
              go_roundw
              case rel => exact ⟨k + 1, by omega, by omega, rfl, hS⟩
              case measure => simp [intOf]; omega
        · go_wp2_with (first
        | go_skip
        | (go_at_call 22; refine (implMeetOf_any _ _ L y x _ hS.2).mono ?_; rintro e wz ⟨rfl, hb⟩; replace hS := hS.next hb; (try replace hT := hT.next hb); (try replace hU := hU.next hb))
        | (go_at_call 23; refine (implJoinOf_any _ _ L x t _ hS.2).mono ?_; rintro e wz ⟨rfl, hb⟩; replace hS := hS.next hb; (try replace hT := hT.next hb); (try replace hU := hU.next hb)))
          go_ret
          exact ⟨rfl, hS.1⟩
end Go.Proofs.Ytmlbdlobdnhimaa
