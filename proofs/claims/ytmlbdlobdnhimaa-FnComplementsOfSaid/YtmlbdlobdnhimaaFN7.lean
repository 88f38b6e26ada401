import Derived.Test.YtmlbdlobdnhimaaZ8
import Derived.Test.YtmlbdlobdnhimaaZ5
import Derived.Test.YtmlbdlobdnhimaaFN2
import Derived.Test.YtmlbdlobdnhimaaM10
import Derived.Test.YtmlbdlobdnhimaaE3
namespace Go.Proofs.Ytmlbdlobdnhimaa
open Go.RowKit
set_option maxRecDepth 100000 in
set_option maxHeartbeats 2000000 in
/-- laws.FnComplementsOf -/
theorem lawPComplementsOf (a0 : Option Addr) (len0 cap0 : Nat) (w : World) (hy : RdY w a0 len0 w.heap.size) (hc : len0 ≤ cap0) (hm : len0 ≤ maxLen) :
    Calls Try.prog 9 #[.slice a0 len0 cap0] w fun e w' => e = .returned (.bool true) ∧ Below w.heap.size w w' := by
  by_cases hbig : 1048576 < len0
  · have hbig2 : (1048576 : Int) < len0 := by omega
    go_enter Try.func9, Try.ntmps9
    go_wp2
    go_ret
    exact ⟨rfl, Below.refl _ _⟩
  · have hs : len0 ≤ 1048576 := by omega
    have hs2 : ¬ (1048576 : Int) < len0 := by omega
    go_enter Try.func9, Try.ntmps9
    go_wp2_with fail
    refine (drawComplementsOf_any a0 len0 cap0 w hy hc hs).mono ?_
    rintro e w1 ⟨L, a, cap, x, rfl, ho, l8, xl, xh, hb⟩
    have _ := hm
    clear hs hs2 hbig hy hm hc
    have hS : St w a L w1 := ⟨hb, ho.rd⟩
    have hM : L.length ≤ maxLen := by unfold maxLen; omega
    have hV6 := compI_len L x
    obtain ⟨V, hV⟩ : ∃ V, V = compI L x := ⟨_, rfl⟩
    rw [← hV] at hV6
    have hM2 : V.length ≤ 1073741824 := by omega
    have HI := Lib.hid (show ∀ (a : Option Addr) (cap : Nat) (w : World), Rd w a L → Calls Try.prog 39 #[.slice a L.length cap, .int .i64 x] w (RetSl w.heap.size V w) from fun a cap w h => by rw [hV]; exact implComplementsOf_any a cap L x w h)
    have HP := Lib.hid (show ∀ (a : Option Addr) (cap : Nat) (w : World), Rd w a L → Calls Try.prog 40 #[.slice a L.length cap, .int .i64 x] w (RetSl w.heap.size V w) from fun a cap w h => by rw [hV]; exact specComplementsOf_any a cap L x w h hM)
    have HV := Lib.hid hV
    clear hb ho hV
    cases hG : goodB L x x with
    | false =>
      have v2 : meetOfI L x x = -1 := by unfold meetOfI; rw [hG]; rfl
      clear hG
      go_wp2_with (first
        | go_skip
        | (go_at_call 39; refine (HI.out _ _ _ hS.2).mono ?_; rintro e wz ⟨ahT, chT, rfl, ohT, hb⟩; replace hS := hS.next hb; (try replace hT := hT.next hb); (try replace hU := hU.next hb); have hT : St w ahT V wz := ⟨hS.1, ohT.rd⟩; clear ohT)
        | (go_at_call 40; refine (HP.out _ _ _ hS.2).mono ?_; rintro e wz ⟨ahU, chU, rfl, ohU, hb⟩; replace hS := hS.next hb; (try replace hT := hT.next hb); (try replace hU := hU.next hb); have hU : St w ahU V wz := ⟨hS.1, ohU.rd⟩; clear ohU)
        | (go_at_call 30; refine (equalInts_same _ _ _ _ V _ hT.2 hU.2 hM2).mono ?_; rintro e wz ⟨rfl, hb⟩; replace hS := hS.dr hb; (try replace hT := hT.dr hb); (try replace hU := hU.dr hb))
        | (go_at_call 22; refine (implMeetOf_any _ _ L _ _ _ hS.2).mono ?_; rintro e wz ⟨rfl, hb⟩; replace hS := hS.next hb; (try replace hT := hT.next hb); (try replace hU := hU.next hb)))
      go_ret
      exact ⟨rfl, hS.1⟩
    | true =>
      obtain ⟨hl, hx, _⟩ := good_el.1 hG
      have v2 : meetOfI L x x = x := by unfold meetOfI; rw [hG]; simp [mt_of_le hl hx hx (bl_refl hl hx)]
      have m0 : ¬ x < 0 := by have := hx.1; omega
      have hVe : V = filtTo (compQ L x) (num L) := by rw [HV.out]; exact compI_t hG
      have HVE := Lib.hid hVe
      have HL := Lib.hid hl
      have HX := Lib.hid hx
      clear hG hx hVe
      go_wp2_with (first
        | go_skip
        | (go_at_call 39; refine (HI.out _ _ _ hS.2).mono ?_; rintro e wz ⟨ahT, chT, rfl, ohT, hb⟩; replace hS := hS.next hb; (try replace hT := hT.next hb); (try replace hU := hU.next hb); have hT : St w ahT V wz := ⟨hS.1, ohT.rd⟩; clear ohT)
        | (go_at_call 40; refine (HP.out _ _ _ hS.2).mono ?_; rintro e wz ⟨ahU, chU, rfl, ohU, hb⟩; replace hS := hS.next hb; (try replace hT := hT.next hb); (try replace hU := hU.next hb); have hU : St w ahU V wz := ⟨hS.1, ohU.rd⟩; clear ohU)
        | (go_at_call 30; refine (equalInts_same _ _ _ _ V _ hT.2 hU.2 hM2).mono ?_; rintro e wz ⟨rfl, hb⟩; replace hS := hS.dr hb; (try replace hT := hT.dr hb); (try replace hU := hU.dr hb))
        | (go_at_call 22; refine (implMeetOf_any _ _ L _ _ _ hS.2).mono ?_; rintro e wz ⟨rfl, hb⟩; replace hS := hS.next hb; (try replace hT := hT.next hb); (try replace hU := hU.next hb)))
      clear hU
      go_loopw [6] (fun i wr => ∃ k : Int, 0 ≤ k ∧ k ≤ V.length ∧ i = .int .i64 k ∧ St w a L wr ∧ St w ahT V wr) (fun i _ => ((V.length : Int) - intOf i).toNat)
      case atStart => exact ⟨0, by omega, by omega, rfl, hS, hT⟩
      case round =>
        obtain ⟨k, k0, k1, rfl, hS, hT⟩ := hrel
        by_cases hk : k < V.length
        · have hm := nth_mem' V k0 hk
          rw [HVE.out] at hm
          obtain ⟨c0, c1, c2⟩ := (filtTo_mem _ _ _).1 hm
          rw [← HVE.out] at c0 c1 c2
          clear hm
          obtain ⟨b2, o2, rfl, hc2⟩ := hT.2 (by intro e; rw [e] at hk; simp at hk; omega)
          have d1 := hc2.at k k0 hk
          obtain ⟨c, hc⟩ : ∃ c, c = nth V k := ⟨_, rfl⟩
          rw [← hc] at c0 c1 c2 d1
          have hC : El L c := ⟨c0, c1⟩
          have hW6 := compI_len L c
          have hin : inL (compI L c) x = true := by
            rw [compI_t (good_el.2 ⟨HL.out, hC, hC⟩), inL_iff, filtTo_mem]
            exact ⟨HX.out.1, HX.out.2, comp_sym HL.out HX.out hC c2⟩
          obtain ⟨U, hU⟩ : ∃ U, U = compI L c := ⟨_, rfl⟩
          rw [← hU] at hW6 hin
          have hW2 : U.length ≤ 1073741824 := by omega
          have HQ := Lib.hid (show ∀ (a : Option Addr) (cap : Nat) (w : World), Rd w a L → Calls Try.prog 39 #[.slice a L.length cap, .int .i64 c] w (RetSl w.heap.size U w) from fun a cap w h => by rw [hU]; exact implComplementsOf_any a cap L c w h)
          clear hc hc2 hU hC c2
          go_wp2_with (first
        | go_skip
        | (go_at_call 39; refine (HQ.out _ _ _ hS.2).mono ?_; rintro e wz ⟨ahU, chU, rfl, ohU, hb⟩; replace hS := hS.next hb; (try replace hT := hT.next hb); (try replace hU := hU.next hb); have hU : St w ahU U wz := ⟨hS.1, ohU.rd⟩; clear ohU)
        | (go_at_call 32; refine (lawIsIn_any _ _ U _ _ hU.2 hW2).mono ?_; rintro e wz ⟨rfl, hb⟩; replace hS := hS.dr hb; (try replace hT := hT.dr hb); (try replace hU := hU.dr hb)))
          go_roundw
          case rel => exact ⟨k + 1, by omega, by omega, rfl, hS, hT⟩
          case measure => simp [intOf]; omega
        · have hasc : Asc V := by rw [HVE.out]; exact filtTo_ascI _ (by unfold num; omega)
          have HA := Lib.hid hasc
          clear hasc
          cases hd : distB L with
          | false =>
            go_wp2_with (first
        | go_skip
        | (go_at_call 33; refine (ascends_up _ _ V _ hT.2 HA.out hM2).mono ?_; rintro e wz ⟨rfl, hb⟩; replace hS := hS.dr hb; (try replace hT := hT.dr hb); (try replace hU := hU.dr hb))
        | (go_at_call 37; refine (implIsDistributive_any _ _ L _ hS.2).mono ?_; rintro e wz ⟨rfl, hb⟩; replace hS := hS.next hb; (try replace hT := hT.next hb); (try replace hU := hU.next hb)))
            go_ret
            exact ⟨rfl, hS.1⟩
          | true =>
            have h1 : V.length ≤ 1 := by rw [HVE.out]; exact comp_len HL.out hd HX.out
            have h2 : (V.length : Int) ≤ 1 := by omega
            go_wp2_with (first
        | go_skip
        | (go_at_call 33; refine (ascends_up _ _ V _ hT.2 HA.out hM2).mono ?_; rintro e wz ⟨rfl, hb⟩; replace hS := hS.dr hb; (try replace hT := hT.dr hb); (try replace hU := hU.dr hb))
        | (go_at_call 37; refine (implIsDistributive_any _ _ L _ hS.2).mono ?_; rintro e wz ⟨rfl, hb⟩; replace hS := hS.next hb; (try replace hT := hT.next hb); (try replace hU := hU.next hb)))
            go_ret
            exact ⟨rfl, hS.1⟩
end Go.Proofs.Ytmlbdlobdnhimaa
