import Derived.Test.YtmlbdlobdnhimabZ8
import Derived.Test.YtmlbdlobdnhimabFS
import Derived.Test.YtmlbdlobdnhimabM10
import Derived.Test.YtmlbdlobdnhimabP2
import Derived.Test.YtmlbdlobdnhimabT4
namespace Go.Proofs.Ytmlbdlobdnhimab
open Go.RowKit
set_option maxRecDepth 100000 in
set_option maxHeartbeats 2000000 in
/-- laws.FnIsDistributive -/
theorem lawPIsDistributive (a0 : Option Addr) (len0 cap0 : Nat) (w : World) (hy : RdY w a0 len0 w.heap.size) (hc : len0 ≤ cap0) (hm : len0 ≤ maxLen) :
    Calls Try.prog 11 #[.slice a0 len0 cap0] w fun e w' => e = .returned (.bool true) ∧ Below w.heap.size w w' := by
  by_cases hbig : 1048576 < len0
  · have hbig2 : (1048576 : Int) < len0 := by omega
    go_enter Try.func11, Try.ntmps11
    go_wp2
    go_ret
    exact ⟨rfl, Below.refl _ _⟩
  · have hs : len0 ≤ 1048576 := by omega
    have hs2 : ¬ (1048576 : Int) < len0 := by omega
    go_enter Try.func11, Try.ntmps11
    go_wp2_with fail
    refine (drawIsDistributive_any a0 len0 cap0 w hy hc hs).mono ?_
    rintro e w1 ⟨L, a, cap, rfl, ho, l8, hb⟩
    have _ := hm
    clear hs hs2 hbig hy hm hc
    have hS : St w a L w1 := ⟨hb, ho.rd⟩
    have hM1 : L.length ≤ 1048576 := by omega
    clear hb ho
    cases hl : latB L with
    | false =>
      go_wp2_with (first
        | go_skip
        | (go_at_call 50; refine (implIsDistributive_any _ _ L _ hS.2).mono ?_; rintro e wz ⟨rfl, hb⟩; replace hS := hS.next hb; (try replace hT := hT.next hb); (try replace hU := hU.next hb))
        | (go_at_call 51; refine (specIsDistributive_any _ _ L _ hS.2).mono ?_; rintro e wz ⟨rfl, hb⟩; replace hS := hS.dr hb; (try replace hT := hT.dr hb); (try replace hU := hU.dr hb))
        | (go_at_call 52; refine (implValidLattice_any _ _ L _ hS.2).mono ?_; rintro e wz ⟨rfl, hb⟩; replace hS := hS.next hb; (try replace hT := hT.next hb); (try replace hU := hU.next hb)))
      go_ret
      exact ⟨rfl, hS.1⟩
    | true =>
      obtain ⟨V, hV⟩ : ∃ V, V = turnedI L := ⟨_, rfl⟩
      have hlV : latB V = true := by rw [hV, turnedI_t hl]; exact turn_lat hl
      have hdV : distB V = distB L := by rw [hV, turnedI_t hl]; exact dist_turn hl
      have HC := Lib.hid (show ∀ (a : Option Addr) (cap : Nat) (w : World), Rd w a L → Calls Try.prog 53 #[.slice a L.length cap] w (RetSl w.heap.size V w) from fun a cap w h => by rw [hV]; exact implTurnedLattice_any a cap L w h)
      have mok : mtOk L = distB L := by unfold mtOk; rw [hl]; rfl
      clear hV
      cases hd : distB L with
      | false =>
        rw [hd] at hdV mok
        go_wp2_with (first
        | go_skip
        | (go_at_call_of 50 (Value.slice ahT V.length chT); refine (implIsDistributive_any _ _ V _ hT.2).mono ?_; rintro e wz ⟨rfl, hb⟩; replace hS := hS.next hb; (try replace hT := hT.next hb); (try replace hU := hU.next hb))
        | (go_at_call_of 50 (Value.slice a L.length cap); refine (implIsDistributive_any _ _ L _ hS.2).mono ?_; rintro e wz ⟨rfl, hb⟩; replace hS := hS.next hb; (try replace hT := hT.next hb); (try replace hU := hU.next hb))
        | (go_at_call 51; refine (specIsDistributive_any _ _ L _ hS.2).mono ?_; rintro e wz ⟨rfl, hb⟩; replace hS := hS.dr hb; (try replace hT := hT.dr hb); (try replace hU := hU.dr hb))
        | (go_at_call 52; refine (implValidLattice_any _ _ L _ hS.2).mono ?_; rintro e wz ⟨rfl, hb⟩; replace hS := hS.next hb; (try replace hT := hT.next hb); (try replace hU := hU.next hb))
        | (go_at_call 46; refine (implMeetAlgebra_any _ _ L _ hS.2 hM1).mono ?_; rw [mok]; rintro e wm ⟨ma, mn, mc, mb, mm, md, rfl, _, hb⟩; replace hS := hS.next hb)
        | (refine wpList_store_row rfl 27 _ _ rfl wm.heap.size #[.slice ma mn mc, .slice mb mm md] rfl rfl _ _ (heap_alloc_new wm (.cells #[.slice none 0 0, .slice none 0 0] 27)) (size_Alg _ _) rfl (one_sl2 _ _ _ _ _ _) ?_; rw [World.setRow_alloc_new]; replace hS := hS.next ((Below.refl _ _).alloc (Nat.le_refl _) (.cells #[.slice ma mn mc, .slice mb mm md] 27)))
        | (go_at_call 53; refine (HC.out _ _ _ hS.2).mono ?_; rintro e wz ⟨ahT, chT, rfl, ohT, hb⟩; replace hS := hS.next hb; (try replace hT := hT.next hb); (try replace hU := hU.next hb); have hT : St w ahT V wz := ⟨hS.1, ohT.rd⟩; clear ohT))
        go_ret
        exact ⟨rfl, hS.1⟩
      | true =>
        rw [hd] at hdV mok
        go_wp2_with (first
        | go_skip
        | (go_at_call_of 50 (Value.slice ahT V.length chT); refine (implIsDistributive_any _ _ V _ hT.2).mono ?_; rintro e wz ⟨rfl, hb⟩; replace hS := hS.next hb; (try replace hT := hT.next hb); (try replace hU := hU.next hb))
        | (go_at_call_of 50 (Value.slice a L.length cap); refine (implIsDistributive_any _ _ L _ hS.2).mono ?_; rintro e wz ⟨rfl, hb⟩; replace hS := hS.next hb; (try replace hT := hT.next hb); (try replace hU := hU.next hb))
        | (go_at_call 51; refine (specIsDistributive_any _ _ L _ hS.2).mono ?_; rintro e wz ⟨rfl, hb⟩; replace hS := hS.dr hb; (try replace hT := hT.dr hb); (try replace hU := hU.dr hb))
        | (go_at_call 52; refine (implValidLattice_any _ _ L _ hS.2).mono ?_; rintro e wz ⟨rfl, hb⟩; replace hS := hS.next hb; (try replace hT := hT.next hb); (try replace hU := hU.next hb))
        | (go_at_call 46; refine (implMeetAlgebra_any _ _ L _ hS.2 hM1).mono ?_; rw [mok]; rintro e wm ⟨ma, mn, mc, mb, mm, md, rfl, _, hb⟩; replace hS := hS.next hb)
        | (refine wpList_store_row rfl 27 _ _ rfl wm.heap.size #[.slice ma mn mc, .slice mb mm md] rfl rfl _ _ (heap_alloc_new wm (.cells #[.slice none 0 0, .slice none 0 0] 27)) (size_Alg _ _) rfl (one_sl2 _ _ _ _ _ _) ?_; rw [World.setRow_alloc_new]; replace hS := hS.next ((Below.refl _ _).alloc (Nat.le_refl _) (.cells #[.slice ma mn mc, .slice mb mm md] 27)))
        | (go_at_call 53; refine (HC.out _ _ _ hS.2).mono ?_; rintro e wz ⟨ahT, chT, rfl, ohT, hb⟩; replace hS := hS.next hb; (try replace hT := hT.next hb); (try replace hU := hU.next hb); have hT : St w ahT V wz := ⟨hS.1, ohT.rd⟩; clear ohT))
        go_ret
        exact ⟨rfl, hS.1⟩
end Go.Proofs.Ytmlbdlobdnhimab
