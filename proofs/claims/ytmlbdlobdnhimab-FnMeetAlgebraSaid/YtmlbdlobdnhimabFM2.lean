import Derived.Test.YtmlbdlobdnhimabZ8
import Derived.Test.YtmlbdlobdnhimabFA
import Derived.Test.YtmlbdlobdnhimabM12
import Derived.Test.YtmlbdlobdnhimabP2
namespace Go.Proofs.Ytmlbdlobdnhimab
open Go.RowKit
set_option maxRecDepth 100000 in
set_option maxHeartbeats 2000000 in
/-- laws.FnMeetAlgebra -/
theorem lawPMeetAlgebra (a0 : Option Addr) (len0 cap0 : Nat) (w : World) (hy : RdY w a0 len0 w.heap.size) (hc : len0 ≤ cap0) (hm : len0 ≤ maxLen) :
    Calls Try.prog 10 #[.slice a0 len0 cap0] w fun e w' => e = .returned (.bool true) ∧ Below w.heap.size w w' := by
  by_cases hbig : 1048576 < len0
  · have hbig2 : (1048576 : Int) < len0 := by omega
    go_enter Try.func10, Try.ntmps10
    go_wp2
    go_ret
    exact ⟨rfl, Below.refl _ _⟩
  · have hs : len0 ≤ 1048576 := by omega
    have hs2 : ¬ (1048576 : Int) < len0 := by omega
    go_enter Try.func10, Try.ntmps10
    go_wp2_with fail
    refine (drawMeetAlgebra_any a0 len0 cap0 w hy hc hs).mono ?_
    rintro e w1 ⟨L, a, cap, rfl, ho, l8, hb⟩
    have _ := hm
    clear hs hs2 hbig hy hm hc
    have hS : St w a L w1 := ⟨hb, ho.rd⟩
    have hM1 : L.length ≤ 1048576 := by omega
    have hti := mt_ti L
    obtain ⟨VL, hVLe⟩ : ∃ V, V = mtLL L := ⟨_, rfl⟩
    obtain ⟨VT, hVTe⟩ : ∃ V, V = mtTT L := ⟨_, rfl⟩
    obtain ⟨V, hVe⟩ : ∃ V, V = mtOk L := ⟨_, rfl⟩
    have HI := Lib.hid (show ∀ (a : Option Addr) (cap : Nat) (w : World), Rd w a L → Calls Try.prog 46 #[.slice a L.length cap] w (RetR VL VT V w) from fun a cap w h => by rw [hVLe, hVTe, hVe]; exact (implMeetAlgebra_any a cap L w h hM1).mono fun _ _ h => h.r)
    have HP := Lib.hid (show ∀ (a : Option Addr) (cap : Nat) (w : World), Rd w a L → Calls Try.prog 47 #[.slice a L.length cap] w (RetR VL VT V w) from fun a cap w h => by rw [hVLe, hVTe, hVe]; exact (specMeetAlgebra_any a cap L w h hM1).mono fun _ _ h => h.r)
    rw [← hVLe, ← hVTe] at hti
    have hVL : VL.length ≤ 1073741824 := by have := hti.1; omega
    have hVT : VT.length ≤ 1073741824 := by have := hti.2.1; omega
    have hVR : ∀ j : Nat, j < VT.length → (rowAt VT j).length ≤ 1073741824 := fun j hj => by have := hti.2.2 j hj; omega
    have HR := Lib.hid hVR
    clear hb ho hti hVR
    cases hok : mtOk L with
    | false =>
      rw [hok] at hVe
      subst hVe
      clear hVLe hVTe hok
      go_wp2_with (first
        | go_skip
        | (go_at_call 46; refine (HI.out _ _ _ hS.2).mono ?_; rintro e wz ⟨ahA, chA, bhA, dhA, rfl, r1, r2, hb⟩; (try replace hS := hS.next hb); (try replace hA := hA.next hb); (try replace hW := hW.next hb); (try replace hG := hG.next hb); (try replace hK := hK.next hb); have hA : SA w ahA bhA VL VT wz := ⟨hS.1, r1, r2⟩; clear r1 r2)
        | (go_at_call 47; refine (HP.out _ _ _ hS.2).mono ?_; rintro e wz ⟨ahW, chW, bhW, dhW, rfl, r1, r2, hb⟩; (try replace hS := hS.next hb); (try replace hA := hA.next hb); (try replace hW := hW.next hb); (try replace hG := hG.next hb); (try replace hK := hK.next hb); have hW : SA w ahW bhW VL VT wz := ⟨hS.1, r1, r2⟩; clear r1 r2)
        | (refine wpList_store_row rfl 27 _ _ rfl wz.heap.size #[.slice ahW VL.length chW, .slice bhW VT.length dhW] rfl rfl _ _ (heap_alloc_new wz (.cells #[.slice none 0 0, .slice none 0 0] 27)) (size_Alg _ _) rfl (one_sl2 _ _ _ _ _ _) ?_; rw [World.setRow_alloc_new]; obtain ⟨hKb, hhKb⟩ : ∃ b, b = wz.heap.size := ⟨_, rfl⟩; obtain ⟨wy, hwy⟩ : ∃ wy, wy = wz.alloc (.cells #[.slice ahW VL.length chW, .slice bhW VT.length dhW] 27) := ⟨_, rfl⟩; rw [← hwy, ← hhKb]; have hb : Below wz.heap.size wz wy := (by rw [hwy]; exact (Below.refl _ _).alloc (Nat.le_refl _) _); have hK0 : wy.heap[hKb]? = some (.cells #[.slice ahW VL.length chW, .slice bhW VT.length dhW] 27 (0, 0)) := (by rw [hwy, hhKb]; exact heap_alloc_new wz _); have hK1 := hS.1.size; (try replace hS := hS.next hb); (try replace hA := hA.next hb); (try replace hW := hW.next hb); (try replace hG := hG.next hb); (try replace hK := hK.next hb); have hK : Bx w hKb (.slice ahW VL.length chW) (.slice bhW VT.length dhW) wy := ⟨(by rw [hhKb]; exact hK1), hK0⟩; clear hwy hhKb hK0 hK1)
        | (refine wpList_store_row rfl 27 _ _ rfl wz.heap.size #[.slice ahA VL.length chA, .slice bhA VT.length dhA] rfl rfl _ _ (heap_alloc_new wz (.cells #[.slice none 0 0, .slice none 0 0] 27)) (size_Alg _ _) rfl (one_sl2 _ _ _ _ _ _) ?_; rw [World.setRow_alloc_new]; obtain ⟨hGb, hhGb⟩ : ∃ b, b = wz.heap.size := ⟨_, rfl⟩; obtain ⟨wy, hwy⟩ : ∃ wy, wy = wz.alloc (.cells #[.slice ahA VL.length chA, .slice bhA VT.length dhA] 27) := ⟨_, rfl⟩; rw [← hwy, ← hhGb]; have hb : Below wz.heap.size wz wy := (by rw [hwy]; exact (Below.refl _ _).alloc (Nat.le_refl _) _); have hG0 : wy.heap[hGb]? = some (.cells #[.slice ahA VL.length chA, .slice bhA VT.length dhA] 27 (0, 0)) := (by rw [hwy, hhGb]; exact heap_alloc_new wz _); have hG1 := hS.1.size; (try replace hS := hS.next hb); (try replace hA := hA.next hb); (try replace hW := hW.next hb); (try replace hG := hG.next hb); (try replace hK := hK.next hb); have hG : Bx w hGb (.slice ahA VL.length chA) (.slice bhA VT.length dhA) wy := ⟨(by rw [hhGb]; exact hG1), hG0⟩; clear hwy hhGb hG0 hG1)
        | (refine wpList_load_row_w rfl 27 _ rfl hGb rfl _ _ _ _ hG.2 Try.underlying27 rfl (size_Alg _ _) ?_)
        | (refine wpList_load_row_w rfl 27 _ rfl hKb rfl _ _ _ _ hK.2 Try.underlying27 rfl (size_Alg _ _) ?_)
        | (go_at_call 40; refine (equalAlgebra_same _ _ _ _ _ _ _ _ VL VT _ hA.2.1 hW.2.1 hA.2.2 hW.2.2 hVL HR.out hVT).mono ?_; rintro e wz ⟨rfl, hb⟩; (try replace hS := hS.next hb); (try replace hA := hA.next hb); (try replace hW := hW.next hb); (try replace hG := hG.next hb); (try replace hK := hK.next hb)))
      go_ret
      exact ⟨rfl, hS.1⟩
    | true =>
      rw [hok] at hVe
      subst hVe
      have hl : latB L = true := by unfold mtOk at hok; exact (Bool.and_eq_true_iff.1 hok).1
      have hd : distB L = true := by unfold mtOk at hok; exact (Bool.and_eq_true_iff.1 hok).2
      have e1 : VL = L := by rw [hVLe]; exact (mt_yes hl hd).2.1
      have e2 : VT = tabL (mt L) L.length := by rw [hVTe]; exact (mt_yes hl hd).2.2
      have ha : algB VL VT = true := by rw [e1, e2]; exact mtA_alg hl hd
      have p3 : hpB ⟨#[105, 100, 101, 109, 112, 111, 116, 101, 110, 116]⟩ VL VT = true := by rw [hpB_3 ha, e1, e2]; exact mtA_idem hl
      have p1 : hpB ⟨#[100, 105, 118, 105, 115, 105, 98, 108, 101]⟩ VL VT = true := by rw [hpB_1 ha, e1, e2]; exact mtA_div hl hd
      have heq : eqL VL L = true := by rw [e1]; exact eqL_same L
      clear hVLe hVTe hok hl hd e1 e2
      go_wp2_with (first
        | go_skip
        | (go_at_call 46; refine (HI.out _ _ _ hS.2).mono ?_; rintro e wz ⟨ahA, chA, bhA, dhA, rfl, r1, r2, hb⟩; (try replace hS := hS.next hb); (try replace hA := hA.next hb); (try replace hW := hW.next hb); (try replace hG := hG.next hb); (try replace hK := hK.next hb); have hA : SA w ahA bhA VL VT wz := ⟨hS.1, r1, r2⟩; clear r1 r2)
        | (go_at_call 47; refine (HP.out _ _ _ hS.2).mono ?_; rintro e wz ⟨ahW, chW, bhW, dhW, rfl, r1, r2, hb⟩; (try replace hS := hS.next hb); (try replace hA := hA.next hb); (try replace hW := hW.next hb); (try replace hG := hG.next hb); (try replace hK := hK.next hb); have hW : SA w ahW bhW VL VT wz := ⟨hS.1, r1, r2⟩; clear r1 r2)
        | (refine wpList_store_row rfl 27 _ _ rfl wz.heap.size #[.slice ahW VL.length chW, .slice bhW VT.length dhW] rfl rfl _ _ (heap_alloc_new wz (.cells #[.slice none 0 0, .slice none 0 0] 27)) (size_Alg _ _) rfl (one_sl2 _ _ _ _ _ _) ?_; rw [World.setRow_alloc_new]; obtain ⟨hKb, hhKb⟩ : ∃ b, b = wz.heap.size := ⟨_, rfl⟩; obtain ⟨wy, hwy⟩ : ∃ wy, wy = wz.alloc (.cells #[.slice ahW VL.length chW, .slice bhW VT.length dhW] 27) := ⟨_, rfl⟩; rw [← hwy, ← hhKb]; have hb : Below wz.heap.size wz wy := (by rw [hwy]; exact (Below.refl _ _).alloc (Nat.le_refl _) _); have hK0 : wy.heap[hKb]? = some (.cells #[.slice ahW VL.length chW, .slice bhW VT.length dhW] 27 (0, 0)) := (by rw [hwy, hhKb]; exact heap_alloc_new wz _); have hK1 := hS.1.size; (try replace hS := hS.next hb); (try replace hA := hA.next hb); (try replace hW := hW.next hb); (try replace hG := hG.next hb); (try replace hK := hK.next hb); have hK : Bx w hKb (.slice ahW VL.length chW) (.slice bhW VT.length dhW) wy := ⟨(by rw [hhKb]; exact hK1), hK0⟩; clear hwy hhKb hK0 hK1)
        | (refine wpList_store_row rfl 27 _ _ rfl wz.heap.size #[.slice ahA VL.length chA, .slice bhA VT.length dhA] rfl rfl _ _ (heap_alloc_new wz (.cells #[.slice none 0 0, .slice none 0 0] 27)) (size_Alg _ _) rfl (one_sl2 _ _ _ _ _ _) ?_; rw [World.setRow_alloc_new]; obtain ⟨hGb, hhGb⟩ : ∃ b, b = wz.heap.size := ⟨_, rfl⟩; obtain ⟨wy, hwy⟩ : ∃ wy, wy = wz.alloc (.cells #[.slice ahA VL.length chA, .slice bhA VT.length dhA] 27) := ⟨_, rfl⟩; rw [← hwy, ← hhGb]; have hb : Below wz.heap.size wz wy := (by rw [hwy]; exact (Below.refl _ _).alloc (Nat.le_refl _) _); have hG0 : wy.heap[hGb]? = some (.cells #[.slice ahA VL.length chA, .slice bhA VT.length dhA] 27 (0, 0)) := (by rw [hwy, hhGb]; exact heap_alloc_new wz _); have hG1 := hS.1.size; (try replace hS := hS.next hb); (try replace hA := hA.next hb); (try replace hW := hW.next hb); (try replace hG := hG.next hb); (try replace hK := hK.next hb); have hG : Bx w hGb (.slice ahA VL.length chA) (.slice bhA VT.length dhA) wy := ⟨(by rw [hhGb]; exact hG1), hG0⟩; clear hwy hhGb hG0 hG1)
        | (refine wpList_load_row_w rfl 27 _ rfl hGb rfl _ _ _ _ hG.2 Try.underlying27 rfl (size_Alg _ _) ?_)
        | (refine wpList_load_row_w rfl 27 _ rfl hKb rfl _ _ _ _ hK.2 Try.underlying27 rfl (size_Alg _ _) ?_)
        | (go_at_call 40; refine (equalAlgebra_same _ _ _ _ _ _ _ _ VL VT _ hA.2.1 hW.2.1 hA.2.2 hW.2.2 hVL HR.out hVT).mono ?_; rintro e wz ⟨rfl, hb⟩; (try replace hS := hS.next hb); (try replace hA := hA.next hb); (try replace hW := hW.next hb); (try replace hG := hG.next hb); (try replace hK := hK.next hb))
        | (go_at_call 41; refine (implValidAlgebra_any _ _ _ _ VL VT _ hA.2.1 hA.2.2).mono ?_; rintro e wz ⟨rfl, hb⟩; (try replace hS := hS.next hb); (try replace hA := hA.next hb); (try replace hW := hW.next hb); (try replace hG := hG.next hb); (try replace hK := hK.next hb); (try have cG0 := hG.cells.1))
        | (go_at_call 43; refine (implHasProperty_any _ _ _ _ _ VL VT _ hA.2.1 hA.2.2).mono ?_; rintro e wz ⟨rfl, hb⟩; (try replace hS := hS.next hb); (try replace hA := hA.next hb); (try replace hW := hW.next hb); (try replace hG := hG.next hb); (try replace hK := hK.next hb); (try have cG0 := hG.cells.1))
        | (go_at_call 48; refine (equalIntsA_is _ _ _ _ VL L _ hA.2.1 hS.2 hVL heq).mono ?_; rintro e wz ⟨rfl, hb⟩; (try replace hS := hS.next hb); (try replace hA := hA.next hb); (try replace hW := hW.next hb); (try replace hG := hG.next hb); (try replace hK := hK.next hb); (try have cG0 := hG.cells.1)))
      go_ret
      exact ⟨rfl, hS.1⟩
end Go.Proofs.Ytmlbdlobdnhimab
