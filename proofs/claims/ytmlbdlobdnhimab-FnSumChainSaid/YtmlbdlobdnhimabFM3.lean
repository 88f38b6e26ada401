import Derived.Test.YtmlbdlobdnhimabZ8
import Derived.Test.YtmlbdlobdnhimabFA
import Derived.Test.YtmlbdlobdnhimabN10
import Derived.Test.YtmlbdlobdnhimabY1
namespace Go.Proofs.Ytmlbdlobdnhimab
open Go.RowKit
theorem sum_fin : ∀ n : Fin 7, 1 ≤ n.val → (algB (chainTo (n.val : Int) n.val) (tabL (sumP n.val) n.val) && chainB (chainTo (n.val : Int) n.val) && hasB 2 (chainTo (n.val : Int) n.val) (tabL (sumP n.val) n.val) && hasB 1 (chainTo (n.val : Int) n.val) (tabL (sumP n.val) n.val) && hasB 0 (chainTo (n.val : Int) n.val) (tabL (sumP n.val) n.val) && ((((fls (chainTo (n.val : Int) n.val) (tabL (sumP n.val) n.val)).length : Int) == 2) == decide ((1 : Int) < n.val))) = true := by decide +kernel
theorem sum_facts {n : Int} (n1 : 1 ≤ n) (n6 : n ≤ 6) : algB (chainTo n n) (tabL (sumP n) n) = true ∧ chainB (chainTo n n) = true ∧ hasB 2 (chainTo n n) (tabL (sumP n) n) = true ∧ hasB 1 (chainTo n n) (tabL (sumP n) n) = true ∧ hasB 0 (chainTo n n) (tabL (sumP n) n) = true ∧ (((fls (chainTo n n) (tabL (sumP n) n)).length : Int) == 2) = decide (1 < n) := by
  have := sum_fin ⟨n.toNat, by omega⟩ (by show 1 ≤ n.toNat; omega)
  simp only [Int.toNat_of_nonneg (show 0 ≤ n by omega), Bool.and_eq_true, beq_iff_eq] at this
  exact ⟨this.1.1.1.1.1, this.1.1.1.1.2, this.1.1.1.2, this.1.1.2, this.1.2, this.2⟩
theorem sumI_R {n : Int} (n1 : 1 ≤ n) (n6 : n ≤ 6) (w : World) : Calls Try.prog 38 #[.int .i64 n] w (RetR (chainTo n n) (tabL (sumP n) n) true w) :=
  (implSumChain_yes n w n1 n6).mono fun e w' h => by
    obtain ⟨bu, B, R, rfl, _, _, hr, ht, hb⟩ := h
    exact ⟨_, _, _, _, rfl, hr.rd, ht.rd, hb⟩
theorem sumN_R {n : Int} (h : ¬ (1 ≤ n ∧ n ≤ 6)) (w : World) : Calls Try.prog 38 #[.int .i64 n] w (RetR [] [] false w) :=
  (implSumChain_no n w h).mono fun e w' h => by
    obtain ⟨rfl, hb⟩ := h
    exact ⟨none, 0, none, 0, rfl, fun h => absurd rfl h, fun h => absurd rfl h, hb⟩
theorem sumSN_R {n : Int} (h : ¬ (1 ≤ n ∧ n ≤ 6)) (w : World) : Calls Try.prog 39 #[.int .i64 n] w (RetR [] [] false w) :=
  (specSumChain_no n w h).mono fun e w' h => by
    obtain ⟨rfl, hb⟩ := h
    exact ⟨none, 0, none, 0, rfl, fun h => absurd rfl h, fun h => absurd rfl h, hb⟩
theorem sumS_R {n : Int} (n1 : 1 ≤ n) (n6 : n ≤ 6) (w : World) : Calls Try.prog 39 #[.int .i64 n] w (RetR (chainTo n n) (tabL (sumP n) n) true w) :=
  (specSumChain_yes n w n1 n6).mono fun e w' h => by
    obtain ⟨a, c, b, d, rfl, ho, hr, hb⟩ := h
    obtain ⟨b', c', e', h'⟩ := hr.rd
    injection e' with e1 _ _
    rw [← e1] at h'
    exact ⟨_, _, _, _, rfl, ho.rd, h', hb⟩
set_option maxRecDepth 100000 in
set_option maxHeartbeats 2000000 in
/-- laws.FnSumChain -/
theorem lawPSumChain (a0 : Option Addr) (len0 cap0 : Nat) (w : World) (hy : RdY w a0 len0 w.heap.size) (hc : len0 ≤ cap0) (hm : len0 ≤ maxLen) :
    Calls Try.prog 9 #[.slice a0 len0 cap0] w fun e w' => e = .returned (.bool true) ∧ Below w.heap.size w w' := by
  by_cases hbig : 1048576 < len0
  · have hbig2 : (1048576 : Int) < len0 := by omega
    go_enter Try.func9, Try.ntmps9
    go_wp2
    go_ret
    exact ⟨rfl, Below.refl _ _⟩
  · have hs : len0 ≤ 1048576 := by omega
    have hs2 : ¬ (1048576 : Int) < len0 := by omega
    go_enter Try.func9, Try.ntmps9
    go_wp2_with fail
    refine (drawSumChain_any a0 len0 cap0 w hy hc hs).mono ?_
    rintro e w1 ⟨n, rfl, nl, nh, hb⟩
    have _ := hm
    clear hs hs2 hbig hy hm hc
    have hS : St w none [] w1 := ⟨hb, fun h => absurd rfl h⟩
    by_cases hn : 1 ≤ n ∧ n ≤ 6
    · obtain ⟨n1, n6⟩ := hn
      obtain ⟨f1, f2, f3, f4, f5, f6⟩ := sum_facts n1 n6
      have hlen := chainTo_len n n (show 0 ≤ n by omega)
      have htl := tabL_len (sumP n) n
      have hrl := fun (j : Nat) (h : j < n.toNat) => tabL_rlen (sumP n) (n := n) h
      have hI := sumI_R n1 n6
      have hP := sumS_R n1 n6
      obtain ⟨VL, hVL⟩ : ∃ V, V = chainTo n n := ⟨_, rfl⟩
      obtain ⟨VT, hVT⟩ : ∃ V, V = tabL (sumP n) n := ⟨_, rfl⟩
      rw [← hVL] at hlen
      rw [← hVT] at htl hrl
      rw [← hVL, ← hVT] at f1 f3 f4 f5 f6 hI hP
      rw [← hVL] at f2
      have hl6 : VL.length ≤ 1073741824 := by omega
      have ht6 : VT.length ≤ 1073741824 := by omega
      have HR := Lib.hid (show ∀ j : Nat, j < VT.length → (rowAt VT j).length ≤ 1073741824 from fun j hj => by have := hrl j (by omega); omega)
      have HI := Lib.hid hI
      have HP := Lib.hid hP
      have p2 : hpB ⟨#[105, 110, 118, 111, 108, 117, 116, 105, 118, 101]⟩ VL VT = true := by rw [hpB_2 f1]; exact f3
      have p1 : hpB ⟨#[100, 105, 118, 105, 115, 105, 98, 108, 101]⟩ VL VT = true := by rw [hpB_1 f1]; exact f4
      have p0 : hpB ⟨#[112, 114, 101, 108, 105, 110, 101, 97, 114]⟩ VL VT = true := by rw [hpB_0 f1]; exact f5
      have la : latB VL = true := alg_lat f1
      clear hI hP hVL hVT htl hrl hlen f3 f4 f5
      cases h2 : decide (1 < n)
      all_goals
        rw [h2] at f6
        go_wp2_with (first
        | go_skip
        | (go_at_call 38; refine (HI.out _).mono ?_; rintro e wz ⟨ahA, chA, bhA, dhA, rfl, r1, r2, hb⟩; (try replace hS := hS.next hb); (try replace hA := hA.next hb); (try replace hW := hW.next hb); (try replace hG := hG.next hb); (try replace hK := hK.next hb); have hA : SA w ahA bhA VL VT wz := ⟨hS.1, r1, r2⟩; clear r1 r2)
        | (go_at_call 39; refine (HP.out _).mono ?_; rintro e wz ⟨ahW, chW, bhW, dhW, rfl, r1, r2, hb⟩; (try replace hS := hS.next hb); (try replace hA := hA.next hb); (try replace hW := hW.next hb); (try replace hG := hG.next hb); (try replace hK := hK.next hb); have hW : SA w ahW bhW VL VT wz := ⟨hS.1, r1, r2⟩; clear r1 r2)
        | (refine wpList_store_row rfl 27 _ _ rfl wz.heap.size #[.slice ahW VL.length chW, .slice bhW VT.length dhW] rfl rfl _ _ (heap_alloc_new wz (.cells #[.slice none 0 0, .slice none 0 0] 27)) (size_Alg _ _) rfl (one_sl2 _ _ _ _ _ _) ?_; rw [World.setRow_alloc_new]; obtain ⟨hKb, hhKb⟩ : ∃ b, b = wz.heap.size := ⟨_, rfl⟩; obtain ⟨wy, hwy⟩ : ∃ wy, wy = wz.alloc (.cells #[.slice ahW VL.length chW, .slice bhW VT.length dhW] 27) := ⟨_, rfl⟩; rw [← hwy, ← hhKb]; have hb : Below wz.heap.size wz wy := (by rw [hwy]; exact (Below.refl _ _).alloc (Nat.le_refl _) _); have hK0 : wy.heap[hKb]? = some (.cells #[.slice ahW VL.length chW, .slice bhW VT.length dhW] 27 (0, 0)) := (by rw [hwy, hhKb]; exact heap_alloc_new wz _); have hK1 := hS.1.size; (try replace hS := hS.next hb); (try replace hA := hA.next hb); (try replace hW := hW.next hb); (try replace hG := hG.next hb); (try replace hK := hK.next hb); have hK : Bx w hKb (.slice ahW VL.length chW) (.slice bhW VT.length dhW) wy := ⟨(by rw [hhKb]; exact hK1), hK0⟩; clear hwy hhKb hK0 hK1)
        | (refine wpList_store_row rfl 27 _ _ rfl wz.heap.size #[.slice ahA VL.length chA, .slice bhA VT.length dhA] rfl rfl _ _ (heap_alloc_new wz (.cells #[.slice none 0 0, .slice none 0 0] 27)) (size_Alg _ _) rfl (one_sl2 _ _ _ _ _ _) ?_; rw [World.setRow_alloc_new]; obtain ⟨hGb, hhGb⟩ : ∃ b, b = wz.heap.size := ⟨_, rfl⟩; obtain ⟨wy, hwy⟩ : ∃ wy, wy = wz.alloc (.cells #[.slice ahA VL.length chA, .slice bhA VT.length dhA] 27) := ⟨_, rfl⟩; rw [← hwy, ← hhGb]; have hb : Below wz.heap.size wz wy := (by rw [hwy]; exact (Below.refl _ _).alloc (Nat.le_refl _) _); have hG0 : wy.heap[hGb]? = some (.cells #[.slice ahA VL.length chA, .slice bhA VT.length dhA] 27 (0, 0)) := (by rw [hwy, hhGb]; exact heap_alloc_new wz _); have hG1 := hS.1.size; (try replace hS := hS.next hb); (try replace hA := hA.next hb); (try replace hW := hW.next hb); (try replace hG := hG.next hb); (try replace hK := hK.next hb); have hG : Bx w hGb (.slice ahA VL.length chA) (.slice bhA VT.length dhA) wy := ⟨(by rw [hhGb]; exact hG1), hG0⟩; clear hwy hhGb hG0 hG1)
        | (refine wpList_load_row_w rfl 27 _ rfl hGb rfl _ _ _ _ hG.2 Try.underlying27 rfl (size_Alg _ _) ?_)
        | (refine wpList_load_row_w rfl 27 _ rfl hKb rfl _ _ _ _ hK.2 Try.underlying27 rfl (size_Alg _ _) ?_)
        | (go_at_call 40; refine (equalAlgebra_same _ _ _ _ _ _ _ _ VL VT _ hA.2.1 hW.2.1 hA.2.2 hW.2.2 hl6 HR.out ht6).mono ?_; rintro e wz ⟨rfl, hb⟩; (try replace hS := hS.next hb); (try replace hA := hA.next hb); (try replace hW := hW.next hb); (try replace hG := hG.next hb); (try replace hK := hK.next hb))
        | (go_at_call 41; refine (implValidAlgebra_any _ _ _ _ VL VT _ hA.2.1 hA.2.2).mono ?_; rintro e wz ⟨rfl, hb⟩; (try replace hS := hS.next hb); (try replace hA := hA.next hb); (try replace hW := hW.next hb); (try replace hG := hG.next hb); (try replace hK := hK.next hb); (try have cG0 := hG.cells.1))
        | (go_at_call 43; refine (implHasProperty_any _ _ _ _ _ VL VT _ hA.2.1 hA.2.2).mono ?_; rintro e wz ⟨rfl, hb⟩; (try replace hS := hS.next hb); (try replace hA := hA.next hb); (try replace hW := hW.next hb); (try replace hG := hG.next hb); (try replace hK := hK.next hb); (try have cG0 := hG.cells.1))
        | (go_at_call 42; refine (implIsChain_any _ _ VL _ hA.2.1).mono ?_; rintro e wz ⟨rfl, hb⟩; (try replace hS := hS.next hb); (try replace hA := hA.next hb); (try replace hW := hW.next hb); (try replace hG := hG.next hb); (try replace hK := hK.next hb); (try have cG0 := hG.cells.1))
        | (go_at_call 44; refine (implIsSimple_any _ _ _ _ VL VT _ hA.2.1 hA.2.2).mono ?_; rintro e wz ⟨rfl, hb⟩; (try replace hS := hS.next hb); (try replace hA := hA.next hb); (try replace hW := hW.next hb); (try replace hG := hG.next hb); (try replace hK := hK.next hb); (try have cG0 := hG.cells.1)))
        go_ret
        exact ⟨rfl, hS.1⟩
    · have HI := Lib.hid (sumN_R hn)
      have HP := Lib.hid (sumSN_R hn)
      have hl6 : ([] : List Int).length ≤ 1073741824 := by simp
      have ht6 : ([] : List (List Int)).length ≤ 1073741824 := by simp
      have HR := Lib.hid (show ∀ j : Nat, j < ([] : List (List Int)).length → (rowAt [] j).length ≤ 1073741824 from fun j hj => absurd hj (by simp))
      go_wp2_with (first
        | go_skip
        | (go_at_call 38; refine (HI.out _).mono ?_; rintro e wz ⟨ahA, chA, bhA, dhA, rfl, r1, r2, hb⟩; (try replace hS := hS.next hb); (try replace hA := hA.next hb); (try replace hW := hW.next hb); (try replace hG := hG.next hb); (try replace hK := hK.next hb); have hA : SA w ahA bhA [] [] wz := ⟨hS.1, r1, r2⟩; clear r1 r2)
        | (go_at_call 39; refine (HP.out _).mono ?_; rintro e wz ⟨ahW, chW, bhW, dhW, rfl, r1, r2, hb⟩; (try replace hS := hS.next hb); (try replace hA := hA.next hb); (try replace hW := hW.next hb); (try replace hG := hG.next hb); (try replace hK := hK.next hb); have hW : SA w ahW bhW [] [] wz := ⟨hS.1, r1, r2⟩; clear r1 r2)
        | (refine wpList_store_row rfl 27 _ _ rfl wz.heap.size #[.slice ahW 0 chW, .slice bhW 0 dhW] rfl rfl _ _ (heap_alloc_new wz (.cells #[.slice none 0 0, .slice none 0 0] 27)) (size_Alg _ _) rfl (one_sl2 _ _ _ _ _ _) ?_; rw [World.setRow_alloc_new]; obtain ⟨hKb, hhKb⟩ : ∃ b, b = wz.heap.size := ⟨_, rfl⟩; obtain ⟨wy, hwy⟩ : ∃ wy, wy = wz.alloc (.cells #[.slice ahW 0 chW, .slice bhW 0 dhW] 27) := ⟨_, rfl⟩; rw [← hwy, ← hhKb]; have hb : Below wz.heap.size wz wy := (by rw [hwy]; exact (Below.refl _ _).alloc (Nat.le_refl _) _); have hK0 : wy.heap[hKb]? = some (.cells #[.slice ahW 0 chW, .slice bhW 0 dhW] 27 (0, 0)) := (by rw [hwy, hhKb]; exact heap_alloc_new wz _); have hK1 := hS.1.size; (try replace hS := hS.next hb); (try replace hA := hA.next hb); (try replace hW := hW.next hb); (try replace hG := hG.next hb); (try replace hK := hK.next hb); have hK : Bx w hKb (.slice ahW 0 chW) (.slice bhW 0 dhW) wy := ⟨(by rw [hhKb]; exact hK1), hK0⟩; clear hwy hhKb hK0 hK1)
        | (refine wpList_store_row rfl 27 _ _ rfl wz.heap.size #[.slice ahA 0 chA, .slice bhA 0 dhA] rfl rfl _ _ (heap_alloc_new wz (.cells #[.slice none 0 0, .slice none 0 0] 27)) (size_Alg _ _) rfl (one_sl2 _ _ _ _ _ _) ?_; rw [World.setRow_alloc_new]; obtain ⟨hGb, hhGb⟩ : ∃ b, b = wz.heap.size := ⟨_, rfl⟩; obtain ⟨wy, hwy⟩ : ∃ wy, wy = wz.alloc (.cells #[.slice ahA 0 chA, .slice bhA 0 dhA] 27) := ⟨_, rfl⟩; rw [← hwy, ← hhGb]; have hb : Below wz.heap.size wz wy := (by rw [hwy]; exact (Below.refl _ _).alloc (Nat.le_refl _) _); have hG0 : wy.heap[hGb]? = some (.cells #[.slice ahA 0 chA, .slice bhA 0 dhA] 27 (0, 0)) := (by rw [hwy, hhGb]; exact heap_alloc_new wz _); have hG1 := hS.1.size; (try replace hS := hS.next hb); (try replace hA := hA.next hb); (try replace hW := hW.next hb); (try replace hG := hG.next hb); (try replace hK := hK.next hb); have hG : Bx w hGb (.slice ahA 0 chA) (.slice bhA 0 dhA) wy := ⟨(by rw [hhGb]; exact hG1), hG0⟩; clear hwy hhGb hG0 hG1)
        | (refine wpList_load_row_w rfl 27 _ rfl hGb rfl _ _ _ _ hG.2 Try.underlying27 rfl (size_Alg _ _) ?_)
        | (refine wpList_load_row_w rfl 27 _ rfl hKb rfl _ _ _ _ hK.2 Try.underlying27 rfl (size_Alg _ _) ?_)
        | (go_at_call 40; refine (equalAlgebra_same _ _ _ _ _ _ _ _ [] [] _ hA.2.1 hW.2.1 hA.2.2 hW.2.2 hl6 HR.out ht6).mono ?_; rintro e wz ⟨rfl, hb⟩; (try replace hS := hS.next hb); (try replace hA := hA.next hb); (try replace hW := hW.next hb); (try replace hG := hG.next hb); (try replace hK := hK.next hb)))
      go_ret
      exact ⟨rfl, hS.1⟩
end Go.Proofs.Ytmlbdlobdnhimab
