import Derived.Test.YtdjhnbofnmhpaaaCE5
import Derived.Deep.MidRow
namespace Go.Proofs.Ytdjhnbofnmhpaaa
open Go.RowKit
set_option linter.unusedVariables false

theorem runs_load_midC {C : World → Prop} {o : Oper} {a : Act} (ty : TypeId) (x : Operand) (ho : o.op = .load ty x) (g f : Nat) (hx : a.eval x = .pointer (some ⟨g, f, none⟩)) (cs : Array Value) (d : TypeDesc) (hg : ∀ w, C w → w.rangeAt g f cs.toList)
    (hu : Try.prog.underlying ty = some d) (hd : (match d with | .struct _ | .array _ _ => true | _ => false) = true) (hi : (Try.prog.info? ty).map (·.size) = some cs.size) (w : World) (hC : C w) : (execOp a.eval o).run Try.prog w = .ok (.value (.agg cs)) w := by
  have hd' : TypeDesc.isRow d = true := by cases d <;> simp_all [TypeDesc.isRow]
  have hl := run_loadVar_mid (P := Try.prog) w g f ty cs.toList d (hg w hC) hu hd' (by simpa using hi)
  unfold execOp
  simp only [ho, hx, Instr.loadAt, Instr.sureAddr, Sem.run_bind, Sem.run_pure, Result.andThen_ok, hl]
/-- whether one of the first tables is S -/
def anyE (S : List (List Int)) (U : List (List (List Int))) (i : Nat) : Bool := (U.take i).any fun T => eqT T S
theorem anyE_succ (S : List (List Int)) {U : List (List (List Int))} {i : Nat} (h : i < U.length) : anyE S U (i + 1) = (anyE S U i || eqT (tabAt U i) S) := by
  unfold anyE
  rw [take_tab U h, List.any_append]
  simp
theorem sumC_R {n : Int} (n1 : 1 ≤ n) (n6 : n ≤ 6) (w : World) : Calls Try.prog 18 #[.int .i64 n] w (RetR (chainTo n n) (tabL (sumP n) n) true w) :=
  (implSumChain_yes n w n1 n6).mono fun e w' h => by
    obtain ⟨bu, B, R, rfl, _, _, hr, ht, hb⟩ := h
    exact ⟨_, _, _, _, rfl, hr.rd, ht.rd, hb⟩
/-- the list of chains where a law's walk stands -/
def OU (w : World) (a : Option Addr) (c : Nat) (L : List Int) (U : List (List (List Int))) (wc : World) : Prop := Below w.heap.size w wc ∧ AlgsAt 0 0 wc (.slice a U.length c) L U
theorem OU.next {w wc w' : World} {a : Option Addr} {c : Nat} {L : List Int} {U : List (List (List Int))} (h : OU w a c L U wc) (hb : Below wc.heap.size wc w') : OU w a c L U w' := ⟨h.1.trans (hb.mono h.1.size), h.2.below hb⟩
theorem OU.some {w wc : World} {a : Option Addr} {c : Nat} {L : List Int} {U : List (List (List Int))} (h : OU w a c L U wc) (h1 : 1 ≤ U.length) : ∃ G, a = Option.some ⟨G, 0, none⟩ := by
  obtain ⟨G, c', e⟩ := algs_some h.2 h1
  injection e with e _ _
  exact ⟨G, e⟩
theorem chF_all : ∀ n : Fin 6, 1 ≤ n.val → (∀ T ∈ chT n.val, algB (chainTo (n.val : Int) n.val) T = true ∧ hasB 0 (chainTo (n.val : Int) n.val) T = true ∧ T.length = n.val) ∧ (tabL (sumP n.val) n.val).length = n.val ∧ (mtTT (chainTo (n.val : Int) n.val)).length = n.val ∧ (∀ j ∈ List.range ((chT n.val).length - 1), eqT (tabAt (chT n.val) j) (tabAt (chT n.val) (j + 1)) = false) ∧ ((chT n.val).any fun T => eqT T (tabL (sumP n.val) n.val)) = true ∧ ((chT n.val).any fun T => eqT T (mtTT (chainTo (n.val : Int) n.val))) = true ∧ 1 ≤ (chT n.val).length ∧ mtLL (chainTo (n.val : Int) n.val) = chainTo (n.val : Int) n.val ∧ mtOk (chainTo (n.val : Int) n.val) = true := by decide +kernel
theorem chF_facts {n : Int} (n1 : 1 ≤ n) (n5 : n ≤ 5) : (∀ T ∈ chI n, algB (chainTo n n) T = true ∧ hpB ⟨#[112, 114, 101, 108, 105, 110, 101, 97, 114]⟩ (chainTo n n) T = true ∧ (T.length : Int) = n) ∧ ((tabL (sumP n) n).length : Int) = n ∧ ((mtTT (chainTo n n)).length : Int) = n ∧ (∀ j : Nat, j + 1 < (chI n).length → eqT (tabAt (chI n) j) (tabAt (chI n) (j + 1)) = false) ∧ anyE (tabL (sumP n) n) (chI n) (chI n).length = true ∧ anyE (mtTT (chainTo n n)) (chI n) (chI n).length = true ∧ 1 ≤ (chI n).length ∧ mtLL (chainTo n n) = chainTo n n ∧ mtOk (chainTo n n) = true ∧ True ∧ True := by
  obtain ⟨k, rfl⟩ : ∃ k : Nat, n = k := ⟨n.toNat, by omega⟩
  obtain ⟨h1, h2, h3, h4, h5, h6, h7, h8, h9⟩ := chF_all ⟨k, by omega⟩ (by show 1 ≤ k; omega)
  rw [chI_nat (by omega) (by omega)]
  unfold anyE
  rw [List.take_of_length_le (Nat.le_refl _)]
  refine ⟨fun T hT => ?_, by have h : (tabL (sumP (k : Int)) (k : Int)).length = k := h2; omega, by have h : (mtTT (chainTo (k : Int) (k : Int))).length = k := h3; omega, fun j hj => h4 j (List.mem_range.2 (by show j < (chT k).length - 1; omega)), h5, h6, h7, h8, h9, trivial, trivial⟩
  obtain ⟨g1, g2, g3⟩ := h1 T hT
  exact ⟨g1, by rw [hp_0 (by decide +kernel) g1]; exact g2, by have h : T.length = k := g3; omega⟩
set_option maxRecDepth 100000 in
set_option maxHeartbeats 8000000 in
/-- laws.FnChainsOf -/
theorem lawPChainsOf (a0 : Option Addr) (len0 cap0 : Nat) (w : World) (hy : RdY w a0 len0 w.heap.size) (hc : len0 ≤ cap0) (hm : len0 ≤ maxLen) :
    Calls Try.prog 6 #[.slice a0 len0 cap0] w fun e w' => e = .returned (.bool true) ∧ Below w.heap.size w w' := by
  by_cases hbig : 1048576 < len0
  · have hbig2 : (1048576 : Int) < len0 := by omega
    go_enter Try.func6, Try.ntmps6
    go_wp2
    go_ret
    exact ⟨rfl, Below.refl _ _⟩
  · have hs : len0 ≤ 1048576 := by omega
    have hs2 : ¬ (1048576 : Int) < len0 := by omega
    go_enter Try.func6, Try.ntmps6
    go_wp2_with fail
    refine (drawChainsOf_any a0 len0 cap0 w hy hc hs).mono ?_
    rintro e w1 ⟨n, rfl, nl, nh, hb⟩
    have _ := hm
    clear hs hs2 hbig hy hm hc
    have hS : St w none [] w1 := ⟨hb, fun h => absurd rfl h⟩
    clear hb
    by_cases hn : n < 1 ∨ 5 < n
    · have HI := Lib.hid (fun w => implChainsOf_out n w hn)
      have HP := Lib.hid (fun w => specChainsOf_out n w hn)
      have HE := Lib.hid (fun w => equalAlgebras_same 0 0 0 0 none none 0 0 [] [] w ⟨[], World.ownsRow_nil _ _ _ _, fun j hj => absurd hj (by simp)⟩ ⟨[], World.ownsRow_nil _ _ _ _, fun j hj => absurd hj (by simp)⟩ (fun j hj => absurd hj (by simp)) (by simp))
      clear hn
      go_wp2_with (first
        | go_skip
        | (go_at_call 8; refine (HI.out _).mono ?_; rintro e wz ⟨rfl, rfl⟩)
        | (go_at_call 7; refine (HP.out _).mono ?_; rintro e wz ⟨rfl, rfl⟩)
        | (go_at_call 17; refine (HE.out _).mono ?_; rintro e wz ⟨rfl, hb⟩; replace hS := hS.next hb; clear hb))
      go_ret
      exact ⟨rfl, hS.1⟩
    obtain ⟨n1, n5⟩ : 1 ≤ n ∧ n ≤ 5 := by omega
    obtain ⟨f1, f2, f3, f4, f5, f6, f7, f8, f9, f10, f11⟩ := chF_facts n1 n5
    obtain ⟨ht0, _, _, _, hn3⟩ := chI_ti n
    have hchI := chainI_in (n := n) ⟨n1, by omega⟩
    have hLn := chainTo_len n n (by omega)
    obtain ⟨L, hL⟩ : ∃ L, L = chainTo n n := ⟨_, rfl⟩
    obtain ⟨U, hU⟩ : ∃ U, U = chI n := ⟨_, rfl⟩
    obtain ⟨S1, hS1⟩ : ∃ S, S = tabL (sumP n) n := ⟨_, rfl⟩
    obtain ⟨S2, hS2⟩ : ∃ S, S = mtTT (chainTo n n) := ⟨_, rfl⟩
    have HI := Lib.hid (show ∀ w : World, Calls Try.prog 8 #[.int .i64 n] w fun e w' => ∃ a c, e = .returned (.slice a U.length c) ∧ AlgsAt w.heap.size w.heap.size w' (.slice a U.length c) L U ∧ Below w.heap.size w w' from fun w => by rw [hL, hU]; exact (implChainsOf_any n w).mono fun e w' ⟨a, c, h1, h2, h3⟩ => ⟨a, c, h1, h2.at ht0, h3⟩)
    have HP := Lib.hid (show ∀ w : World, Calls Try.prog 7 #[.int .i64 n] w fun e w' => ∃ a c, e = .returned (.slice a U.length c) ∧ AlgsAt w.heap.size w.heap.size w' (.slice a U.length c) L U ∧ Below w.heap.size w w' from fun w => by rw [hL, hU]; exact specChainsOf_any n w)
    have HSU := Lib.hid (show ∀ w : World, Calls Try.prog 18 #[.int .i64 n] w (RetR L S1 true w) from fun w => by rw [hL, hS1]; exact sumC_R n1 (by omega) w)
    have C3 := Lib.hid (show ∀ w : World, Calls Try.prog 20 #[.int .i64 n] w (RetSl w.heap.size L w) from fun w => by rw [hL, ← hchI]; exact implChainOf_any n w)
    have C7 := Lib.hid (show ∀ (a : Option Addr) (c : Nat) (w : World), Rd w a L → Calls Try.prog 19 #[.slice a L.length c] w (RetR L S2 true w) from fun a c w h => by
      have h0 := (implMeetAlgebra_any a c L w h (by rw [hL]; omega)).mono fun _ _ h => h.r
      rw [hL, f8, f9, ← hS2] at h0
      rw [hL]; exact h0)
    have C1 := Lib.hid (show ∀ T ∈ U, ∀ (a b : Option Addr) (ca cb : Nat) (w : World), Rd w a L → RdT w b T → Calls Try.prog 21 #[.agg #[.slice a L.length ca, .slice b T.length cb]] w fun e w' => e = .returned (.bool true) ∧ Below w.heap.size w w' from fun T hT a b ca cb w h1 h2 => by have h := implValidAlgebra_any a b ca cb L T w h1 h2; rwa [show algB L T = true by rw [hL]; exact (f1 T (by rw [← hU]; exact hT)).1] at h)
    have C2 := Lib.hid (show ∀ T ∈ U, ∀ (a b : Option Addr) (ca cb : Nat) (w : World), Rd w a L → RdT w b T → Calls Try.prog 22 #[.string ⟨#[112, 114, 101, 108, 105, 110, 101, 97, 114]⟩, .agg #[.slice a L.length ca, .slice b T.length cb]] w fun e w' => e = .returned (.bool true) ∧ Below w.heap.size w w' from fun T hT a b ca cb w h1 h2 => by have h := implHasProperty_any ⟨#[112, 114, 101, 108, 105, 110, 101, 97, 114]⟩ a b ca cb L T w h1 h2; rwa [show hpB ⟨#[112, 114, 101, 108, 105, 110, 101, 97, 114]⟩ L T = true by rw [hL]; exact (f1 T (by rw [← hU]; exact hT)).2.1] at h)
    have HT := Lib.hid (show ∀ j : Nat, j < U.length → Ti L (tabAt U j) from by rw [hL, hU]; exact ht0)
    have HN := Lib.hid (show (∀ T ∈ U, (T.length : Int) = n) ∧ (S1.length : Int) = n ∧ (S2.length : Int) = n from by rw [hU, hS1, hS2]; exact ⟨fun T hT => (f1 T hT).2.2, f2, f3⟩)
    have HD := Lib.hid (show ∀ j : Nat, j + 1 < U.length → eqT (tabAt U j) (tabAt U (j + 1)) = false from by rw [hU]; exact f4)
    have HF := Lib.hid (show anyE S1 U U.length = true ∧ anyE S2 U U.length = true from by rw [hU, hS1, hS2]; exact ⟨f5, f6⟩)
    have hU1 : 1 ≤ U.length := by rw [hU]; exact f7
    rw [← hU] at hn3
    rw [← hL] at hLn
    have hL30 : L.length ≤ 1073741824 := by omega
    have hz : ((U.length : Int) == 0) = false := by rw [beq_eq_false_iff_ne]; omega
    clear f1 f2 f3 f4 f5 f6 f7 f8 f9 f10 f11 ht0 hchI hL hU hS1 hS2 hn
    go_wp2_with (first
      | go_skip
      | (go_at_call 8; refine (HI.out _).mono ?_; rintro e wz ⟨ga, gc, rfl, hA0, hb⟩; (try replace hS := hS.next hb); (try replace hA := hA.next hb); (try replace hG := hG.next hb); (try replace hM := hM.next hb); (try replace hK := hK.next hb); (try replace hU := hU.next hb); (try replace hV := hV.next hb); have hU : OU w ga gc L U wz := ⟨hS.1, hA0.from (Nat.zero_le _) (Nat.zero_le _)⟩; clear hA0; obtain ⟨G, rfl⟩ := hU.some hU1)
      | (go_at_call 7; refine (HP.out _).mono ?_; rintro e wz ⟨sa, sc, rfl, hS0, hb⟩; (try replace hS := hS.next hb); (try replace hA := hA.next hb); (try replace hG := hG.next hb); (try replace hM := hM.next hb); (try replace hK := hK.next hb); (try replace hU := hU.next hb); (try replace hV := hV.next hb); have hV : OU w sa sc L U wz := ⟨hS.1, hS0.from (Nat.zero_le _) (Nat.zero_le _)⟩; clear hS0)
      | (go_at_call 17; refine (equalAlgebras_same _ _ _ _ _ _ _ _ L U _ hU.2 hV.2 HT.out hn3).mono ?_; rintro e wz ⟨rfl, hb⟩; (try replace hS := hS.next hb); (try replace hA := hA.next hb); (try replace hG := hG.next hb); (try replace hM := hM.next hb); (try replace hK := hK.next hb); (try replace hU := hU.next hb); (try replace hV := hV.next hb))
      | (go_at_call 18; refine (HSU.out _).mono ?_; rintro e wz ⟨ahA, chA, bhA, dhA, rfl, r1, r2, hb⟩; (try replace hS := hS.next hb); (try replace hA := hA.next hb); (try replace hG := hG.next hb); (try replace hM := hM.next hb); (try replace hK := hK.next hb); (try replace hU := hU.next hb); (try replace hV := hV.next hb); have hA : SA w ahA bhA L S1 wz := ⟨hS.1, r1, r2⟩; clear r1 r2)
      | (refine wpList_store_row rfl 38 _ _ rfl wz.heap.size #[.slice ahA L.length chA, .slice bhA S1.length dhA] rfl rfl _ _ (heap_alloc_new wz (.cells #[.slice none 0 0, .slice none 0 0] 38)) (size_Alg _ _) rfl (one_sl2 _ _ _ _ _ _) ?_; rw [World.setRow_alloc_new]; obtain ⟨hGb, hhGb⟩ : ∃ b, b = wz.heap.size := ⟨_, rfl⟩; obtain ⟨wy, hwy⟩ : ∃ wy, wy = wz.alloc (.cells #[.slice ahA L.length chA, .slice bhA S1.length dhA] 38) := ⟨_, rfl⟩; rw [← hwy, ← hhGb]; have hb : Below wz.heap.size wz wy := (by rw [hwy]; exact (Below.refl _ _).alloc (Nat.le_refl _) _); have hG0 : wy.heap[hGb]? = some (.cells #[.slice ahA L.length chA, .slice bhA S1.length dhA] 38 (0, 0)) := (by rw [hwy, hhGb]; exact heap_alloc_new wz _); have hG1 := hS.1.size; (try replace hS := hS.next hb); (try replace hA := hA.next hb); (try replace hG := hG.next hb); (try replace hM := hM.next hb); (try replace hK := hK.next hb); (try replace hU := hU.next hb); (try replace hV := hV.next hb); have hG : Bx w hGb (.slice ahA L.length chA) (.slice bhA S1.length dhA) wy := ⟨(by rw [hhGb]; exact hG1), hG0⟩; clear hwy hhGb hG0 hG1)
      | (go_at_call 20; refine (C3.out _).mono ?_; rintro e wz ⟨cha, chc, rfl, hch, hb⟩; (try replace hS := hS.next hb); (try replace hA := hA.next hb); (try replace hG := hG.next hb); (try replace hM := hM.next hb); (try replace hK := hK.next hb); (try replace hU := hU.next hb); (try replace hV := hV.next hb); have hch0 : Rd wz cha L := hch.rd)
      | (go_at_call 19; refine (C7.out _ _ _ hch0).mono ?_; rintro e wz ⟨ahM, chM, bhM, dhM, rfl, r1, r2, hb⟩; (try replace hS := hS.next hb); (try replace hA := hA.next hb); (try replace hG := hG.next hb); (try replace hM := hM.next hb); (try replace hK := hK.next hb); (try replace hU := hU.next hb); (try replace hV := hV.next hb); have hM : SA w ahM bhM L S2 wz := ⟨hS.1, r1, r2⟩; clear r1 r2 hch0)
      | (refine wpList_store_row rfl 38 _ _ rfl wz.heap.size #[.slice ahM L.length chM, .slice bhM S2.length dhM] rfl rfl _ _ (heap_alloc_new wz (.cells #[.slice none 0 0, .slice none 0 0] 38)) (size_Alg _ _) rfl (one_sl2 _ _ _ _ _ _) ?_; rw [World.setRow_alloc_new]; obtain ⟨hKb, hhKb⟩ : ∃ b, b = wz.heap.size := ⟨_, rfl⟩; obtain ⟨wy, hwy⟩ : ∃ wy, wy = wz.alloc (.cells #[.slice ahM L.length chM, .slice bhM S2.length dhM] 38) := ⟨_, rfl⟩; rw [← hwy, ← hhKb]; have hb : Below wz.heap.size wz wy := (by rw [hwy]; exact (Below.refl _ _).alloc (Nat.le_refl _) _); have hK0 : wy.heap[hKb]? = some (.cells #[.slice ahM L.length chM, .slice bhM S2.length dhM] 38 (0, 0)) := (by rw [hwy, hhKb]; exact heap_alloc_new wz _); have hK1 := hS.1.size; (try replace hS := hS.next hb); (try replace hA := hA.next hb); (try replace hG := hG.next hb); (try replace hM := hM.next hb); (try replace hK := hK.next hb); (try replace hU := hU.next hb); (try replace hV := hV.next hb); have hK : Bx w hKb (.slice ahM L.length chM) (.slice bhM S2.length dhM) wy := ⟨(by rw [hhKb]; exact hK1), hK0⟩; clear hwy hhKb hK0 hK1))
    have KU := Lib.hid (show ∀ wz, Below wy.heap.size wy wz → AlgsAt 0 0 wz (.slice (some ⟨G, 0, none⟩) U.length gc) L U from fun wz hz => hU.2.below hz)
    have KA := Lib.hid (show ∀ wz, Below wy.heap.size wy wz → Rd wz ahA L ∧ RdT wz bhA S1 from fun wz hz => ⟨hA.2.1.below hz, hA.2.2.below hz⟩)
    have KB := Lib.hid (show ∀ wz, Below wy.heap.size wy wz → Rd wz ahM L ∧ RdT wz bhM S2 from fun wz hz => ⟨hM.2.1.below hz, hM.2.2.below hz⟩)
    have KG := Lib.hid (show ∀ wz, Below wy.heap.size wy wz → wz.heap[hGb]? = some (.cells #[.slice ahA L.length chA, .slice bhA S1.length dhA] 38 (0, 0)) from fun wz hz => (hG.next hz).2)
    have KK := Lib.hid (show ∀ wz, Below wy.heap.size wy wz → wz.heap[hKb]? = some (.cells #[.slice ahM L.length chM, .slice bhM S2.length dhM] 38 (0, 0)) from fun wz hz => (hK.next hz).2)
    have FIN := Lib.hid (show ∀ wz, Below wy.heap.size wy wz → Below w.heap.size w wz from fun wz hz => (hS.next hz).1)
    have hz0 : ∀ S : List (List Int), anyE S U (0 : Int).toNat = false := fun S => by simp [anyE]
    have HZ0 := Lib.hid hz0
    clear hz0 hS hA hG hM hK hU hV hch hb HI HP HSU C7
    go_loopw [9, 10, 11] (fun fv lv iv wr => ∃ i : Int, 0 ≤ i ∧ i ≤ U.length ∧ iv = .int .i64 i ∧ fv = .bool (anyE S1 U i.toNat) ∧ lv = .bool (anyE S2 U i.toNat) ∧ Below wy.heap.size wy wr) (fun _ _ iv _ => ((U.length : Int) - intOf iv).toNat)
    case atStart => exact ⟨0, by omega, by omega, rfl, by rw [HZ0.out], by rw [HZ0.out], Below.refl _ _⟩
    case round =>
      obtain ⟨i, i0, iR, rfl, rfl, rfl, hbr⟩ := hrel
      by_cases hi : i < U.length
      · have ki : IntKind.i64.wrap (i + 1) = i + 1 := IntWalk.i64_in _ (by omega)
        obtain ⟨ea, eca, eb, ecb, hc0, ho, hTt⟩ := (KU.out _ hbr).at (k := i) i0 hi
        have hmem := tabAt_mem (U := U) (j := i.toNat) (by omega)
        have HA1 := Lib.hid (anyE_succ S1 (U := U) (i := i.toNat) (by omega))
        have HA2 := Lib.hid (anyE_succ S2 (U := U) (i := i.toNat) (by omega))
        have hti := HT.out i.toNat (by omega)
        have HD0 := Lib.hid (show 0 < i → eqT (tabAt U (i.toNat - 1)) (tabAt U i.toNat) = false from fun h => by have := HD.out (i.toNat - 1) (by omega); rwa [show i.toNat - 1 + 1 = i.toNat by omega] at this)
        obtain ⟨T, hTe⟩ : ∃ T, T = tabAt U i.toNat := ⟨_, rfl⟩
        rw [← hTe] at hc0 hTt hmem HA1 HA2 hti HD0
        have C1 := Lib.hid (C1.out T hmem)
        have C2 := Lib.hid (C2.out T hmem)
        have hTn := HN.out.1 T hmem
        have KM := Lib.hid (show ∀ wz, Below wr.heap.size wr wz → wz.rangeAt G (i.toNat * 2) [.slice ea L.length eca, .slice eb T.length ecb] from fun wz hz j v hv => by rw [hz.cell (block_lt_of_cell (hc0 j v hv))]; exact hc0 j v hv)
        have KC := Lib.hid (show ∀ wz, Below wr.heap.size wr wz → wz.cell? ⟨G, i.toNat * 2, none⟩ = some (.slice ea L.length eca) from fun wz hz => KM.out wz hz 0 _ rfl)
        have KR := Lib.hid (show ∀ wz, Below wr.heap.size wr wz → Rd wz ea L from fun wz hz => ho.rd.below hz)
        have KT := Lib.hid (show ∀ wz, Below wr.heap.size wr wz → RdT wz eb T from fun wz hz => hTt.rdT'.below hz)
        have KGwr := Lib.hid (show ∀ wz, Below wr.heap.size wr wz → wz.heap[hGb]? = some (.cells #[.slice ahA L.length chA, .slice bhA S1.length dhA] 38 (0, 0)) from fun wz hz => KG.out _ (hbr.trans (hz.mono hbr.size)))
        have KKwr := Lib.hid (show ∀ wz, Below wr.heap.size wr wz → wz.heap[hKb]? = some (.cells #[.slice ahM L.length chM, .slice bhM S2.length dhM] 38 (0, 0)) from fun wz hz => KK.out _ (hbr.trans (hz.mono hbr.size)))
        obtain ⟨F1, hF1⟩ : ∃ F, F = anyE S1 U i.toNat := ⟨_, rfl⟩
        obtain ⟨F2, hF2⟩ : ∃ F, F = anyE S2 U i.toNat := ⟨_, rfl⟩
        obtain ⟨V1, hV1⟩ : ∃ V, V = eqT T S1 := ⟨_, rfl⟩
        obtain ⟨V2, hV2⟩ : ∃ V, V = eqT T S2 := ⟨_, rfl⟩
        rw [← hF1, ← hV1] at HA1
        rw [← hF2, ← hV2] at HA2
        rw [← hF1, ← hF2]
        have C5 := Lib.hid (show ∀ wz, Below wr.heap.size wr wz → Calls Try.prog 24 #[.agg #[.slice ea L.length eca, .slice eb T.length ecb], .agg #[.slice ahA L.length chA, .slice bhA S1.length dhA]] wz fun e w' => e = .returned (.bool V1) ∧ Below wz.heap.size wz w' from fun wz hz => by rw [hV1]; exact equalAlgebra_tab _ _ _ _ _ _ _ _ L T S1 wz (KR.out _ hz) ((KA.out _ (hbr.trans (hz.mono hbr.size))).1) (KT.out _ hz) ((KA.out _ (hbr.trans (hz.mono hbr.size))).2) (by omega) (fun j hj => by have := hti.2.2 j hj; omega) (by omega) (by have := HN.out.2.1; omega))
        have C6 := Lib.hid (show ∀ wz, Below wr.heap.size wr wz → Calls Try.prog 24 #[.agg #[.slice ea L.length eca, .slice eb T.length ecb], .agg #[.slice ahM L.length chM, .slice bhM S2.length dhM]] wz fun e w' => e = .returned (.bool V2) ∧ Below wz.heap.size wz w' from fun wz hz => by rw [hV2]; exact equalAlgebra_tab _ _ _ _ _ _ _ _ L T S2 wz (KR.out _ hz) ((KB.out _ (hbr.trans (hz.mono hbr.size))).1) (KT.out _ hz) ((KB.out _ (hbr.trans (hz.mono hbr.size))).2) (by omega) (fun j hj => by have := hti.2.2 j hj; omega) (by omega) (by have := HN.out.2.2; omega))
        have z : Below wr.heap.size wr wr := Below.refl _ _
        have hi1 : i.toNat < U.length := by omega
        have HREL := Lib.hid (show ∀ wz, Below wr.heap.size wr wz → Below wy.heap.size wy wz from fun wz hz => hbr.trans (hz.mono hbr.size))
        have HFS := Lib.hid (show (i + 1).toNat = i.toNat + 1 by omega)
        clear hTe hV1 hV2 hF1 hF2 ho hTt hc0 hmem hti
        by_cases hi0 : 0 < i
        · have hdd : decide (0 < i) = true := decide_eq_true hi0
          have k1 : IntKind.i64.wrap (i - 1) = i - 1 := IntWalk.i64_in _ (by omega)
          have k2 : (0 : Int) ≤ i - 1 := by omega
          have k4 : ¬ i < 1 := by omega
          have k3 : i - 1 < U.length := by omega
          obtain ⟨pa, pca, pb, pcb, hp0, hpo, hpT⟩ := (KU.out _ hbr).at (k := i - 1) (by omega) (by omega)
          have eN : (i - 1).toNat = i.toNat - 1 := by omega
          rw [eN] at hp0 hpT
          have hmemP := tabAt_mem (U := U) (j := i.toNat - 1) (by omega)
          have htiP := HT.out (i.toNat - 1) (by omega)
          have hde := HD0.out hi0
          obtain ⟨P, hPe⟩ : ∃ P, P = tabAt U (i.toNat - 1) := ⟨_, rfl⟩
          rw [← hPe] at hp0 hpT hmemP htiP hde
          have hPn := HN.out.1 P hmemP
          have KP := Lib.hid (show ∀ wz, Below wr.heap.size wr wz → wz.rangeAt G ((i.toNat - 1) * 2) [.slice pa L.length pca, .slice pb P.length pcb] from fun wz hz j v hv => by rw [hz.cell (block_lt_of_cell (hp0 j v hv))]; exact hp0 j v hv)
          have C4 := Lib.hid (show ∀ wz, Below wr.heap.size wr wz → Calls Try.prog 24 #[.agg #[.slice pa L.length pca, .slice pb P.length pcb], .agg #[.slice ea L.length eca, .slice eb T.length ecb]] wz fun e w' => e = .returned (.bool false) ∧ Below wz.heap.size wz w' from fun wz hz => by have h := equalAlgebra_tab _ _ _ _ pca eca pcb ecb L P T wz (hpo.rd.below hz) (KR.out _ hz) (hpT.rdT'.below hz) (KT.out _ hz) (by omega) (fun j hj => by have := htiP.2.2 j hj; omega) (by omega) (by omega); rwa [hde] at h)
          clear hp0 hpo hpT hmemP htiP hde hPe
          go_wp2
          refine wp_region_any (by kernel_rfl) ?_
          refine any_of_C (C := Below wr.heap.size wr) _ _ _ _ ?_
          replace z := z.drew
          refine anyC_take (i := 0) (oi := ⟨_, _, _, _, _, _⟩) (v := .slice (some ⟨G, 0, none⟩) U.length gc) rfl (by kernel_rfl) (by kernel_rfl) (by kernel_rfl) (fun _ _ _ h => h) (.inl ⟨by kernel_rfl, fun wz hz => by apply runs_moveY <;> rfl⟩) ?_
          (try simp only [Act.put, List.setIfInBounds_toArray, List.set_cons_zero, List.set_cons_succ])
          refine anyC_take (i := 1) (oi := ⟨_, _, _, _, _, _⟩) (v := .int .i64 i) rfl (by kernel_rfl) (by kernel_rfl) (by kernel_rfl) (fun _ _ _ h => h) (.inl ⟨by kernel_rfl, fun wz hz => by apply runs_moveY <;> rfl⟩) ?_
          (try simp only [Act.put, List.setIfInBounds_toArray, List.set_cons_zero, List.set_cons_succ])
          refine anyC_take (i := 2) (oi := ⟨_, _, _, _, _, _⟩) (v := .pointer (some ⟨G, i.toNat * 2, none⟩)) rfl (by kernel_rfl) (by kernel_rfl) (by kernel_rfl) (fun _ _ _ h => h) (.inl ⟨by kernel_rfl, fun wz hz => by go_simp⟩) ?_
          (try simp only [Act.put, List.setIfInBounds_toArray, List.set_cons_zero, List.set_cons_succ])
          refine anyC_take (i := 3) (oi := ⟨_, _, _, _, _, _⟩) (v := .agg #[.slice ea L.length eca, .slice eb T.length ecb]) rfl (by kernel_rfl) (by kernel_rfl) (by kernel_rfl) (fun _ _ _ h => h) (.inl ⟨by kernel_rfl, fun wz hz => runs_load_midC (C := Below wr.heap.size wr) 38 _ rfl G (i.toNat * 2) rfl #[.slice ea L.length eca, .slice eb T.length ecb] _ (fun w hw => KM.out _ hw) Try.underlying38 rfl (size_Alg _ _) wz hz⟩) ?_
          (try simp only [Act.put, List.setIfInBounds_toArray, List.set_cons_zero, List.set_cons_succ])
          refine anyC_call (i := 4) (o := ⟨_, _, _, _, _, _⟩) (f := 21) (args := #[.agg #[.slice ea L.length eca, .slice eb T.length ecb]]) rfl (by kernel_rfl) (by kernel_rfl) (by apply runs_call1 (he := enters_of Try.func21 (by kernel_rfl) rfl) <;> rfl) z ?_
          refine (C1.out _ _ _ _ _ (KR.out _ z) (KT.out _ z)).mono ?_
          rintro e wz ⟨rfl, hb⟩
          replace z := z.trans (hb.mono z.size)
          refine ⟨_, rfl, ?_⟩
          (try simp only [Act.put, List.setIfInBounds_toArray, List.set_cons_zero, List.set_cons_succ])
          refine anyC_take (i := 5) (oi := ⟨_, _, _, _, _, _⟩) (v := .bool false) rfl (by kernel_rfl) (by kernel_rfl) (by kernel_rfl) (fun _ _ _ h => h) (.inl ⟨by kernel_rfl, fun wz hz => by go_simp⟩) ?_
          (try simp only [Act.put, List.setIfInBounds_toArray, List.set_cons_zero, List.set_cons_succ])
          refine anyC_take (i := 6) (oi := ⟨_, _, _, _, _, _⟩) (v := .bool false) rfl (by kernel_rfl) (by kernel_rfl) (by kernel_rfl) (fun _ _ _ h => h) (.inl ⟨by kernel_rfl, fun wz hz => by apply runs_moveY <;> rfl⟩) ?_
          (try simp only [Act.put, List.setIfInBounds_toArray, List.set_cons_zero, List.set_cons_succ])
          refine anyC_take (i := 7) (oi := ⟨_, _, _, _, _, _⟩) (v := .slice (some ⟨G, 0, none⟩) U.length gc) rfl (by kernel_rfl) (by kernel_rfl) (by kernel_rfl) (fun _ _ _ h => h) (.inl ⟨by kernel_rfl, fun wz hz => by apply runs_moveY <;> rfl⟩) ?_
          (try simp only [Act.put, List.setIfInBounds_toArray, List.set_cons_zero, List.set_cons_succ])
          refine anyC_take (i := 8) (oi := ⟨_, _, _, _, _, _⟩) (v := .int .i64 i) rfl (by kernel_rfl) (by kernel_rfl) (by kernel_rfl) (fun _ _ _ h => h) (.inl ⟨by kernel_rfl, fun wz hz => by apply runs_moveY <;> rfl⟩) ?_
          (try simp only [Act.put, List.setIfInBounds_toArray, List.set_cons_zero, List.set_cons_succ])
          refine anyC_take (i := 9) (oi := ⟨_, _, _, _, _, _⟩) (v := .pointer (some ⟨G, i.toNat * 2, none⟩)) rfl (by kernel_rfl) (by kernel_rfl) (by kernel_rfl) (fun _ _ _ h => h) (.inl ⟨by kernel_rfl, fun wz hz => by go_simp⟩) ?_
          (try simp only [Act.put, List.setIfInBounds_toArray, List.set_cons_zero, List.set_cons_succ])
          refine anyC_take (i := 10) (oi := ⟨_, _, _, _, _, _⟩) (v := .agg #[.slice ea L.length eca, .slice eb T.length ecb]) rfl (by kernel_rfl) (by kernel_rfl) (by kernel_rfl) (fun _ _ _ h => h) (.inl ⟨by kernel_rfl, fun wz hz => runs_load_midC (C := Below wr.heap.size wr) 38 _ rfl G (i.toNat * 2) rfl #[.slice ea L.length eca, .slice eb T.length ecb] _ (fun w hw => KM.out _ hw) Try.underlying38 rfl (size_Alg _ _) wz hz⟩) ?_
          (try simp only [Act.put, List.setIfInBounds_toArray, List.set_cons_zero, List.set_cons_succ])
          refine anyC_call (i := 11) (o := ⟨_, _, _, _, _, _⟩) (f := 22) (args := #[.string ⟨#[112, 114, 101, 108, 105, 110, 101, 97, 114]⟩, .agg #[.slice ea L.length eca, .slice eb T.length ecb]]) rfl (by kernel_rfl) (by kernel_rfl) (by apply runs_call2 (he := enters_of Try.func22 (by kernel_rfl) rfl) <;> rfl) z ?_
          refine (C2.out _ _ _ _ _ (KR.out _ z) (KT.out _ z)).mono ?_
          rintro e wz ⟨rfl, hb⟩
          replace z := z.trans (hb.mono z.size)
          refine ⟨_, rfl, ?_⟩
          (try simp only [Act.put, List.setIfInBounds_toArray, List.set_cons_zero, List.set_cons_succ])
          refine anyC_take (i := 12) (oi := ⟨_, _, _, _, _, _⟩) (v := .bool false) rfl (by kernel_rfl) (by kernel_rfl) (by kernel_rfl) (fun _ _ _ h => h) (.inl ⟨by kernel_rfl, fun wz hz => by go_simp⟩) ?_
          (try simp only [Act.put, List.setIfInBounds_toArray, List.set_cons_zero, List.set_cons_succ])
          refine anyC_take (i := 13) (oi := ⟨_, _, _, _, _, _⟩) (v := .bool false) rfl (by kernel_rfl) (by kernel_rfl) (by kernel_rfl) (fun _ _ _ h => h) (.inl ⟨by kernel_rfl, fun wz hz => by go_simp⟩) ?_
          (try simp only [Act.put, List.setIfInBounds_toArray, List.set_cons_zero, List.set_cons_succ])
          refine anyC_take (i := 14) (oi := ⟨_, _, _, _, _, _⟩) (v := .bool false) rfl (by kernel_rfl) (by kernel_rfl) (by kernel_rfl) (fun _ _ _ h => h) (.inl ⟨by kernel_rfl, fun wz hz => by apply runs_moveY <;> rfl⟩) ?_
          (try simp only [Act.put, List.setIfInBounds_toArray, List.set_cons_zero, List.set_cons_succ])
          refine anyC_take (i := 15) (oi := ⟨_, _, _, _, _, _⟩) (v := .slice (some ⟨G, 0, none⟩) U.length gc) rfl (by kernel_rfl) (by kernel_rfl) (by kernel_rfl) (fun _ _ _ h => h) (.inl ⟨by kernel_rfl, fun wz hz => by apply runs_moveY <;> rfl⟩) ?_
          (try simp only [Act.put, List.setIfInBounds_toArray, List.set_cons_zero, List.set_cons_succ])
          refine anyC_take (i := 16) (oi := ⟨_, _, _, _, _, _⟩) (v := .int .i64 i) rfl (by kernel_rfl) (by kernel_rfl) (by kernel_rfl) (fun _ _ _ h => h) (.inl ⟨by kernel_rfl, fun wz hz => by apply runs_moveY <;> rfl⟩) ?_
          (try simp only [Act.put, List.setIfInBounds_toArray, List.set_cons_zero, List.set_cons_succ])
          refine anyC_take (i := 17) (oi := ⟨_, _, _, _, _, _⟩) (v := .pointer (some ⟨G, i.toNat * 2, none⟩)) rfl (by kernel_rfl) (by kernel_rfl) (by kernel_rfl) (fun _ _ _ h => h) (.inl ⟨by kernel_rfl, fun wz hz => by go_simp⟩) ?_
          (try simp only [Act.put, List.setIfInBounds_toArray, List.set_cons_zero, List.set_cons_succ])
          refine anyC_take (i := 18) (oi := ⟨_, _, _, _, _, _⟩) (v := .pointer (some ⟨G, i.toNat * 2, none⟩)) rfl (by kernel_rfl) (by kernel_rfl) (by kernel_rfl) (fun _ _ _ h => h) (.inl ⟨by kernel_rfl, fun wz hz => by go_simp⟩) ?_
          (try simp only [Act.put, List.setIfInBounds_toArray, List.set_cons_zero, List.set_cons_succ])
          refine anyC_take (i := 19) (oi := ⟨_, _, _, _, _, _⟩) (v := .slice ea L.length eca) rfl (by kernel_rfl) (by kernel_rfl) (by kernel_rfl) (fun _ _ _ h => h) (.inl ⟨by kernel_rfl, fun wz hz => by have c0 := KC.out _ hz; go_simp⟩) ?_
          (try simp only [Act.put, List.setIfInBounds_toArray, List.set_cons_zero, List.set_cons_succ])
          refine anyC_take (i := 20) (oi := ⟨_, _, _, _, _, _⟩) (v := .int .i64 n) rfl (by kernel_rfl) (by kernel_rfl) (by kernel_rfl) (fun _ _ _ h => h) (.inl ⟨by kernel_rfl, fun wz hz => by apply runs_moveY <;> rfl⟩) ?_
          (try simp only [Act.put, List.setIfInBounds_toArray, List.set_cons_zero, List.set_cons_succ])
          refine anyC_call (i := 21) (o := ⟨_, _, _, _, _, _⟩) (f := 20) (args := #[.int .i64 n]) rfl (by kernel_rfl) (by kernel_rfl) (by apply runs_call1 (he := enters_of Try.func20 (by kernel_rfl) rfl) <;> rfl) z ?_
          refine (C3.out _).mono ?_
          rintro e wz ⟨cha, chc, rfl, hch, hb⟩
          replace z := z.trans (hb.mono z.size)
          refine ⟨_, rfl, ?_⟩
          (try simp only [Act.put, List.setIfInBounds_toArray, List.set_cons_zero, List.set_cons_succ])
          refine anyC_call (i := 22) (o := ⟨_, _, _, _, _, _⟩) (f := 23) (args := #[.slice ea L.length eca, .slice cha L.length chc]) rfl (by kernel_rfl) (by kernel_rfl) (by apply runs_call2 (he := enters_of Try.func23 (by kernel_rfl) rfl) <;> rfl) z ?_
          refine ((dr_to (equalInts_same _ _ _ _ L _ (KR.out _ z) hch.rd hL30))).mono ?_
          rintro e wz ⟨rfl, hb⟩
          replace z := z.trans (hb.mono z.size)
          refine ⟨_, rfl, ?_⟩
          (try simp only [Act.put, List.setIfInBounds_toArray, List.set_cons_zero, List.set_cons_succ])
          refine anyC_take (i := 23) (oi := ⟨_, _, _, _, _, _⟩) (v := .bool false) rfl (by kernel_rfl) (by kernel_rfl) (by kernel_rfl) (fun _ _ _ h => h) (.inl ⟨by kernel_rfl, fun wz hz => by go_simp⟩) ?_
          (try simp only [Act.put, List.setIfInBounds_toArray, List.set_cons_zero, List.set_cons_succ])
          refine anyC_take (i := 24) (oi := ⟨_, _, _, _, _, _⟩) (v := .bool false) rfl (by kernel_rfl) (by kernel_rfl) (by kernel_rfl) (fun _ _ _ h => h) (.inl ⟨by kernel_rfl, fun wz hz => by go_simp⟩) ?_
          (try simp only [Act.put, List.setIfInBounds_toArray, List.set_cons_zero, List.set_cons_succ])
          refine anyC_take (i := 25) (oi := ⟨_, _, _, _, _, _⟩) (v := .bool false) rfl (by kernel_rfl) (by kernel_rfl) (by kernel_rfl) (fun _ _ _ h => h) (.inl ⟨by kernel_rfl, fun wz hz => by apply runs_moveY <;> rfl⟩) ?_
          (try simp only [Act.put, List.setIfInBounds_toArray, List.set_cons_zero, List.set_cons_succ])
          refine anyC_take (i := 26) (oi := ⟨_, _, _, _, _, _⟩) (v := .int .i64 i) rfl (by kernel_rfl) (by kernel_rfl) (by kernel_rfl) (fun _ _ _ h => h) (.inl ⟨by kernel_rfl, fun wz hz => by apply runs_moveY <;> rfl⟩) ?_
          (try simp only [Act.put, List.setIfInBounds_toArray, List.set_cons_zero, List.set_cons_succ])
          refine anyC_take (i := 27) (oi := ⟨_, _, _, _, _, _⟩) (v := .bool true) rfl (by kernel_rfl) (by kernel_rfl) (by kernel_rfl) (fun _ _ _ h => h) (.inl ⟨by kernel_rfl, fun wz hz => by go_simp⟩) ?_
          (try simp only [Act.put, List.setIfInBounds_toArray, List.set_cons_zero, List.set_cons_succ])
          refine anyC_take (i := 28) (oi := ⟨_, _, _, _, _, _⟩) (v := .bool true) rfl (by kernel_rfl) (by kernel_rfl) (by kernel_rfl) (fun _ _ _ h => h) (.inl ⟨by kernel_rfl, fun wz hz => by apply runs_moveY <;> rfl⟩) ?_
          (try simp only [Act.put, List.setIfInBounds_toArray, List.set_cons_zero, List.set_cons_succ])
          refine anyC_take (i := 29) (oi := ⟨_, _, _, _, _, _⟩) (v := .slice (some ⟨G, 0, none⟩) U.length gc) rfl (by kernel_rfl) (by kernel_rfl) (by kernel_rfl) (fun _ _ _ h => h) (.inl ⟨by kernel_rfl, fun wz hz => by apply runs_moveY <;> rfl⟩) ?_
          (try simp only [Act.put, List.setIfInBounds_toArray, List.set_cons_zero, List.set_cons_succ])
          refine anyC_take (i := 30) (oi := ⟨_, _, _, _, _, _⟩) (v := .int .i64 i) rfl (by kernel_rfl) (by kernel_rfl) (by kernel_rfl) (fun _ _ _ h => h) (.inl ⟨by kernel_rfl, fun wz hz => by apply runs_moveY <;> rfl⟩) ?_
          (try simp only [Act.put, List.setIfInBounds_toArray, List.set_cons_zero, List.set_cons_succ])
          refine anyC_take (i := 31) (oi := ⟨_, _, _, _, _, _⟩) (v := .int .i64 (i - 1)) rfl (by kernel_rfl) (by kernel_rfl) (by kernel_rfl) (fun _ _ _ h => h) (.inl ⟨by kernel_rfl, fun wz hz => by go_simp⟩) ?_
          (try simp only [Act.put, List.setIfInBounds_toArray, List.set_cons_zero, List.set_cons_succ])
          refine anyC_take (i := 32) (oi := ⟨_, _, _, _, _, _⟩) (v := .pointer (some ⟨G, (i.toNat - 1) * 2, none⟩)) rfl (by kernel_rfl) (by kernel_rfl) (by kernel_rfl) (fun _ _ _ h => h) (.inl ⟨by kernel_rfl, fun wz hz => by go_simp⟩) ?_
          (try simp only [Act.put, List.setIfInBounds_toArray, List.set_cons_zero, List.set_cons_succ])
          refine anyC_take (i := 33) (oi := ⟨_, _, _, _, _, _⟩) (v := .agg #[.slice pa L.length pca, .slice pb P.length pcb]) rfl (by kernel_rfl) (by kernel_rfl) (by kernel_rfl) (fun _ _ _ h => h) (.inl ⟨by kernel_rfl, fun wz hz => runs_load_midC (C := Below wr.heap.size wr) 38 _ rfl G ((i.toNat - 1) * 2) rfl #[.slice pa L.length pca, .slice pb P.length pcb] _ (fun w hw => KP.out _ hw) Try.underlying38 rfl (size_Alg _ _) wz hz⟩) ?_
          (try simp only [Act.put, List.setIfInBounds_toArray, List.set_cons_zero, List.set_cons_succ])
          refine anyC_take (i := 34) (oi := ⟨_, _, _, _, _, _⟩) (v := .slice (some ⟨G, 0, none⟩) U.length gc) rfl (by kernel_rfl) (by kernel_rfl) (by kernel_rfl) (fun _ _ _ h => h) (.inl ⟨by kernel_rfl, fun wz hz => by apply runs_moveY <;> rfl⟩) ?_
          (try simp only [Act.put, List.setIfInBounds_toArray, List.set_cons_zero, List.set_cons_succ])
          refine anyC_take (i := 35) (oi := ⟨_, _, _, _, _, _⟩) (v := .int .i64 i) rfl (by kernel_rfl) (by kernel_rfl) (by kernel_rfl) (fun _ _ _ h => h) (.inl ⟨by kernel_rfl, fun wz hz => by apply runs_moveY <;> rfl⟩) ?_
          (try simp only [Act.put, List.setIfInBounds_toArray, List.set_cons_zero, List.set_cons_succ])
          refine anyC_take (i := 36) (oi := ⟨_, _, _, _, _, _⟩) (v := .pointer (some ⟨G, i.toNat * 2, none⟩)) rfl (by kernel_rfl) (by kernel_rfl) (by kernel_rfl) (fun _ _ _ h => h) (.inl ⟨by kernel_rfl, fun wz hz => by go_simp⟩) ?_
          (try simp only [Act.put, List.setIfInBounds_toArray, List.set_cons_zero, List.set_cons_succ])
          refine anyC_take (i := 37) (oi := ⟨_, _, _, _, _, _⟩) (v := .agg #[.slice ea L.length eca, .slice eb T.length ecb]) rfl (by kernel_rfl) (by kernel_rfl) (by kernel_rfl) (fun _ _ _ h => h) (.inl ⟨by kernel_rfl, fun wz hz => runs_load_midC (C := Below wr.heap.size wr) 38 _ rfl G (i.toNat * 2) rfl #[.slice ea L.length eca, .slice eb T.length ecb] _ (fun w hw => KM.out _ hw) Try.underlying38 rfl (size_Alg _ _) wz hz⟩) ?_
          (try simp only [Act.put, List.setIfInBounds_toArray, List.set_cons_zero, List.set_cons_succ])
          refine anyC_call (i := 38) (o := ⟨_, _, _, _, _, _⟩) (f := 24) (args := #[.agg #[.slice pa L.length pca, .slice pb P.length pcb], .agg #[.slice ea L.length eca, .slice eb T.length ecb]]) rfl (by kernel_rfl) (by kernel_rfl) (by apply runs_call2 (he := enters_of Try.func24 (by kernel_rfl) rfl) <;> rfl) z ?_
          refine (C4.out _ z).mono ?_
          rintro e wz ⟨rfl, hb⟩
          replace z := z.trans (hb.mono z.size)
          refine ⟨_, rfl, ?_⟩
          (try simp only [Act.put, List.setIfInBounds_toArray, List.set_cons_zero, List.set_cons_succ])
          refine anyC_take (i := 39) (oi := ⟨_, _, _, _, _, _⟩) (v := .bool false) rfl (by kernel_rfl) (by kernel_rfl) (by kernel_rfl) (fun _ _ _ h => h) (.inl ⟨by kernel_rfl, fun wz hz => by go_simp⟩) ?_
          (try simp only [Act.put, List.setIfInBounds_toArray, List.set_cons_zero, List.set_cons_succ])
          refine anyC_take (i := 40) (oi := ⟨_, _, _, _, _, _⟩) (v := .bool false) rfl (by kernel_rfl) (by kernel_rfl) (by kernel_rfl) (fun _ _ _ h => h) (.inl ⟨by kernel_rfl, fun wz hz => by go_simp⟩) ?_
          (try simp only [Act.put, List.setIfInBounds_toArray, List.set_cons_zero, List.set_cons_succ])
          refine anyC_done (by kernel_rfl) z ?_ _
          go_wp2
          cases F1 with
          | true =>
            refine wp_region_any (by kernel_rfl) ?_
            refine any_of_C (C := Below wr.heap.size wr) _ _ _ _ ?_
            replace z := z.drew
            refine anyC_take (i := 0) (oi := ⟨_, _, _, _, _, _⟩) (v := .bool true) rfl (by kernel_rfl) (by kernel_rfl) (by kernel_rfl) (fun _ _ _ h => h) (.inl ⟨by kernel_rfl, fun wz hz => by apply runs_moveY <;> rfl⟩) ?_
            (try simp only [Act.put, List.setIfInBounds_toArray, List.set_cons_zero, List.set_cons_succ])
            refine anyC_take (i := 1) (oi := ⟨_, _, _, _, _, _⟩) (v := .bool true) rfl (by kernel_rfl) (by kernel_rfl) (by kernel_rfl) (fun _ _ _ h => h) (.inl ⟨by kernel_rfl, fun wz hz => by apply runs_moveY <;> rfl⟩) ?_
            (try simp only [Act.put, List.setIfInBounds_toArray, List.set_cons_zero, List.set_cons_succ])
            refine anyC_take (i := 2) (oi := ⟨_, _, _, _, _, _⟩) (v := undef) rfl (by kernel_rfl) (by kernel_rfl) (by kernel_rfl) (fun _ _ _ h => h) (.inr ⟨by kernel_rfl, rfl⟩) ?_
            (try simp only [Act.put, List.setIfInBounds_toArray, List.set_cons_zero, List.set_cons_succ])
            refine anyC_take (i := 3) (oi := ⟨_, _, _, _, _, _⟩) (v := undef) rfl (by kernel_rfl) (by kernel_rfl) (by kernel_rfl) (fun _ _ _ h => h) (.inr ⟨by kernel_rfl, rfl⟩) ?_
            (try simp only [Act.put, List.setIfInBounds_toArray, List.set_cons_zero, List.set_cons_succ])
            refine anyC_take (i := 4) (oi := ⟨_, _, _, _, _, _⟩) (v := undef) rfl (by kernel_rfl) (by kernel_rfl) (by kernel_rfl) (fun _ _ _ h => h) (.inr ⟨by kernel_rfl, rfl⟩) ?_
            (try simp only [Act.put, List.setIfInBounds_toArray, List.set_cons_zero, List.set_cons_succ])
            refine anyC_take (i := 5) (oi := ⟨_, _, _, _, _, _⟩) (v := undef) rfl (by kernel_rfl) (by kernel_rfl) (by kernel_rfl) (fun _ _ _ h => h) (.inr ⟨by kernel_rfl, rfl⟩) ?_
            (try simp only [Act.put, List.setIfInBounds_toArray, List.set_cons_zero, List.set_cons_succ])
            refine anyC_take (i := 6) (oi := ⟨_, _, _, _, _, _⟩) (v := undef) rfl (by kernel_rfl) (by kernel_rfl) (by kernel_rfl) (fun _ _ _ h => h) (.inr ⟨by kernel_rfl, rfl⟩) ?_
            (try simp only [Act.put, List.setIfInBounds_toArray, List.set_cons_zero, List.set_cons_succ])
            refine anyC_take (i := 7) (oi := ⟨_, _, _, _, _, _⟩) (v := undef) rfl (by kernel_rfl) (by kernel_rfl) (by kernel_rfl) (fun _ _ _ h => h) (.inr ⟨by kernel_rfl, rfl⟩) ?_
            (try simp only [Act.put, List.setIfInBounds_toArray, List.set_cons_zero, List.set_cons_succ])
            refine anyC_take (i := 8) (oi := ⟨_, _, _, _, _, _⟩) (v := .bool true) rfl (by kernel_rfl) (by kernel_rfl) (by kernel_rfl) (fun _ _ _ h => h) (.inl ⟨by kernel_rfl, fun wz hz => by go_simp⟩) ?_
            (try simp only [Act.put, List.setIfInBounds_toArray, List.set_cons_zero, List.set_cons_succ])
            refine anyC_take (i := 9) (oi := ⟨_, _, _, _, _, _⟩) (v := .bool true) rfl (by kernel_rfl) (by kernel_rfl) (by kernel_rfl) (fun _ _ _ h => h) (.inl ⟨by kernel_rfl, fun wz hz => by apply runs_assign <;> rfl⟩) ?_
            (try simp only [Act.put, List.setIfInBounds_toArray, List.set_cons_zero, List.set_cons_succ])
            refine anyC_done (by kernel_rfl) z ?_ _
            go_wp2
            cases F2 with
            | true =>
              refine wp_region_any (by kernel_rfl) ?_
              refine any_of_C (C := Below wr.heap.size wr) _ _ _ _ ?_
              replace z := z.drew
              refine anyC_take (i := 0) (oi := ⟨_, _, _, _, _, _⟩) (v := .bool true) rfl (by kernel_rfl) (by kernel_rfl) (by kernel_rfl) (fun _ _ _ h => h) (.inl ⟨by kernel_rfl, fun wz hz => by apply runs_moveY <;> rfl⟩) ?_
              (try simp only [Act.put, List.setIfInBounds_toArray, List.set_cons_zero, List.set_cons_succ])
              refine anyC_take (i := 1) (oi := ⟨_, _, _, _, _, _⟩) (v := .bool true) rfl (by kernel_rfl) (by kernel_rfl) (by kernel_rfl) (fun _ _ _ h => h) (.inl ⟨by kernel_rfl, fun wz hz => by apply runs_moveY <;> rfl⟩) ?_
              (try simp only [Act.put, List.setIfInBounds_toArray, List.set_cons_zero, List.set_cons_succ])
              refine anyC_take (i := 2) (oi := ⟨_, _, _, _, _, _⟩) (v := undef) rfl (by kernel_rfl) (by kernel_rfl) (by kernel_rfl) (fun _ _ _ h => h) (.inr ⟨by kernel_rfl, rfl⟩) ?_
              (try simp only [Act.put, List.setIfInBounds_toArray, List.set_cons_zero, List.set_cons_succ])
              refine anyC_take (i := 3) (oi := ⟨_, _, _, _, _, _⟩) (v := undef) rfl (by kernel_rfl) (by kernel_rfl) (by kernel_rfl) (fun _ _ _ h => h) (.inr ⟨by kernel_rfl, rfl⟩) ?_
              (try simp only [Act.put, List.setIfInBounds_toArray, List.set_cons_zero, List.set_cons_succ])
              refine anyC_take (i := 4) (oi := ⟨_, _, _, _, _, _⟩) (v := undef) rfl (by kernel_rfl) (by kernel_rfl) (by kernel_rfl) (fun _ _ _ h => h) (.inr ⟨by kernel_rfl, rfl⟩) ?_
              (try simp only [Act.put, List.setIfInBounds_toArray, List.set_cons_zero, List.set_cons_succ])
              refine anyC_take (i := 5) (oi := ⟨_, _, _, _, _, _⟩) (v := undef) rfl (by kernel_rfl) (by kernel_rfl) (by kernel_rfl) (fun _ _ _ h => h) (.inr ⟨by kernel_rfl, rfl⟩) ?_
              (try simp only [Act.put, List.setIfInBounds_toArray, List.set_cons_zero, List.set_cons_succ])
              refine anyC_take (i := 6) (oi := ⟨_, _, _, _, _, _⟩) (v := undef) rfl (by kernel_rfl) (by kernel_rfl) (by kernel_rfl) (fun _ _ _ h => h) (.inr ⟨by kernel_rfl, rfl⟩) ?_
              (try simp only [Act.put, List.setIfInBounds_toArray, List.set_cons_zero, List.set_cons_succ])
              refine anyC_take (i := 7) (oi := ⟨_, _, _, _, _, _⟩) (v := undef) rfl (by kernel_rfl) (by kernel_rfl) (by kernel_rfl) (fun _ _ _ h => h) (.inr ⟨by kernel_rfl, rfl⟩) ?_
              (try simp only [Act.put, List.setIfInBounds_toArray, List.set_cons_zero, List.set_cons_succ])
              refine anyC_take (i := 8) (oi := ⟨_, _, _, _, _, _⟩) (v := .bool true) rfl (by kernel_rfl) (by kernel_rfl) (by kernel_rfl) (fun _ _ _ h => h) (.inl ⟨by kernel_rfl, fun wz hz => by go_simp⟩) ?_
              (try simp only [Act.put, List.setIfInBounds_toArray, List.set_cons_zero, List.set_cons_succ])
              refine anyC_take (i := 9) (oi := ⟨_, _, _, _, _, _⟩) (v := .bool true) rfl (by kernel_rfl) (by kernel_rfl) (by kernel_rfl) (fun _ _ _ h => h) (.inl ⟨by kernel_rfl, fun wz hz => by apply runs_assign <;> rfl⟩) ?_
              (try simp only [Act.put, List.setIfInBounds_toArray, List.set_cons_zero, List.set_cons_succ])
              refine anyC_done (by kernel_rfl) z ?_ _
              go_wp2
              go_roundw
              case rel => exact ⟨i + 1, by omega, by omega, rfl, by rw [HFS.out, HA1.out]; first | rfl | simp, by rw [HFS.out, HA2.out]; first | rfl | simp, HREL.out _ z⟩
              case measure => simp [intOf]; omega
            | false =>
              cases V2 with
              | true =>
                refine wp_region_any (by kernel_rfl) ?_
                refine any_of_C (C := Below wr.heap.size wr) _ _ _ _ ?_
                replace z := z.drew
                refine anyC_take (i := 0) (oi := ⟨_, _, _, _, _, _⟩) (v := .bool false) rfl (by kernel_rfl) (by kernel_rfl) (by kernel_rfl) (fun _ _ _ h => h) (.inl ⟨by kernel_rfl, fun wz hz => by apply runs_moveY <;> rfl⟩) ?_
                (try simp only [Act.put, List.setIfInBounds_toArray, List.set_cons_zero, List.set_cons_succ])
                refine anyC_take (i := 1) (oi := ⟨_, _, _, _, _, _⟩) (v := .bool false) rfl (by kernel_rfl) (by kernel_rfl) (by kernel_rfl) (fun _ _ _ h => h) (.inl ⟨by kernel_rfl, fun wz hz => by apply runs_moveY <;> rfl⟩) ?_
                (try simp only [Act.put, List.setIfInBounds_toArray, List.set_cons_zero, List.set_cons_succ])
                refine anyC_take (i := 2) (oi := ⟨_, _, _, _, _, _⟩) (v := .slice (some ⟨G, 0, none⟩) U.length gc) rfl (by kernel_rfl) (by kernel_rfl) (by kernel_rfl) (fun _ _ _ h => h) (.inl ⟨by kernel_rfl, fun wz hz => by apply runs_moveY <;> rfl⟩) ?_
                (try simp only [Act.put, List.setIfInBounds_toArray, List.set_cons_zero, List.set_cons_succ])
                refine anyC_take (i := 3) (oi := ⟨_, _, _, _, _, _⟩) (v := .int .i64 i) rfl (by kernel_rfl) (by kernel_rfl) (by kernel_rfl) (fun _ _ _ h => h) (.inl ⟨by kernel_rfl, fun wz hz => by apply runs_moveY <;> rfl⟩) ?_
                (try simp only [Act.put, List.setIfInBounds_toArray, List.set_cons_zero, List.set_cons_succ])
                refine anyC_take (i := 4) (oi := ⟨_, _, _, _, _, _⟩) (v := .pointer (some ⟨G, i.toNat * 2, none⟩)) rfl (by kernel_rfl) (by kernel_rfl) (by kernel_rfl) (fun _ _ _ h => h) (.inl ⟨by kernel_rfl, fun wz hz => by go_simp⟩) ?_
                (try simp only [Act.put, List.setIfInBounds_toArray, List.set_cons_zero, List.set_cons_succ])
                refine anyC_take (i := 5) (oi := ⟨_, _, _, _, _, _⟩) (v := .agg #[.slice ea L.length eca, .slice eb T.length ecb]) rfl (by kernel_rfl) (by kernel_rfl) (by kernel_rfl) (fun _ _ _ h => h) (.inl ⟨by kernel_rfl, fun wz hz => runs_load_midC (C := Below wr.heap.size wr) 38 _ rfl G (i.toNat * 2) rfl #[.slice ea L.length eca, .slice eb T.length ecb] _ (fun w hw => KM.out _ hw) Try.underlying38 rfl (size_Alg _ _) wz hz⟩) ?_
                (try simp only [Act.put, List.setIfInBounds_toArray, List.set_cons_zero, List.set_cons_succ])
                refine anyC_take (i := 6) (oi := ⟨_, _, _, _, _, _⟩) (v := .agg #[.slice ahM L.length chM, .slice bhM S2.length dhM]) rfl (by kernel_rfl) (by kernel_rfl) (by kernel_rfl) (fun _ _ _ h => h) (.inl ⟨by kernel_rfl, fun wz hz => runs_load (C := Below wr.heap.size wr) 38 _ rfl hKb rfl _ _ _ _ (fun w hw => KKwr.out _ hw) Try.underlying38 rfl (size_Alg _ _) wz hz⟩) ?_
                (try simp only [Act.put, List.setIfInBounds_toArray, List.set_cons_zero, List.set_cons_succ])
                refine anyC_call (i := 7) (o := ⟨_, _, _, _, _, _⟩) (f := 24) (args := #[.agg #[.slice ea L.length eca, .slice eb T.length ecb], .agg #[.slice ahM L.length chM, .slice bhM S2.length dhM]]) rfl (by kernel_rfl) (by kernel_rfl) (by apply runs_call2 (he := enters_of Try.func24 (by kernel_rfl) rfl) <;> rfl) z ?_
                refine (C6.out _ z).mono ?_
                rintro e wz ⟨rfl, hb⟩
                replace z := z.trans (hb.mono z.size)
                refine ⟨_, rfl, ?_⟩
                (try simp only [Act.put, List.setIfInBounds_toArray, List.set_cons_zero, List.set_cons_succ])
                refine anyC_take (i := 8) (oi := ⟨_, _, _, _, _, _⟩) (v := .bool true) rfl (by kernel_rfl) (by kernel_rfl) (by kernel_rfl) (fun _ _ _ h => h) (.inl ⟨by kernel_rfl, fun wz hz => by go_simp⟩) ?_
                (try simp only [Act.put, List.setIfInBounds_toArray, List.set_cons_zero, List.set_cons_succ])
                refine anyC_take (i := 9) (oi := ⟨_, _, _, _, _, _⟩) (v := .bool true) rfl (by kernel_rfl) (by kernel_rfl) (by kernel_rfl) (fun _ _ _ h => h) (.inl ⟨by kernel_rfl, fun wz hz => by apply runs_assign <;> rfl⟩) ?_
                (try simp only [Act.put, List.setIfInBounds_toArray, List.set_cons_zero, List.set_cons_succ])
                refine anyC_done (by kernel_rfl) z ?_ _
                go_wp2
                go_roundw
                case rel => exact ⟨i + 1, by omega, by omega, rfl, by rw [HFS.out, HA1.out]; first | rfl | simp, by rw [HFS.out, HA2.out]; first | rfl | simp, HREL.out _ z⟩
                case measure => simp [intOf]; omega
              | false =>
                refine wp_region_any (by kernel_rfl) ?_
                refine any_of_C (C := Below wr.heap.size wr) _ _ _ _ ?_
                replace z := z.drew
                refine anyC_take (i := 0) (oi := ⟨_, _, _, _, _, _⟩) (v := .bool false) rfl (by kernel_rfl) (by kernel_rfl) (by kernel_rfl) (fun _ _ _ h => h) (.inl ⟨by kernel_rfl, fun wz hz => by apply runs_moveY <;> rfl⟩) ?_
                (try simp only [Act.put, List.setIfInBounds_toArray, List.set_cons_zero, List.set_cons_succ])
                refine anyC_take (i := 1) (oi := ⟨_, _, _, _, _, _⟩) (v := .bool false) rfl (by kernel_rfl) (by kernel_rfl) (by kernel_rfl) (fun _ _ _ h => h) (.inl ⟨by kernel_rfl, fun wz hz => by apply runs_moveY <;> rfl⟩) ?_
                (try simp only [Act.put, List.setIfInBounds_toArray, List.set_cons_zero, List.set_cons_succ])
                refine anyC_take (i := 2) (oi := ⟨_, _, _, _, _, _⟩) (v := .slice (some ⟨G, 0, none⟩) U.length gc) rfl (by kernel_rfl) (by kernel_rfl) (by kernel_rfl) (fun _ _ _ h => h) (.inl ⟨by kernel_rfl, fun wz hz => by apply runs_moveY <;> rfl⟩) ?_
                (try simp only [Act.put, List.setIfInBounds_toArray, List.set_cons_zero, List.set_cons_succ])
                refine anyC_take (i := 3) (oi := ⟨_, _, _, _, _, _⟩) (v := .int .i64 i) rfl (by kernel_rfl) (by kernel_rfl) (by kernel_rfl) (fun _ _ _ h => h) (.inl ⟨by kernel_rfl, fun wz hz => by apply runs_moveY <;> rfl⟩) ?_
                (try simp only [Act.put, List.setIfInBounds_toArray, List.set_cons_zero, List.set_cons_succ])
                refine anyC_take (i := 4) (oi := ⟨_, _, _, _, _, _⟩) (v := .pointer (some ⟨G, i.toNat * 2, none⟩)) rfl (by kernel_rfl) (by kernel_rfl) (by kernel_rfl) (fun _ _ _ h => h) (.inl ⟨by kernel_rfl, fun wz hz => by go_simp⟩) ?_
                (try simp only [Act.put, List.setIfInBounds_toArray, List.set_cons_zero, List.set_cons_succ])
                refine anyC_take (i := 5) (oi := ⟨_, _, _, _, _, _⟩) (v := .agg #[.slice ea L.length eca, .slice eb T.length ecb]) rfl (by kernel_rfl) (by kernel_rfl) (by kernel_rfl) (fun _ _ _ h => h) (.inl ⟨by kernel_rfl, fun wz hz => runs_load_midC (C := Below wr.heap.size wr) 38 _ rfl G (i.toNat * 2) rfl #[.slice ea L.length eca, .slice eb T.length ecb] _ (fun w hw => KM.out _ hw) Try.underlying38 rfl (size_Alg _ _) wz hz⟩) ?_
                (try simp only [Act.put, List.setIfInBounds_toArray, List.set_cons_zero, List.set_cons_succ])
                refine anyC_take (i := 6) (oi := ⟨_, _, _, _, _, _⟩) (v := .agg #[.slice ahM L.length chM, .slice bhM S2.length dhM]) rfl (by kernel_rfl) (by kernel_rfl) (by kernel_rfl) (fun _ _ _ h => h) (.inl ⟨by kernel_rfl, fun wz hz => runs_load (C := Below wr.heap.size wr) 38 _ rfl hKb rfl _ _ _ _ (fun w hw => KKwr.out _ hw) Try.underlying38 rfl (size_Alg _ _) wz hz⟩) ?_
                (try simp only [Act.put, List.setIfInBounds_toArray, List.set_cons_zero, List.set_cons_succ])
                refine anyC_call (i := 7) (o := ⟨_, _, _, _, _, _⟩) (f := 24) (args := #[.agg #[.slice ea L.length eca, .slice eb T.length ecb], .agg #[.slice ahM L.length chM, .slice bhM S2.length dhM]]) rfl (by kernel_rfl) (by kernel_rfl) (by apply runs_call2 (he := enters_of Try.func24 (by kernel_rfl) rfl) <;> rfl) z ?_
                refine (C6.out _ z).mono ?_
                rintro e wz ⟨rfl, hb⟩
                replace z := z.trans (hb.mono z.size)
                refine ⟨_, rfl, ?_⟩
                (try simp only [Act.put, List.setIfInBounds_toArray, List.set_cons_zero, List.set_cons_succ])
                refine anyC_take (i := 8) (oi := ⟨_, _, _, _, _, _⟩) (v := .bool false) rfl (by kernel_rfl) (by kernel_rfl) (by kernel_rfl) (fun _ _ _ h => h) (.inl ⟨by kernel_rfl, fun wz hz => by go_simp⟩) ?_
                (try simp only [Act.put, List.setIfInBounds_toArray, List.set_cons_zero, List.set_cons_succ])
                refine anyC_take (i := 9) (oi := ⟨_, _, _, _, _, _⟩) (v := .bool false) rfl (by kernel_rfl) (by kernel_rfl) (by kernel_rfl) (fun _ _ _ h => h) (.inl ⟨by kernel_rfl, fun wz hz => by apply runs_assign <;> rfl⟩) ?_
                (try simp only [Act.put, List.setIfInBounds_toArray, List.set_cons_zero, List.set_cons_succ])
                refine anyC_done (by kernel_rfl) z ?_ _
                go_wp2
                go_roundw
                case rel => exact ⟨i + 1, by omega, by omega, rfl, by rw [HFS.out, HA1.out]; first | rfl | simp, by rw [HFS.out, HA2.out]; first | rfl | simp, HREL.out _ z⟩
                case measure => simp [intOf]; omega
          | false =>
            cases V1 with
            | true =>
              refine wp_region_any (by kernel_rfl) ?_
              refine any_of_C (C := Below wr.heap.size wr) _ _ _ _ ?_
              replace z := z.drew
              refine anyC_take (i := 0) (oi := ⟨_, _, _, _, _, _⟩) (v := .bool false) rfl (by kernel_rfl) (by kernel_rfl) (by kernel_rfl) (fun _ _ _ h => h) (.inl ⟨by kernel_rfl, fun wz hz => by apply runs_moveY <;> rfl⟩) ?_
              (try simp only [Act.put, List.setIfInBounds_toArray, List.set_cons_zero, List.set_cons_succ])
              refine anyC_take (i := 1) (oi := ⟨_, _, _, _, _, _⟩) (v := .bool false) rfl (by kernel_rfl) (by kernel_rfl) (by kernel_rfl) (fun _ _ _ h => h) (.inl ⟨by kernel_rfl, fun wz hz => by apply runs_moveY <;> rfl⟩) ?_
              (try simp only [Act.put, List.setIfInBounds_toArray, List.set_cons_zero, List.set_cons_succ])
              refine anyC_take (i := 2) (oi := ⟨_, _, _, _, _, _⟩) (v := .slice (some ⟨G, 0, none⟩) U.length gc) rfl (by kernel_rfl) (by kernel_rfl) (by kernel_rfl) (fun _ _ _ h => h) (.inl ⟨by kernel_rfl, fun wz hz => by apply runs_moveY <;> rfl⟩) ?_
              (try simp only [Act.put, List.setIfInBounds_toArray, List.set_cons_zero, List.set_cons_succ])
              refine anyC_take (i := 3) (oi := ⟨_, _, _, _, _, _⟩) (v := .int .i64 i) rfl (by kernel_rfl) (by kernel_rfl) (by kernel_rfl) (fun _ _ _ h => h) (.inl ⟨by kernel_rfl, fun wz hz => by apply runs_moveY <;> rfl⟩) ?_
              (try simp only [Act.put, List.setIfInBounds_toArray, List.set_cons_zero, List.set_cons_succ])
              refine anyC_take (i := 4) (oi := ⟨_, _, _, _, _, _⟩) (v := .pointer (some ⟨G, i.toNat * 2, none⟩)) rfl (by kernel_rfl) (by kernel_rfl) (by kernel_rfl) (fun _ _ _ h => h) (.inl ⟨by kernel_rfl, fun wz hz => by go_simp⟩) ?_
              (try simp only [Act.put, List.setIfInBounds_toArray, List.set_cons_zero, List.set_cons_succ])
              refine anyC_take (i := 5) (oi := ⟨_, _, _, _, _, _⟩) (v := .agg #[.slice ea L.length eca, .slice eb T.length ecb]) rfl (by kernel_rfl) (by kernel_rfl) (by kernel_rfl) (fun _ _ _ h => h) (.inl ⟨by kernel_rfl, fun wz hz => runs_load_midC (C := Below wr.heap.size wr) 38 _ rfl G (i.toNat * 2) rfl #[.slice ea L.length eca, .slice eb T.length ecb] _ (fun w hw => KM.out _ hw) Try.underlying38 rfl (size_Alg _ _) wz hz⟩) ?_
              (try simp only [Act.put, List.setIfInBounds_toArray, List.set_cons_zero, List.set_cons_succ])
              refine anyC_take (i := 6) (oi := ⟨_, _, _, _, _, _⟩) (v := .agg #[.slice ahA L.length chA, .slice bhA S1.length dhA]) rfl (by kernel_rfl) (by kernel_rfl) (by kernel_rfl) (fun _ _ _ h => h) (.inl ⟨by kernel_rfl, fun wz hz => runs_load (C := Below wr.heap.size wr) 38 _ rfl hGb rfl _ _ _ _ (fun w hw => KGwr.out _ hw) Try.underlying38 rfl (size_Alg _ _) wz hz⟩) ?_
              (try simp only [Act.put, List.setIfInBounds_toArray, List.set_cons_zero, List.set_cons_succ])
              refine anyC_call (i := 7) (o := ⟨_, _, _, _, _, _⟩) (f := 24) (args := #[.agg #[.slice ea L.length eca, .slice eb T.length ecb], .agg #[.slice ahA L.length chA, .slice bhA S1.length dhA]]) rfl (by kernel_rfl) (by kernel_rfl) (by apply runs_call2 (he := enters_of Try.func24 (by kernel_rfl) rfl) <;> rfl) z ?_
              refine (C5.out _ z).mono ?_
              rintro e wz ⟨rfl, hb⟩
              replace z := z.trans (hb.mono z.size)
              refine ⟨_, rfl, ?_⟩
              (try simp only [Act.put, List.setIfInBounds_toArray, List.set_cons_zero, List.set_cons_succ])
              refine anyC_take (i := 8) (oi := ⟨_, _, _, _, _, _⟩) (v := .bool true) rfl (by kernel_rfl) (by kernel_rfl) (by kernel_rfl) (fun _ _ _ h => h) (.inl ⟨by kernel_rfl, fun wz hz => by go_simp⟩) ?_
              (try simp only [Act.put, List.setIfInBounds_toArray, List.set_cons_zero, List.set_cons_succ])
              refine anyC_take (i := 9) (oi := ⟨_, _, _, _, _, _⟩) (v := .bool true) rfl (by kernel_rfl) (by kernel_rfl) (by kernel_rfl) (fun _ _ _ h => h) (.inl ⟨by kernel_rfl, fun wz hz => by apply runs_assign <;> rfl⟩) ?_
              (try simp only [Act.put, List.setIfInBounds_toArray, List.set_cons_zero, List.set_cons_succ])
              refine anyC_done (by kernel_rfl) z ?_ _
              go_wp2
              cases F2 with
              | true =>
                refine wp_region_any (by kernel_rfl) ?_
                refine any_of_C (C := Below wr.heap.size wr) _ _ _ _ ?_
                replace z := z.drew
                refine anyC_take (i := 0) (oi := ⟨_, _, _, _, _, _⟩) (v := .bool true) rfl (by kernel_rfl) (by kernel_rfl) (by kernel_rfl) (fun _ _ _ h => h) (.inl ⟨by kernel_rfl, fun wz hz => by apply runs_moveY <;> rfl⟩) ?_
                (try simp only [Act.put, List.setIfInBounds_toArray, List.set_cons_zero, List.set_cons_succ])
                refine anyC_take (i := 1) (oi := ⟨_, _, _, _, _, _⟩) (v := .bool true) rfl (by kernel_rfl) (by kernel_rfl) (by kernel_rfl) (fun _ _ _ h => h) (.inl ⟨by kernel_rfl, fun wz hz => by apply runs_moveY <;> rfl⟩) ?_
                (try simp only [Act.put, List.setIfInBounds_toArray, List.set_cons_zero, List.set_cons_succ])
                refine anyC_take (i := 2) (oi := ⟨_, _, _, _, _, _⟩) (v := undef) rfl (by kernel_rfl) (by kernel_rfl) (by kernel_rfl) (fun _ _ _ h => h) (.inr ⟨by kernel_rfl, rfl⟩) ?_
                (try simp only [Act.put, List.setIfInBounds_toArray, List.set_cons_zero, List.set_cons_succ])
                refine anyC_take (i := 3) (oi := ⟨_, _, _, _, _, _⟩) (v := undef) rfl (by kernel_rfl) (by kernel_rfl) (by kernel_rfl) (fun _ _ _ h => h) (.inr ⟨by kernel_rfl, rfl⟩) ?_
                (try simp only [Act.put, List.setIfInBounds_toArray, List.set_cons_zero, List.set_cons_succ])
                refine anyC_take (i := 4) (oi := ⟨_, _, _, _, _, _⟩) (v := undef) rfl (by kernel_rfl) (by kernel_rfl) (by kernel_rfl) (fun _ _ _ h => h) (.inr ⟨by kernel_rfl, rfl⟩) ?_
                (try simp only [Act.put, List.setIfInBounds_toArray, List.set_cons_zero, List.set_cons_succ])
                refine anyC_take (i := 5) (oi := ⟨_, _, _, _, _, _⟩) (v := undef) rfl (by kernel_rfl) (by kernel_rfl) (by kernel_rfl) (fun _ _ _ h => h) (.inr ⟨by kernel_rfl, rfl⟩) ?_
                (try simp only [Act.put, List.setIfInBounds_toArray, List.set_cons_zero, List.set_cons_succ])
                refine anyC_take (i := 6) (oi := ⟨_, _, _, _, _, _⟩) (v := undef) rfl (by kernel_rfl) (by kernel_rfl) (by kernel_rfl) (fun _ _ _ h => h) (.inr ⟨by kernel_rfl, rfl⟩) ?_
                (try simp only [Act.put, List.setIfInBounds_toArray, List.set_cons_zero, List.set_cons_succ])
                refine anyC_take (i := 7) (oi := ⟨_, _, _, _, _, _⟩) (v := undef) rfl (by kernel_rfl) (by kernel_rfl) (by kernel_rfl) (fun _ _ _ h => h) (.inr ⟨by kernel_rfl, rfl⟩) ?_
                (try simp only [Act.put, List.setIfInBounds_toArray, List.set_cons_zero, List.set_cons_succ])
                refine anyC_take (i := 8) (oi := ⟨_, _, _, _, _, _⟩) (v := .bool true) rfl (by kernel_rfl) (by kernel_rfl) (by kernel_rfl) (fun _ _ _ h => h) (.inl ⟨by kernel_rfl, fun wz hz => by go_simp⟩) ?_
                (try simp only [Act.put, List.setIfInBounds_toArray, List.set_cons_zero, List.set_cons_succ])
                refine anyC_take (i := 9) (oi := ⟨_, _, _, _, _, _⟩) (v := .bool true) rfl (by kernel_rfl) (by kernel_rfl) (by kernel_rfl) (fun _ _ _ h => h) (.inl ⟨by kernel_rfl, fun wz hz => by apply runs_assign <;> rfl⟩) ?_
                (try simp only [Act.put, List.setIfInBounds_toArray, List.set_cons_zero, List.set_cons_succ])
                refine anyC_done (by kernel_rfl) z ?_ _
                go_wp2
                go_roundw
                case rel => exact ⟨i + 1, by omega, by omega, rfl, by rw [HFS.out, HA1.out]; first | rfl | simp, by rw [HFS.out, HA2.out]; first | rfl | simp, HREL.out _ z⟩
                case measure => simp [intOf]; omega
              | false =>
                cases V2 with
                | true =>
                  refine wp_region_any (by kernel_rfl) ?_
                  refine any_of_C (C := Below wr.heap.size wr) _ _ _ _ ?_
                  replace z := z.drew
                  refine anyC_take (i := 0) (oi := ⟨_, _, _, _, _, _⟩) (v := .bool false) rfl (by kernel_rfl) (by kernel_rfl) (by kernel_rfl) (fun _ _ _ h => h) (.inl ⟨by kernel_rfl, fun wz hz => by apply runs_moveY <;> rfl⟩) ?_
                  (try simp only [Act.put, List.setIfInBounds_toArray, List.set_cons_zero, List.set_cons_succ])
                  refine anyC_take (i := 1) (oi := ⟨_, _, _, _, _, _⟩) (v := .bool false) rfl (by kernel_rfl) (by kernel_rfl) (by kernel_rfl) (fun _ _ _ h => h) (.inl ⟨by kernel_rfl, fun wz hz => by apply runs_moveY <;> rfl⟩) ?_
                  (try simp only [Act.put, List.setIfInBounds_toArray, List.set_cons_zero, List.set_cons_succ])
                  refine anyC_take (i := 2) (oi := ⟨_, _, _, _, _, _⟩) (v := .slice (some ⟨G, 0, none⟩) U.length gc) rfl (by kernel_rfl) (by kernel_rfl) (by kernel_rfl) (fun _ _ _ h => h) (.inl ⟨by kernel_rfl, fun wz hz => by apply runs_moveY <;> rfl⟩) ?_
                  (try simp only [Act.put, List.setIfInBounds_toArray, List.set_cons_zero, List.set_cons_succ])
                  refine anyC_take (i := 3) (oi := ⟨_, _, _, _, _, _⟩) (v := .int .i64 i) rfl (by kernel_rfl) (by kernel_rfl) (by kernel_rfl) (fun _ _ _ h => h) (.inl ⟨by kernel_rfl, fun wz hz => by apply runs_moveY <;> rfl⟩) ?_
                  (try simp only [Act.put, List.setIfInBounds_toArray, List.set_cons_zero, List.set_cons_succ])
                  refine anyC_take (i := 4) (oi := ⟨_, _, _, _, _, _⟩) (v := .pointer (some ⟨G, i.toNat * 2, none⟩)) rfl (by kernel_rfl) (by kernel_rfl) (by kernel_rfl) (fun _ _ _ h => h) (.inl ⟨by kernel_rfl, fun wz hz => by go_simp⟩) ?_
                  (try simp only [Act.put, List.setIfInBounds_toArray, List.set_cons_zero, List.set_cons_succ])
                  refine anyC_take (i := 5) (oi := ⟨_, _, _, _, _, _⟩) (v := .agg #[.slice ea L.length eca, .slice eb T.length ecb]) rfl (by kernel_rfl) (by kernel_rfl) (by kernel_rfl) (fun _ _ _ h => h) (.inl ⟨by kernel_rfl, fun wz hz => runs_load_midC (C := Below wr.heap.size wr) 38 _ rfl G (i.toNat * 2) rfl #[.slice ea L.length eca, .slice eb T.length ecb] _ (fun w hw => KM.out _ hw) Try.underlying38 rfl (size_Alg _ _) wz hz⟩) ?_
                  (try simp only [Act.put, List.setIfInBounds_toArray, List.set_cons_zero, List.set_cons_succ])
                  refine anyC_take (i := 6) (oi := ⟨_, _, _, _, _, _⟩) (v := .agg #[.slice ahM L.length chM, .slice bhM S2.length dhM]) rfl (by kernel_rfl) (by kernel_rfl) (by kernel_rfl) (fun _ _ _ h => h) (.inl ⟨by kernel_rfl, fun wz hz => runs_load (C := Below wr.heap.size wr) 38 _ rfl hKb rfl _ _ _ _ (fun w hw => KKwr.out _ hw) Try.underlying38 rfl (size_Alg _ _) wz hz⟩) ?_
                  (try simp only [Act.put, List.setIfInBounds_toArray, List.set_cons_zero, List.set_cons_succ])
                  refine anyC_call (i := 7) (o := ⟨_, _, _, _, _, _⟩) (f := 24) (args := #[.agg #[.slice ea L.length eca, .slice eb T.length ecb], .agg #[.slice ahM L.length chM, .slice bhM S2.length dhM]]) rfl (by kernel_rfl) (by kernel_rfl) (by apply runs_call2 (he := enters_of Try.func24 (by kernel_rfl) rfl) <;> rfl) z ?_
                  refine (C6.out _ z).mono ?_
                  rintro e wz ⟨rfl, hb⟩
                  replace z := z.trans (hb.mono z.size)
                  refine ⟨_, rfl, ?_⟩
                  (try simp only [Act.put, List.setIfInBounds_toArray, List.set_cons_zero, List.set_cons_succ])
                  refine anyC_take (i := 8) (oi := ⟨_, _, _, _, _, _⟩) (v := .bool true) rfl (by kernel_rfl) (by kernel_rfl) (by kernel_rfl) (fun _ _ _ h => h) (.inl ⟨by kernel_rfl, fun wz hz => by go_simp⟩) ?_
                  (try simp only [Act.put, List.setIfInBounds_toArray, List.set_cons_zero, List.set_cons_succ])
                  refine anyC_take (i := 9) (oi := ⟨_, _, _, _, _, _⟩) (v := .bool true) rfl (by kernel_rfl) (by kernel_rfl) (by kernel_rfl) (fun _ _ _ h => h) (.inl ⟨by kernel_rfl, fun wz hz => by apply runs_assign <;> rfl⟩) ?_
                  (try simp only [Act.put, List.setIfInBounds_toArray, List.set_cons_zero, List.set_cons_succ])
                  refine anyC_done (by kernel_rfl) z ?_ _
                  go_wp2
                  go_roundw
                  case rel => exact ⟨i + 1, by omega, by omega, rfl, by rw [HFS.out, HA1.out]; first | rfl | simp, by rw [HFS.out, HA2.out]; first | rfl | simp, HREL.out _ z⟩
                  case measure => simp [intOf]; omega
                | false =>
                  refine wp_region_any (by kernel_rfl) ?_
                  refine any_of_C (C := Below wr.heap.size wr) _ _ _ _ ?_
                  replace z := z.drew
                  refine anyC_take (i := 0) (oi := ⟨_, _, _, _, _, _⟩) (v := .bool false) rfl (by kernel_rfl) (by kernel_rfl) (by kernel_rfl) (fun _ _ _ h => h) (.inl ⟨by kernel_rfl, fun wz hz => by apply runs_moveY <;> rfl⟩) ?_
                  (try simp only [Act.put, List.setIfInBounds_toArray, List.set_cons_zero, List.set_cons_succ])
                  refine anyC_take (i := 1) (oi := ⟨_, _, _, _, _, _⟩) (v := .bool false) rfl (by kernel_rfl) (by kernel_rfl) (by kernel_rfl) (fun _ _ _ h => h) (.inl ⟨by kernel_rfl, fun wz hz => by apply runs_moveY <;> rfl⟩) ?_
                  (try simp only [Act.put, List.setIfInBounds_toArray, List.set_cons_zero, List.set_cons_succ])
                  refine anyC_take (i := 2) (oi := ⟨_, _, _, _, _, _⟩) (v := .slice (some ⟨G, 0, none⟩) U.length gc) rfl (by kernel_rfl) (by kernel_rfl) (by kernel_rfl) (fun _ _ _ h => h) (.inl ⟨by kernel_rfl, fun wz hz => by apply runs_moveY <;> rfl⟩) ?_
                  (try simp only [Act.put, List.setIfInBounds_toArray, List.set_cons_zero, List.set_cons_succ])
                  refine anyC_take (i := 3) (oi := ⟨_, _, _, _, _, _⟩) (v := .int .i64 i) rfl (by kernel_rfl) (by kernel_rfl) (by kernel_rfl) (fun _ _ _ h => h) (.inl ⟨by kernel_rfl, fun wz hz => by apply runs_moveY <;> rfl⟩) ?_
                  (try simp only [Act.put, List.setIfInBounds_toArray, List.set_cons_zero, List.set_cons_succ])
                  refine anyC_take (i := 4) (oi := ⟨_, _, _, _, _, _⟩) (v := .pointer (some ⟨G, i.toNat * 2, none⟩)) rfl (by kernel_rfl) (by kernel_rfl) (by kernel_rfl) (fun _ _ _ h => h) (.inl ⟨by kernel_rfl, fun wz hz => by go_simp⟩) ?_
                  (try simp only [Act.put, List.setIfInBounds_toArray, List.set_cons_zero, List.set_cons_succ])
                  refine anyC_take (i := 5) (oi := ⟨_, _, _, _, _, _⟩) (v := .agg #[.slice ea L.length eca, .slice eb T.length ecb]) rfl (by kernel_rfl) (by kernel_rfl) (by kernel_rfl) (fun _ _ _ h => h) (.inl ⟨by kernel_rfl, fun wz hz => runs_load_midC (C := Below wr.heap.size wr) 38 _ rfl G (i.toNat * 2) rfl #[.slice ea L.length eca, .slice eb T.length ecb] _ (fun w hw => KM.out _ hw) Try.underlying38 rfl (size_Alg _ _) wz hz⟩) ?_
                  (try simp only [Act.put, List.setIfInBounds_toArray, List.set_cons_zero, List.set_cons_succ])
                  refine anyC_take (i := 6) (oi := ⟨_, _, _, _, _, _⟩) (v := .agg #[.slice ahM L.length chM, .slice bhM S2.length dhM]) rfl (by kernel_rfl) (by kernel_rfl) (by kernel_rfl) (fun _ _ _ h => h) (.inl ⟨by kernel_rfl, fun wz hz => runs_load (C := Below wr.heap.size wr) 38 _ rfl hKb rfl _ _ _ _ (fun w hw => KKwr.out _ hw) Try.underlying38 rfl (size_Alg _ _) wz hz⟩) ?_
                  (try simp only [Act.put, List.setIfInBounds_toArray, List.set_cons_zero, List.set_cons_succ])
                  refine anyC_call (i := 7) (o := ⟨_, _, _, _, _, _⟩) (f := 24) (args := #[.agg #[.slice ea L.length eca, .slice eb T.length ecb], .agg #[.slice ahM L.length chM, .slice bhM S2.length dhM]]) rfl (by kernel_rfl) (by kernel_rfl) (by apply runs_call2 (he := enters_of Try.func24 (by kernel_rfl) rfl) <;> rfl) z ?_
                  refine (C6.out _ z).mono ?_
                  rintro e wz ⟨rfl, hb⟩
                  replace z := z.trans (hb.mono z.size)
                  refine ⟨_, rfl, ?_⟩
                  (try simp only [Act.put, List.setIfInBounds_toArray, List.set_cons_zero, List.set_cons_succ])
                  refine anyC_take (i := 8) (oi := ⟨_, _, _, _, _, _⟩) (v := .bool false) rfl (by kernel_rfl) (by kernel_rfl) (by kernel_rfl) (fun _ _ _ h => h) (.inl ⟨by kernel_rfl, fun wz hz => by go_simp⟩) ?_
                  (try simp only [Act.put, List.setIfInBounds_toArray, List.set_cons_zero, List.set_cons_succ])
                  refine anyC_take (i := 9) (oi := ⟨_, _, _, _, _, _⟩) (v := .bool false) rfl (by kernel_rfl) (by kernel_rfl) (by kernel_rfl) (fun _ _ _ h => h) (.inl ⟨by kernel_rfl, fun wz hz => by apply runs_assign <;> rfl⟩) ?_
                  (try simp only [Act.put, List.setIfInBounds_toArray, List.set_cons_zero, List.set_cons_succ])
                  refine anyC_done (by kernel_rfl) z ?_ _
                  go_wp2
                  go_roundw
                  case rel => exact ⟨i + 1, by omega, by omega, rfl, by rw [HFS.out, HA1.out]; first | rfl | simp, by rw [HFS.out, HA2.out]; first | rfl | simp, HREL.out _ z⟩
                  case measure => simp [intOf]; omega
            | false =>
              refine wp_region_any (by kernel_rfl) ?_
              refine any_of_C (C := Below wr.heap.size wr) _ _ _ _ ?_
              replace z := z.drew
              refine anyC_take (i := 0) (oi := ⟨_, _, _, _, _, _⟩) (v := .bool false) rfl (by kernel_rfl) (by kernel_rfl) (by kernel_rfl) (fun _ _ _ h => h) (.inl ⟨by kernel_rfl, fun wz hz => by apply runs_moveY <;> rfl⟩) ?_
              (try simp only [Act.put, List.setIfInBounds_toArray, List.set_cons_zero, List.set_cons_succ])
              refine anyC_take (i := 1) (oi := ⟨_, _, _, _, _, _⟩) (v := .bool false) rfl (by kernel_rfl) (by kernel_rfl) (by kernel_rfl) (fun _ _ _ h => h) (.inl ⟨by kernel_rfl, fun wz hz => by apply runs_moveY <;> rfl⟩) ?_
              (try simp only [Act.put, List.setIfInBounds_toArray, List.set_cons_zero, List.set_cons_succ])
              refine anyC_take (i := 2) (oi := ⟨_, _, _, _, _, _⟩) (v := .slice (some ⟨G, 0, none⟩) U.length gc) rfl (by kernel_rfl) (by kernel_rfl) (by kernel_rfl) (fun _ _ _ h => h) (.inl ⟨by kernel_rfl, fun wz hz => by apply runs_moveY <;> rfl⟩) ?_
              (try simp only [Act.put, List.setIfInBounds_toArray, List.set_cons_zero, List.set_cons_succ])
              refine anyC_take (i := 3) (oi := ⟨_, _, _, _, _, _⟩) (v := .int .i64 i) rfl (by kernel_rfl) (by kernel_rfl) (by kernel_rfl) (fun _ _ _ h => h) (.inl ⟨by kernel_rfl, fun wz hz => by apply runs_moveY <;> rfl⟩) ?_
              (try simp only [Act.put, List.setIfInBounds_toArray, List.set_cons_zero, List.set_cons_succ])
              refine anyC_take (i := 4) (oi := ⟨_, _, _, _, _, _⟩) (v := .pointer (some ⟨G, i.toNat * 2, none⟩)) rfl (by kernel_rfl) (by kernel_rfl) (by kernel_rfl) (fun _ _ _ h => h) (.inl ⟨by kernel_rfl, fun wz hz => by go_simp⟩) ?_
              (try simp only [Act.put, List.setIfInBounds_toArray, List.set_cons_zero, List.set_cons_succ])
              refine anyC_take (i := 5) (oi := ⟨_, _, _, _, _, _⟩) (v := .agg #[.slice ea L.length eca, .slice eb T.length ecb]) rfl (by kernel_rfl) (by kernel_rfl) (by kernel_rfl) (fun _ _ _ h => h) (.inl ⟨by kernel_rfl, fun wz hz => runs_load_midC (C := Below wr.heap.size wr) 38 _ rfl G (i.toNat * 2) rfl #[.slice ea L.length eca, .slice eb T.length ecb] _ (fun w hw => KM.out _ hw) Try.underlying38 rfl (size_Alg _ _) wz hz⟩) ?_
              (try simp only [Act.put, List.setIfInBounds_toArray, List.set_cons_zero, List.set_cons_succ])
              refine anyC_take (i := 6) (oi := ⟨_, _, _, _, _, _⟩) (v := .agg #[.slice ahA L.length chA, .slice bhA S1.length dhA]) rfl (by kernel_rfl) (by kernel_rfl) (by kernel_rfl) (fun _ _ _ h => h) (.inl ⟨by kernel_rfl, fun wz hz => runs_load (C := Below wr.heap.size wr) 38 _ rfl hGb rfl _ _ _ _ (fun w hw => KGwr.out _ hw) Try.underlying38 rfl (size_Alg _ _) wz hz⟩) ?_
              (try simp only [Act.put, List.setIfInBounds_toArray, List.set_cons_zero, List.set_cons_succ])
              refine anyC_call (i := 7) (o := ⟨_, _, _, _, _, _⟩) (f := 24) (args := #[.agg #[.slice ea L.length eca, .slice eb T.length ecb], .agg #[.slice ahA L.length chA, .slice bhA S1.length dhA]]) rfl (by kernel_rfl) (by kernel_rfl) (by apply runs_call2 (he := enters_of Try.func24 (by kernel_rfl) rfl) <;> rfl) z ?_
              refine (C5.out _ z).mono ?_
              rintro e wz ⟨rfl, hb⟩
              replace z := z.trans (hb.mono z.size)
              refine ⟨_, rfl, ?_⟩
              (try simp only [Act.put, List.setIfInBounds_toArray, List.set_cons_zero, List.set_cons_succ])
              refine anyC_take (i := 8) (oi := ⟨_, _, _, _, _, _⟩) (v := .bool false) rfl (by kernel_rfl) (by kernel_rfl) (by kernel_rfl) (fun _ _ _ h => h) (.inl ⟨by kernel_rfl, fun wz hz => by go_simp⟩) ?_
              (try simp only [Act.put, List.setIfInBounds_toArray, List.set_cons_zero, List.set_cons_succ])
              refine anyC_take (i := 9) (oi := ⟨_, _, _, _, _, _⟩) (v := .bool false) rfl (by kernel_rfl) (by kernel_rfl) (by kernel_rfl) (fun _ _ _ h => h) (.inl ⟨by kernel_rfl, fun wz hz => by apply runs_assign <;> rfl⟩) ?_
              (try simp only [Act.put, List.setIfInBounds_toArray, List.set_cons_zero, List.set_cons_succ])
              refine anyC_done (by kernel_rfl) z ?_ _
              go_wp2
              cases F2 with
              | true =>
                refine wp_region_any (by kernel_rfl) ?_
                refine any_of_C (C := Below wr.heap.size wr) _ _ _ _ ?_
                replace z := z.drew
                refine anyC_take (i := 0) (oi := ⟨_, _, _, _, _, _⟩) (v := .bool true) rfl (by kernel_rfl) (by kernel_rfl) (by kernel_rfl) (fun _ _ _ h => h) (.inl ⟨by kernel_rfl, fun wz hz => by apply runs_moveY <;> rfl⟩) ?_
                (try simp only [Act.put, List.setIfInBounds_toArray, List.set_cons_zero, List.set_cons_succ])
                refine anyC_take (i := 1) (oi := ⟨_, _, _, _, _, _⟩) (v := .bool true) rfl (by kernel_rfl) (by kernel_rfl) (by kernel_rfl) (fun _ _ _ h => h) (.inl ⟨by kernel_rfl, fun wz hz => by apply runs_moveY <;> rfl⟩) ?_
                (try simp only [Act.put, List.setIfInBounds_toArray, List.set_cons_zero, List.set_cons_succ])
                refine anyC_take (i := 2) (oi := ⟨_, _, _, _, _, _⟩) (v := undef) rfl (by kernel_rfl) (by kernel_rfl) (by kernel_rfl) (fun _ _ _ h => h) (.inr ⟨by kernel_rfl, rfl⟩) ?_
                (try simp only [Act.put, List.setIfInBounds_toArray, List.set_cons_zero, List.set_cons_succ])
                refine anyC_take (i := 3) (oi := ⟨_, _, _, _, _, _⟩) (v := undef) rfl (by kernel_rfl) (by kernel_rfl) (by kernel_rfl) (fun _ _ _ h => h) (.inr ⟨by kernel_rfl, rfl⟩) ?_
                (try simp only [Act.put, List.setIfInBounds_toArray, List.set_cons_zero, List.set_cons_succ])
                refine anyC_take (i := 4) (oi := ⟨_, _, _, _, _, _⟩) (v := undef) rfl (by kernel_rfl) (by kernel_rfl) (by kernel_rfl) (fun _ _ _ h => h) (.inr ⟨by kernel_rfl, rfl⟩) ?_
                (try simp only [Act.put, List.setIfInBounds_toArray, List.set_cons_zero, List.set_cons_succ])
                refine anyC_take (i := 5) (oi := ⟨_, _, _, _, _, _⟩) (v := undef) rfl (by kernel_rfl) (by kernel_rfl) (by kernel_rfl) (fun _ _ _ h => h) (.inr ⟨by kernel_rfl, rfl⟩) ?_
                (try simp only [Act.put, List.setIfInBounds_toArray, List.set_cons_zero, List.set_cons_succ])
                refine anyC_take (i := 6) (oi := ⟨_, _, _, _, _, _⟩) (v := undef) rfl (by kernel_rfl) (by kernel_rfl) (by kernel_rfl) (fun _ _ _ h => h) (.inr ⟨by kernel_rfl, rfl⟩) ?_
                (try simp only [Act.put, List.setIfInBounds_toArray, List.set_cons_zero, List.set_cons_succ])
                refine anyC_take (i := 7) (oi := ⟨_, _, _, _, _, _⟩) (v := undef) rfl (by kernel_rfl) (by kernel_rfl) (by kernel_rfl) (fun _ _ _ h => h) (.inr ⟨by kernel_rfl, rfl⟩) ?_
                (try simp only [Act.put, List.setIfInBounds_toArray, List.set_cons_zero, List.set_cons_succ])
                refine anyC_take (i := 8) (oi := ⟨_, _, _, _, _, _⟩) (v := .bool true) rfl (by kernel_rfl) (by kernel_rfl) (by kernel_rfl) (fun _ _ _ h => h) (.inl ⟨by kernel_rfl, fun wz hz => by go_simp⟩) ?_
                (try simp only [Act.put, List.setIfInBounds_toArray, List.set_cons_zero, List.set_cons_succ])
                refine anyC_take (i := 9) (oi := ⟨_, _, _, _, _, _⟩) (v := .bool true) rfl (by kernel_rfl) (by kernel_rfl) (by kernel_rfl) (fun _ _ _ h => h) (.inl ⟨by kernel_rfl, fun wz hz => by apply runs_assign <;> rfl⟩) ?_
                (try simp only [Act.put, List.setIfInBounds_toArray, List.set_cons_zero, List.set_cons_succ])
                refine anyC_done (by kernel_rfl) z ?_ _
                go_wp2
                go_roundw
                case rel => exact ⟨i + 1, by omega, by omega, rfl, by rw [HFS.out, HA1.out]; first | rfl | simp, by rw [HFS.out, HA2.out]; first | rfl | simp, HREL.out _ z⟩
                case measure => simp [intOf]; omega
              | false =>
                cases V2 with
                | true =>
                  refine wp_region_any (by kernel_rfl) ?_
                  refine any_of_C (C := Below wr.heap.size wr) _ _ _ _ ?_
                  replace z := z.drew
                  refine anyC_take (i := 0) (oi := ⟨_, _, _, _, _, _⟩) (v := .bool false) rfl (by kernel_rfl) (by kernel_rfl) (by kernel_rfl) (fun _ _ _ h => h) (.inl ⟨by kernel_rfl, fun wz hz => by apply runs_moveY <;> rfl⟩) ?_
                  (try simp only [Act.put, List.setIfInBounds_toArray, List.set_cons_zero, List.set_cons_succ])
                  refine anyC_take (i := 1) (oi := ⟨_, _, _, _, _, _⟩) (v := .bool false) rfl (by kernel_rfl) (by kernel_rfl) (by kernel_rfl) (fun _ _ _ h => h) (.inl ⟨by kernel_rfl, fun wz hz => by apply runs_moveY <;> rfl⟩) ?_
                  (try simp only [Act.put, List.setIfInBounds_toArray, List.set_cons_zero, List.set_cons_succ])
                  refine anyC_take (i := 2) (oi := ⟨_, _, _, _, _, _⟩) (v := .slice (some ⟨G, 0, none⟩) U.length gc) rfl (by kernel_rfl) (by kernel_rfl) (by kernel_rfl) (fun _ _ _ h => h) (.inl ⟨by kernel_rfl, fun wz hz => by apply runs_moveY <;> rfl⟩) ?_
                  (try simp only [Act.put, List.setIfInBounds_toArray, List.set_cons_zero, List.set_cons_succ])
                  refine anyC_take (i := 3) (oi := ⟨_, _, _, _, _, _⟩) (v := .int .i64 i) rfl (by kernel_rfl) (by kernel_rfl) (by kernel_rfl) (fun _ _ _ h => h) (.inl ⟨by kernel_rfl, fun wz hz => by apply runs_moveY <;> rfl⟩) ?_
                  (try simp only [Act.put, List.setIfInBounds_toArray, List.set_cons_zero, List.set_cons_succ])
                  refine anyC_take (i := 4) (oi := ⟨_, _, _, _, _, _⟩) (v := .pointer (some ⟨G, i.toNat * 2, none⟩)) rfl (by kernel_rfl) (by kernel_rfl) (by kernel_rfl) (fun _ _ _ h => h) (.inl ⟨by kernel_rfl, fun wz hz => by go_simp⟩) ?_
                  (try simp only [Act.put, List.setIfInBounds_toArray, List.set_cons_zero, List.set_cons_succ])
                  refine anyC_take (i := 5) (oi := ⟨_, _, _, _, _, _⟩) (v := .agg #[.slice ea L.length eca, .slice eb T.length ecb]) rfl (by kernel_rfl) (by kernel_rfl) (by kernel_rfl) (fun _ _ _ h => h) (.inl ⟨by kernel_rfl, fun wz hz => runs_load_midC (C := Below wr.heap.size wr) 38 _ rfl G (i.toNat * 2) rfl #[.slice ea L.length eca, .slice eb T.length ecb] _ (fun w hw => KM.out _ hw) Try.underlying38 rfl (size_Alg _ _) wz hz⟩) ?_
                  (try simp only [Act.put, List.setIfInBounds_toArray, List.set_cons_zero, List.set_cons_succ])
                  refine anyC_take (i := 6) (oi := ⟨_, _, _, _, _, _⟩) (v := .agg #[.slice ahM L.length chM, .slice bhM S2.length dhM]) rfl (by kernel_rfl) (by kernel_rfl) (by kernel_rfl) (fun _ _ _ h => h) (.inl ⟨by kernel_rfl, fun wz hz => runs_load (C := Below wr.heap.size wr) 38 _ rfl hKb rfl _ _ _ _ (fun w hw => KKwr.out _ hw) Try.underlying38 rfl (size_Alg _ _) wz hz⟩) ?_
                  (try simp only [Act.put, List.setIfInBounds_toArray, List.set_cons_zero, List.set_cons_succ])
                  refine anyC_call (i := 7) (o := ⟨_, _, _, _, _, _⟩) (f := 24) (args := #[.agg #[.slice ea L.length eca, .slice eb T.length ecb], .agg #[.slice ahM L.length chM, .slice bhM S2.length dhM]]) rfl (by kernel_rfl) (by kernel_rfl) (by apply runs_call2 (he := enters_of Try.func24 (by kernel_rfl) rfl) <;> rfl) z ?_
                  refine (C6.out _ z).mono ?_
                  rintro e wz ⟨rfl, hb⟩
                  replace z := z.trans (hb.mono z.size)
                  refine ⟨_, rfl, ?_⟩
                  (try simp only [Act.put, List.setIfInBounds_toArray, List.set_cons_zero, List.set_cons_succ])
                  refine anyC_take (i := 8) (oi := ⟨_, _, _, _, _, _⟩) (v := .bool true) rfl (by kernel_rfl) (by kernel_rfl) (by kernel_rfl) (fun _ _ _ h => h) (.inl ⟨by kernel_rfl, fun wz hz => by go_simp⟩) ?_
                  (try simp only [Act.put, List.setIfInBounds_toArray, List.set_cons_zero, List.set_cons_succ])
                  refine anyC_take (i := 9) (oi := ⟨_, _, _, _, _, _⟩) (v := .bool true) rfl (by kernel_rfl) (by kernel_rfl) (by kernel_rfl) (fun _ _ _ h => h) (.inl ⟨by kernel_rfl, fun wz hz => by apply runs_assign <;> rfl⟩) ?_
                  (try simp only [Act.put, List.setIfInBounds_toArray, List.set_cons_zero, List.set_cons_succ])
                  refine anyC_done (by kernel_rfl) z ?_ _
                  go_wp2
                  go_roundw
                  case rel => exact ⟨i + 1, by omega, by omega, rfl, by rw [HFS.out, HA1.out]; first | rfl | simp, by rw [HFS.out, HA2.out]; first | rfl | simp, HREL.out _ z⟩
                  case measure => simp [intOf]; omega
                | false =>
                  refine wp_region_any (by kernel_rfl) ?_
                  refine any_of_C (C := Below wr.heap.size wr) _ _ _ _ ?_
                  replace z := z.drew
                  refine anyC_take (i := 0) (oi := ⟨_, _, _, _, _, _⟩) (v := .bool false) rfl (by kernel_rfl) (by kernel_rfl) (by kernel_rfl) (fun _ _ _ h => h) (.inl ⟨by kernel_rfl, fun wz hz => by apply runs_moveY <;> rfl⟩) ?_
                  (try simp only [Act.put, List.setIfInBounds_toArray, List.set_cons_zero, List.set_cons_succ])
                  refine anyC_take (i := 1) (oi := ⟨_, _, _, _, _, _⟩) (v := .bool false) rfl (by kernel_rfl) (by kernel_rfl) (by kernel_rfl) (fun _ _ _ h => h) (.inl ⟨by kernel_rfl, fun wz hz => by apply runs_moveY <;> rfl⟩) ?_
                  (try simp only [Act.put, List.setIfInBounds_toArray, List.set_cons_zero, List.set_cons_succ])
                  refine anyC_take (i := 2) (oi := ⟨_, _, _, _, _, _⟩) (v := .slice (some ⟨G, 0, none⟩) U.length gc) rfl (by kernel_rfl) (by kernel_rfl) (by kernel_rfl) (fun _ _ _ h => h) (.inl ⟨by kernel_rfl, fun wz hz => by apply runs_moveY <;> rfl⟩) ?_
                  (try simp only [Act.put, List.setIfInBounds_toArray, List.set_cons_zero, List.set_cons_succ])
                  refine anyC_take (i := 3) (oi := ⟨_, _, _, _, _, _⟩) (v := .int .i64 i) rfl (by kernel_rfl) (by kernel_rfl) (by kernel_rfl) (fun _ _ _ h => h) (.inl ⟨by kernel_rfl, fun wz hz => by apply runs_moveY <;> rfl⟩) ?_
                  (try simp only [Act.put, List.setIfInBounds_toArray, List.set_cons_zero, List.set_cons_succ])
                  refine anyC_take (i := 4) (oi := ⟨_, _, _, _, _, _⟩) (v := .pointer (some ⟨G, i.toNat * 2, none⟩)) rfl (by kernel_rfl) (by kernel_rfl) (by kernel_rfl) (fun _ _ _ h => h) (.inl ⟨by kernel_rfl, fun wz hz => by go_simp⟩) ?_
                  (try simp only [Act.put, List.setIfInBounds_toArray, List.set_cons_zero, List.set_cons_succ])
                  refine anyC_take (i := 5) (oi := ⟨_, _, _, _, _, _⟩) (v := .agg #[.slice ea L.length eca, .slice eb T.length ecb]) rfl (by kernel_rfl) (by kernel_rfl) (by kernel_rfl) (fun _ _ _ h => h) (.inl ⟨by kernel_rfl, fun wz hz => runs_load_midC (C := Below wr.heap.size wr) 38 _ rfl G (i.toNat * 2) rfl #[.slice ea L.length eca, .slice eb T.length ecb] _ (fun w hw => KM.out _ hw) Try.underlying38 rfl (size_Alg _ _) wz hz⟩) ?_
                  (try simp only [Act.put, List.setIfInBounds_toArray, List.set_cons_zero, List.set_cons_succ])
                  refine anyC_take (i := 6) (oi := ⟨_, _, _, _, _, _⟩) (v := .agg #[.slice ahM L.length chM, .slice bhM S2.length dhM]) rfl (by kernel_rfl) (by kernel_rfl) (by kernel_rfl) (fun _ _ _ h => h) (.inl ⟨by kernel_rfl, fun wz hz => runs_load (C := Below wr.heap.size wr) 38 _ rfl hKb rfl _ _ _ _ (fun w hw => KKwr.out _ hw) Try.underlying38 rfl (size_Alg _ _) wz hz⟩) ?_
                  (try simp only [Act.put, List.setIfInBounds_toArray, List.set_cons_zero, List.set_cons_succ])
                  refine anyC_call (i := 7) (o := ⟨_, _, _, _, _, _⟩) (f := 24) (args := #[.agg #[.slice ea L.length eca, .slice eb T.length ecb], .agg #[.slice ahM L.length chM, .slice bhM S2.length dhM]]) rfl (by kernel_rfl) (by kernel_rfl) (by apply runs_call2 (he := enters_of Try.func24 (by kernel_rfl) rfl) <;> rfl) z ?_
                  refine (C6.out _ z).mono ?_
                  rintro e wz ⟨rfl, hb⟩
                  replace z := z.trans (hb.mono z.size)
                  refine ⟨_, rfl, ?_⟩
                  (try simp only [Act.put, List.setIfInBounds_toArray, List.set_cons_zero, List.set_cons_succ])
                  refine anyC_take (i := 8) (oi := ⟨_, _, _, _, _, _⟩) (v := .bool false) rfl (by kernel_rfl) (by kernel_rfl) (by kernel_rfl) (fun _ _ _ h => h) (.inl ⟨by kernel_rfl, fun wz hz => by go_simp⟩) ?_
                  (try simp only [Act.put, List.setIfInBounds_toArray, List.set_cons_zero, List.set_cons_succ])
                  refine anyC_take (i := 9) (oi := ⟨_, _, _, _, _, _⟩) (v := .bool false) rfl (by kernel_rfl) (by kernel_rfl) (by kernel_rfl) (fun _ _ _ h => h) (.inl ⟨by kernel_rfl, fun wz hz => by apply runs_assign <;> rfl⟩) ?_
                  (try simp only [Act.put, List.setIfInBounds_toArray, List.set_cons_zero, List.set_cons_succ])
                  refine anyC_done (by kernel_rfl) z ?_ _
                  go_wp2
                  go_roundw
                  case rel => exact ⟨i + 1, by omega, by omega, rfl, by rw [HFS.out, HA1.out]; first | rfl | simp, by rw [HFS.out, HA2.out]; first | rfl | simp, HREL.out _ z⟩
                  case measure => simp [intOf]; omega
        · have hdd : decide (0 < i) = false := decide_eq_false hi0
          go_wp2
          refine wp_region_any (by kernel_rfl) ?_
          refine any_of_C (C := Below wr.heap.size wr) _ _ _ _ ?_
          replace z := z.drew
          refine anyC_take (i := 0) (oi := ⟨_, _, _, _, _, _⟩) (v := .slice (some ⟨G, 0, none⟩) U.length gc) rfl (by kernel_rfl) (by kernel_rfl) (by kernel_rfl) (fun _ _ _ h => h) (.inl ⟨by kernel_rfl, fun wz hz => by apply runs_moveY <;> rfl⟩) ?_
          (try simp only [Act.put, List.setIfInBounds_toArray, List.set_cons_zero, List.set_cons_succ])
          refine anyC_take (i := 1) (oi := ⟨_, _, _, _, _, _⟩) (v := .int .i64 i) rfl (by kernel_rfl) (by kernel_rfl) (by kernel_rfl) (fun _ _ _ h => h) (.inl ⟨by kernel_rfl, fun wz hz => by apply runs_moveY <;> rfl⟩) ?_
          (try simp only [Act.put, List.setIfInBounds_toArray, List.set_cons_zero, List.set_cons_succ])
          refine anyC_take (i := 2) (oi := ⟨_, _, _, _, _, _⟩) (v := .pointer (some ⟨G, i.toNat * 2, none⟩)) rfl (by kernel_rfl) (by kernel_rfl) (by kernel_rfl) (fun _ _ _ h => h) (.inl ⟨by kernel_rfl, fun wz hz => by go_simp⟩) ?_
          (try simp only [Act.put, List.setIfInBounds_toArray, List.set_cons_zero, List.set_cons_succ])
          refine anyC_take (i := 3) (oi := ⟨_, _, _, _, _, _⟩) (v := .agg #[.slice ea L.length eca, .slice eb T.length ecb]) rfl (by kernel_rfl) (by kernel_rfl) (by kernel_rfl) (fun _ _ _ h => h) (.inl ⟨by kernel_rfl, fun wz hz => runs_load_midC (C := Below wr.heap.size wr) 38 _ rfl G (i.toNat * 2) rfl #[.slice ea L.length eca, .slice eb T.length ecb] _ (fun w hw => KM.out _ hw) Try.underlying38 rfl (size_Alg _ _) wz hz⟩) ?_
          (try simp only [Act.put, List.setIfInBounds_toArray, List.set_cons_zero, List.set_cons_succ])
          refine anyC_call (i := 4) (o := ⟨_, _, _, _, _, _⟩) (f := 21) (args := #[.agg #[.slice ea L.length eca, .slice eb T.length ecb]]) rfl (by kernel_rfl) (by kernel_rfl) (by apply runs_call1 (he := enters_of Try.func21 (by kernel_rfl) rfl) <;> rfl) z ?_
          refine (C1.out _ _ _ _ _ (KR.out _ z) (KT.out _ z)).mono ?_
          rintro e wz ⟨rfl, hb⟩
          replace z := z.trans (hb.mono z.size)
          refine ⟨_, rfl, ?_⟩
          (try simp only [Act.put, List.setIfInBounds_toArray, List.set_cons_zero, List.set_cons_succ])
          refine anyC_take (i := 5) (oi := ⟨_, _, _, _, _, _⟩) (v := .bool false) rfl (by kernel_rfl) (by kernel_rfl) (by kernel_rfl) (fun _ _ _ h => h) (.inl ⟨by kernel_rfl, fun wz hz => by go_simp⟩) ?_
          (try simp only [Act.put, List.setIfInBounds_toArray, List.set_cons_zero, List.set_cons_succ])
          refine anyC_take (i := 6) (oi := ⟨_, _, _, _, _, _⟩) (v := .bool false) rfl (by kernel_rfl) (by kernel_rfl) (by kernel_rfl) (fun _ _ _ h => h) (.inl ⟨by kernel_rfl, fun wz hz => by apply runs_moveY <;> rfl⟩) ?_
          (try simp only [Act.put, List.setIfInBounds_toArray, List.set_cons_zero, List.set_cons_succ])
          refine anyC_take (i := 7) (oi := ⟨_, _, _, _, _, _⟩) (v := .slice (some ⟨G, 0, none⟩) U.length gc) rfl (by kernel_rfl) (by kernel_rfl) (by kernel_rfl) (fun _ _ _ h => h) (.inl ⟨by kernel_rfl, fun wz hz => by apply runs_moveY <;> rfl⟩) ?_
          (try simp only [Act.put, List.setIfInBounds_toArray, List.set_cons_zero, List.set_cons_succ])
          refine anyC_take (i := 8) (oi := ⟨_, _, _, _, _, _⟩) (v := .int .i64 i) rfl (by kernel_rfl) (by kernel_rfl) (by kernel_rfl) (fun _ _ _ h => h) (.inl ⟨by kernel_rfl, fun wz hz => by apply runs_moveY <;> rfl⟩) ?_
          (try simp only [Act.put, List.setIfInBounds_toArray, List.set_cons_zero, List.set_cons_succ])
          refine anyC_take (i := 9) (oi := ⟨_, _, _, _, _, _⟩) (v := .pointer (some ⟨G, i.toNat * 2, none⟩)) rfl (by kernel_rfl) (by kernel_rfl) (by kernel_rfl) (fun _ _ _ h => h) (.inl ⟨by kernel_rfl, fun wz hz => by go_simp⟩) ?_
          (try simp only [Act.put, List.setIfInBounds_toArray, List.set_cons_zero, List.set_cons_succ])
          refine anyC_take (i := 10) (oi := ⟨_, _, _, _, _, _⟩) (v := .agg #[.slice ea L.length eca, .slice eb T.length ecb]) rfl (by kernel_rfl) (by kernel_rfl) (by kernel_rfl) (fun _ _ _ h => h) (.inl ⟨by kernel_rfl, fun wz hz => runs_load_midC (C := Below wr.heap.size wr) 38 _ rfl G (i.toNat * 2) rfl #[.slice ea L.length eca, .slice eb T.length ecb] _ (fun w hw => KM.out _ hw) Try.underlying38 rfl (size_Alg _ _) wz hz⟩) ?_
          (try simp only [Act.put, List.setIfInBounds_toArray, List.set_cons_zero, List.set_cons_succ])
          refine anyC_call (i := 11) (o := ⟨_, _, _, _, _, _⟩) (f := 22) (args := #[.string ⟨#[112, 114, 101, 108, 105, 110, 101, 97, 114]⟩, .agg #[.slice ea L.length eca, .slice eb T.length ecb]]) rfl (by kernel_rfl) (by kernel_rfl) (by apply runs_call2 (he := enters_of Try.func22 (by kernel_rfl) rfl) <;> rfl) z ?_
          refine (C2.out _ _ _ _ _ (KR.out _ z) (KT.out _ z)).mono ?_
          rintro e wz ⟨rfl, hb⟩
          replace z := z.trans (hb.mono z.size)
          refine ⟨_, rfl, ?_⟩
          (try simp only [Act.put, List.setIfInBounds_toArray, List.set_cons_zero, List.set_cons_succ])
          refine anyC_take (i := 12) (oi := ⟨_, _, _, _, _, _⟩) (v := .bool false) rfl (by kernel_rfl) (by kernel_rfl) (by kernel_rfl) (fun _ _ _ h => h) (.inl ⟨by kernel_rfl, fun wz hz => by go_simp⟩) ?_
          (try simp only [Act.put, List.setIfInBounds_toArray, List.set_cons_zero, List.set_cons_succ])
          refine anyC_take (i := 13) (oi := ⟨_, _, _, _, _, _⟩) (v := .bool false) rfl (by kernel_rfl) (by kernel_rfl) (by kernel_rfl) (fun _ _ _ h => h) (.inl ⟨by kernel_rfl, fun wz hz => by go_simp⟩) ?_
          (try simp only [Act.put, List.setIfInBounds_toArray, List.set_cons_zero, List.set_cons_succ])
          refine anyC_take (i := 14) (oi := ⟨_, _, _, _, _, _⟩) (v := .bool false) rfl (by kernel_rfl) (by kernel_rfl) (by kernel_rfl) (fun _ _ _ h => h) (.inl ⟨by kernel_rfl, fun wz hz => by apply runs_moveY <;> rfl⟩) ?_
          (try simp only [Act.put, List.setIfInBounds_toArray, List.set_cons_zero, List.set_cons_succ])
          refine anyC_take (i := 15) (oi := ⟨_, _, _, _, _, _⟩) (v := .slice (some ⟨G, 0, none⟩) U.length gc) rfl (by kernel_rfl) (by kernel_rfl) (by kernel_rfl) (fun _ _ _ h => h) (.inl ⟨by kernel_rfl, fun wz hz => by apply runs_moveY <;> rfl⟩) ?_
          (try simp only [Act.put, List.setIfInBounds_toArray, List.set_cons_zero, List.set_cons_succ])
          refine anyC_take (i := 16) (oi := ⟨_, _, _, _, _, _⟩) (v := .int .i64 i) rfl (by kernel_rfl) (by kernel_rfl) (by kernel_rfl) (fun _ _ _ h => h) (.inl ⟨by kernel_rfl, fun wz hz => by apply runs_moveY <;> rfl⟩) ?_
          (try simp only [Act.put, List.setIfInBounds_toArray, List.set_cons_zero, List.set_cons_succ])
          refine anyC_take (i := 17) (oi := ⟨_, _, _, _, _, _⟩) (v := .pointer (some ⟨G, i.toNat * 2, none⟩)) rfl (by kernel_rfl) (by kernel_rfl) (by kernel_rfl) (fun _ _ _ h => h) (.inl ⟨by kernel_rfl, fun wz hz => by go_simp⟩) ?_
          (try simp only [Act.put, List.setIfInBounds_toArray, List.set_cons_zero, List.set_cons_succ])
          refine anyC_take (i := 18) (oi := ⟨_, _, _, _, _, _⟩) (v := .pointer (some ⟨G, i.toNat * 2, none⟩)) rfl (by kernel_rfl) (by kernel_rfl) (by kernel_rfl) (fun _ _ _ h => h) (.inl ⟨by kernel_rfl, fun wz hz => by go_simp⟩) ?_
          (try simp only [Act.put, List.setIfInBounds_toArray, List.set_cons_zero, List.set_cons_succ])
          refine anyC_take (i := 19) (oi := ⟨_, _, _, _, _, _⟩) (v := .slice ea L.length eca) rfl (by kernel_rfl) (by kernel_rfl) (by kernel_rfl) (fun _ _ _ h => h) (.inl ⟨by kernel_rfl, fun wz hz => by have c0 := KC.out _ hz; go_simp⟩) ?_
          (try simp only [Act.put, List.setIfInBounds_toArray, List.set_cons_zero, List.set_cons_succ])
          refine anyC_take (i := 20) (oi := ⟨_, _, _, _, _, _⟩) (v := .int .i64 n) rfl (by kernel_rfl) (by kernel_rfl) (by kernel_rfl) (fun _ _ _ h => h) (.inl ⟨by kernel_rfl, fun wz hz => by apply runs_moveY <;> rfl⟩) ?_
          (try simp only [Act.put, List.setIfInBounds_toArray, List.set_cons_zero, List.set_cons_succ])
          refine anyC_call (i := 21) (o := ⟨_, _, _, _, _, _⟩) (f := 20) (args := #[.int .i64 n]) rfl (by kernel_rfl) (by kernel_rfl) (by apply runs_call1 (he := enters_of Try.func20 (by kernel_rfl) rfl) <;> rfl) z ?_
          refine (C3.out _).mono ?_
          rintro e wz ⟨cha, chc, rfl, hch, hb⟩
          replace z := z.trans (hb.mono z.size)
          refine ⟨_, rfl, ?_⟩
          (try simp only [Act.put, List.setIfInBounds_toArray, List.set_cons_zero, List.set_cons_succ])
          refine anyC_call (i := 22) (o := ⟨_, _, _, _, _, _⟩) (f := 23) (args := #[.slice ea L.length eca, .slice cha L.length chc]) rfl (by kernel_rfl) (by kernel_rfl) (by apply runs_call2 (he := enters_of Try.func23 (by kernel_rfl) rfl) <;> rfl) z ?_
          refine ((dr_to (equalInts_same _ _ _ _ L _ (KR.out _ z) hch.rd hL30))).mono ?_
          rintro e wz ⟨rfl, hb⟩
          replace z := z.trans (hb.mono z.size)
          refine ⟨_, rfl, ?_⟩
          (try simp only [Act.put, List.setIfInBounds_toArray, List.set_cons_zero, List.set_cons_succ])
          refine anyC_take (i := 23) (oi := ⟨_, _, _, _, _, _⟩) (v := .bool false) rfl (by kernel_rfl) (by kernel_rfl) (by kernel_rfl) (fun _ _ _ h => h) (.inl ⟨by kernel_rfl, fun wz hz => by go_simp⟩) ?_
          (try simp only [Act.put, List.setIfInBounds_toArray, List.set_cons_zero, List.set_cons_succ])
          refine anyC_take (i := 24) (oi := ⟨_, _, _, _, _, _⟩) (v := .bool false) rfl (by kernel_rfl) (by kernel_rfl) (by kernel_rfl) (fun _ _ _ h => h) (.inl ⟨by kernel_rfl, fun wz hz => by go_simp⟩) ?_
          (try simp only [Act.put, List.setIfInBounds_toArray, List.set_cons_zero, List.set_cons_succ])
          refine anyC_take (i := 25) (oi := ⟨_, _, _, _, _, _⟩) (v := .bool false) rfl (by kernel_rfl) (by kernel_rfl) (by kernel_rfl) (fun _ _ _ h => h) (.inl ⟨by kernel_rfl, fun wz hz => by apply runs_moveY <;> rfl⟩) ?_
          (try simp only [Act.put, List.setIfInBounds_toArray, List.set_cons_zero, List.set_cons_succ])
          refine anyC_take (i := 26) (oi := ⟨_, _, _, _, _, _⟩) (v := .int .i64 i) rfl (by kernel_rfl) (by kernel_rfl) (by kernel_rfl) (fun _ _ _ h => h) (.inl ⟨by kernel_rfl, fun wz hz => by apply runs_moveY <;> rfl⟩) ?_
          (try simp only [Act.put, List.setIfInBounds_toArray, List.set_cons_zero, List.set_cons_succ])
          refine anyC_take (i := 27) (oi := ⟨_, _, _, _, _, _⟩) (v := .bool false) rfl (by kernel_rfl) (by kernel_rfl) (by kernel_rfl) (fun _ _ _ h => h) (.inl ⟨by kernel_rfl, fun wz hz => by go_simp⟩) ?_
          (try simp only [Act.put, List.setIfInBounds_toArray, List.set_cons_zero, List.set_cons_succ])
          refine anyC_take (i := 28) (oi := ⟨_, _, _, _, _, _⟩) (v := .bool false) rfl (by kernel_rfl) (by kernel_rfl) (by kernel_rfl) (fun _ _ _ h => h) (.inl ⟨by kernel_rfl, fun wz hz => by apply runs_moveY <;> rfl⟩) ?_
          (try simp only [Act.put, List.setIfInBounds_toArray, List.set_cons_zero, List.set_cons_succ])
          refine anyC_take (i := 29) (oi := ⟨_, _, _, _, _, _⟩) (v := undef) rfl (by kernel_rfl) (by kernel_rfl) (by kernel_rfl) (fun _ _ _ h => h) (.inr ⟨by kernel_rfl, rfl⟩) ?_
          (try simp only [Act.put, List.setIfInBounds_toArray, List.set_cons_zero, List.set_cons_succ])
          refine anyC_take (i := 30) (oi := ⟨_, _, _, _, _, _⟩) (v := undef) rfl (by kernel_rfl) (by kernel_rfl) (by kernel_rfl) (fun _ _ _ h => h) (.inr ⟨by kernel_rfl, rfl⟩) ?_
          (try simp only [Act.put, List.setIfInBounds_toArray, List.set_cons_zero, List.set_cons_succ])
          refine anyC_take (i := 31) (oi := ⟨_, _, _, _, _, _⟩) (v := undef) rfl (by kernel_rfl) (by kernel_rfl) (by kernel_rfl) (fun _ _ _ h => h) (.inr ⟨by kernel_rfl, rfl⟩) ?_
          (try simp only [Act.put, List.setIfInBounds_toArray, List.set_cons_zero, List.set_cons_succ])
          refine anyC_take (i := 32) (oi := ⟨_, _, _, _, _, _⟩) (v := undef) rfl (by kernel_rfl) (by kernel_rfl) (by kernel_rfl) (fun _ _ _ h => h) (.inr ⟨by kernel_rfl, rfl⟩) ?_
          (try simp only [Act.put, List.setIfInBounds_toArray, List.set_cons_zero, List.set_cons_succ])
          refine anyC_take (i := 33) (oi := ⟨_, _, _, _, _, _⟩) (v := undef) rfl (by kernel_rfl) (by kernel_rfl) (by kernel_rfl) (fun _ _ _ h => h) (.inr ⟨by kernel_rfl, rfl⟩) ?_
          (try simp only [Act.put, List.setIfInBounds_toArray, List.set_cons_zero, List.set_cons_succ])
          refine anyC_take (i := 34) (oi := ⟨_, _, _, _, _, _⟩) (v := undef) rfl (by kernel_rfl) (by kernel_rfl) (by kernel_rfl) (fun _ _ _ h => h) (.inr ⟨by kernel_rfl, rfl⟩) ?_
          (try simp only [Act.put, List.setIfInBounds_toArray, List.set_cons_zero, List.set_cons_succ])
          refine anyC_take (i := 35) (oi := ⟨_, _, _, _, _, _⟩) (v := undef) rfl (by kernel_rfl) (by kernel_rfl) (by kernel_rfl) (fun _ _ _ h => h) (.inr ⟨by kernel_rfl, rfl⟩) ?_
          (try simp only [Act.put, List.setIfInBounds_toArray, List.set_cons_zero, List.set_cons_succ])
          refine anyC_take (i := 36) (oi := ⟨_, _, _, _, _, _⟩) (v := undef) rfl (by kernel_rfl) (by kernel_rfl) (by kernel_rfl) (fun _ _ _ h => h) (.inr ⟨by kernel_rfl, rfl⟩) ?_
          (try simp only [Act.put, List.setIfInBounds_toArray, List.set_cons_zero, List.set_cons_succ])
          refine anyC_take (i := 37) (oi := ⟨_, _, _, _, _, _⟩) (v := undef) rfl (by kernel_rfl) (by kernel_rfl) (by kernel_rfl) (fun _ _ _ h => h) (.inr ⟨by kernel_rfl, rfl⟩) ?_
          (try simp only [Act.put, List.setIfInBounds_toArray, List.set_cons_zero, List.set_cons_succ])
          refine anyC_take (i := 38) (oi := ⟨_, _, _, _, _, _⟩) (v := undef) rfl (by kernel_rfl) (by kernel_rfl) (by kernel_rfl) (fun _ _ _ h => h) (.inr ⟨by kernel_rfl, rfl⟩) ?_
          (try simp only [Act.put, List.setIfInBounds_toArray, List.set_cons_zero, List.set_cons_succ])
          refine anyC_take (i := 39) (oi := ⟨_, _, _, _, _, _⟩) (v := .bool false) rfl (by kernel_rfl) (by kernel_rfl) (by kernel_rfl) (fun _ _ _ h => h) (.inl ⟨by kernel_rfl, fun wz hz => by go_simp⟩) ?_
          (try simp only [Act.put, List.setIfInBounds_toArray, List.set_cons_zero, List.set_cons_succ])
          refine anyC_take (i := 40) (oi := ⟨_, _, _, _, _, _⟩) (v := .bool false) rfl (by kernel_rfl) (by kernel_rfl) (by kernel_rfl) (fun _ _ _ h => h) (.inl ⟨by kernel_rfl, fun wz hz => by go_simp⟩) ?_
          (try simp only [Act.put, List.setIfInBounds_toArray, List.set_cons_zero, List.set_cons_succ])
          refine anyC_done (by kernel_rfl) z ?_ _
          go_wp2
          cases F1 with
          | true =>
            refine wp_region_any (by kernel_rfl) ?_
            refine any_of_C (C := Below wr.heap.size wr) _ _ _ _ ?_
            replace z := z.drew
            refine anyC_take (i := 0) (oi := ⟨_, _, _, _, _, _⟩) (v := .bool true) rfl (by kernel_rfl) (by kernel_rfl) (by kernel_rfl) (fun _ _ _ h => h) (.inl ⟨by kernel_rfl, fun wz hz => by apply runs_moveY <;> rfl⟩) ?_
            (try simp only [Act.put, List.setIfInBounds_toArray, List.set_cons_zero, List.set_cons_succ])
            refine anyC_take (i := 1) (oi := ⟨_, _, _, _, _, _⟩) (v := .bool true) rfl (by kernel_rfl) (by kernel_rfl) (by kernel_rfl) (fun _ _ _ h => h) (.inl ⟨by kernel_rfl, fun wz hz => by apply runs_moveY <;> rfl⟩) ?_
            (try simp only [Act.put, List.setIfInBounds_toArray, List.set_cons_zero, List.set_cons_succ])
            refine anyC_take (i := 2) (oi := ⟨_, _, _, _, _, _⟩) (v := undef) rfl (by kernel_rfl) (by kernel_rfl) (by kernel_rfl) (fun _ _ _ h => h) (.inr ⟨by kernel_rfl, rfl⟩) ?_
            (try simp only [Act.put, List.setIfInBounds_toArray, List.set_cons_zero, List.set_cons_succ])
            refine anyC_take (i := 3) (oi := ⟨_, _, _, _, _, _⟩) (v := undef) rfl (by kernel_rfl) (by kernel_rfl) (by kernel_rfl) (fun _ _ _ h => h) (.inr ⟨by kernel_rfl, rfl⟩) ?_
            (try simp only [Act.put, List.setIfInBounds_toArray, List.set_cons_zero, List.set_cons_succ])
            refine anyC_take (i := 4) (oi := ⟨_, _, _, _, _, _⟩) (v := undef) rfl (by kernel_rfl) (by kernel_rfl) (by kernel_rfl) (fun _ _ _ h => h) (.inr ⟨by kernel_rfl, rfl⟩) ?_
            (try simp only [Act.put, List.setIfInBounds_toArray, List.set_cons_zero, List.set_cons_succ])
            refine anyC_take (i := 5) (oi := ⟨_, _, _, _, _, _⟩) (v := undef) rfl (by kernel_rfl) (by kernel_rfl) (by kernel_rfl) (fun _ _ _ h => h) (.inr ⟨by kernel_rfl, rfl⟩) ?_
            (try simp only [Act.put, List.setIfInBounds_toArray, List.set_cons_zero, List.set_cons_succ])
            refine anyC_take (i := 6) (oi := ⟨_, _, _, _, _, _⟩) (v := undef) rfl (by kernel_rfl) (by kernel_rfl) (by kernel_rfl) (fun _ _ _ h => h) (.inr ⟨by kernel_rfl, rfl⟩) ?_
            (try simp only [Act.put, List.setIfInBounds_toArray, List.set_cons_zero, List.set_cons_succ])
            refine anyC_take (i := 7) (oi := ⟨_, _, _, _, _, _⟩) (v := undef) rfl (by kernel_rfl) (by kernel_rfl) (by kernel_rfl) (fun _ _ _ h => h) (.inr ⟨by kernel_rfl, rfl⟩) ?_
            (try simp only [Act.put, List.setIfInBounds_toArray, List.set_cons_zero, List.set_cons_succ])
            refine anyC_take (i := 8) (oi := ⟨_, _, _, _, _, _⟩) (v := .bool true) rfl (by kernel_rfl) (by kernel_rfl) (by kernel_rfl) (fun _ _ _ h => h) (.inl ⟨by kernel_rfl, fun wz hz => by go_simp⟩) ?_
            (try simp only [Act.put, List.setIfInBounds_toArray, List.set_cons_zero, List.set_cons_succ])
            refine anyC_take (i := 9) (oi := ⟨_, _, _, _, _, _⟩) (v := .bool true) rfl (by kernel_rfl) (by kernel_rfl) (by kernel_rfl) (fun _ _ _ h => h) (.inl ⟨by kernel_rfl, fun wz hz => by apply runs_assign <;> rfl⟩) ?_
            (try simp only [Act.put, List.setIfInBounds_toArray, List.set_cons_zero, List.set_cons_succ])
            refine anyC_done (by kernel_rfl) z ?_ _
            go_wp2
            cases F2 with
            | true =>
              refine wp_region_any (by kernel_rfl) ?_
              refine any_of_C (C := Below wr.heap.size wr) _ _ _ _ ?_
              replace z := z.drew
              refine anyC_take (i := 0) (oi := ⟨_, _, _, _, _, _⟩) (v := .bool true) rfl (by kernel_rfl) (by kernel_rfl) (by kernel_rfl) (fun _ _ _ h => h) (.inl ⟨by kernel_rfl, fun wz hz => by apply runs_moveY <;> rfl⟩) ?_
              (try simp only [Act.put, List.setIfInBounds_toArray, List.set_cons_zero, List.set_cons_succ])
              refine anyC_take (i := 1) (oi := ⟨_, _, _, _, _, _⟩) (v := .bool true) rfl (by kernel_rfl) (by kernel_rfl) (by kernel_rfl) (fun _ _ _ h => h) (.inl ⟨by kernel_rfl, fun wz hz => by apply runs_moveY <;> rfl⟩) ?_
              (try simp only [Act.put, List.setIfInBounds_toArray, List.set_cons_zero, List.set_cons_succ])
              refine anyC_take (i := 2) (oi := ⟨_, _, _, _, _, _⟩) (v := undef) rfl (by kernel_rfl) (by kernel_rfl) (by kernel_rfl) (fun _ _ _ h => h) (.inr ⟨by kernel_rfl, rfl⟩) ?_
              (try simp only [Act.put, List.setIfInBounds_toArray, List.set_cons_zero, List.set_cons_succ])
              refine anyC_take (i := 3) (oi := ⟨_, _, _, _, _, _⟩) (v := undef) rfl (by kernel_rfl) (by kernel_rfl) (by kernel_rfl) (fun _ _ _ h => h) (.inr ⟨by kernel_rfl, rfl⟩) ?_
              (try simp only [Act.put, List.setIfInBounds_toArray, List.set_cons_zero, List.set_cons_succ])
              refine anyC_take (i := 4) (oi := ⟨_, _, _, _, _, _⟩) (v := undef) rfl (by kernel_rfl) (by kernel_rfl) (by kernel_rfl) (fun _ _ _ h => h) (.inr ⟨by kernel_rfl, rfl⟩) ?_
              (try simp only [Act.put, List.setIfInBounds_toArray, List.set_cons_zero, List.set_cons_succ])
              refine anyC_take (i := 5) (oi := ⟨_, _, _, _, _, _⟩) (v := undef) rfl (by kernel_rfl) (by kernel_rfl) (by kernel_rfl) (fun _ _ _ h => h) (.inr ⟨by kernel_rfl, rfl⟩) ?_
              (try simp only [Act.put, List.setIfInBounds_toArray, List.set_cons_zero, List.set_cons_succ])
              refine anyC_take (i := 6) (oi := ⟨_, _, _, _, _, _⟩) (v := undef) rfl (by kernel_rfl) (by kernel_rfl) (by kernel_rfl) (fun _ _ _ h => h) (.inr ⟨by kernel_rfl, rfl⟩) ?_
              (try simp only [Act.put, List.setIfInBounds_toArray, List.set_cons_zero, List.set_cons_succ])
              refine anyC_take (i := 7) (oi := ⟨_, _, _, _, _, _⟩) (v := undef) rfl (by kernel_rfl) (by kernel_rfl) (by kernel_rfl) (fun _ _ _ h => h) (.inr ⟨by kernel_rfl, rfl⟩) ?_
              (try simp only [Act.put, List.setIfInBounds_toArray, List.set_cons_zero, List.set_cons_succ])
              refine anyC_take (i := 8) (oi := ⟨_, _, _, _, _, _⟩) (v := .bool true) rfl (by kernel_rfl) (by kernel_rfl) (by kernel_rfl) (fun _ _ _ h => h) (.inl ⟨by kernel_rfl, fun wz hz => by go_simp⟩) ?_
              (try simp only [Act.put, List.setIfInBounds_toArray, List.set_cons_zero, List.set_cons_succ])
              refine anyC_take (i := 9) (oi := ⟨_, _, _, _, _, _⟩) (v := .bool true) rfl (by kernel_rfl) (by kernel_rfl) (by kernel_rfl) (fun _ _ _ h => h) (.inl ⟨by kernel_rfl, fun wz hz => by apply runs_assign <;> rfl⟩) ?_
              (try simp only [Act.put, List.setIfInBounds_toArray, List.set_cons_zero, List.set_cons_succ])
              refine anyC_done (by kernel_rfl) z ?_ _
              go_wp2
              go_roundw
              case rel => exact ⟨i + 1, by omega, by omega, rfl, by rw [HFS.out, HA1.out]; first | rfl | simp, by rw [HFS.out, HA2.out]; first | rfl | simp, HREL.out _ z⟩
              case measure => simp [intOf]; omega
            | false =>
              cases V2 with
              | true =>
                refine wp_region_any (by kernel_rfl) ?_
                refine any_of_C (C := Below wr.heap.size wr) _ _ _ _ ?_
                replace z := z.drew
                refine anyC_take (i := 0) (oi := ⟨_, _, _, _, _, _⟩) (v := .bool false) rfl (by kernel_rfl) (by kernel_rfl) (by kernel_rfl) (fun _ _ _ h => h) (.inl ⟨by kernel_rfl, fun wz hz => by apply runs_moveY <;> rfl⟩) ?_
                (try simp only [Act.put, List.setIfInBounds_toArray, List.set_cons_zero, List.set_cons_succ])
                refine anyC_take (i := 1) (oi := ⟨_, _, _, _, _, _⟩) (v := .bool false) rfl (by kernel_rfl) (by kernel_rfl) (by kernel_rfl) (fun _ _ _ h => h) (.inl ⟨by kernel_rfl, fun wz hz => by apply runs_moveY <;> rfl⟩) ?_
                (try simp only [Act.put, List.setIfInBounds_toArray, List.set_cons_zero, List.set_cons_succ])
                refine anyC_take (i := 2) (oi := ⟨_, _, _, _, _, _⟩) (v := .slice (some ⟨G, 0, none⟩) U.length gc) rfl (by kernel_rfl) (by kernel_rfl) (by kernel_rfl) (fun _ _ _ h => h) (.inl ⟨by kernel_rfl, fun wz hz => by apply runs_moveY <;> rfl⟩) ?_
                (try simp only [Act.put, List.setIfInBounds_toArray, List.set_cons_zero, List.set_cons_succ])
                refine anyC_take (i := 3) (oi := ⟨_, _, _, _, _, _⟩) (v := .int .i64 i) rfl (by kernel_rfl) (by kernel_rfl) (by kernel_rfl) (fun _ _ _ h => h) (.inl ⟨by kernel_rfl, fun wz hz => by apply runs_moveY <;> rfl⟩) ?_
                (try simp only [Act.put, List.setIfInBounds_toArray, List.set_cons_zero, List.set_cons_succ])
                refine anyC_take (i := 4) (oi := ⟨_, _, _, _, _, _⟩) (v := .pointer (some ⟨G, i.toNat * 2, none⟩)) rfl (by kernel_rfl) (by kernel_rfl) (by kernel_rfl) (fun _ _ _ h => h) (.inl ⟨by kernel_rfl, fun wz hz => by go_simp⟩) ?_
                (try simp only [Act.put, List.setIfInBounds_toArray, List.set_cons_zero, List.set_cons_succ])
                refine anyC_take (i := 5) (oi := ⟨_, _, _, _, _, _⟩) (v := .agg #[.slice ea L.length eca, .slice eb T.length ecb]) rfl (by kernel_rfl) (by kernel_rfl) (by kernel_rfl) (fun _ _ _ h => h) (.inl ⟨by kernel_rfl, fun wz hz => runs_load_midC (C := Below wr.heap.size wr) 38 _ rfl G (i.toNat * 2) rfl #[.slice ea L.length eca, .slice eb T.length ecb] _ (fun w hw => KM.out _ hw) Try.underlying38 rfl (size_Alg _ _) wz hz⟩) ?_
                (try simp only [Act.put, List.setIfInBounds_toArray, List.set_cons_zero, List.set_cons_succ])
                refine anyC_take (i := 6) (oi := ⟨_, _, _, _, _, _⟩) (v := .agg #[.slice ahM L.length chM, .slice bhM S2.length dhM]) rfl (by kernel_rfl) (by kernel_rfl) (by kernel_rfl) (fun _ _ _ h => h) (.inl ⟨by kernel_rfl, fun wz hz => runs_load (C := Below wr.heap.size wr) 38 _ rfl hKb rfl _ _ _ _ (fun w hw => KKwr.out _ hw) Try.underlying38 rfl (size_Alg _ _) wz hz⟩) ?_
                (try simp only [Act.put, List.setIfInBounds_toArray, List.set_cons_zero, List.set_cons_succ])
                refine anyC_call (i := 7) (o := ⟨_, _, _, _, _, _⟩) (f := 24) (args := #[.agg #[.slice ea L.length eca, .slice eb T.length ecb], .agg #[.slice ahM L.length chM, .slice bhM S2.length dhM]]) rfl (by kernel_rfl) (by kernel_rfl) (by apply runs_call2 (he := enters_of Try.func24 (by kernel_rfl) rfl) <;> rfl) z ?_
                refine (C6.out _ z).mono ?_
                rintro e wz ⟨rfl, hb⟩
                replace z := z.trans (hb.mono z.size)
                refine ⟨_, rfl, ?_⟩
                (try simp only [Act.put, List.setIfInBounds_toArray, List.set_cons_zero, List.set_cons_succ])
                refine anyC_take (i := 8) (oi := ⟨_, _, _, _, _, _⟩) (v := .bool true) rfl (by kernel_rfl) (by kernel_rfl) (by kernel_rfl) (fun _ _ _ h => h) (.inl ⟨by kernel_rfl, fun wz hz => by go_simp⟩) ?_
                (try simp only [Act.put, List.setIfInBounds_toArray, List.set_cons_zero, List.set_cons_succ])
                refine anyC_take (i := 9) (oi := ⟨_, _, _, _, _, _⟩) (v := .bool true) rfl (by kernel_rfl) (by kernel_rfl) (by kernel_rfl) (fun _ _ _ h => h) (.inl ⟨by kernel_rfl, fun wz hz => by apply runs_assign <;> rfl⟩) ?_
                (try simp only [Act.put, List.setIfInBounds_toArray, List.set_cons_zero, List.set_cons_succ])
                refine anyC_done (by kernel_rfl) z ?_ _
                go_wp2
                go_roundw
                case rel => exact ⟨i + 1, by omega, by omega, rfl, by rw [HFS.out, HA1.out]; first | rfl | simp, by rw [HFS.out, HA2.out]; first | rfl | simp, HREL.out _ z⟩
                case measure => simp [intOf]; omega
              | false =>
                refine wp_region_any (by kernel_rfl) ?_
                refine any_of_C (C := Below wr.heap.size wr) _ _ _ _ ?_
                replace z := z.drew
                refine anyC_take (i := 0) (oi := ⟨_, _, _, _, _, _⟩) (v := .bool false) rfl (by kernel_rfl) (by kernel_rfl) (by kernel_rfl) (fun _ _ _ h => h) (.inl ⟨by kernel_rfl, fun wz hz => by apply runs_moveY <;> rfl⟩) ?_
                (try simp only [Act.put, List.setIfInBounds_toArray, List.set_cons_zero, List.set_cons_succ])
                refine anyC_take (i := 1) (oi := ⟨_, _, _, _, _, _⟩) (v := .bool false) rfl (by kernel_rfl) (by kernel_rfl) (by kernel_rfl) (fun _ _ _ h => h) (.inl ⟨by kernel_rfl, fun wz hz => by apply runs_moveY <;> rfl⟩) ?_
                (try simp only [Act.put, List.setIfInBounds_toArray, List.set_cons_zero, List.set_cons_succ])
                refine anyC_take (i := 2) (oi := ⟨_, _, _, _, _, _⟩) (v := .slice (some ⟨G, 0, none⟩) U.length gc) rfl (by kernel_rfl) (by kernel_rfl) (by kernel_rfl) (fun _ _ _ h => h) (.inl ⟨by kernel_rfl, fun wz hz => by apply runs_moveY <;> rfl⟩) ?_
                (try simp only [Act.put, List.setIfInBounds_toArray, List.set_cons_zero, List.set_cons_succ])
                refine anyC_take (i := 3) (oi := ⟨_, _, _, _, _, _⟩) (v := .int .i64 i) rfl (by kernel_rfl) (by kernel_rfl) (by kernel_rfl) (fun _ _ _ h => h) (.inl ⟨by kernel_rfl, fun wz hz => by apply runs_moveY <;> rfl⟩) ?_
                (try simp only [Act.put, List.setIfInBounds_toArray, List.set_cons_zero, List.set_cons_succ])
                refine anyC_take (i := 4) (oi := ⟨_, _, _, _, _, _⟩) (v := .pointer (some ⟨G, i.toNat * 2, none⟩)) rfl (by kernel_rfl) (by kernel_rfl) (by kernel_rfl) (fun _ _ _ h => h) (.inl ⟨by kernel_rfl, fun wz hz => by go_simp⟩) ?_
                (try simp only [Act.put, List.setIfInBounds_toArray, List.set_cons_zero, List.set_cons_succ])
                refine anyC_take (i := 5) (oi := ⟨_, _, _, _, _, _⟩) (v := .agg #[.slice ea L.length eca, .slice eb T.length ecb]) rfl (by kernel_rfl) (by kernel_rfl) (by kernel_rfl) (fun _ _ _ h => h) (.inl ⟨by kernel_rfl, fun wz hz => runs_load_midC (C := Below wr.heap.size wr) 38 _ rfl G (i.toNat * 2) rfl #[.slice ea L.length eca, .slice eb T.length ecb] _ (fun w hw => KM.out _ hw) Try.underlying38 rfl (size_Alg _ _) wz hz⟩) ?_
                (try simp only [Act.put, List.setIfInBounds_toArray, List.set_cons_zero, List.set_cons_succ])
                refine anyC_take (i := 6) (oi := ⟨_, _, _, _, _, _⟩) (v := .agg #[.slice ahM L.length chM, .slice bhM S2.length dhM]) rfl (by kernel_rfl) (by kernel_rfl) (by kernel_rfl) (fun _ _ _ h => h) (.inl ⟨by kernel_rfl, fun wz hz => runs_load (C := Below wr.heap.size wr) 38 _ rfl hKb rfl _ _ _ _ (fun w hw => KKwr.out _ hw) Try.underlying38 rfl (size_Alg _ _) wz hz⟩) ?_
                (try simp only [Act.put, List.setIfInBounds_toArray, List.set_cons_zero, List.set_cons_succ])
                refine anyC_call (i := 7) (o := ⟨_, _, _, _, _, _⟩) (f := 24) (args := #[.agg #[.slice ea L.length eca, .slice eb T.length ecb], .agg #[.slice ahM L.length chM, .slice bhM S2.length dhM]]) rfl (by kernel_rfl) (by kernel_rfl) (by apply runs_call2 (he := enters_of Try.func24 (by kernel_rfl) rfl) <;> rfl) z ?_
                refine (C6.out _ z).mono ?_
                rintro e wz ⟨rfl, hb⟩
                replace z := z.trans (hb.mono z.size)
                refine ⟨_, rfl, ?_⟩
                (try simp only [Act.put, List.setIfInBounds_toArray, List.set_cons_zero, List.set_cons_succ])
                refine anyC_take (i := 8) (oi := ⟨_, _, _, _, _, _⟩) (v := .bool false) rfl (by kernel_rfl) (by kernel_rfl) (by kernel_rfl) (fun _ _ _ h => h) (.inl ⟨by kernel_rfl, fun wz hz => by go_simp⟩) ?_
                (try simp only [Act.put, List.setIfInBounds_toArray, List.set_cons_zero, List.set_cons_succ])
                refine anyC_take (i := 9) (oi := ⟨_, _, _, _, _, _⟩) (v := .bool false) rfl (by kernel_rfl) (by kernel_rfl) (by kernel_rfl) (fun _ _ _ h => h) (.inl ⟨by kernel_rfl, fun wz hz => by apply runs_assign <;> rfl⟩) ?_
                (try simp only [Act.put, List.setIfInBounds_toArray, List.set_cons_zero, List.set_cons_succ])
                refine anyC_done (by kernel_rfl) z ?_ _
                go_wp2
                go_roundw
                case rel => exact ⟨i + 1, by omega, by omega, rfl, by rw [HFS.out, HA1.out]; first | rfl | simp, by rw [HFS.out, HA2.out]; first | rfl | simp, HREL.out _ z⟩
                case measure => simp [intOf]; omega
          | false =>
            cases V1 with
            | true =>
              refine wp_region_any (by kernel_rfl) ?_
              refine any_of_C (C := Below wr.heap.size wr) _ _ _ _ ?_
              replace z := z.drew
              refine anyC_take (i := 0) (oi := ⟨_, _, _, _, _, _⟩) (v := .bool false) rfl (by kernel_rfl) (by kernel_rfl) (by kernel_rfl) (fun _ _ _ h => h) (.inl ⟨by kernel_rfl, fun wz hz => by apply runs_moveY <;> rfl⟩) ?_
              (try simp only [Act.put, List.setIfInBounds_toArray, List.set_cons_zero, List.set_cons_succ])
              refine anyC_take (i := 1) (oi := ⟨_, _, _, _, _, _⟩) (v := .bool false) rfl (by kernel_rfl) (by kernel_rfl) (by kernel_rfl) (fun _ _ _ h => h) (.inl ⟨by kernel_rfl, fun wz hz => by apply runs_moveY <;> rfl⟩) ?_
              (try simp only [Act.put, List.setIfInBounds_toArray, List.set_cons_zero, List.set_cons_succ])
              refine anyC_take (i := 2) (oi := ⟨_, _, _, _, _, _⟩) (v := .slice (some ⟨G, 0, none⟩) U.length gc) rfl (by kernel_rfl) (by kernel_rfl) (by kernel_rfl) (fun _ _ _ h => h) (.inl ⟨by kernel_rfl, fun wz hz => by apply runs_moveY <;> rfl⟩) ?_
              (try simp only [Act.put, List.setIfInBounds_toArray, List.set_cons_zero, List.set_cons_succ])
              refine anyC_take (i := 3) (oi := ⟨_, _, _, _, _, _⟩) (v := .int .i64 i) rfl (by kernel_rfl) (by kernel_rfl) (by kernel_rfl) (fun _ _ _ h => h) (.inl ⟨by kernel_rfl, fun wz hz => by apply runs_moveY <;> rfl⟩) ?_
              (try simp only [Act.put, List.setIfInBounds_toArray, List.set_cons_zero, List.set_cons_succ])
              refine anyC_take (i := 4) (oi := ⟨_, _, _, _, _, _⟩) (v := .pointer (some ⟨G, i.toNat * 2, none⟩)) rfl (by kernel_rfl) (by kernel_rfl) (by kernel_rfl) (fun _ _ _ h => h) (.inl ⟨by kernel_rfl, fun wz hz => by go_simp⟩) ?_
              (try simp only [Act.put, List.setIfInBounds_toArray, List.set_cons_zero, List.set_cons_succ])
              refine anyC_take (i := 5) (oi := ⟨_, _, _, _, _, _⟩) (v := .agg #[.slice ea L.length eca, .slice eb T.length ecb]) rfl (by kernel_rfl) (by kernel_rfl) (by kernel_rfl) (fun _ _ _ h => h) (.inl ⟨by kernel_rfl, fun wz hz => runs_load_midC (C := Below wr.heap.size wr) 38 _ rfl G (i.toNat * 2) rfl #[.slice ea L.length eca, .slice eb T.length ecb] _ (fun w hw => KM.out _ hw) Try.underlying38 rfl (size_Alg _ _) wz hz⟩) ?_
              (try simp only [Act.put, List.setIfInBounds_toArray, List.set_cons_zero, List.set_cons_succ])
              refine anyC_take (i := 6) (oi := ⟨_, _, _, _, _, _⟩) (v := .agg #[.slice ahA L.length chA, .slice bhA S1.length dhA]) rfl (by kernel_rfl) (by kernel_rfl) (by kernel_rfl) (fun _ _ _ h => h) (.inl ⟨by kernel_rfl, fun wz hz => runs_load (C := Below wr.heap.size wr) 38 _ rfl hGb rfl _ _ _ _ (fun w hw => KGwr.out _ hw) Try.underlying38 rfl (size_Alg _ _) wz hz⟩) ?_
              (try simp only [Act.put, List.setIfInBounds_toArray, List.set_cons_zero, List.set_cons_succ])
              refine anyC_call (i := 7) (o := ⟨_, _, _, _, _, _⟩) (f := 24) (args := #[.agg #[.slice ea L.length eca, .slice eb T.length ecb], .agg #[.slice ahA L.length chA, .slice bhA S1.length dhA]]) rfl (by kernel_rfl) (by kernel_rfl) (by apply runs_call2 (he := enters_of Try.func24 (by kernel_rfl) rfl) <;> rfl) z ?_
              refine (C5.out _ z).mono ?_
              rintro e wz ⟨rfl, hb⟩
              replace z := z.trans (hb.mono z.size)
              refine ⟨_, rfl, ?_⟩
              (try simp only [Act.put, List.setIfInBounds_toArray, List.set_cons_zero, List.set_cons_succ])
              refine anyC_take (i := 8) (oi := ⟨_, _, _, _, _, _⟩) (v := .bool true) rfl (by kernel_rfl) (by kernel_rfl) (by kernel_rfl) (fun _ _ _ h => h) (.inl ⟨by kernel_rfl, fun wz hz => by go_simp⟩) ?_
              (try simp only [Act.put, List.setIfInBounds_toArray, List.set_cons_zero, List.set_cons_succ])
              refine anyC_take (i := 9) (oi := ⟨_, _, _, _, _, _⟩) (v := .bool true) rfl (by kernel_rfl) (by kernel_rfl) (by kernel_rfl) (fun _ _ _ h => h) (.inl ⟨by kernel_rfl, fun wz hz => by apply runs_assign <;> rfl⟩) ?_
              (try simp only [Act.put, List.setIfInBounds_toArray, List.set_cons_zero, List.set_cons_succ])
              refine anyC_done (by kernel_rfl) z ?_ _
              go_wp2
              cases F2 with
              | true =>
                refine wp_region_any (by kernel_rfl) ?_
                refine any_of_C (C := Below wr.heap.size wr) _ _ _ _ ?_
                replace z := z.drew
                refine anyC_take (i := 0) (oi := ⟨_, _, _, _, _, _⟩) (v := .bool true) rfl (by kernel_rfl) (by kernel_rfl) (by kernel_rfl) (fun _ _ _ h => h) (.inl ⟨by kernel_rfl, fun wz hz => by apply runs_moveY <;> rfl⟩) ?_
                (try simp only [Act.put, List.setIfInBounds_toArray, List.set_cons_zero, List.set_cons_succ])
                refine anyC_take (i := 1) (oi := ⟨_, _, _, _, _, _⟩) (v := .bool true) rfl (by kernel_rfl) (by kernel_rfl) (by kernel_rfl) (fun _ _ _ h => h) (.inl ⟨by kernel_rfl, fun wz hz => by apply runs_moveY <;> rfl⟩) ?_
                (try simp only [Act.put, List.setIfInBounds_toArray, List.set_cons_zero, List.set_cons_succ])
                refine anyC_take (i := 2) (oi := ⟨_, _, _, _, _, _⟩) (v := undef) rfl (by kernel_rfl) (by kernel_rfl) (by kernel_rfl) (fun _ _ _ h => h) (.inr ⟨by kernel_rfl, rfl⟩) ?_
                (try simp only [Act.put, List.setIfInBounds_toArray, List.set_cons_zero, List.set_cons_succ])
                refine anyC_take (i := 3) (oi := ⟨_, _, _, _, _, _⟩) (v := undef) rfl (by kernel_rfl) (by kernel_rfl) (by kernel_rfl) (fun _ _ _ h => h) (.inr ⟨by kernel_rfl, rfl⟩) ?_
                (try simp only [Act.put, List.setIfInBounds_toArray, List.set_cons_zero, List.set_cons_succ])
                refine anyC_take (i := 4) (oi := ⟨_, _, _, _, _, _⟩) (v := undef) rfl (by kernel_rfl) (by kernel_rfl) (by kernel_rfl) (fun _ _ _ h => h) (.inr ⟨by kernel_rfl, rfl⟩) ?_
                (try simp only [Act.put, List.setIfInBounds_toArray, List.set_cons_zero, List.set_cons_succ])
                refine anyC_take (i := 5) (oi := ⟨_, _, _, _, _, _⟩) (v := undef) rfl (by kernel_rfl) (by kernel_rfl) (by kernel_rfl) (fun _ _ _ h => h) (.inr ⟨by kernel_rfl, rfl⟩) ?_
                (try simp only [Act.put, List.setIfInBounds_toArray, List.set_cons_zero, List.set_cons_succ])
                refine anyC_take (i := 6) (oi := ⟨_, _, _, _, _, _⟩) (v := undef) rfl (by kernel_rfl) (by kernel_rfl) (by kernel_rfl) (fun _ _ _ h => h) (.inr ⟨by kernel_rfl, rfl⟩) ?_
                (try simp only [Act.put, List.setIfInBounds_toArray, List.set_cons_zero, List.set_cons_succ])
                refine anyC_take (i := 7) (oi := ⟨_, _, _, _, _, _⟩) (v := undef) rfl (by kernel_rfl) (by kernel_rfl) (by kernel_rfl) (fun _ _ _ h => h) (.inr ⟨by kernel_rfl, rfl⟩) ?_
                (try simp only [Act.put, List.setIfInBounds_toArray, List.set_cons_zero, List.set_cons_succ])
                refine anyC_take (i := 8) (oi := ⟨_, _, _, _, _, _⟩) (v := .bool true) rfl (by kernel_rfl) (by kernel_rfl) (by kernel_rfl) (fun _ _ _ h => h) (.inl ⟨by kernel_rfl, fun wz hz => by go_simp⟩) ?_
                (try simp only [Act.put, List.setIfInBounds_toArray, List.set_cons_zero, List.set_cons_succ])
                refine anyC_take (i := 9) (oi := ⟨_, _, _, _, _, _⟩) (v := .bool true) rfl (by kernel_rfl) (by kernel_rfl) (by kernel_rfl) (fun _ _ _ h => h) (.inl ⟨by kernel_rfl, fun wz hz => by apply runs_assign <;> rfl⟩) ?_
                (try simp only [Act.put, List.setIfInBounds_toArray, List.set_cons_zero, List.set_cons_succ])
                refine anyC_done (by kernel_rfl) z ?_ _
                go_wp2
                go_roundw
                case rel => exact ⟨i + 1, by omega, by omega, rfl, by rw [HFS.out, HA1.out]; first | rfl | simp, by rw [HFS.out, HA2.out]; first | rfl | simp, HREL.out _ z⟩
                case measure => simp [intOf]; omega
              | false =>
                cases V2 with
                | true =>
                  refine wp_region_any (by kernel_rfl) ?_
                  refine any_of_C (C := Below wr.heap.size wr) _ _ _ _ ?_
                  replace z := z.drew
                  refine anyC_take (i := 0) (oi := ⟨_, _, _, _, _, _⟩) (v := .bool false) rfl (by kernel_rfl) (by kernel_rfl) (by kernel_rfl) (fun _ _ _ h => h) (.inl ⟨by kernel_rfl, fun wz hz => by apply runs_moveY <;> rfl⟩) ?_
                  (try simp only [Act.put, List.setIfInBounds_toArray, List.set_cons_zero, List.set_cons_succ])
                  refine anyC_take (i := 1) (oi := ⟨_, _, _, _, _, _⟩) (v := .bool false) rfl (by kernel_rfl) (by kernel_rfl) (by kernel_rfl) (fun _ _ _ h => h) (.inl ⟨by kernel_rfl, fun wz hz => by apply runs_moveY <;> rfl⟩) ?_
                  (try simp only [Act.put, List.setIfInBounds_toArray, List.set_cons_zero, List.set_cons_succ])
                  refine anyC_take (i := 2) (oi := ⟨_, _, _, _, _, _⟩) (v := .slice (some ⟨G, 0, none⟩) U.length gc) rfl (by kernel_rfl) (by kernel_rfl) (by kernel_rfl) (fun _ _ _ h => h) (.inl ⟨by kernel_rfl, fun wz hz => by apply runs_moveY <;> rfl⟩) ?_
                  (try simp only [Act.put, List.setIfInBounds_toArray, List.set_cons_zero, List.set_cons_succ])
                  refine anyC_take (i := 3) (oi := ⟨_, _, _, _, _, _⟩) (v := .int .i64 i) rfl (by kernel_rfl) (by kernel_rfl) (by kernel_rfl) (fun _ _ _ h => h) (.inl ⟨by kernel_rfl, fun wz hz => by apply runs_moveY <;> rfl⟩) ?_
                  (try simp only [Act.put, List.setIfInBounds_toArray, List.set_cons_zero, List.set_cons_succ])
                  refine anyC_take (i := 4) (oi := ⟨_, _, _, _, _, _⟩) (v := .pointer (some ⟨G, i.toNat * 2, none⟩)) rfl (by kernel_rfl) (by kernel_rfl) (by kernel_rfl) (fun _ _ _ h => h) (.inl ⟨by kernel_rfl, fun wz hz => by go_simp⟩) ?_
                  (try simp only [Act.put, List.setIfInBounds_toArray, List.set_cons_zero, List.set_cons_succ])
                  refine anyC_take (i := 5) (oi := ⟨_, _, _, _, _, _⟩) (v := .agg #[.slice ea L.length eca, .slice eb T.length ecb]) rfl (by kernel_rfl) (by kernel_rfl) (by kernel_rfl) (fun _ _ _ h => h) (.inl ⟨by kernel_rfl, fun wz hz => runs_load_midC (C := Below wr.heap.size wr) 38 _ rfl G (i.toNat * 2) rfl #[.slice ea L.length eca, .slice eb T.length ecb] _ (fun w hw => KM.out _ hw) Try.underlying38 rfl (size_Alg _ _) wz hz⟩) ?_
                  (try simp only [Act.put, List.setIfInBounds_toArray, List.set_cons_zero, List.set_cons_succ])
                  refine anyC_take (i := 6) (oi := ⟨_, _, _, _, _, _⟩) (v := .agg #[.slice ahM L.length chM, .slice bhM S2.length dhM]) rfl (by kernel_rfl) (by kernel_rfl) (by kernel_rfl) (fun _ _ _ h => h) (.inl ⟨by kernel_rfl, fun wz hz => runs_load (C := Below wr.heap.size wr) 38 _ rfl hKb rfl _ _ _ _ (fun w hw => KKwr.out _ hw) Try.underlying38 rfl (size_Alg _ _) wz hz⟩) ?_
                  (try simp only [Act.put, List.setIfInBounds_toArray, List.set_cons_zero, List.set_cons_succ])
                  refine anyC_call (i := 7) (o := ⟨_, _, _, _, _, _⟩) (f := 24) (args := #[.agg #[.slice ea L.length eca, .slice eb T.length ecb], .agg #[.slice ahM L.length chM, .slice bhM S2.length dhM]]) rfl (by kernel_rfl) (by kernel_rfl) (by apply runs_call2 (he := enters_of Try.func24 (by kernel_rfl) rfl) <;> rfl) z ?_
                  refine (C6.out _ z).mono ?_
                  rintro e wz ⟨rfl, hb⟩
                  replace z := z.trans (hb.mono z.size)
                  refine ⟨_, rfl, ?_⟩
                  (try simp only [Act.put, List.setIfInBounds_toArray, List.set_cons_zero, List.set_cons_succ])
                  refine anyC_take (i := 8) (oi := ⟨_, _, _, _, _, _⟩) (v := .bool true) rfl (by kernel_rfl) (by kernel_rfl) (by kernel_rfl) (fun _ _ _ h => h) (.inl ⟨by kernel_rfl, fun wz hz => by go_simp⟩) ?_
                  (try simp only [Act.put, List.setIfInBounds_toArray, List.set_cons_zero, List.set_cons_succ])
                  refine anyC_take (i := 9) (oi := ⟨_, _, _, _, _, _⟩) (v := .bool true) rfl (by kernel_rfl) (by kernel_rfl) (by kernel_rfl) (fun _ _ _ h => h) (.inl ⟨by kernel_rfl, fun wz hz => by apply runs_assign <;> rfl⟩) ?_
                  (try simp only [Act.put, List.setIfInBounds_toArray, List.set_cons_zero, List.set_cons_succ])
                  refine anyC_done (by kernel_rfl) z ?_ _
                  go_wp2
                  go_roundw
                  case rel => exact ⟨i + 1, by omega, by omega, rfl, by rw [HFS.out, HA1.out]; first | rfl | simp, by rw [HFS.out, HA2.out]; first | rfl | simp, HREL.out _ z⟩
                  case measure => simp [intOf]; omega
                | false =>
                  refine wp_region_any (by kernel_rfl) ?_
                  refine any_of_C (C := Below wr.heap.size wr) _ _ _ _ ?_
                  replace z := z.drew
                  refine anyC_take (i := 0) (oi := ⟨_, _, _, _, _, _⟩) (v := .bool false) rfl (by kernel_rfl) (by kernel_rfl) (by kernel_rfl) (fun _ _ _ h => h) (.inl ⟨by kernel_rfl, fun wz hz => by apply runs_moveY <;> rfl⟩) ?_
                  (try simp only [Act.put, List.setIfInBounds_toArray, List.set_cons_zero, List.set_cons_succ])
                  refine anyC_take (i := 1) (oi := ⟨_, _, _, _, _, _⟩) (v := .bool false) rfl (by kernel_rfl) (by kernel_rfl) (by kernel_rfl) (fun _ _ _ h => h) (.inl ⟨by kernel_rfl, fun wz hz => by apply runs_moveY <;> rfl⟩) ?_
                  (try simp only [Act.put, List.setIfInBounds_toArray, List.set_cons_zero, List.set_cons_succ])
                  refine anyC_take (i := 2) (oi := ⟨_, _, _, _, _, _⟩) (v := .slice (some ⟨G, 0, none⟩) U.length gc) rfl (by kernel_rfl) (by kernel_rfl) (by kernel_rfl) (fun _ _ _ h => h) (.inl ⟨by kernel_rfl, fun wz hz => by apply runs_moveY <;> rfl⟩) ?_
                  (try simp only [Act.put, List.setIfInBounds_toArray, List.set_cons_zero, List.set_cons_succ])
                  refine anyC_take (i := 3) (oi := ⟨_, _, _, _, _, _⟩) (v := .int .i64 i) rfl (by kernel_rfl) (by kernel_rfl) (by kernel_rfl) (fun _ _ _ h => h) (.inl ⟨by kernel_rfl, fun wz hz => by apply runs_moveY <;> rfl⟩) ?_
                  (try simp only [Act.put, List.setIfInBounds_toArray, List.set_cons_zero, List.set_cons_succ])
                  refine anyC_take (i := 4) (oi := ⟨_, _, _, _, _, _⟩) (v := .pointer (some ⟨G, i.toNat * 2, none⟩)) rfl (by kernel_rfl) (by kernel_rfl) (by kernel_rfl) (fun _ _ _ h => h) (.inl ⟨by kernel_rfl, fun wz hz => by go_simp⟩) ?_
                  (try simp only [Act.put, List.setIfInBounds_toArray, List.set_cons_zero, List.set_cons_succ])
                  refine anyC_take (i := 5) (oi := ⟨_, _, _, _, _, _⟩) (v := .agg #[.slice ea L.length eca, .slice eb T.length ecb]) rfl (by kernel_rfl) (by kernel_rfl) (by kernel_rfl) (fun _ _ _ h => h) (.inl ⟨by kernel_rfl, fun wz hz => runs_load_midC (C := Below wr.heap.size wr) 38 _ rfl G (i.toNat * 2) rfl #[.slice ea L.length eca, .slice eb T.length ecb] _ (fun w hw => KM.out _ hw) Try.underlying38 rfl (size_Alg _ _) wz hz⟩) ?_
                  (try simp only [Act.put, List.setIfInBounds_toArray, List.set_cons_zero, List.set_cons_succ])
                  refine anyC_take (i := 6) (oi := ⟨_, _, _, _, _, _⟩) (v := .agg #[.slice ahM L.length chM, .slice bhM S2.length dhM]) rfl (by kernel_rfl) (by kernel_rfl) (by kernel_rfl) (fun _ _ _ h => h) (.inl ⟨by kernel_rfl, fun wz hz => runs_load (C := Below wr.heap.size wr) 38 _ rfl hKb rfl _ _ _ _ (fun w hw => KKwr.out _ hw) Try.underlying38 rfl (size_Alg _ _) wz hz⟩) ?_
                  (try simp only [Act.put, List.setIfInBounds_toArray, List.set_cons_zero, List.set_cons_succ])
                  refine anyC_call (i := 7) (o := ⟨_, _, _, _, _, _⟩) (f := 24) (args := #[.agg #[.slice ea L.length eca, .slice eb T.length ecb], .agg #[.slice ahM L.length chM, .slice bhM S2.length dhM]]) rfl (by kernel_rfl) (by kernel_rfl) (by apply runs_call2 (he := enters_of Try.func24 (by kernel_rfl) rfl) <;> rfl) z ?_
                  refine (C6.out _ z).mono ?_
                  rintro e wz ⟨rfl, hb⟩
                  replace z := z.trans (hb.mono z.size)
                  refine ⟨_, rfl, ?_⟩
                  (try simp only [Act.put, List.setIfInBounds_toArray, List.set_cons_zero, List.set_cons_succ])
                  refine anyC_take (i := 8) (oi := ⟨_, _, _, _, _, _⟩) (v := .bool false) rfl (by kernel_rfl) (by kernel_rfl) (by kernel_rfl) (fun _ _ _ h => h) (.inl ⟨by kernel_rfl, fun wz hz => by go_simp⟩) ?_
                  (try simp only [Act.put, List.setIfInBounds_toArray, List.set_cons_zero, List.set_cons_succ])
                  refine anyC_take (i := 9) (oi := ⟨_, _, _, _, _, _⟩) (v := .bool false) rfl (by kernel_rfl) (by kernel_rfl) (by kernel_rfl) (fun _ _ _ h => h) (.inl ⟨by kernel_rfl, fun wz hz => by apply runs_assign <;> rfl⟩) ?_
                  (try simp only [Act.put, List.setIfInBounds_toArray, List.set_cons_zero, List.set_cons_succ])
                  refine anyC_done (by kernel_rfl) z ?_ _
                  go_wp2
                  go_roundw
                  case rel => exact ⟨i + 1, by omega, by omega, rfl, by rw [HFS.out, HA1.out]; first | rfl | simp, by rw [HFS.out, HA2.out]; first | rfl | simp, HREL.out _ z⟩
                  case measure => simp [intOf]; omega
            | false =>
              refine wp_region_any (by kernel_rfl) ?_
              refine any_of_C (C := Below wr.heap.size wr) _ _ _ _ ?_
              replace z := z.drew
              refine anyC_take (i := 0) (oi := ⟨_, _, _, _, _, _⟩) (v := .bool false) rfl (by kernel_rfl) (by kernel_rfl) (by kernel_rfl) (fun _ _ _ h => h) (.inl ⟨by kernel_rfl, fun wz hz => by apply runs_moveY <;> rfl⟩) ?_
              (try simp only [Act.put, List.setIfInBounds_toArray, List.set_cons_zero, List.set_cons_succ])
              refine anyC_take (i := 1) (oi := ⟨_, _, _, _, _, _⟩) (v := .bool false) rfl (by kernel_rfl) (by kernel_rfl) (by kernel_rfl) (fun _ _ _ h => h) (.inl ⟨by kernel_rfl, fun wz hz => by apply runs_moveY <;> rfl⟩) ?_
              (try simp only [Act.put, List.setIfInBounds_toArray, List.set_cons_zero, List.set_cons_succ])
              refine anyC_take (i := 2) (oi := ⟨_, _, _, _, _, _⟩) (v := .slice (some ⟨G, 0, none⟩) U.length gc) rfl (by kernel_rfl) (by kernel_rfl) (by kernel_rfl) (fun _ _ _ h => h) (.inl ⟨by kernel_rfl, fun wz hz => by apply runs_moveY <;> rfl⟩) ?_
              (try simp only [Act.put, List.setIfInBounds_toArray, List.set_cons_zero, List.set_cons_succ])
              refine anyC_take (i := 3) (oi := ⟨_, _, _, _, _, _⟩) (v := .int .i64 i) rfl (by kernel_rfl) (by kernel_rfl) (by kernel_rfl) (fun _ _ _ h => h) (.inl ⟨by kernel_rfl, fun wz hz => by apply runs_moveY <;> rfl⟩) ?_
              (try simp only [Act.put, List.setIfInBounds_toArray, List.set_cons_zero, List.set_cons_succ])
              refine anyC_take (i := 4) (oi := ⟨_, _, _, _, _, _⟩) (v := .pointer (some ⟨G, i.toNat * 2, none⟩)) rfl (by kernel_rfl) (by kernel_rfl) (by kernel_rfl) (fun _ _ _ h => h) (.inl ⟨by kernel_rfl, fun wz hz => by go_simp⟩) ?_
              (try simp only [Act.put, List.setIfInBounds_toArray, List.set_cons_zero, List.set_cons_succ])
              refine anyC_take (i := 5) (oi := ⟨_, _, _, _, _, _⟩) (v := .agg #[.slice ea L.length eca, .slice eb T.length ecb]) rfl (by kernel_rfl) (by kernel_rfl) (by kernel_rfl) (fun _ _ _ h => h) (.inl ⟨by kernel_rfl, fun wz hz => runs_load_midC (C := Below wr.heap.size wr) 38 _ rfl G (i.toNat * 2) rfl #[.slice ea L.length eca, .slice eb T.length ecb] _ (fun w hw => KM.out _ hw) Try.underlying38 rfl (size_Alg _ _) wz hz⟩) ?_
              (try simp only [Act.put, List.setIfInBounds_toArray, List.set_cons_zero, List.set_cons_succ])
              refine anyC_take (i := 6) (oi := ⟨_, _, _, _, _, _⟩) (v := .agg #[.slice ahA L.length chA, .slice bhA S1.length dhA]) rfl (by kernel_rfl) (by kernel_rfl) (by kernel_rfl) (fun _ _ _ h => h) (.inl ⟨by kernel_rfl, fun wz hz => runs_load (C := Below wr.heap.size wr) 38 _ rfl hGb rfl _ _ _ _ (fun w hw => KGwr.out _ hw) Try.underlying38 rfl (size_Alg _ _) wz hz⟩) ?_
              (try simp only [Act.put, List.setIfInBounds_toArray, List.set_cons_zero, List.set_cons_succ])
              refine anyC_call (i := 7) (o := ⟨_, _, _, _, _, _⟩) (f := 24) (args := #[.agg #[.slice ea L.length eca, .slice eb T.length ecb], .agg #[.slice ahA L.length chA, .slice bhA S1.length dhA]]) rfl (by kernel_rfl) (by kernel_rfl) (by apply runs_call2 (he := enters_of Try.func24 (by kernel_rfl) rfl) <;> rfl) z ?_
              refine (C5.out _ z).mono ?_
              rintro e wz ⟨rfl, hb⟩
              replace z := z.trans (hb.mono z.size)
              refine ⟨_, rfl, ?_⟩
              (try simp only [Act.put, List.setIfInBounds_toArray, List.set_cons_zero, List.set_cons_succ])
              refine anyC_take (i := 8) (oi := ⟨_, _, _, _, _, _⟩) (v := .bool false) rfl (by kernel_rfl) (by kernel_rfl) (by kernel_rfl) (fun _ _ _ h => h) (.inl ⟨by kernel_rfl, fun wz hz => by go_simp⟩) ?_
              (try simp only [Act.put, List.setIfInBounds_toArray, List.set_cons_zero, List.set_cons_succ])
              refine anyC_take (i := 9) (oi := ⟨_, _, _, _, _, _⟩) (v := .bool false) rfl (by kernel_rfl) (by kernel_rfl) (by kernel_rfl) (fun _ _ _ h => h) (.inl ⟨by kernel_rfl, fun wz hz => by apply runs_assign <;> rfl⟩) ?_
              (try simp only [Act.put, List.setIfInBounds_toArray, List.set_cons_zero, List.set_cons_succ])
              refine anyC_done (by kernel_rfl) z ?_ _
              go_wp2
              cases F2 with
              | true =>
                refine wp_region_any (by kernel_rfl) ?_
                refine any_of_C (C := Below wr.heap.size wr) _ _ _ _ ?_
                replace z := z.drew
                refine anyC_take (i := 0) (oi := ⟨_, _, _, _, _, _⟩) (v := .bool true) rfl (by kernel_rfl) (by kernel_rfl) (by kernel_rfl) (fun _ _ _ h => h) (.inl ⟨by kernel_rfl, fun wz hz => by apply runs_moveY <;> rfl⟩) ?_
                (try simp only [Act.put, List.setIfInBounds_toArray, List.set_cons_zero, List.set_cons_succ])
                refine anyC_take (i := 1) (oi := ⟨_, _, _, _, _, _⟩) (v := .bool true) rfl (by kernel_rfl) (by kernel_rfl) (by kernel_rfl) (fun _ _ _ h => h) (.inl ⟨by kernel_rfl, fun wz hz => by apply runs_moveY <;> rfl⟩) ?_
                (try simp only [Act.put, List.setIfInBounds_toArray, List.set_cons_zero, List.set_cons_succ])
                refine anyC_take (i := 2) (oi := ⟨_, _, _, _, _, _⟩) (v := undef) rfl (by kernel_rfl) (by kernel_rfl) (by kernel_rfl) (fun _ _ _ h => h) (.inr ⟨by kernel_rfl, rfl⟩) ?_
                (try simp only [Act.put, List.setIfInBounds_toArray, List.set_cons_zero, List.set_cons_succ])
                refine anyC_take (i := 3) (oi := ⟨_, _, _, _, _, _⟩) (v := undef) rfl (by kernel_rfl) (by kernel_rfl) (by kernel_rfl) (fun _ _ _ h => h) (.inr ⟨by kernel_rfl, rfl⟩) ?_
                (try simp only [Act.put, List.setIfInBounds_toArray, List.set_cons_zero, List.set_cons_succ])
                refine anyC_take (i := 4) (oi := ⟨_, _, _, _, _, _⟩) (v := undef) rfl (by kernel_rfl) (by kernel_rfl) (by kernel_rfl) (fun _ _ _ h => h) (.inr ⟨by kernel_rfl, rfl⟩) ?_
                (try simp only [Act.put, List.setIfInBounds_toArray, List.set_cons_zero, List.set_cons_succ])
                refine anyC_take (i := 5) (oi := ⟨_, _, _, _, _, _⟩) (v := undef) rfl (by kernel_rfl) (by kernel_rfl) (by kernel_rfl) (fun _ _ _ h => h) (.inr ⟨by kernel_rfl, rfl⟩) ?_
                (try simp only [Act.put, List.setIfInBounds_toArray, List.set_cons_zero, List.set_cons_succ])
                refine anyC_take (i := 6) (oi := ⟨_, _, _, _, _, _⟩) (v := undef) rfl (by kernel_rfl) (by kernel_rfl) (by kernel_rfl) (fun _ _ _ h => h) (.inr ⟨by kernel_rfl, rfl⟩) ?_
                (try simp only [Act.put, List.setIfInBounds_toArray, List.set_cons_zero, List.set_cons_succ])
                refine anyC_take (i := 7) (oi := ⟨_, _, _, _, _, _⟩) (v := undef) rfl (by kernel_rfl) (by kernel_rfl) (by kernel_rfl) (fun _ _ _ h => h) (.inr ⟨by kernel_rfl, rfl⟩) ?_
                (try simp only [Act.put, List.setIfInBounds_toArray, List.set_cons_zero, List.set_cons_succ])
                refine anyC_take (i := 8) (oi := ⟨_, _, _, _, _, _⟩) (v := .bool true) rfl (by kernel_rfl) (by kernel_rfl) (by kernel_rfl) (fun _ _ _ h => h) (.inl ⟨by kernel_rfl, fun wz hz => by go_simp⟩) ?_
                (try simp only [Act.put, List.setIfInBounds_toArray, List.set_cons_zero, List.set_cons_succ])
                refine anyC_take (i := 9) (oi := ⟨_, _, _, _, _, _⟩) (v := .bool true) rfl (by kernel_rfl) (by kernel_rfl) (by kernel_rfl) (fun _ _ _ h => h) (.inl ⟨by kernel_rfl, fun wz hz => by apply runs_assign <;> rfl⟩) ?_
                (try simp only [Act.put, List.setIfInBounds_toArray, List.set_cons_zero, List.set_cons_succ])
                refine anyC_done (by kernel_rfl) z ?_ _
                go_wp2
                go_roundw
                case rel => exact ⟨i + 1, by omega, by omega, rfl, by rw [HFS.out, HA1.out]; first | rfl | simp, by rw [HFS.out, HA2.out]; first | rfl | simp, HREL.out _ z⟩
                case measure => simp [intOf]; omega
              | false =>
                cases V2 with
                | true =>
                  refine wp_region_any (by kernel_rfl) ?_
                  refine any_of_C (C := Below wr.heap.size wr) _ _ _ _ ?_
                  replace z := z.drew
                  refine anyC_take (i := 0) (oi := ⟨_, _, _, _, _, _⟩) (v := .bool false) rfl (by kernel_rfl) (by kernel_rfl) (by kernel_rfl) (fun _ _ _ h => h) (.inl ⟨by kernel_rfl, fun wz hz => by apply runs_moveY <;> rfl⟩) ?_
                  (try simp only [Act.put, List.setIfInBounds_toArray, List.set_cons_zero, List.set_cons_succ])
                  refine anyC_take (i := 1) (oi := ⟨_, _, _, _, _, _⟩) (v := .bool false) rfl (by kernel_rfl) (by kernel_rfl) (by kernel_rfl) (fun _ _ _ h => h) (.inl ⟨by kernel_rfl, fun wz hz => by apply runs_moveY <;> rfl⟩) ?_
                  (try simp only [Act.put, List.setIfInBounds_toArray, List.set_cons_zero, List.set_cons_succ])
                  refine anyC_take (i := 2) (oi := ⟨_, _, _, _, _, _⟩) (v := .slice (some ⟨G, 0, none⟩) U.length gc) rfl (by kernel_rfl) (by kernel_rfl) (by kernel_rfl) (fun _ _ _ h => h) (.inl ⟨by kernel_rfl, fun wz hz => by apply runs_moveY <;> rfl⟩) ?_
                  (try simp only [Act.put, List.setIfInBounds_toArray, List.set_cons_zero, List.set_cons_succ])
                  refine anyC_take (i := 3) (oi := ⟨_, _, _, _, _, _⟩) (v := .int .i64 i) rfl (by kernel_rfl) (by kernel_rfl) (by kernel_rfl) (fun _ _ _ h => h) (.inl ⟨by kernel_rfl, fun wz hz => by apply runs_moveY <;> rfl⟩) ?_
                  (try simp only [Act.put, List.setIfInBounds_toArray, List.set_cons_zero, List.set_cons_succ])
                  refine anyC_take (i := 4) (oi := ⟨_, _, _, _, _, _⟩) (v := .pointer (some ⟨G, i.toNat * 2, none⟩)) rfl (by kernel_rfl) (by kernel_rfl) (by kernel_rfl) (fun _ _ _ h => h) (.inl ⟨by kernel_rfl, fun wz hz => by go_simp⟩) ?_
                  (try simp only [Act.put, List.setIfInBounds_toArray, List.set_cons_zero, List.set_cons_succ])
                  refine anyC_take (i := 5) (oi := ⟨_, _, _, _, _, _⟩) (v := .agg #[.slice ea L.length eca, .slice eb T.length ecb]) rfl (by kernel_rfl) (by kernel_rfl) (by kernel_rfl) (fun _ _ _ h => h) (.inl ⟨by kernel_rfl, fun wz hz => runs_load_midC (C := Below wr.heap.size wr) 38 _ rfl G (i.toNat * 2) rfl #[.slice ea L.length eca, .slice eb T.length ecb] _ (fun w hw => KM.out _ hw) Try.underlying38 rfl (size_Alg _ _) wz hz⟩) ?_
                  (try simp only [Act.put, List.setIfInBounds_toArray, List.set_cons_zero, List.set_cons_succ])
                  refine anyC_take (i := 6) (oi := ⟨_, _, _, _, _, _⟩) (v := .agg #[.slice ahM L.length chM, .slice bhM S2.length dhM]) rfl (by kernel_rfl) (by kernel_rfl) (by kernel_rfl) (fun _ _ _ h => h) (.inl ⟨by kernel_rfl, fun wz hz => runs_load (C := Below wr.heap.size wr) 38 _ rfl hKb rfl _ _ _ _ (fun w hw => KKwr.out _ hw) Try.underlying38 rfl (size_Alg _ _) wz hz⟩) ?_
                  (try simp only [Act.put, List.setIfInBounds_toArray, List.set_cons_zero, List.set_cons_succ])
                  refine anyC_call (i := 7) (o := ⟨_, _, _, _, _, _⟩) (f := 24) (args := #[.agg #[.slice ea L.length eca, .slice eb T.length ecb], .agg #[.slice ahM L.length chM, .slice bhM S2.length dhM]]) rfl (by kernel_rfl) (by kernel_rfl) (by apply runs_call2 (he := enters_of Try.func24 (by kernel_rfl) rfl) <;> rfl) z ?_
                  refine (C6.out _ z).mono ?_
                  rintro e wz ⟨rfl, hb⟩
                  replace z := z.trans (hb.mono z.size)
                  refine ⟨_, rfl, ?_⟩
                  (try simp only [Act.put, List.setIfInBounds_toArray, List.set_cons_zero, List.set_cons_succ])
                  refine anyC_take (i := 8) (oi := ⟨_, _, _, _, _, _⟩) (v := .bool true) rfl (by kernel_rfl) (by kernel_rfl) (by kernel_rfl) (fun _ _ _ h => h) (.inl ⟨by kernel_rfl, fun wz hz => by go_simp⟩) ?_
                  (try simp only [Act.put, List.setIfInBounds_toArray, List.set_cons_zero, List.set_cons_succ])
                  refine anyC_take (i := 9) (oi := ⟨_, _, _, _, _, _⟩) (v := .bool true) rfl (by kernel_rfl) (by kernel_rfl) (by kernel_rfl) (fun _ _ _ h => h) (.inl ⟨by kernel_rfl, fun wz hz => by apply runs_assign <;> rfl⟩) ?_
                  (try simp only [Act.put, List.setIfInBounds_toArray, List.set_cons_zero, List.set_cons_succ])
                  refine anyC_done (by kernel_rfl) z ?_ _
                  go_wp2
                  go_roundw
                  case rel => exact ⟨i + 1, by omega, by omega, rfl, by rw [HFS.out, HA1.out]; first | rfl | simp, by rw [HFS.out, HA2.out]; first | rfl | simp, HREL.out _ z⟩
                  case measure => simp [intOf]; omega
                | false =>
                  refine wp_region_any (by kernel_rfl) ?_
                  refine any_of_C (C := Below wr.heap.size wr) _ _ _ _ ?_
                  replace z := z.drew
                  refine anyC_take (i := 0) (oi := ⟨_, _, _, _, _, _⟩) (v := .bool false) rfl (by kernel_rfl) (by kernel_rfl) (by kernel_rfl) (fun _ _ _ h => h) (.inl ⟨by kernel_rfl, fun wz hz => by apply runs_moveY <;> rfl⟩) ?_
                  (try simp only [Act.put, List.setIfInBounds_toArray, List.set_cons_zero, List.set_cons_succ])
                  refine anyC_take (i := 1) (oi := ⟨_, _, _, _, _, _⟩) (v := .bool false) rfl (by kernel_rfl) (by kernel_rfl) (by kernel_rfl) (fun _ _ _ h => h) (.inl ⟨by kernel_rfl, fun wz hz => by apply runs_moveY <;> rfl⟩) ?_
                  (try simp only [Act.put, List.setIfInBounds_toArray, List.set_cons_zero, List.set_cons_succ])
                  refine anyC_take (i := 2) (oi := ⟨_, _, _, _, _, _⟩) (v := .slice (some ⟨G, 0, none⟩) U.length gc) rfl (by kernel_rfl) (by kernel_rfl) (by kernel_rfl) (fun _ _ _ h => h) (.inl ⟨by kernel_rfl, fun wz hz => by apply runs_moveY <;> rfl⟩) ?_
                  (try simp only [Act.put, List.setIfInBounds_toArray, List.set_cons_zero, List.set_cons_succ])
                  refine anyC_take (i := 3) (oi := ⟨_, _, _, _, _, _⟩) (v := .int .i64 i) rfl (by kernel_rfl) (by kernel_rfl) (by kernel_rfl) (fun _ _ _ h => h) (.inl ⟨by kernel_rfl, fun wz hz => by apply runs_moveY <;> rfl⟩) ?_
                  (try simp only [Act.put, List.setIfInBounds_toArray, List.set_cons_zero, List.set_cons_succ])
                  refine anyC_take (i := 4) (oi := ⟨_, _, _, _, _, _⟩) (v := .pointer (some ⟨G, i.toNat * 2, none⟩)) rfl (by kernel_rfl) (by kernel_rfl) (by kernel_rfl) (fun _ _ _ h => h) (.inl ⟨by kernel_rfl, fun wz hz => by go_simp⟩) ?_
                  (try simp only [Act.put, List.setIfInBounds_toArray, List.set_cons_zero, List.set_cons_succ])
                  refine anyC_take (i := 5) (oi := ⟨_, _, _, _, _, _⟩) (v := .agg #[.slice ea L.length eca, .slice eb T.length ecb]) rfl (by kernel_rfl) (by kernel_rfl) (by kernel_rfl) (fun _ _ _ h => h) (.inl ⟨by kernel_rfl, fun wz hz => runs_load_midC (C := Below wr.heap.size wr) 38 _ rfl G (i.toNat * 2) rfl #[.slice ea L.length eca, .slice eb T.length ecb] _ (fun w hw => KM.out _ hw) Try.underlying38 rfl (size_Alg _ _) wz hz⟩) ?_
                  (try simp only [Act.put, List.setIfInBounds_toArray, List.set_cons_zero, List.set_cons_succ])
                  refine anyC_take (i := 6) (oi := ⟨_, _, _, _, _, _⟩) (v := .agg #[.slice ahM L.length chM, .slice bhM S2.length dhM]) rfl (by kernel_rfl) (by kernel_rfl) (by kernel_rfl) (fun _ _ _ h => h) (.inl ⟨by kernel_rfl, fun wz hz => runs_load (C := Below wr.heap.size wr) 38 _ rfl hKb rfl _ _ _ _ (fun w hw => KKwr.out _ hw) Try.underlying38 rfl (size_Alg _ _) wz hz⟩) ?_
                  (try simp only [Act.put, List.setIfInBounds_toArray, List.set_cons_zero, List.set_cons_succ])
                  refine anyC_call (i := 7) (o := ⟨_, _, _, _, _, _⟩) (f := 24) (args := #[.agg #[.slice ea L.length eca, .slice eb T.length ecb], .agg #[.slice ahM L.length chM, .slice bhM S2.length dhM]]) rfl (by kernel_rfl) (by kernel_rfl) (by apply runs_call2 (he := enters_of Try.func24 (by kernel_rfl) rfl) <;> rfl) z ?_
                  refine (C6.out _ z).mono ?_
                  rintro e wz ⟨rfl, hb⟩
                  replace z := z.trans (hb.mono z.size)
                  refine ⟨_, rfl, ?_⟩
                  (try simp only [Act.put, List.setIfInBounds_toArray, List.set_cons_zero, List.set_cons_succ])
                  refine anyC_take (i := 8) (oi := ⟨_, _, _, _, _, _⟩) (v := .bool false) rfl (by kernel_rfl) (by kernel_rfl) (by kernel_rfl) (fun _ _ _ h => h) (.inl ⟨by kernel_rfl, fun wz hz => by go_simp⟩) ?_
                  (try simp only [Act.put, List.setIfInBounds_toArray, List.set_cons_zero, List.set_cons_succ])
                  refine anyC_take (i := 9) (oi := ⟨_, _, _, _, _, _⟩) (v := .bool false) rfl (by kernel_rfl) (by kernel_rfl) (by kernel_rfl) (fun _ _ _ h => h) (.inl ⟨by kernel_rfl, fun wz hz => by apply runs_assign <;> rfl⟩) ?_
                  (try simp only [Act.put, List.setIfInBounds_toArray, List.set_cons_zero, List.set_cons_succ])
                  refine anyC_done (by kernel_rfl) z ?_ _
                  go_wp2
                  go_roundw
                  case rel => exact ⟨i + 1, by omega, by omega, rfl, by rw [HFS.out, HA1.out]; first | rfl | simp, by rw [HFS.out, HA2.out]; first | rfl | simp, HREL.out _ z⟩
                  case measure => simp [intOf]; omega
      · have e : i.toNat = U.length := by omega
        rw [e, HF.out.1, HF.out.2]
        go_wp2
        go_ret
        exact ⟨rfl, FIN.out _ hbr⟩
end Go.Proofs.Ytdjhnbofnmhpaaa
