import Derived.Test.YtadcbofcohdmhaaST0
import Derived.Test.YtadcbofcohdmhaaKG6
import Derived.Test.YtadcbofcohdmhaaP5
import Derived.Test.YtadcbofcohdmhaaP7
import Derived.Test.YtadcbofcohdmhaaFAH
import Derived.Test.YtadcbofcohdmhaaSL0
import Derived.Test.YtadcbofcohdmhaaW4
namespace Go.Proofs.Ytadcbofcohdmhaa
open Go.RowKit
set_option linter.unusedVariables false

theorem runs_moveY {P : Program} {o : Oper} {a : Act} (x : Operand) (ho : o.op = .move x) (v : Value) (hx : a.eval x = v) (w : World) : (execOp a.eval o).run P w = .ok (.value v) w := by
  subst hx
  unfold execOp
  simp [ho]
set_option maxRecDepth 100000 in
set_option maxHeartbeats 64000000 in
/-- laws.FnStackAlgebras -/
theorem lawPStackAlgebras (a0 : Option Addr) (len0 cap0 : Nat) (w : World) (hy : RdY w a0 len0 w.heap.size) (hc : len0 ≤ cap0) (hm : len0 ≤ maxLen) :
    Calls Try.prog 3 #[.slice a0 len0 cap0] w fun e w' => e = .returned (.bool true) ∧ Below w.heap.size w w' := by
  by_cases hbig : 1048576 < len0
  · have hbig2 : (1048576 : Int) < len0 := by omega
    go_enter Try.func3, Try.ntmps3
    go_wp2
    go_ret
    exact ⟨rfl, Below.refl _ _⟩
  · have hs : len0 ≤ 1048576 := by omega
    have hs2 : ¬ (1048576 : Int) < len0 := by omega
    go_enter Try.func3, Try.ntmps3
    go_wp2_with fail
    refine (drawStackAlgebras_any a0 len0 cap0 w hy hc hs).mono ?_
    rintro e wz ⟨L, T, ahD, chD, bhD, dhD, M, U, ahE, chE, bhE, dhE, rfl, hP, hP2, hr, hT, hr2, hT2, hb0⟩
    have _ := hm
    clear hs hs2 hbig hy hm hc
    obtain ⟨l1, l7, _, _⟩ := someP_len hP
    obtain ⟨m1, m7, _, _⟩ := someP_len hP2
    obtain ⟨wv, hwv⟩ : ∃ wv, wv = (wz.alloc (.cells #[.slice none 0 0, .slice none 0 0] 26)).alloc (.cells #[.slice none 0 0, .slice none 0 0] 26) := ⟨_, rfl⟩
    obtain ⟨wy, hwy⟩ : ∃ wy, wy = (wv.setRow wz.heap.size #[.slice ahD L.length chD, .slice bhD T.length dhD]).setRow (wz.heap.size + 1) #[.slice ahE M.length chE, .slice bhE U.length dhE] := ⟨_, rfl⟩
    have hZ1 : wv.heap[wz.heap.size]? = some (.cells #[.slice none 0 0, .slice none 0 0] 26 (0, 0)) := by rw [hwv, Below.heap_alloc _ _ _ (by simp)]; exact heap_alloc_new wz _
    have hZ2 : (wv.setRow wz.heap.size #[.slice ahD L.length chD, .slice bhD T.length dhD]).heap[wz.heap.size + 1]? = some (.cells #[.slice none 0 0, .slice none 0 0] 26 (0, 0)) := (setRow_other _ _ _ _ (by omega)).trans (by rw [hwv]; exact heap_alloc2_new _ _ _)
    have hbv : Below wz.heap.size wz wv := by rw [hwv]; exact ((Below.refl _ _).alloc (Nat.le_refl _) _).alloc (by simp) _
    have hby : Below wz.heap.size wz wy := by rw [hwy]; exact below_setRow' (below_setRow' hbv (Nat.le_refl _) _) (by omega) _
    have hS : SA w ahD bhD L T wy := ⟨hb0.trans (hby.mono hb0.size), hr.below hby, hT.below hby⟩
    have hQ : SA w ahE bhE M U wy := ⟨hS.1, hr2.below hby, hT2.below hby⟩
    obtain ⟨hDb, hhDb⟩ : ∃ b, b = wz.heap.size := ⟨_, rfl⟩
    obtain ⟨hEb, hhEb⟩ : ∃ b, b = wz.heap.size + 1 := ⟨_, rfl⟩
    have hD : Bx w hDb (.slice ahD L.length chD) (.slice bhD T.length dhD) wy := ⟨by rw [hhDb]; exact hb0.size, by rw [hwy, hhDb]; exact (setRow_other _ _ _ _ (by omega)).trans (setRow_heap _ _ _ _ _ _ hZ1)⟩
    have hE : Bx w hEb (.slice ahE M.length chE) (.slice bhE U.length dhE) wy := ⟨by rw [hhEb]; have := hb0.size; omega, by rw [hwy, hhEb]; exact setRow_heap _ _ _ _ _ _ hZ2⟩
    have cD0 := hD.cells.1
    have cE0 := hE.cells.1
    have hti := st_ti L T M U
    obtain ⟨VL, hVLe⟩ : ∃ V, V = stL L T M U := ⟨_, rfl⟩
    obtain ⟨VT, hVTe⟩ : ∃ V, V = stT L T M U := ⟨_, rfl⟩
    obtain ⟨V, hVe⟩ : ∃ V, V = stOk L T M U := ⟨_, rfl⟩
    have HI := Lib.hid (show ∀ (w : World), Rd w ahD L → RdT w bhD T → Rd w ahE M → RdT w bhE U → Calls Try.prog 5 #[.agg #[.slice ahD L.length chD, .slice bhD T.length dhD], .agg #[.slice ahE M.length chE, .slice bhE U.length dhE]] w (RetR VL VT V w) from fun w h1 h2 h3 h4 => by rw [hVLe, hVTe, hVe]; exact (implStackAlgebras_any _ _ _ _ L T _ _ _ _ M U w h1 h2 h3 h4).mono fun _ _ h => h.r)
    have HP := Lib.hid (show ∀ (w : World), Rd w ahD L → RdT w bhD T → Rd w ahE M → RdT w bhE U → Calls Try.prog 6 #[.agg #[.slice ahD L.length chD, .slice bhD T.length dhD], .agg #[.slice ahE M.length chE, .slice bhE U.length dhE]] w (RetR VL VT V w) from fun w h1 h2 h3 h4 => by rw [hVLe, hVTe, hVe]; exact (specStackAlgebras_any _ _ _ _ L T _ _ _ _ M U w h1 h2 h3 h4).mono fun _ _ h => h.r)
    rw [← hVLe, ← hVTe] at hti
    have hVL : VL.length ≤ 1073741824 := by have := hti.1; omega
    have hVT : VT.length ≤ 1073741824 := by have := hti.2.1; omega
    have HR := Lib.hid (show ∀ j : Nat, j < VT.length → (rowAt VT j).length ≤ 1073741824 from fun j hj => by have := hti.2.2 j hj; omega)
    have hv6 := hti.1
    clear hb0 hr hT hr2 hT2 hby hbv hti
    cases hok : stOk L T M U with
    | false =>
      rw [hok] at hVe
      subst hVe
      clear hVLe hVTe hok hP hP2
      go_wp2_with (first
        | go_skip
        | (go_at_call 5; refine (HI.out _ hS.2.1 hS.2.2 hQ.2.1 hQ.2.2).mono ?_; rintro e wz ⟨ahA, chA, bhA, dhA, rfl, r1, r2, hb⟩; (try replace hS := hS.next hb); (try replace hQ := hQ.next hb); (try replace hA := hA.next hb); (try replace hW := hW.next hb); (try replace hD := hD.next hb); (try replace hE := hE.next hb); (try replace hG := hG.next hb); (try replace hK := hK.next hb); (try have cD0 := hD.cells.1); (try have cE0 := hE.cells.1); (try have cG0 := hG.cells.1); have hA : SA w ahA bhA VL VT wz := ⟨hS.1, r1, r2⟩; clear r1 r2)
        | (go_at_call 6; refine (HP.out _ hS.2.1 hS.2.2 hQ.2.1 hQ.2.2).mono ?_; rintro e wz ⟨ahW, chW, bhW, dhW, rfl, r1, r2, hb⟩; (try replace hS := hS.next hb); (try replace hQ := hQ.next hb); (try replace hA := hA.next hb); (try replace hW := hW.next hb); (try replace hD := hD.next hb); (try replace hE := hE.next hb); (try replace hG := hG.next hb); (try replace hK := hK.next hb); (try have cD0 := hD.cells.1); (try have cE0 := hE.cells.1); (try have cG0 := hG.cells.1); have hW : SA w ahW bhW VL VT wz := ⟨hS.1, r1, r2⟩; clear r1 r2)
        | (rw [← hwv]; clear hwv)
        | (rw [← hwy, ← hhEb, ← hhDb]; clear hwy hhEb hhDb)
        | (refine wpList_store_row rfl 26 _ _ rfl wz.heap.size #[.slice ahD L.length chD, .slice bhD T.length dhD] rfl rfl _ _ hZ1 (size_Alg _ _) rfl (one_sl2 _ _ _ _ _ _) ?_)
        | (refine wpList_store_row rfl 26 _ _ rfl (wz.heap.size + 1) #[.slice ahE M.length chE, .slice bhE U.length dhE] rfl rfl _ _ hZ2 (size_Alg _ _) rfl (one_sl2 _ _ _ _ _ _) ?_)
        | (refine wpList_store_row rfl 26 _ _ rfl wz.heap.size #[.slice ahW VL.length chW, .slice bhW VT.length dhW] rfl rfl _ _ (heap_alloc_new wz (.cells #[.slice none 0 0, .slice none 0 0] 26)) (size_Alg _ _) rfl (one_sl2 _ _ _ _ _ _) ?_; rw [World.setRow_alloc_new]; obtain ⟨hKb, hhKb⟩ : ∃ b, b = wz.heap.size := ⟨_, rfl⟩; obtain ⟨wy, hwy⟩ : ∃ wy, wy = wz.alloc (.cells #[.slice ahW VL.length chW, .slice bhW VT.length dhW] 26) := ⟨_, rfl⟩; rw [← hwy, ← hhKb]; have hb : Below wz.heap.size wz wy := (by rw [hwy]; exact (Below.refl _ _).alloc (Nat.le_refl _) _); have hK0 : wy.heap[hKb]? = some (.cells #[.slice ahW VL.length chW, .slice bhW VT.length dhW] 26 (0, 0)) := (by rw [hwy, hhKb]; exact heap_alloc_new wz _); have hK1 := hS.1.size; (try replace hS := hS.next hb); (try replace hQ := hQ.next hb); (try replace hA := hA.next hb); (try replace hW := hW.next hb); (try replace hD := hD.next hb); (try replace hE := hE.next hb); (try replace hG := hG.next hb); (try replace hK := hK.next hb); (try have cD0 := hD.cells.1); (try have cE0 := hE.cells.1); (try have cG0 := hG.cells.1); have hK : Bx w hKb (.slice ahW VL.length chW) (.slice bhW VT.length dhW) wy := ⟨(by rw [hhKb]; exact hK1), hK0⟩; clear hwy hhKb hK0 hK1)
        | (refine wpList_store_row rfl 26 _ _ rfl wz.heap.size #[.slice ahA VL.length chA, .slice bhA VT.length dhA] rfl rfl _ _ (heap_alloc_new wz (.cells #[.slice none 0 0, .slice none 0 0] 26)) (size_Alg _ _) rfl (one_sl2 _ _ _ _ _ _) ?_; rw [World.setRow_alloc_new]; obtain ⟨hGb, hhGb⟩ : ∃ b, b = wz.heap.size := ⟨_, rfl⟩; obtain ⟨wy, hwy⟩ : ∃ wy, wy = wz.alloc (.cells #[.slice ahA VL.length chA, .slice bhA VT.length dhA] 26) := ⟨_, rfl⟩; rw [← hwy, ← hhGb]; have hb : Below wz.heap.size wz wy := (by rw [hwy]; exact (Below.refl _ _).alloc (Nat.le_refl _) _); have hG0 : wy.heap[hGb]? = some (.cells #[.slice ahA VL.length chA, .slice bhA VT.length dhA] 26 (0, 0)) := (by rw [hwy, hhGb]; exact heap_alloc_new wz _); have hG1 := hS.1.size; (try replace hS := hS.next hb); (try replace hQ := hQ.next hb); (try replace hA := hA.next hb); (try replace hW := hW.next hb); (try replace hD := hD.next hb); (try replace hE := hE.next hb); (try replace hG := hG.next hb); (try replace hK := hK.next hb); (try have cD0 := hD.cells.1); (try have cE0 := hE.cells.1); (try have cG0 := hG.cells.1); have hG : Bx w hGb (.slice ahA VL.length chA) (.slice bhA VT.length dhA) wy := ⟨(by rw [hhGb]; exact hG1), hG0⟩; clear hwy hhGb hG0 hG1)
        | (refine wpList_load_row_w rfl 26 _ rfl hDb rfl _ _ _ _ hD.2 Try.underlying26 rfl (size_Alg _ _) ?_)
        | (refine wpList_load_row_w rfl 26 _ rfl hEb rfl _ _ _ _ hE.2 Try.underlying26 rfl (size_Alg _ _) ?_)
        | (refine wpList_load_row_w rfl 26 _ rfl hGb rfl _ _ _ _ hG.2 Try.underlying26 rfl (size_Alg _ _) ?_)
        | (refine wpList_load_row_w rfl 26 _ rfl hKb rfl _ _ _ _ hK.2 Try.underlying26 rfl (size_Alg _ _) ?_)
        | (go_at_call 7; refine (equalAlgebra_same _ _ _ _ _ _ _ _ VL VT _ hA.2.1 hW.2.1 hA.2.2 hW.2.2 hVL HR.out hVT).mono ?_; rintro e wz ⟨rfl, hb⟩; (try replace hS := hS.next hb); (try replace hQ := hQ.next hb); (try replace hA := hA.next hb); (try replace hW := hW.next hb); (try replace hD := hD.next hb); (try replace hE := hE.next hb); (try replace hG := hG.next hb); (try replace hK := hK.next hb); (try have cD0 := hD.cells.1); (try have cE0 := hE.cells.1); (try have cG0 := hG.cells.1)))
      go_ret
      exact ⟨rfl, hS.1⟩
    | true =>
      have hq := sg_st hP hP2 hok
      have hk := hok
      unfold stOk at hk
      rw [Bool.and_eq_true, Bool.and_eq_true] at hk
      obtain ⟨ha1, ha2, _⟩ := hk
      unfold sgSt1 at hq
      rw [← hVLe, ← hVTe] at hq
      simp only [Bool.and_eq_true, Bool.or_eq_true, beq_iff_eq] at hq
      obtain ⟨⟨ha0, e2⟩, e3, e4, e5⟩ := hq
      rw [hok] at hVe
      subst hVe
      have e2' : ((VL.length : Int) == (L.length : Int) + M.length - 1) = true := by rw [beq_iff_eq]; exact e2
      have kw1 : IntKind.i64.wrap ((L.length : Int) + M.length) = (L.length : Int) + M.length := IntWalk.i64_in _ (by omega)
      have kw2 : IntKind.i64.wrap ((L.length : Int) + M.length - 1) = (L.length : Int) + M.length - 1 := IntWalk.i64_in _ (by omega)
      obtain ⟨D0, d0⟩ : ∃ q, q = hasB 1 VL VT := ⟨_, rfl⟩
      obtain ⟨D1, d1⟩ : ∃ q, q = hasB 1 L T := ⟨_, rfl⟩
      obtain ⟨D2, d2⟩ : ∃ q, q = hasB 1 M U := ⟨_, rfl⟩
      obtain ⟨I0, j0⟩ : ∃ q, q = hasB 3 VL VT := ⟨_, rfl⟩
      obtain ⟨I1, j1⟩ : ∃ q, q = hasB 3 L T := ⟨_, rfl⟩
      obtain ⟨I2, j2⟩ : ∃ q, q = hasB 3 M U := ⟨_, rfl⟩
      obtain ⟨X0, x0⟩ : ∃ q, q = chainB VL := ⟨_, rfl⟩
      obtain ⟨X1, x1⟩ : ∃ q, q = chainB L := ⟨_, rfl⟩
      obtain ⟨X2, x2⟩ : ∃ q, q = chainB M := ⟨_, rfl⟩
      have C1 := Lib.hid (show ∀ (a b : Option Addr) (ca cb : Nat) (w : World), Rd w a VL → RdT w b VT → Calls Try.prog 8 #[.agg #[.slice a VL.length ca, .slice b VT.length cb]] w fun e w' => e = .returned (.bool true) ∧ Below w.heap.size w w' from fun a b ca cb w h1 h2 => ret_to (implValidAlgebra_any _ _ _ _ VL VT w h1 h2) (congrArg Value.bool ha0))
      have P0 := Lib.hid (show ∀ (a b : Option Addr) (ca cb : Nat) (w : World), Rd w a VL → RdT w b VT → Calls Try.prog 9 #[.string ⟨#[100, 105, 118, 105, 115, 105, 98, 108, 101]⟩, .agg #[.slice a VL.length ca, .slice b VT.length cb]] w fun e w' => e = .returned (.bool D0) ∧ Below w.heap.size w w' from fun a b ca cb w h1 h2 => ret_to (implHasProperty_any _ _ _ _ _ VL VT w h1 h2) (congrArg Value.bool ((hpB_1 ha0).trans d0.symm)))
      have P1 := Lib.hid (show ∀ (a b : Option Addr) (ca cb : Nat) (w : World), Rd w a L → RdT w b T → Calls Try.prog 9 #[.string ⟨#[100, 105, 118, 105, 115, 105, 98, 108, 101]⟩, .agg #[.slice a L.length ca, .slice b T.length cb]] w fun e w' => e = .returned (.bool D1) ∧ Below w.heap.size w w' from fun a b ca cb w h1 h2 => ret_to (implHasProperty_any _ _ _ _ _ L T w h1 h2) (congrArg Value.bool ((hpB_1 ha1).trans d1.symm)))
      have P2 := Lib.hid (show ∀ (a b : Option Addr) (ca cb : Nat) (w : World), Rd w a M → RdT w b U → Calls Try.prog 9 #[.string ⟨#[100, 105, 118, 105, 115, 105, 98, 108, 101]⟩, .agg #[.slice a M.length ca, .slice b U.length cb]] w fun e w' => e = .returned (.bool D2) ∧ Below w.heap.size w w' from fun a b ca cb w h1 h2 => ret_to (implHasProperty_any _ _ _ _ _ M U w h1 h2) (congrArg Value.bool ((hpB_1 ha2).trans d2.symm)))
      have Q0 := Lib.hid (show ∀ (a b : Option Addr) (ca cb : Nat) (w : World), Rd w a VL → RdT w b VT → Calls Try.prog 9 #[.string ⟨#[105, 100, 101, 109, 112, 111, 116, 101, 110, 116]⟩, .agg #[.slice a VL.length ca, .slice b VT.length cb]] w fun e w' => e = .returned (.bool I0) ∧ Below w.heap.size w w' from fun a b ca cb w h1 h2 => ret_to (implHasProperty_any _ _ _ _ _ VL VT w h1 h2) (congrArg Value.bool ((hpB_3 ha0).trans j0.symm)))
      have Q1 := Lib.hid (show ∀ (a b : Option Addr) (ca cb : Nat) (w : World), Rd w a L → RdT w b T → Calls Try.prog 9 #[.string ⟨#[105, 100, 101, 109, 112, 111, 116, 101, 110, 116]⟩, .agg #[.slice a L.length ca, .slice b T.length cb]] w fun e w' => e = .returned (.bool I1) ∧ Below w.heap.size w w' from fun a b ca cb w h1 h2 => ret_to (implHasProperty_any _ _ _ _ _ L T w h1 h2) (congrArg Value.bool ((hpB_3 ha1).trans j1.symm)))
      have Q2 := Lib.hid (show ∀ (a b : Option Addr) (ca cb : Nat) (w : World), Rd w a M → RdT w b U → Calls Try.prog 9 #[.string ⟨#[105, 100, 101, 109, 112, 111, 116, 101, 110, 116]⟩, .agg #[.slice a M.length ca, .slice b U.length cb]] w fun e w' => e = .returned (.bool I2) ∧ Below w.heap.size w w' from fun a b ca cb w h1 h2 => ret_to (implHasProperty_any _ _ _ _ _ M U w h1 h2) (congrArg Value.bool ((hpB_3 ha2).trans j2.symm)))
      have X0c := Lib.hid (show ∀ (a : Option Addr) (ca : Nat) (w : World), Rd w a VL → Calls Try.prog 10 #[.slice a VL.length ca] w fun e w' => e = .returned (.bool X0) ∧ Below w.heap.size w w' from fun a ca w h1 => ret_to (implIsChain_any _ _ VL w h1) (congrArg Value.bool (by rw [alg_lat ha0, Bool.true_and]; exact x0.symm)))
      have X1c := Lib.hid (show ∀ (a : Option Addr) (ca : Nat) (w : World), Rd w a L → Calls Try.prog 10 #[.slice a L.length ca] w fun e w' => e = .returned (.bool X1) ∧ Below w.heap.size w w' from fun a ca w h1 => ret_to (implIsChain_any _ _ L w h1) (congrArg Value.bool (by rw [alg_lat ha1, Bool.true_and]; exact x1.symm)))
      have X2c := Lib.hid (show ∀ (a : Option Addr) (ca : Nat) (w : World), Rd w a M → Calls Try.prog 10 #[.slice a M.length ca] w fun e w' => e = .returned (.bool X2) ∧ Below w.heap.size w w' from fun a ca w h1 => ret_to (implIsChain_any _ _ M w h1) (congrArg Value.bool (by rw [alg_lat ha2, Bool.true_and]; exact x2.symm)))
      rw [← d0, ← d1, ← d2] at e3
      rw [← j0, ← j1, ← j2] at e4
      rw [← x0, ← x1, ← x2] at e5
      have E3 := Lib.hid e3
      have E4 := Lib.hid e4
      have E5 := Lib.hid e5
      clear hVLe hVTe hok hP hP2 e2 e3 e4 e5 d0 d1 d2 j0 j1 j2 x0 x1 x2 ha0 ha1 ha2
      cases ho : ((L.length : Int) == 1)
      · skip
        go_wp2_with (first
        | go_skip
        | (go_at_call 5; refine (HI.out _ hS.2.1 hS.2.2 hQ.2.1 hQ.2.2).mono ?_; rintro e wz ⟨ahA, chA, bhA, dhA, rfl, r1, r2, hb⟩; (try replace hS := hS.next hb); (try replace hQ := hQ.next hb); (try replace hA := hA.next hb); (try replace hW := hW.next hb); (try replace hD := hD.next hb); (try replace hE := hE.next hb); (try replace hG := hG.next hb); (try replace hK := hK.next hb); (try have cD0 := hD.cells.1); (try have cE0 := hE.cells.1); (try have cG0 := hG.cells.1); have hA : SA w ahA bhA VL VT wz := ⟨hS.1, r1, r2⟩; clear r1 r2)
        | (go_at_call 6; refine (HP.out _ hS.2.1 hS.2.2 hQ.2.1 hQ.2.2).mono ?_; rintro e wz ⟨ahW, chW, bhW, dhW, rfl, r1, r2, hb⟩; (try replace hS := hS.next hb); (try replace hQ := hQ.next hb); (try replace hA := hA.next hb); (try replace hW := hW.next hb); (try replace hD := hD.next hb); (try replace hE := hE.next hb); (try replace hG := hG.next hb); (try replace hK := hK.next hb); (try have cD0 := hD.cells.1); (try have cE0 := hE.cells.1); (try have cG0 := hG.cells.1); have hW : SA w ahW bhW VL VT wz := ⟨hS.1, r1, r2⟩; clear r1 r2)
        | (rw [← hwv]; clear hwv)
        | (rw [← hwy, ← hhEb, ← hhDb]; clear hwy hhEb hhDb)
        | (refine wpList_store_row rfl 26 _ _ rfl wz.heap.size #[.slice ahD L.length chD, .slice bhD T.length dhD] rfl rfl _ _ hZ1 (size_Alg _ _) rfl (one_sl2 _ _ _ _ _ _) ?_)
        | (refine wpList_store_row rfl 26 _ _ rfl (wz.heap.size + 1) #[.slice ahE M.length chE, .slice bhE U.length dhE] rfl rfl _ _ hZ2 (size_Alg _ _) rfl (one_sl2 _ _ _ _ _ _) ?_)
        | (refine wpList_store_row rfl 26 _ _ rfl wz.heap.size #[.slice ahW VL.length chW, .slice bhW VT.length dhW] rfl rfl _ _ (heap_alloc_new wz (.cells #[.slice none 0 0, .slice none 0 0] 26)) (size_Alg _ _) rfl (one_sl2 _ _ _ _ _ _) ?_; rw [World.setRow_alloc_new]; obtain ⟨hKb, hhKb⟩ : ∃ b, b = wz.heap.size := ⟨_, rfl⟩; obtain ⟨wy, hwy⟩ : ∃ wy, wy = wz.alloc (.cells #[.slice ahW VL.length chW, .slice bhW VT.length dhW] 26) := ⟨_, rfl⟩; rw [← hwy, ← hhKb]; have hb : Below wz.heap.size wz wy := (by rw [hwy]; exact (Below.refl _ _).alloc (Nat.le_refl _) _); have hK0 : wy.heap[hKb]? = some (.cells #[.slice ahW VL.length chW, .slice bhW VT.length dhW] 26 (0, 0)) := (by rw [hwy, hhKb]; exact heap_alloc_new wz _); have hK1 := hS.1.size; (try replace hS := hS.next hb); (try replace hQ := hQ.next hb); (try replace hA := hA.next hb); (try replace hW := hW.next hb); (try replace hD := hD.next hb); (try replace hE := hE.next hb); (try replace hG := hG.next hb); (try replace hK := hK.next hb); (try have cD0 := hD.cells.1); (try have cE0 := hE.cells.1); (try have cG0 := hG.cells.1); have hK : Bx w hKb (.slice ahW VL.length chW) (.slice bhW VT.length dhW) wy := ⟨(by rw [hhKb]; exact hK1), hK0⟩; clear hwy hhKb hK0 hK1)
        | (refine wpList_store_row rfl 26 _ _ rfl wz.heap.size #[.slice ahA VL.length chA, .slice bhA VT.length dhA] rfl rfl _ _ (heap_alloc_new wz (.cells #[.slice none 0 0, .slice none 0 0] 26)) (size_Alg _ _) rfl (one_sl2 _ _ _ _ _ _) ?_; rw [World.setRow_alloc_new]; obtain ⟨hGb, hhGb⟩ : ∃ b, b = wz.heap.size := ⟨_, rfl⟩; obtain ⟨wy, hwy⟩ : ∃ wy, wy = wz.alloc (.cells #[.slice ahA VL.length chA, .slice bhA VT.length dhA] 26) := ⟨_, rfl⟩; rw [← hwy, ← hhGb]; have hb : Below wz.heap.size wz wy := (by rw [hwy]; exact (Below.refl _ _).alloc (Nat.le_refl _) _); have hG0 : wy.heap[hGb]? = some (.cells #[.slice ahA VL.length chA, .slice bhA VT.length dhA] 26 (0, 0)) := (by rw [hwy, hhGb]; exact heap_alloc_new wz _); have hG1 := hS.1.size; (try replace hS := hS.next hb); (try replace hQ := hQ.next hb); (try replace hA := hA.next hb); (try replace hW := hW.next hb); (try replace hD := hD.next hb); (try replace hE := hE.next hb); (try replace hG := hG.next hb); (try replace hK := hK.next hb); (try have cD0 := hD.cells.1); (try have cE0 := hE.cells.1); (try have cG0 := hG.cells.1); have hG : Bx w hGb (.slice ahA VL.length chA) (.slice bhA VT.length dhA) wy := ⟨(by rw [hhGb]; exact hG1), hG0⟩; clear hwy hhGb hG0 hG1)
        | (refine wpList_load_row_w rfl 26 _ rfl hDb rfl _ _ _ _ hD.2 Try.underlying26 rfl (size_Alg _ _) ?_)
        | (refine wpList_load_row_w rfl 26 _ rfl hEb rfl _ _ _ _ hE.2 Try.underlying26 rfl (size_Alg _ _) ?_)
        | (refine wpList_load_row_w rfl 26 _ rfl hGb rfl _ _ _ _ hG.2 Try.underlying26 rfl (size_Alg _ _) ?_)
        | (refine wpList_load_row_w rfl 26 _ rfl hKb rfl _ _ _ _ hK.2 Try.underlying26 rfl (size_Alg _ _) ?_)
        | (go_at_call 7; refine (equalAlgebra_same _ _ _ _ _ _ _ _ VL VT _ hA.2.1 hW.2.1 hA.2.2 hW.2.2 hVL HR.out hVT).mono ?_; rintro e wz ⟨rfl, hb⟩; (try replace hS := hS.next hb); (try replace hQ := hQ.next hb); (try replace hA := hA.next hb); (try replace hW := hW.next hb); (try replace hD := hD.next hb); (try replace hE := hE.next hb); (try replace hG := hG.next hb); (try replace hK := hK.next hb); (try have cD0 := hD.cells.1); (try have cE0 := hE.cells.1); (try have cG0 := hG.cells.1)))
        obtain ⟨w3, rfl⟩ : ∃ w3 : World, w3 = wz := ⟨_, rfl⟩
        clear cG0 cD0 cE0
        have HS3 := Lib.hid (show SA w ahD bhD L T w3 ∧ SA w ahE bhE M U w3 ∧ SA w ahA bhA VL VT w3 from ⟨hS, hQ, hA⟩)
        have HB3 := Lib.hid (show Bx w hDb (.slice ahD L.length chD) (.slice bhD T.length dhD) w3 ∧ Bx w hEb (.slice ahE M.length chE) (.slice bhE U.length dhE) w3 ∧ Bx w hGb (.slice ahA VL.length chA) (.slice bhA VT.length dhA) w3 from ⟨hD, hE, hG⟩)
        have RA_ := Lib.hid (show ∀ wz, Below w3.heap.size w3 wz → Rd wz ahD L ∧ RdT wz bhD T from fun wz hz => (HS3.out.1.next hz).2)
        have RB := Lib.hid (show ∀ wz, Below w3.heap.size w3 wz → Rd wz ahE M ∧ RdT wz bhE U from fun wz hz => (HS3.out.2.1.next hz).2)
        have RO := Lib.hid (show ∀ wz, Below w3.heap.size w3 wz → Rd wz ahA VL ∧ RdT wz bhA VT from fun wz hz => (HS3.out.2.2.next hz).2)
        have KD := Lib.hid (show ∀ wz, Below w3.heap.size w3 wz → wz.heap[hDb]? = some (.cells #[.slice ahD L.length chD, .slice bhD T.length dhD] 26 (0, 0)) from fun wz hz => (HB3.out.1.next hz).2)
        have KE := Lib.hid (show ∀ wz, Below w3.heap.size w3 wz → wz.heap[hEb]? = some (.cells #[.slice ahE M.length chE, .slice bhE U.length dhE] 26 (0, 0)) from fun wz hz => (HB3.out.2.1.next hz).2)
        have KG := Lib.hid (show ∀ wz, Below w3.heap.size w3 wz → wz.heap[hGb]? = some (.cells #[.slice ahA VL.length chA, .slice bhA VT.length dhA] 26 (0, 0)) from fun wz hz => (HB3.out.2.2.next hz).2)
        have FIN := Lib.hid (show ∀ wz, Below w3.heap.size w3 wz → Below w.heap.size w wz from fun wz hz => (HS3.out.1.next hz).1)
        have z : Below w3.heap.size w3 w3 := Below.refl _ _
        have KW1 := Lib.hid kw1
        have KW2 := Lib.hid kw2
        have KE2 := Lib.hid e2'
        have e4 := E4.out
        have e5 := E5.out
        have e3 := E3.out
        clear hS hQ hA hD hE hG HS3 HB3 kw1 kw2 e2' E3 E4 E5
        try clear hW hK
        try clear HI HP
        replace e3 := e3.resolve_left (by intro h; rw [h] at ho; simp at ho)
        cases I1
        · simp only [Bool.false_and] at e4
          subst e4
          cases X1
          · simp only [Bool.false_and] at e5
            subst e5
            cases D1
            · simp only [Bool.false_and] at e3
              subst e3
              refine wp_region_any (by kernel_rfl) ?_
              refine any_of_C (C := Below w3.heap.size w3) _ _ _ _ ?_
              replace z := z.drew
              refine anyC_take (i := 0) (oi := ⟨_, _, _, _, _, _⟩) (v := .agg #[.slice ahA VL.length chA, .slice bhA VT.length dhA]) rfl (by kernel_rfl) (by kernel_rfl) (by kernel_rfl) (fun _ _ _ h => h) (.inl ⟨by kernel_rfl, fun wz hz => runs_load (C := Below w3.heap.size w3) 26 _ rfl hGb rfl _ _ _ _ (fun w hw => KG.out _ hw) Try.underlying26 rfl (size_Alg _ _) wz hz⟩) ?_
              refine anyC_call (i := 1) (o := ⟨_, _, _, _, _, _⟩) (f := 8) (args := #[.agg #[.slice ahA VL.length chA, .slice bhA VT.length dhA]]) rfl (by kernel_rfl) (by kernel_rfl) (by apply runs_call1 (he := enters_of Try.func8 (by kernel_rfl) rfl) <;> rfl) z ?_
              refine (C1.out _ _ _ _ _ (RO.out _ z).1 (RO.out _ z).2).mono ?_
              rintro e wz ⟨rfl, hb⟩
              replace z := z.trans (hb.mono z.size)
              refine ⟨_, rfl, ?_⟩
              refine anyC_take (i := 2) (oi := ⟨_, _, _, _, _, _⟩) (v := .bool true) rfl (by kernel_rfl) (by kernel_rfl) (by kernel_rfl) (fun _ _ _ h => h) (.inl ⟨by kernel_rfl, fun wz hz => by apply runs_moveY <;> rfl⟩) ?_
              refine anyC_take (i := 3) (oi := ⟨_, _, _, _, _, _⟩) (v := .pointer (some ⟨hGb, 0, none⟩)) rfl (by kernel_rfl) (by kernel_rfl) (by kernel_rfl) (fun _ _ _ h => h) (.inl ⟨by kernel_rfl, fun wz hz => by go_simp⟩) ?_
              (try simp only [Act.put, List.setIfInBounds_toArray, List.set_cons_zero, List.set_cons_succ])
              refine anyC_take (i := 4) (oi := ⟨_, _, _, _, _, _⟩) (v := .slice ahA VL.length chA) rfl (by kernel_rfl) (by kernel_rfl) (by kernel_rfl) (fun _ _ _ h => h) (.inl ⟨by kernel_rfl, fun wz hz => by have c0 := (bx_cells (KG.out _ hz)).1; go_simp⟩) ?_
              refine anyC_take (i := 5) (oi := ⟨_, _, _, _, _, _⟩) (v := .int .i64 (VL.length : Int)) rfl (by kernel_rfl) (by kernel_rfl) (by kernel_rfl) (fun _ _ _ h => h) (.inl ⟨by kernel_rfl, fun wz hz => by go_simp⟩) ?_
              refine anyC_take (i := 6) (oi := ⟨_, _, _, _, _, _⟩) (v := .pointer (some ⟨hDb, 0, none⟩)) rfl (by kernel_rfl) (by kernel_rfl) (by kernel_rfl) (fun _ _ _ h => h) (.inl ⟨by kernel_rfl, fun wz hz => by go_simp⟩) ?_
              refine anyC_take (i := 7) (oi := ⟨_, _, _, _, _, _⟩) (v := .slice ahD L.length chD) rfl (by kernel_rfl) (by kernel_rfl) (by kernel_rfl) (fun _ _ _ h => h) (.inl ⟨by kernel_rfl, fun wz hz => by have c0 := (bx_cells (KD.out _ hz)).1; go_simp⟩) ?_
              (try simp only [Act.put, List.setIfInBounds_toArray, List.set_cons_zero, List.set_cons_succ])
              refine anyC_take (i := 8) (oi := ⟨_, _, _, _, _, _⟩) (v := .int .i64 (L.length : Int)) rfl (by kernel_rfl) (by kernel_rfl) (by kernel_rfl) (fun _ _ _ h => h) (.inl ⟨by kernel_rfl, fun wz hz => by go_simp⟩) ?_
              refine anyC_take (i := 9) (oi := ⟨_, _, _, _, _, _⟩) (v := .pointer (some ⟨hEb, 0, none⟩)) rfl (by kernel_rfl) (by kernel_rfl) (by kernel_rfl) (fun _ _ _ h => h) (.inl ⟨by kernel_rfl, fun wz hz => by go_simp⟩) ?_
              refine anyC_take (i := 10) (oi := ⟨_, _, _, _, _, _⟩) (v := .slice ahE M.length chE) rfl (by kernel_rfl) (by kernel_rfl) (by kernel_rfl) (fun _ _ _ h => h) (.inl ⟨by kernel_rfl, fun wz hz => by have c0 := (bx_cells (KE.out _ hz)).1; go_simp⟩) ?_
              refine anyC_take (i := 11) (oi := ⟨_, _, _, _, _, _⟩) (v := .int .i64 (M.length : Int)) rfl (by kernel_rfl) (by kernel_rfl) (by kernel_rfl) (fun _ _ _ h => h) (.inl ⟨by kernel_rfl, fun wz hz => by go_simp⟩) ?_
              (try simp only [Act.put, List.setIfInBounds_toArray, List.set_cons_zero, List.set_cons_succ])
              refine anyC_take (i := 12) (oi := ⟨_, _, _, _, _, _⟩) (v := .int .i64 ((L.length : Int) + M.length)) rfl (by kernel_rfl) (by kernel_rfl) (by kernel_rfl) (fun _ _ _ h => h) (.inl ⟨by kernel_rfl, fun wz hz => by have k1 := KW1.out; go_simp⟩) ?_
              refine anyC_take (i := 13) (oi := ⟨_, _, _, _, _, _⟩) (v := .int .i64 ((L.length : Int) + M.length - 1)) rfl (by kernel_rfl) (by kernel_rfl) (by kernel_rfl) (fun _ _ _ h => h) (.inl ⟨by kernel_rfl, fun wz hz => by have k2 := KW2.out; go_simp⟩) ?_
              refine anyC_take (i := 14) (oi := ⟨_, _, _, _, _, _⟩) (v := .bool true) rfl (by kernel_rfl) (by kernel_rfl) (by kernel_rfl) (fun _ _ _ h => h) (.inl ⟨by kernel_rfl, fun wz hz => by have k3 := KE2.out; go_simp⟩) ?_
              refine anyC_take (i := 15) (oi := ⟨_, _, _, _, _, _⟩) (v := .bool true) rfl (by kernel_rfl) (by kernel_rfl) (by kernel_rfl) (fun _ _ _ h => h) (.inl ⟨by kernel_rfl, fun wz hz => by go_simp⟩) ?_
              (try simp only [Act.put, List.setIfInBounds_toArray, List.set_cons_zero, List.set_cons_succ])
              refine anyC_take (i := 16) (oi := ⟨_, _, _, _, _, _⟩) (v := .bool true) rfl (by kernel_rfl) (by kernel_rfl) (by kernel_rfl) (fun _ _ _ h => h) (.inl ⟨by kernel_rfl, fun wz hz => by apply runs_moveY <;> rfl⟩) ?_
              refine anyC_take (i := 17) (oi := ⟨_, _, _, _, _, _⟩) (v := .bool false) rfl (by kernel_rfl) (by kernel_rfl) (by kernel_rfl) (fun _ _ _ h => h) (.inl ⟨by kernel_rfl, fun wz hz => by apply runs_moveY <;> rfl⟩) ?_
              refine anyC_take (i := 18) (oi := ⟨_, _, _, _, _, _⟩) (v := .bool false) rfl (by kernel_rfl) (by kernel_rfl) (by kernel_rfl) (fun _ _ _ h => h) (.inl ⟨by kernel_rfl, fun wz hz => by apply runs_moveY <;> rfl⟩) ?_
              refine anyC_take (i := 19) (oi := ⟨_, _, _, _, _, _⟩) (v := .agg #[.slice ahA VL.length chA, .slice bhA VT.length dhA]) rfl (by kernel_rfl) (by kernel_rfl) (by kernel_rfl) (fun _ _ _ h => h) (.inl ⟨by kernel_rfl, fun wz hz => runs_load (C := Below w3.heap.size w3) 26 _ rfl hGb rfl _ _ _ _ (fun w hw => KG.out _ hw) Try.underlying26 rfl (size_Alg _ _) wz hz⟩) ?_
              (try simp only [Act.put, List.setIfInBounds_toArray, List.set_cons_zero, List.set_cons_succ])
              refine anyC_take (i := 21) (oi := ⟨_, _, _, _, _, _⟩) (v := .agg #[.slice ahD L.length chD, .slice bhD T.length dhD]) rfl (by kernel_rfl) (by kernel_rfl) (by kernel_rfl) (fun _ _ _ h => h) (.inl ⟨by kernel_rfl, fun wz hz => runs_load (C := Below w3.heap.size w3) 26 _ rfl hDb rfl _ _ _ _ (fun w hw => KD.out _ hw) Try.underlying26 rfl (size_Alg _ _) wz hz⟩) ?_
              refine anyC_call (i := 20) (o := ⟨_, _, _, _, _, _⟩) (f := 9) (args := #[.string ⟨#[100, 105, 118, 105, 115, 105, 98, 108, 101]⟩, .agg #[.slice ahA VL.length chA, .slice bhA VT.length dhA]]) rfl (by kernel_rfl) (by kernel_rfl) (by apply runs_call2 (he := enters_of Try.func9 (by kernel_rfl) rfl) <;> rfl) z ?_
              refine (P0.out _ _ _ _ _ (RO.out _ z).1 (RO.out _ z).2).mono ?_
              rintro e wz ⟨rfl, hb⟩
              replace z := z.trans (hb.mono z.size)
              refine ⟨_, rfl, ?_⟩
              refine anyC_call (i := 22) (o := ⟨_, _, _, _, _, _⟩) (f := 9) (args := #[.string ⟨#[100, 105, 118, 105, 115, 105, 98, 108, 101]⟩, .agg #[.slice ahD L.length chD, .slice bhD T.length dhD]]) rfl (by kernel_rfl) (by kernel_rfl) (by apply runs_call2 (he := enters_of Try.func9 (by kernel_rfl) rfl) <;> rfl) z ?_
              refine (P1.out _ _ _ _ _ (RA_.out _ z).1 (RA_.out _ z).2).mono ?_
              rintro e wz ⟨rfl, hb⟩
              replace z := z.trans (hb.mono z.size)
              refine ⟨_, rfl, ?_⟩
              refine anyC_take (i := 23) (oi := ⟨_, _, _, _, _, _⟩) (v := .bool false) rfl (by kernel_rfl) (by kernel_rfl) (by kernel_rfl) (fun _ _ _ h => h) (.inl ⟨by kernel_rfl, fun wz hz => by apply runs_moveY <;> rfl⟩) ?_
              (try simp only [Act.put, List.setIfInBounds_toArray, List.set_cons_zero, List.set_cons_succ])
              refine anyC_take (i := 24) (oi := ⟨_, _, _, _, _, _⟩) (v := undef) rfl (by kernel_rfl) (by kernel_rfl) (by kernel_rfl) (fun _ _ _ h => h) (.inr ⟨by kernel_rfl, rfl⟩) ?_
              refine anyC_take (i := 25) (oi := ⟨_, _, _, _, _, _⟩) (v := undef) rfl (by kernel_rfl) (by kernel_rfl) (by kernel_rfl) (fun _ _ _ h => h) (.inr ⟨by kernel_rfl, rfl⟩) ?_
              refine anyC_take (i := 26) (oi := ⟨_, _, _, _, _, _⟩) (v := .bool false) rfl (by kernel_rfl) (by kernel_rfl) (by kernel_rfl) (fun _ _ _ h => h) (.inl ⟨by kernel_rfl, fun wz hz => by go_simp⟩) ?_
              refine anyC_take (i := 27) (oi := ⟨_, _, _, _, _, _⟩) (v := .bool true) rfl (by kernel_rfl) (by kernel_rfl) (by kernel_rfl) (fun _ _ _ h => h) (.inl ⟨by kernel_rfl, fun wz hz => by go_simp⟩) ?_
              (try simp only [Act.put, List.setIfInBounds_toArray, List.set_cons_zero, List.set_cons_succ])
              refine anyC_take (i := 28) (oi := ⟨_, _, _, _, _, _⟩) (v := .bool true) rfl (by kernel_rfl) (by kernel_rfl) (by kernel_rfl) (fun _ _ _ h => h) (.inl ⟨by kernel_rfl, fun wz hz => by go_simp⟩) ?_
              refine anyC_take (i := 29) (oi := ⟨_, _, _, _, _, _⟩) (v := .bool true) rfl (by kernel_rfl) (by kernel_rfl) (by kernel_rfl) (fun _ _ _ h => h) (.inl ⟨by kernel_rfl, fun wz hz => by go_simp⟩) ?_
              refine anyC_take (i := 30) (oi := ⟨_, _, _, _, _, _⟩) (v := .bool true) rfl (by kernel_rfl) (by kernel_rfl) (by kernel_rfl) (fun _ _ _ h => h) (.inl ⟨by kernel_rfl, fun wz hz => by apply runs_moveY <;> rfl⟩) ?_
              refine anyC_take (i := 31) (oi := ⟨_, _, _, _, _, _⟩) (v := .agg #[.slice ahA VL.length chA, .slice bhA VT.length dhA]) rfl (by kernel_rfl) (by kernel_rfl) (by kernel_rfl) (fun _ _ _ h => h) (.inl ⟨by kernel_rfl, fun wz hz => runs_load (C := Below w3.heap.size w3) 26 _ rfl hGb rfl _ _ _ _ (fun w hw => KG.out _ hw) Try.underlying26 rfl (size_Alg _ _) wz hz⟩) ?_
              (try simp only [Act.put, List.setIfInBounds_toArray, List.set_cons_zero, List.set_cons_succ])
              refine anyC_take (i := 33) (oi := ⟨_, _, _, _, _, _⟩) (v := .agg #[.slice ahD L.length chD, .slice bhD T.length dhD]) rfl (by kernel_rfl) (by kernel_rfl) (by kernel_rfl) (fun _ _ _ h => h) (.inl ⟨by kernel_rfl, fun wz hz => runs_load (C := Below w3.heap.size w3) 26 _ rfl hDb rfl _ _ _ _ (fun w hw => KD.out _ hw) Try.underlying26 rfl (size_Alg _ _) wz hz⟩) ?_
              refine anyC_call (i := 32) (o := ⟨_, _, _, _, _, _⟩) (f := 9) (args := #[.string ⟨#[105, 100, 101, 109, 112, 111, 116, 101, 110, 116]⟩, .agg #[.slice ahA VL.length chA, .slice bhA VT.length dhA]]) rfl (by kernel_rfl) (by kernel_rfl) (by apply runs_call2 (he := enters_of Try.func9 (by kernel_rfl) rfl) <;> rfl) z ?_
              refine (Q0.out _ _ _ _ _ (RO.out _ z).1 (RO.out _ z).2).mono ?_
              rintro e wz ⟨rfl, hb⟩
              replace z := z.trans (hb.mono z.size)
              refine ⟨_, rfl, ?_⟩
              refine anyC_call (i := 34) (o := ⟨_, _, _, _, _, _⟩) (f := 9) (args := #[.string ⟨#[105, 100, 101, 109, 112, 111, 116, 101, 110, 116]⟩, .agg #[.slice ahD L.length chD, .slice bhD T.length dhD]]) rfl (by kernel_rfl) (by kernel_rfl) (by apply runs_call2 (he := enters_of Try.func9 (by kernel_rfl) rfl) <;> rfl) z ?_
              refine (Q1.out _ _ _ _ _ (RA_.out _ z).1 (RA_.out _ z).2).mono ?_
              rintro e wz ⟨rfl, hb⟩
              replace z := z.trans (hb.mono z.size)
              refine ⟨_, rfl, ?_⟩
              refine anyC_take (i := 35) (oi := ⟨_, _, _, _, _, _⟩) (v := .bool false) rfl (by kernel_rfl) (by kernel_rfl) (by kernel_rfl) (fun _ _ _ h => h) (.inl ⟨by kernel_rfl, fun wz hz => by apply runs_moveY <;> rfl⟩) ?_
              (try simp only [Act.put, List.setIfInBounds_toArray, List.set_cons_zero, List.set_cons_succ])
              refine anyC_take (i := 36) (oi := ⟨_, _, _, _, _, _⟩) (v := undef) rfl (by kernel_rfl) (by kernel_rfl) (by kernel_rfl) (fun _ _ _ h => h) (.inr ⟨by kernel_rfl, rfl⟩) ?_
              refine anyC_take (i := 37) (oi := ⟨_, _, _, _, _, _⟩) (v := undef) rfl (by kernel_rfl) (by kernel_rfl) (by kernel_rfl) (fun _ _ _ h => h) (.inr ⟨by kernel_rfl, rfl⟩) ?_
              refine anyC_take (i := 38) (oi := ⟨_, _, _, _, _, _⟩) (v := .bool false) rfl (by kernel_rfl) (by kernel_rfl) (by kernel_rfl) (fun _ _ _ h => h) (.inl ⟨by kernel_rfl, fun wz hz => by go_simp⟩) ?_
              refine anyC_take (i := 39) (oi := ⟨_, _, _, _, _, _⟩) (v := .bool true) rfl (by kernel_rfl) (by kernel_rfl) (by kernel_rfl) (fun _ _ _ h => h) (.inl ⟨by kernel_rfl, fun wz hz => by go_simp⟩) ?_
              (try simp only [Act.put, List.setIfInBounds_toArray, List.set_cons_zero, List.set_cons_succ])
              refine anyC_take (i := 40) (oi := ⟨_, _, _, _, _, _⟩) (v := .bool true) rfl (by kernel_rfl) (by kernel_rfl) (by kernel_rfl) (fun _ _ _ h => h) (.inl ⟨by kernel_rfl, fun wz hz => by go_simp⟩) ?_
              refine anyC_take (i := 41) (oi := ⟨_, _, _, _, _, _⟩) (v := .bool true) rfl (by kernel_rfl) (by kernel_rfl) (by kernel_rfl) (fun _ _ _ h => h) (.inl ⟨by kernel_rfl, fun wz hz => by apply runs_moveY <;> rfl⟩) ?_
              refine anyC_take (i := 42) (oi := ⟨_, _, _, _, _, _⟩) (v := .pointer (some ⟨hDb, 0, none⟩)) rfl (by kernel_rfl) (by kernel_rfl) (by kernel_rfl) (fun _ _ _ h => h) (.inl ⟨by kernel_rfl, fun wz hz => by go_simp⟩) ?_
              refine anyC_take (i := 43) (oi := ⟨_, _, _, _, _, _⟩) (v := .slice ahD L.length chD) rfl (by kernel_rfl) (by kernel_rfl) (by kernel_rfl) (fun _ _ _ h => h) (.inl ⟨by kernel_rfl, fun wz hz => by have c0 := (bx_cells (KD.out _ hz)).1; go_simp⟩) ?_
              (try simp only [Act.put, List.setIfInBounds_toArray, List.set_cons_zero, List.set_cons_succ])
              refine anyC_take (i := 50) (oi := ⟨_, _, _, _, _, _⟩) (v := .pointer (some ⟨hGb, 0, none⟩)) rfl (by kernel_rfl) (by kernel_rfl) (by kernel_rfl) (fun _ _ _ h => h) (.inl ⟨by kernel_rfl, fun wz hz => by go_simp⟩) ?_
              refine anyC_take (i := 51) (oi := ⟨_, _, _, _, _, _⟩) (v := .slice ahA VL.length chA) rfl (by kernel_rfl) (by kernel_rfl) (by kernel_rfl) (fun _ _ _ h => h) (.inl ⟨by kernel_rfl, fun wz hz => by have c0 := (bx_cells (KG.out _ hz)).1; go_simp⟩) ?_
              refine anyC_call (i := 44) (o := ⟨_, _, _, _, _, _⟩) (f := 10) (args := #[.slice ahD L.length chD]) rfl (by kernel_rfl) (by kernel_rfl) (by apply runs_call1 (he := enters_of Try.func10 (by kernel_rfl) rfl) <;> rfl) z ?_
              refine (X1c.out _ _ _ (RA_.out _ z).1).mono ?_
              rintro e wz ⟨rfl, hb⟩
              replace z := z.trans (hb.mono z.size)
              refine ⟨_, rfl, ?_⟩
              refine anyC_take (i := 45) (oi := ⟨_, _, _, _, _, _⟩) (v := .bool false) rfl (by kernel_rfl) (by kernel_rfl) (by kernel_rfl) (fun _ _ _ h => h) (.inl ⟨by kernel_rfl, fun wz hz => by apply runs_moveY <;> rfl⟩) ?_
              (try simp only [Act.put, List.setIfInBounds_toArray, List.set_cons_zero, List.set_cons_succ])
              refine anyC_take (i := 46) (oi := ⟨_, _, _, _, _, _⟩) (v := undef) rfl (by kernel_rfl) (by kernel_rfl) (by kernel_rfl) (fun _ _ _ h => h) (.inr ⟨by kernel_rfl, rfl⟩) ?_
              refine anyC_take (i := 47) (oi := ⟨_, _, _, _, _, _⟩) (v := undef) rfl (by kernel_rfl) (by kernel_rfl) (by kernel_rfl) (fun _ _ _ h => h) (.inr ⟨by kernel_rfl, rfl⟩) ?_
              refine anyC_take (i := 48) (oi := ⟨_, _, _, _, _, _⟩) (v := undef) rfl (by kernel_rfl) (by kernel_rfl) (by kernel_rfl) (fun _ _ _ h => h) (.inr ⟨by kernel_rfl, rfl⟩) ?_
              refine anyC_take (i := 49) (oi := ⟨_, _, _, _, _, _⟩) (v := .bool false) rfl (by kernel_rfl) (by kernel_rfl) (by kernel_rfl) (fun _ _ _ h => h) (.inl ⟨by kernel_rfl, fun wz hz => by go_simp⟩) ?_
              (try simp only [Act.put, List.setIfInBounds_toArray, List.set_cons_zero, List.set_cons_succ])
              refine anyC_call (i := 52) (o := ⟨_, _, _, _, _, _⟩) (f := 10) (args := #[.slice ahA VL.length chA]) rfl (by kernel_rfl) (by kernel_rfl) (by apply runs_call1 (he := enters_of Try.func10 (by kernel_rfl) rfl) <;> rfl) z ?_
              refine (X0c.out _ _ _ (RO.out _ z).1).mono ?_
              rintro e wz ⟨rfl, hb⟩
              replace z := z.trans (hb.mono z.size)
              refine ⟨_, rfl, ?_⟩
              refine anyC_take (i := 53) (oi := ⟨_, _, _, _, _, _⟩) (v := .bool true) rfl (by kernel_rfl) (by kernel_rfl) (by kernel_rfl) (fun _ _ _ h => h) (.inl ⟨by kernel_rfl, fun wz hz => by go_simp⟩) ?_
              refine anyC_take (i := 54) (oi := ⟨_, _, _, _, _, _⟩) (v := .bool true) rfl (by kernel_rfl) (by kernel_rfl) (by kernel_rfl) (fun _ _ _ h => h) (.inl ⟨by kernel_rfl, fun wz hz => by go_simp⟩) ?_
              refine anyC_take (i := 55) (oi := ⟨_, _, _, _, _, _⟩) (v := .bool true) rfl (by kernel_rfl) (by kernel_rfl) (by kernel_rfl) (fun _ _ _ h => h) (.inl ⟨by kernel_rfl, fun wz hz => by apply runs_assign <;> rfl⟩) ?_
              (try simp only [Act.put, List.setIfInBounds_toArray, List.set_cons_zero, List.set_cons_succ])
              refine anyC_done (by kernel_rfl) z ?_ _
              go_wp2
              go_ret
              exact ⟨by first | rfl | exact ret_bool (by simp), FIN.out _ z⟩
            · simp only [Bool.true_and] at e3
              subst e3
              refine wp_region_any (by kernel_rfl) ?_
              refine any_of_C (C := Below w3.heap.size w3) _ _ _ _ ?_
              replace z := z.drew
              refine anyC_take (i := 0) (oi := ⟨_, _, _, _, _, _⟩) (v := .agg #[.slice ahA VL.length chA, .slice bhA VT.length dhA]) rfl (by kernel_rfl) (by kernel_rfl) (by kernel_rfl) (fun _ _ _ h => h) (.inl ⟨by kernel_rfl, fun wz hz => runs_load (C := Below w3.heap.size w3) 26 _ rfl hGb rfl _ _ _ _ (fun w hw => KG.out _ hw) Try.underlying26 rfl (size_Alg _ _) wz hz⟩) ?_
              refine anyC_call (i := 1) (o := ⟨_, _, _, _, _, _⟩) (f := 8) (args := #[.agg #[.slice ahA VL.length chA, .slice bhA VT.length dhA]]) rfl (by kernel_rfl) (by kernel_rfl) (by apply runs_call1 (he := enters_of Try.func8 (by kernel_rfl) rfl) <;> rfl) z ?_
              refine (C1.out _ _ _ _ _ (RO.out _ z).1 (RO.out _ z).2).mono ?_
              rintro e wz ⟨rfl, hb⟩
              replace z := z.trans (hb.mono z.size)
              refine ⟨_, rfl, ?_⟩
              refine anyC_take (i := 2) (oi := ⟨_, _, _, _, _, _⟩) (v := .bool true) rfl (by kernel_rfl) (by kernel_rfl) (by kernel_rfl) (fun _ _ _ h => h) (.inl ⟨by kernel_rfl, fun wz hz => by apply runs_moveY <;> rfl⟩) ?_
              refine anyC_take (i := 3) (oi := ⟨_, _, _, _, _, _⟩) (v := .pointer (some ⟨hGb, 0, none⟩)) rfl (by kernel_rfl) (by kernel_rfl) (by kernel_rfl) (fun _ _ _ h => h) (.inl ⟨by kernel_rfl, fun wz hz => by go_simp⟩) ?_
              (try simp only [Act.put, List.setIfInBounds_toArray, List.set_cons_zero, List.set_cons_succ])
              refine anyC_take (i := 4) (oi := ⟨_, _, _, _, _, _⟩) (v := .slice ahA VL.length chA) rfl (by kernel_rfl) (by kernel_rfl) (by kernel_rfl) (fun _ _ _ h => h) (.inl ⟨by kernel_rfl, fun wz hz => by have c0 := (bx_cells (KG.out _ hz)).1; go_simp⟩) ?_
              refine anyC_take (i := 5) (oi := ⟨_, _, _, _, _, _⟩) (v := .int .i64 (VL.length : Int)) rfl (by kernel_rfl) (by kernel_rfl) (by kernel_rfl) (fun _ _ _ h => h) (.inl ⟨by kernel_rfl, fun wz hz => by go_simp⟩) ?_
              refine anyC_take (i := 6) (oi := ⟨_, _, _, _, _, _⟩) (v := .pointer (some ⟨hDb, 0, none⟩)) rfl (by kernel_rfl) (by kernel_rfl) (by kernel_rfl) (fun _ _ _ h => h) (.inl ⟨by kernel_rfl, fun wz hz => by go_simp⟩) ?_
              refine anyC_take (i := 7) (oi := ⟨_, _, _, _, _, _⟩) (v := .slice ahD L.length chD) rfl (by kernel_rfl) (by kernel_rfl) (by kernel_rfl) (fun _ _ _ h => h) (.inl ⟨by kernel_rfl, fun wz hz => by have c0 := (bx_cells (KD.out _ hz)).1; go_simp⟩) ?_
              (try simp only [Act.put, List.setIfInBounds_toArray, List.set_cons_zero, List.set_cons_succ])
              refine anyC_take (i := 8) (oi := ⟨_, _, _, _, _, _⟩) (v := .int .i64 (L.length : Int)) rfl (by kernel_rfl) (by kernel_rfl) (by kernel_rfl) (fun _ _ _ h => h) (.inl ⟨by kernel_rfl, fun wz hz => by go_simp⟩) ?_
              refine anyC_take (i := 9) (oi := ⟨_, _, _, _, _, _⟩) (v := .pointer (some ⟨hEb, 0, none⟩)) rfl (by kernel_rfl) (by kernel_rfl) (by kernel_rfl) (fun _ _ _ h => h) (.inl ⟨by kernel_rfl, fun wz hz => by go_simp⟩) ?_
              refine anyC_take (i := 10) (oi := ⟨_, _, _, _, _, _⟩) (v := .slice ahE M.length chE) rfl (by kernel_rfl) (by kernel_rfl) (by kernel_rfl) (fun _ _ _ h => h) (.inl ⟨by kernel_rfl, fun wz hz => by have c0 := (bx_cells (KE.out _ hz)).1; go_simp⟩) ?_
              refine anyC_take (i := 11) (oi := ⟨_, _, _, _, _, _⟩) (v := .int .i64 (M.length : Int)) rfl (by kernel_rfl) (by kernel_rfl) (by kernel_rfl) (fun _ _ _ h => h) (.inl ⟨by kernel_rfl, fun wz hz => by go_simp⟩) ?_
              (try simp only [Act.put, List.setIfInBounds_toArray, List.set_cons_zero, List.set_cons_succ])
              refine anyC_take (i := 12) (oi := ⟨_, _, _, _, _, _⟩) (v := .int .i64 ((L.length : Int) + M.length)) rfl (by kernel_rfl) (by kernel_rfl) (by kernel_rfl) (fun _ _ _ h => h) (.inl ⟨by kernel_rfl, fun wz hz => by have k1 := KW1.out; go_simp⟩) ?_
              refine anyC_take (i := 13) (oi := ⟨_, _, _, _, _, _⟩) (v := .int .i64 ((L.length : Int) + M.length - 1)) rfl (by kernel_rfl) (by kernel_rfl) (by kernel_rfl) (fun _ _ _ h => h) (.inl ⟨by kernel_rfl, fun wz hz => by have k2 := KW2.out; go_simp⟩) ?_
              refine anyC_take (i := 14) (oi := ⟨_, _, _, _, _, _⟩) (v := .bool true) rfl (by kernel_rfl) (by kernel_rfl) (by kernel_rfl) (fun _ _ _ h => h) (.inl ⟨by kernel_rfl, fun wz hz => by have k3 := KE2.out; go_simp⟩) ?_
              refine anyC_take (i := 15) (oi := ⟨_, _, _, _, _, _⟩) (v := .bool true) rfl (by kernel_rfl) (by kernel_rfl) (by kernel_rfl) (fun _ _ _ h => h) (.inl ⟨by kernel_rfl, fun wz hz => by go_simp⟩) ?_
              (try simp only [Act.put, List.setIfInBounds_toArray, List.set_cons_zero, List.set_cons_succ])
              refine anyC_take (i := 16) (oi := ⟨_, _, _, _, _, _⟩) (v := .bool true) rfl (by kernel_rfl) (by kernel_rfl) (by kernel_rfl) (fun _ _ _ h => h) (.inl ⟨by kernel_rfl, fun wz hz => by apply runs_moveY <;> rfl⟩) ?_
              refine anyC_take (i := 17) (oi := ⟨_, _, _, _, _, _⟩) (v := .bool false) rfl (by kernel_rfl) (by kernel_rfl) (by kernel_rfl) (fun _ _ _ h => h) (.inl ⟨by kernel_rfl, fun wz hz => by apply runs_moveY <;> rfl⟩) ?_
              refine anyC_take (i := 18) (oi := ⟨_, _, _, _, _, _⟩) (v := .bool false) rfl (by kernel_rfl) (by kernel_rfl) (by kernel_rfl) (fun _ _ _ h => h) (.inl ⟨by kernel_rfl, fun wz hz => by apply runs_moveY <;> rfl⟩) ?_
              refine anyC_take (i := 19) (oi := ⟨_, _, _, _, _, _⟩) (v := .agg #[.slice ahA VL.length chA, .slice bhA VT.length dhA]) rfl (by kernel_rfl) (by kernel_rfl) (by kernel_rfl) (fun _ _ _ h => h) (.inl ⟨by kernel_rfl, fun wz hz => runs_load (C := Below w3.heap.size w3) 26 _ rfl hGb rfl _ _ _ _ (fun w hw => KG.out _ hw) Try.underlying26 rfl (size_Alg _ _) wz hz⟩) ?_
              (try simp only [Act.put, List.setIfInBounds_toArray, List.set_cons_zero, List.set_cons_succ])
              refine anyC_take (i := 21) (oi := ⟨_, _, _, _, _, _⟩) (v := .agg #[.slice ahD L.length chD, .slice bhD T.length dhD]) rfl (by kernel_rfl) (by kernel_rfl) (by kernel_rfl) (fun _ _ _ h => h) (.inl ⟨by kernel_rfl, fun wz hz => runs_load (C := Below w3.heap.size w3) 26 _ rfl hDb rfl _ _ _ _ (fun w hw => KD.out _ hw) Try.underlying26 rfl (size_Alg _ _) wz hz⟩) ?_
              refine anyC_call (i := 20) (o := ⟨_, _, _, _, _, _⟩) (f := 9) (args := #[.string ⟨#[100, 105, 118, 105, 115, 105, 98, 108, 101]⟩, .agg #[.slice ahA VL.length chA, .slice bhA VT.length dhA]]) rfl (by kernel_rfl) (by kernel_rfl) (by apply runs_call2 (he := enters_of Try.func9 (by kernel_rfl) rfl) <;> rfl) z ?_
              refine (P0.out _ _ _ _ _ (RO.out _ z).1 (RO.out _ z).2).mono ?_
              rintro e wz ⟨rfl, hb⟩
              replace z := z.trans (hb.mono z.size)
              refine ⟨_, rfl, ?_⟩
              refine anyC_call (i := 22) (o := ⟨_, _, _, _, _, _⟩) (f := 9) (args := #[.string ⟨#[100, 105, 118, 105, 115, 105, 98, 108, 101]⟩, .agg #[.slice ahD L.length chD, .slice bhD T.length dhD]]) rfl (by kernel_rfl) (by kernel_rfl) (by apply runs_call2 (he := enters_of Try.func9 (by kernel_rfl) rfl) <;> rfl) z ?_
              refine (P1.out _ _ _ _ _ (RA_.out _ z).1 (RA_.out _ z).2).mono ?_
              rintro e wz ⟨rfl, hb⟩
              replace z := z.trans (hb.mono z.size)
              refine ⟨_, rfl, ?_⟩
              refine anyC_take (i := 23) (oi := ⟨_, _, _, _, _, _⟩) (v := .bool true) rfl (by kernel_rfl) (by kernel_rfl) (by kernel_rfl) (fun _ _ _ h => h) (.inl ⟨by kernel_rfl, fun wz hz => by apply runs_moveY <;> rfl⟩) ?_
              (try simp only [Act.put, List.setIfInBounds_toArray, List.set_cons_zero, List.set_cons_succ])
              refine anyC_take (i := 24) (oi := ⟨_, _, _, _, _, _⟩) (v := .agg #[.slice ahE M.length chE, .slice bhE U.length dhE]) rfl (by kernel_rfl) (by kernel_rfl) (by kernel_rfl) (fun _ _ _ h => h) (.inl ⟨by kernel_rfl, fun wz hz => runs_load (C := Below w3.heap.size w3) 26 _ rfl hEb rfl _ _ _ _ (fun w hw => KE.out _ hw) Try.underlying26 rfl (size_Alg _ _) wz hz⟩) ?_
              refine anyC_call (i := 25) (o := ⟨_, _, _, _, _, _⟩) (f := 9) (args := #[.string ⟨#[100, 105, 118, 105, 115, 105, 98, 108, 101]⟩, .agg #[.slice ahE M.length chE, .slice bhE U.length dhE]]) rfl (by kernel_rfl) (by kernel_rfl) (by apply runs_call2 (he := enters_of Try.func9 (by kernel_rfl) rfl) <;> rfl) z ?_
              refine (P2.out _ _ _ _ _ (RB.out _ z).1 (RB.out _ z).2).mono ?_
              rintro e wz ⟨rfl, hb⟩
              replace z := z.trans (hb.mono z.size)
              refine ⟨_, rfl, ?_⟩
              refine anyC_take (i := 26) (oi := ⟨_, _, _, _, _, _⟩) (v := .bool D0) rfl (by kernel_rfl) (by kernel_rfl) (by kernel_rfl) (fun _ _ _ h => h) (.inl ⟨by kernel_rfl, fun wz hz => by go_simp⟩) ?_
              refine anyC_take (i := 27) (oi := ⟨_, _, _, _, _, _⟩) (v := .bool true) rfl (by kernel_rfl) (by kernel_rfl) (by kernel_rfl) (fun _ _ _ h => h) (.inl ⟨by kernel_rfl, fun wz hz => by go_simp⟩) ?_
              (try simp only [Act.put, List.setIfInBounds_toArray, List.set_cons_zero, List.set_cons_succ])
              refine anyC_take (i := 28) (oi := ⟨_, _, _, _, _, _⟩) (v := .bool true) rfl (by kernel_rfl) (by kernel_rfl) (by kernel_rfl) (fun _ _ _ h => h) (.inl ⟨by kernel_rfl, fun wz hz => by go_simp⟩) ?_
              refine anyC_take (i := 29) (oi := ⟨_, _, _, _, _, _⟩) (v := .bool true) rfl (by kernel_rfl) (by kernel_rfl) (by kernel_rfl) (fun _ _ _ h => h) (.inl ⟨by kernel_rfl, fun wz hz => by go_simp⟩) ?_
              refine anyC_take (i := 30) (oi := ⟨_, _, _, _, _, _⟩) (v := .bool true) rfl (by kernel_rfl) (by kernel_rfl) (by kernel_rfl) (fun _ _ _ h => h) (.inl ⟨by kernel_rfl, fun wz hz => by apply runs_moveY <;> rfl⟩) ?_
              refine anyC_take (i := 31) (oi := ⟨_, _, _, _, _, _⟩) (v := .agg #[.slice ahA VL.length chA, .slice bhA VT.length dhA]) rfl (by kernel_rfl) (by kernel_rfl) (by kernel_rfl) (fun _ _ _ h => h) (.inl ⟨by kernel_rfl, fun wz hz => runs_load (C := Below w3.heap.size w3) 26 _ rfl hGb rfl _ _ _ _ (fun w hw => KG.out _ hw) Try.underlying26 rfl (size_Alg _ _) wz hz⟩) ?_
              (try simp only [Act.put, List.setIfInBounds_toArray, List.set_cons_zero, List.set_cons_succ])
              refine anyC_take (i := 33) (oi := ⟨_, _, _, _, _, _⟩) (v := .agg #[.slice ahD L.length chD, .slice bhD T.length dhD]) rfl (by kernel_rfl) (by kernel_rfl) (by kernel_rfl) (fun _ _ _ h => h) (.inl ⟨by kernel_rfl, fun wz hz => runs_load (C := Below w3.heap.size w3) 26 _ rfl hDb rfl _ _ _ _ (fun w hw => KD.out _ hw) Try.underlying26 rfl (size_Alg _ _) wz hz⟩) ?_
              refine anyC_call (i := 32) (o := ⟨_, _, _, _, _, _⟩) (f := 9) (args := #[.string ⟨#[105, 100, 101, 109, 112, 111, 116, 101, 110, 116]⟩, .agg #[.slice ahA VL.length chA, .slice bhA VT.length dhA]]) rfl (by kernel_rfl) (by kernel_rfl) (by apply runs_call2 (he := enters_of Try.func9 (by kernel_rfl) rfl) <;> rfl) z ?_
              refine (Q0.out _ _ _ _ _ (RO.out _ z).1 (RO.out _ z).2).mono ?_
              rintro e wz ⟨rfl, hb⟩
              replace z := z.trans (hb.mono z.size)
              refine ⟨_, rfl, ?_⟩
              refine anyC_call (i := 34) (o := ⟨_, _, _, _, _, _⟩) (f := 9) (args := #[.string ⟨#[105, 100, 101, 109, 112, 111, 116, 101, 110, 116]⟩, .agg #[.slice ahD L.length chD, .slice bhD T.length dhD]]) rfl (by kernel_rfl) (by kernel_rfl) (by apply runs_call2 (he := enters_of Try.func9 (by kernel_rfl) rfl) <;> rfl) z ?_
              refine (Q1.out _ _ _ _ _ (RA_.out _ z).1 (RA_.out _ z).2).mono ?_
              rintro e wz ⟨rfl, hb⟩
              replace z := z.trans (hb.mono z.size)
              refine ⟨_, rfl, ?_⟩
              refine anyC_take (i := 35) (oi := ⟨_, _, _, _, _, _⟩) (v := .bool false) rfl (by kernel_rfl) (by kernel_rfl) (by kernel_rfl) (fun _ _ _ h => h) (.inl ⟨by kernel_rfl, fun wz hz => by apply runs_moveY <;> rfl⟩) ?_
              (try simp only [Act.put, List.setIfInBounds_toArray, List.set_cons_zero, List.set_cons_succ])
              refine anyC_take (i := 36) (oi := ⟨_, _, _, _, _, _⟩) (v := undef) rfl (by kernel_rfl) (by kernel_rfl) (by kernel_rfl) (fun _ _ _ h => h) (.inr ⟨by kernel_rfl, rfl⟩) ?_
              refine anyC_take (i := 37) (oi := ⟨_, _, _, _, _, _⟩) (v := undef) rfl (by kernel_rfl) (by kernel_rfl) (by kernel_rfl) (fun _ _ _ h => h) (.inr ⟨by kernel_rfl, rfl⟩) ?_
              refine anyC_take (i := 38) (oi := ⟨_, _, _, _, _, _⟩) (v := .bool false) rfl (by kernel_rfl) (by kernel_rfl) (by kernel_rfl) (fun _ _ _ h => h) (.inl ⟨by kernel_rfl, fun wz hz => by go_simp⟩) ?_
              refine anyC_take (i := 39) (oi := ⟨_, _, _, _, _, _⟩) (v := .bool true) rfl (by kernel_rfl) (by kernel_rfl) (by kernel_rfl) (fun _ _ _ h => h) (.inl ⟨by kernel_rfl, fun wz hz => by go_simp⟩) ?_
              (try simp only [Act.put, List.setIfInBounds_toArray, List.set_cons_zero, List.set_cons_succ])
              refine anyC_take (i := 40) (oi := ⟨_, _, _, _, _, _⟩) (v := .bool true) rfl (by kernel_rfl) (by kernel_rfl) (by kernel_rfl) (fun _ _ _ h => h) (.inl ⟨by kernel_rfl, fun wz hz => by go_simp⟩) ?_
              refine anyC_take (i := 41) (oi := ⟨_, _, _, _, _, _⟩) (v := .bool true) rfl (by kernel_rfl) (by kernel_rfl) (by kernel_rfl) (fun _ _ _ h => h) (.inl ⟨by kernel_rfl, fun wz hz => by apply runs_moveY <;> rfl⟩) ?_
              refine anyC_take (i := 42) (oi := ⟨_, _, _, _, _, _⟩) (v := .pointer (some ⟨hDb, 0, none⟩)) rfl (by kernel_rfl) (by kernel_rfl) (by kernel_rfl) (fun _ _ _ h => h) (.inl ⟨by kernel_rfl, fun wz hz => by go_simp⟩) ?_
              refine anyC_take (i := 43) (oi := ⟨_, _, _, _, _, _⟩) (v := .slice ahD L.length chD) rfl (by kernel_rfl) (by kernel_rfl) (by kernel_rfl) (fun _ _ _ h => h) (.inl ⟨by kernel_rfl, fun wz hz => by have c0 := (bx_cells (KD.out _ hz)).1; go_simp⟩) ?_
              (try simp only [Act.put, List.setIfInBounds_toArray, List.set_cons_zero, List.set_cons_succ])
              refine anyC_take (i := 50) (oi := ⟨_, _, _, _, _, _⟩) (v := .pointer (some ⟨hGb, 0, none⟩)) rfl (by kernel_rfl) (by kernel_rfl) (by kernel_rfl) (fun _ _ _ h => h) (.inl ⟨by kernel_rfl, fun wz hz => by go_simp⟩) ?_
              refine anyC_take (i := 51) (oi := ⟨_, _, _, _, _, _⟩) (v := .slice ahA VL.length chA) rfl (by kernel_rfl) (by kernel_rfl) (by kernel_rfl) (fun _ _ _ h => h) (.inl ⟨by kernel_rfl, fun wz hz => by have c0 := (bx_cells (KG.out _ hz)).1; go_simp⟩) ?_
              refine anyC_call (i := 44) (o := ⟨_, _, _, _, _, _⟩) (f := 10) (args := #[.slice ahD L.length chD]) rfl (by kernel_rfl) (by kernel_rfl) (by apply runs_call1 (he := enters_of Try.func10 (by kernel_rfl) rfl) <;> rfl) z ?_
              refine (X1c.out _ _ _ (RA_.out _ z).1).mono ?_
              rintro e wz ⟨rfl, hb⟩
              replace z := z.trans (hb.mono z.size)
              refine ⟨_, rfl, ?_⟩
              refine anyC_take (i := 45) (oi := ⟨_, _, _, _, _, _⟩) (v := .bool false) rfl (by kernel_rfl) (by kernel_rfl) (by kernel_rfl) (fun _ _ _ h => h) (.inl ⟨by kernel_rfl, fun wz hz => by apply runs_moveY <;> rfl⟩) ?_
              (try simp only [Act.put, List.setIfInBounds_toArray, List.set_cons_zero, List.set_cons_succ])
              refine anyC_take (i := 46) (oi := ⟨_, _, _, _, _, _⟩) (v := undef) rfl (by kernel_rfl) (by kernel_rfl) (by kernel_rfl) (fun _ _ _ h => h) (.inr ⟨by kernel_rfl, rfl⟩) ?_
              refine anyC_take (i := 47) (oi := ⟨_, _, _, _, _, _⟩) (v := undef) rfl (by kernel_rfl) (by kernel_rfl) (by kernel_rfl) (fun _ _ _ h => h) (.inr ⟨by kernel_rfl, rfl⟩) ?_
              refine anyC_take (i := 48) (oi := ⟨_, _, _, _, _, _⟩) (v := undef) rfl (by kernel_rfl) (by kernel_rfl) (by kernel_rfl) (fun _ _ _ h => h) (.inr ⟨by kernel_rfl, rfl⟩) ?_
              refine anyC_take (i := 49) (oi := ⟨_, _, _, _, _, _⟩) (v := .bool false) rfl (by kernel_rfl) (by kernel_rfl) (by kernel_rfl) (fun _ _ _ h => h) (.inl ⟨by kernel_rfl, fun wz hz => by go_simp⟩) ?_
              (try simp only [Act.put, List.setIfInBounds_toArray, List.set_cons_zero, List.set_cons_succ])
              refine anyC_call (i := 52) (o := ⟨_, _, _, _, _, _⟩) (f := 10) (args := #[.slice ahA VL.length chA]) rfl (by kernel_rfl) (by kernel_rfl) (by apply runs_call1 (he := enters_of Try.func10 (by kernel_rfl) rfl) <;> rfl) z ?_
              refine (X0c.out _ _ _ (RO.out _ z).1).mono ?_
              rintro e wz ⟨rfl, hb⟩
              replace z := z.trans (hb.mono z.size)
              refine ⟨_, rfl, ?_⟩
              refine anyC_take (i := 53) (oi := ⟨_, _, _, _, _, _⟩) (v := .bool true) rfl (by kernel_rfl) (by kernel_rfl) (by kernel_rfl) (fun _ _ _ h => h) (.inl ⟨by kernel_rfl, fun wz hz => by go_simp⟩) ?_
              refine anyC_take (i := 54) (oi := ⟨_, _, _, _, _, _⟩) (v := .bool true) rfl (by kernel_rfl) (by kernel_rfl) (by kernel_rfl) (fun _ _ _ h => h) (.inl ⟨by kernel_rfl, fun wz hz => by go_simp⟩) ?_
              refine anyC_take (i := 55) (oi := ⟨_, _, _, _, _, _⟩) (v := .bool true) rfl (by kernel_rfl) (by kernel_rfl) (by kernel_rfl) (fun _ _ _ h => h) (.inl ⟨by kernel_rfl, fun wz hz => by apply runs_assign <;> rfl⟩) ?_
              (try simp only [Act.put, List.setIfInBounds_toArray, List.set_cons_zero, List.set_cons_succ])
              refine anyC_done (by kernel_rfl) z ?_ _
              go_wp2
              go_ret
              exact ⟨by first | rfl | exact ret_bool (by simp), FIN.out _ z⟩
          · simp only [Bool.true_and] at e5
            subst e5
            cases D1
            · simp only [Bool.false_and] at e3
              subst e3
              refine wp_region_any (by kernel_rfl) ?_
              refine any_of_C (C := Below w3.heap.size w3) _ _ _ _ ?_
              replace z := z.drew
              refine anyC_take (i := 0) (oi := ⟨_, _, _, _, _, _⟩) (v := .agg #[.slice ahA VL.length chA, .slice bhA VT.length dhA]) rfl (by kernel_rfl) (by kernel_rfl) (by kernel_rfl) (fun _ _ _ h => h) (.inl ⟨by kernel_rfl, fun wz hz => runs_load (C := Below w3.heap.size w3) 26 _ rfl hGb rfl _ _ _ _ (fun w hw => KG.out _ hw) Try.underlying26 rfl (size_Alg _ _) wz hz⟩) ?_
              refine anyC_call (i := 1) (o := ⟨_, _, _, _, _, _⟩) (f := 8) (args := #[.agg #[.slice ahA VL.length chA, .slice bhA VT.length dhA]]) rfl (by kernel_rfl) (by kernel_rfl) (by apply runs_call1 (he := enters_of Try.func8 (by kernel_rfl) rfl) <;> rfl) z ?_
              refine (C1.out _ _ _ _ _ (RO.out _ z).1 (RO.out _ z).2).mono ?_
              rintro e wz ⟨rfl, hb⟩
              replace z := z.trans (hb.mono z.size)
              refine ⟨_, rfl, ?_⟩
              refine anyC_take (i := 2) (oi := ⟨_, _, _, _, _, _⟩) (v := .bool true) rfl (by kernel_rfl) (by kernel_rfl) (by kernel_rfl) (fun _ _ _ h => h) (.inl ⟨by kernel_rfl, fun wz hz => by apply runs_moveY <;> rfl⟩) ?_
              refine anyC_take (i := 3) (oi := ⟨_, _, _, _, _, _⟩) (v := .pointer (some ⟨hGb, 0, none⟩)) rfl (by kernel_rfl) (by kernel_rfl) (by kernel_rfl) (fun _ _ _ h => h) (.inl ⟨by kernel_rfl, fun wz hz => by go_simp⟩) ?_
              (try simp only [Act.put, List.setIfInBounds_toArray, List.set_cons_zero, List.set_cons_succ])
              refine anyC_take (i := 4) (oi := ⟨_, _, _, _, _, _⟩) (v := .slice ahA VL.length chA) rfl (by kernel_rfl) (by kernel_rfl) (by kernel_rfl) (fun _ _ _ h => h) (.inl ⟨by kernel_rfl, fun wz hz => by have c0 := (bx_cells (KG.out _ hz)).1; go_simp⟩) ?_
              refine anyC_take (i := 5) (oi := ⟨_, _, _, _, _, _⟩) (v := .int .i64 (VL.length : Int)) rfl (by kernel_rfl) (by kernel_rfl) (by kernel_rfl) (fun _ _ _ h => h) (.inl ⟨by kernel_rfl, fun wz hz => by go_simp⟩) ?_
              refine anyC_take (i := 6) (oi := ⟨_, _, _, _, _, _⟩) (v := .pointer (some ⟨hDb, 0, none⟩)) rfl (by kernel_rfl) (by kernel_rfl) (by kernel_rfl) (fun _ _ _ h => h) (.inl ⟨by kernel_rfl, fun wz hz => by go_simp⟩) ?_
              refine anyC_take (i := 7) (oi := ⟨_, _, _, _, _, _⟩) (v := .slice ahD L.length chD) rfl (by kernel_rfl) (by kernel_rfl) (by kernel_rfl) (fun _ _ _ h => h) (.inl ⟨by kernel_rfl, fun wz hz => by have c0 := (bx_cells (KD.out _ hz)).1; go_simp⟩) ?_
              (try simp only [Act.put, List.setIfInBounds_toArray, List.set_cons_zero, List.set_cons_succ])
              refine anyC_take (i := 8) (oi := ⟨_, _, _, _, _, _⟩) (v := .int .i64 (L.length : Int)) rfl (by kernel_rfl) (by kernel_rfl) (by kernel_rfl) (fun _ _ _ h => h) (.inl ⟨by kernel_rfl, fun wz hz => by go_simp⟩) ?_
              refine anyC_take (i := 9) (oi := ⟨_, _, _, _, _, _⟩) (v := .pointer (some ⟨hEb, 0, none⟩)) rfl (by kernel_rfl) (by kernel_rfl) (by kernel_rfl) (fun _ _ _ h => h) (.inl ⟨by kernel_rfl, fun wz hz => by go_simp⟩) ?_
              refine anyC_take (i := 10) (oi := ⟨_, _, _, _, _, _⟩) (v := .slice ahE M.length chE) rfl (by kernel_rfl) (by kernel_rfl) (by kernel_rfl) (fun _ _ _ h => h) (.inl ⟨by kernel_rfl, fun wz hz => by have c0 := (bx_cells (KE.out _ hz)).1; go_simp⟩) ?_
              refine anyC_take (i := 11) (oi := ⟨_, _, _, _, _, _⟩) (v := .int .i64 (M.length : Int)) rfl (by kernel_rfl) (by kernel_rfl) (by kernel_rfl) (fun _ _ _ h => h) (.inl ⟨by kernel_rfl, fun wz hz => by go_simp⟩) ?_
              (try simp only [Act.put, List.setIfInBounds_toArray, List.set_cons_zero, List.set_cons_succ])
              refine anyC_take (i := 12) (oi := ⟨_, _, _, _, _, _⟩) (v := .int .i64 ((L.length : Int) + M.length)) rfl (by kernel_rfl) (by kernel_rfl) (by kernel_rfl) (fun _ _ _ h => h) (.inl ⟨by kernel_rfl, fun wz hz => by have k1 := KW1.out; go_simp⟩) ?_
              refine anyC_take (i := 13) (oi := ⟨_, _, _, _, _, _⟩) (v := .int .i64 ((L.length : Int) + M.length - 1)) rfl (by kernel_rfl) (by kernel_rfl) (by kernel_rfl) (fun _ _ _ h => h) (.inl ⟨by kernel_rfl, fun wz hz => by have k2 := KW2.out; go_simp⟩) ?_
              refine anyC_take (i := 14) (oi := ⟨_, _, _, _, _, _⟩) (v := .bool true) rfl (by kernel_rfl) (by kernel_rfl) (by kernel_rfl) (fun _ _ _ h => h) (.inl ⟨by kernel_rfl, fun wz hz => by have k3 := KE2.out; go_simp⟩) ?_
              refine anyC_take (i := 15) (oi := ⟨_, _, _, _, _, _⟩) (v := .bool true) rfl (by kernel_rfl) (by kernel_rfl) (by kernel_rfl) (fun _ _ _ h => h) (.inl ⟨by kernel_rfl, fun wz hz => by go_simp⟩) ?_
              (try simp only [Act.put, List.setIfInBounds_toArray, List.set_cons_zero, List.set_cons_succ])
              refine anyC_take (i := 16) (oi := ⟨_, _, _, _, _, _⟩) (v := .bool true) rfl (by kernel_rfl) (by kernel_rfl) (by kernel_rfl) (fun _ _ _ h => h) (.inl ⟨by kernel_rfl, fun wz hz => by apply runs_moveY <;> rfl⟩) ?_
              refine anyC_take (i := 17) (oi := ⟨_, _, _, _, _, _⟩) (v := .bool false) rfl (by kernel_rfl) (by kernel_rfl) (by kernel_rfl) (fun _ _ _ h => h) (.inl ⟨by kernel_rfl, fun wz hz => by apply runs_moveY <;> rfl⟩) ?_
              refine anyC_take (i := 18) (oi := ⟨_, _, _, _, _, _⟩) (v := .bool false) rfl (by kernel_rfl) (by kernel_rfl) (by kernel_rfl) (fun _ _ _ h => h) (.inl ⟨by kernel_rfl, fun wz hz => by apply runs_moveY <;> rfl⟩) ?_
              refine anyC_take (i := 19) (oi := ⟨_, _, _, _, _, _⟩) (v := .agg #[.slice ahA VL.length chA, .slice bhA VT.length dhA]) rfl (by kernel_rfl) (by kernel_rfl) (by kernel_rfl) (fun _ _ _ h => h) (.inl ⟨by kernel_rfl, fun wz hz => runs_load (C := Below w3.heap.size w3) 26 _ rfl hGb rfl _ _ _ _ (fun w hw => KG.out _ hw) Try.underlying26 rfl (size_Alg _ _) wz hz⟩) ?_
              (try simp only [Act.put, List.setIfInBounds_toArray, List.set_cons_zero, List.set_cons_succ])
              refine anyC_take (i := 21) (oi := ⟨_, _, _, _, _, _⟩) (v := .agg #[.slice ahD L.length chD, .slice bhD T.length dhD]) rfl (by kernel_rfl) (by kernel_rfl) (by kernel_rfl) (fun _ _ _ h => h) (.inl ⟨by kernel_rfl, fun wz hz => runs_load (C := Below w3.heap.size w3) 26 _ rfl hDb rfl _ _ _ _ (fun w hw => KD.out _ hw) Try.underlying26 rfl (size_Alg _ _) wz hz⟩) ?_
              refine anyC_call (i := 20) (o := ⟨_, _, _, _, _, _⟩) (f := 9) (args := #[.string ⟨#[100, 105, 118, 105, 115, 105, 98, 108, 101]⟩, .agg #[.slice ahA VL.length chA, .slice bhA VT.length dhA]]) rfl (by kernel_rfl) (by kernel_rfl) (by apply runs_call2 (he := enters_of Try.func9 (by kernel_rfl) rfl) <;> rfl) z ?_
              refine (P0.out _ _ _ _ _ (RO.out _ z).1 (RO.out _ z).2).mono ?_
              rintro e wz ⟨rfl, hb⟩
              replace z := z.trans (hb.mono z.size)
              refine ⟨_, rfl, ?_⟩
              refine anyC_call (i := 22) (o := ⟨_, _, _, _, _, _⟩) (f := 9) (args := #[.string ⟨#[100, 105, 118, 105, 115, 105, 98, 108, 101]⟩, .agg #[.slice ahD L.length chD, .slice bhD T.length dhD]]) rfl (by kernel_rfl) (by kernel_rfl) (by apply runs_call2 (he := enters_of Try.func9 (by kernel_rfl) rfl) <;> rfl) z ?_
              refine (P1.out _ _ _ _ _ (RA_.out _ z).1 (RA_.out _ z).2).mono ?_
              rintro e wz ⟨rfl, hb⟩
              replace z := z.trans (hb.mono z.size)
              refine ⟨_, rfl, ?_⟩
              refine anyC_take (i := 23) (oi := ⟨_, _, _, _, _, _⟩) (v := .bool false) rfl (by kernel_rfl) (by kernel_rfl) (by kernel_rfl) (fun _ _ _ h => h) (.inl ⟨by kernel_rfl, fun wz hz => by apply runs_moveY <;> rfl⟩) ?_
              (try simp only [Act.put, List.setIfInBounds_toArray, List.set_cons_zero, List.set_cons_succ])
              refine anyC_take (i := 24) (oi := ⟨_, _, _, _, _, _⟩) (v := undef) rfl (by kernel_rfl) (by kernel_rfl) (by kernel_rfl) (fun _ _ _ h => h) (.inr ⟨by kernel_rfl, rfl⟩) ?_
              refine anyC_take (i := 25) (oi := ⟨_, _, _, _, _, _⟩) (v := undef) rfl (by kernel_rfl) (by kernel_rfl) (by kernel_rfl) (fun _ _ _ h => h) (.inr ⟨by kernel_rfl, rfl⟩) ?_
              refine anyC_take (i := 26) (oi := ⟨_, _, _, _, _, _⟩) (v := .bool false) rfl (by kernel_rfl) (by kernel_rfl) (by kernel_rfl) (fun _ _ _ h => h) (.inl ⟨by kernel_rfl, fun wz hz => by go_simp⟩) ?_
              refine anyC_take (i := 27) (oi := ⟨_, _, _, _, _, _⟩) (v := .bool true) rfl (by kernel_rfl) (by kernel_rfl) (by kernel_rfl) (fun _ _ _ h => h) (.inl ⟨by kernel_rfl, fun wz hz => by go_simp⟩) ?_
              (try simp only [Act.put, List.setIfInBounds_toArray, List.set_cons_zero, List.set_cons_succ])
              refine anyC_take (i := 28) (oi := ⟨_, _, _, _, _, _⟩) (v := .bool true) rfl (by kernel_rfl) (by kernel_rfl) (by kernel_rfl) (fun _ _ _ h => h) (.inl ⟨by kernel_rfl, fun wz hz => by go_simp⟩) ?_
              refine anyC_take (i := 29) (oi := ⟨_, _, _, _, _, _⟩) (v := .bool true) rfl (by kernel_rfl) (by kernel_rfl) (by kernel_rfl) (fun _ _ _ h => h) (.inl ⟨by kernel_rfl, fun wz hz => by go_simp⟩) ?_
              refine anyC_take (i := 30) (oi := ⟨_, _, _, _, _, _⟩) (v := .bool true) rfl (by kernel_rfl) (by kernel_rfl) (by kernel_rfl) (fun _ _ _ h => h) (.inl ⟨by kernel_rfl, fun wz hz => by apply runs_moveY <;> rfl⟩) ?_
              refine anyC_take (i := 31) (oi := ⟨_, _, _, _, _, _⟩) (v := .agg #[.slice ahA VL.length chA, .slice bhA VT.length dhA]) rfl (by kernel_rfl) (by kernel_rfl) (by kernel_rfl) (fun _ _ _ h => h) (.inl ⟨by kernel_rfl, fun wz hz => runs_load (C := Below w3.heap.size w3) 26 _ rfl hGb rfl _ _ _ _ (fun w hw => KG.out _ hw) Try.underlying26 rfl (size_Alg _ _) wz hz⟩) ?_
              (try simp only [Act.put, List.setIfInBounds_toArray, List.set_cons_zero, List.set_cons_succ])
              refine anyC_take (i := 33) (oi := ⟨_, _, _, _, _, _⟩) (v := .agg #[.slice ahD L.length chD, .slice bhD T.length dhD]) rfl (by kernel_rfl) (by kernel_rfl) (by kernel_rfl) (fun _ _ _ h => h) (.inl ⟨by kernel_rfl, fun wz hz => runs_load (C := Below w3.heap.size w3) 26 _ rfl hDb rfl _ _ _ _ (fun w hw => KD.out _ hw) Try.underlying26 rfl (size_Alg _ _) wz hz⟩) ?_
              refine anyC_call (i := 32) (o := ⟨_, _, _, _, _, _⟩) (f := 9) (args := #[.string ⟨#[105, 100, 101, 109, 112, 111, 116, 101, 110, 116]⟩, .agg #[.slice ahA VL.length chA, .slice bhA VT.length dhA]]) rfl (by kernel_rfl) (by kernel_rfl) (by apply runs_call2 (he := enters_of Try.func9 (by kernel_rfl) rfl) <;> rfl) z ?_
              refine (Q0.out _ _ _ _ _ (RO.out _ z).1 (RO.out _ z).2).mono ?_
              rintro e wz ⟨rfl, hb⟩
              replace z := z.trans (hb.mono z.size)
              refine ⟨_, rfl, ?_⟩
              refine anyC_call (i := 34) (o := ⟨_, _, _, _, _, _⟩) (f := 9) (args := #[.string ⟨#[105, 100, 101, 109, 112, 111, 116, 101, 110, 116]⟩, .agg #[.slice ahD L.length chD, .slice bhD T.length dhD]]) rfl (by kernel_rfl) (by kernel_rfl) (by apply runs_call2 (he := enters_of Try.func9 (by kernel_rfl) rfl) <;> rfl) z ?_
              refine (Q1.out _ _ _ _ _ (RA_.out _ z).1 (RA_.out _ z).2).mono ?_
              rintro e wz ⟨rfl, hb⟩
              replace z := z.trans (hb.mono z.size)
              refine ⟨_, rfl, ?_⟩
              refine anyC_take (i := 35) (oi := ⟨_, _, _, _, _, _⟩) (v := .bool false) rfl (by kernel_rfl) (by kernel_rfl) (by kernel_rfl) (fun _ _ _ h => h) (.inl ⟨by kernel_rfl, fun wz hz => by apply runs_moveY <;> rfl⟩) ?_
              (try simp only [Act.put, List.setIfInBounds_toArray, List.set_cons_zero, List.set_cons_succ])
              refine anyC_take (i := 36) (oi := ⟨_, _, _, _, _, _⟩) (v := undef) rfl (by kernel_rfl) (by kernel_rfl) (by kernel_rfl) (fun _ _ _ h => h) (.inr ⟨by kernel_rfl, rfl⟩) ?_
              refine anyC_take (i := 37) (oi := ⟨_, _, _, _, _, _⟩) (v := undef) rfl (by kernel_rfl) (by kernel_rfl) (by kernel_rfl) (fun _ _ _ h => h) (.inr ⟨by kernel_rfl, rfl⟩) ?_
              refine anyC_take (i := 38) (oi := ⟨_, _, _, _, _, _⟩) (v := .bool false) rfl (by kernel_rfl) (by kernel_rfl) (by kernel_rfl) (fun _ _ _ h => h) (.inl ⟨by kernel_rfl, fun wz hz => by go_simp⟩) ?_
              refine anyC_take (i := 39) (oi := ⟨_, _, _, _, _, _⟩) (v := .bool true) rfl (by kernel_rfl) (by kernel_rfl) (by kernel_rfl) (fun _ _ _ h => h) (.inl ⟨by kernel_rfl, fun wz hz => by go_simp⟩) ?_
              (try simp only [Act.put, List.setIfInBounds_toArray, List.set_cons_zero, List.set_cons_succ])
              refine anyC_take (i := 40) (oi := ⟨_, _, _, _, _, _⟩) (v := .bool true) rfl (by kernel_rfl) (by kernel_rfl) (by kernel_rfl) (fun _ _ _ h => h) (.inl ⟨by kernel_rfl, fun wz hz => by go_simp⟩) ?_
              refine anyC_take (i := 41) (oi := ⟨_, _, _, _, _, _⟩) (v := .bool true) rfl (by kernel_rfl) (by kernel_rfl) (by kernel_rfl) (fun _ _ _ h => h) (.inl ⟨by kernel_rfl, fun wz hz => by apply runs_moveY <;> rfl⟩) ?_
              refine anyC_take (i := 42) (oi := ⟨_, _, _, _, _, _⟩) (v := .pointer (some ⟨hDb, 0, none⟩)) rfl (by kernel_rfl) (by kernel_rfl) (by kernel_rfl) (fun _ _ _ h => h) (.inl ⟨by kernel_rfl, fun wz hz => by go_simp⟩) ?_
              refine anyC_take (i := 43) (oi := ⟨_, _, _, _, _, _⟩) (v := .slice ahD L.length chD) rfl (by kernel_rfl) (by kernel_rfl) (by kernel_rfl) (fun _ _ _ h => h) (.inl ⟨by kernel_rfl, fun wz hz => by have c0 := (bx_cells (KD.out _ hz)).1; go_simp⟩) ?_
              (try simp only [Act.put, List.setIfInBounds_toArray, List.set_cons_zero, List.set_cons_succ])
              refine anyC_take (i := 50) (oi := ⟨_, _, _, _, _, _⟩) (v := .pointer (some ⟨hGb, 0, none⟩)) rfl (by kernel_rfl) (by kernel_rfl) (by kernel_rfl) (fun _ _ _ h => h) (.inl ⟨by kernel_rfl, fun wz hz => by go_simp⟩) ?_
              refine anyC_take (i := 51) (oi := ⟨_, _, _, _, _, _⟩) (v := .slice ahA VL.length chA) rfl (by kernel_rfl) (by kernel_rfl) (by kernel_rfl) (fun _ _ _ h => h) (.inl ⟨by kernel_rfl, fun wz hz => by have c0 := (bx_cells (KG.out _ hz)).1; go_simp⟩) ?_
              refine anyC_call (i := 44) (o := ⟨_, _, _, _, _, _⟩) (f := 10) (args := #[.slice ahD L.length chD]) rfl (by kernel_rfl) (by kernel_rfl) (by apply runs_call1 (he := enters_of Try.func10 (by kernel_rfl) rfl) <;> rfl) z ?_
              refine (X1c.out _ _ _ (RA_.out _ z).1).mono ?_
              rintro e wz ⟨rfl, hb⟩
              replace z := z.trans (hb.mono z.size)
              refine ⟨_, rfl, ?_⟩
              refine anyC_take (i := 45) (oi := ⟨_, _, _, _, _, _⟩) (v := .bool true) rfl (by kernel_rfl) (by kernel_rfl) (by kernel_rfl) (fun _ _ _ h => h) (.inl ⟨by kernel_rfl, fun wz hz => by apply runs_moveY <;> rfl⟩) ?_
              (try simp only [Act.put, List.setIfInBounds_toArray, List.set_cons_zero, List.set_cons_succ])
              refine anyC_take (i := 46) (oi := ⟨_, _, _, _, _, _⟩) (v := .pointer (some ⟨hEb, 0, none⟩)) rfl (by kernel_rfl) (by kernel_rfl) (by kernel_rfl) (fun _ _ _ h => h) (.inl ⟨by kernel_rfl, fun wz hz => by go_simp⟩) ?_
              refine anyC_take (i := 47) (oi := ⟨_, _, _, _, _, _⟩) (v := .slice ahE M.length chE) rfl (by kernel_rfl) (by kernel_rfl) (by kernel_rfl) (fun _ _ _ h => h) (.inl ⟨by kernel_rfl, fun wz hz => by have c0 := (bx_cells (KE.out _ hz)).1; go_simp⟩) ?_
              refine anyC_call (i := 48) (o := ⟨_, _, _, _, _, _⟩) (f := 10) (args := #[.slice ahE M.length chE]) rfl (by kernel_rfl) (by kernel_rfl) (by apply runs_call1 (he := enters_of Try.func10 (by kernel_rfl) rfl) <;> rfl) z ?_
              refine (X2c.out _ _ _ (RB.out _ z).1).mono ?_
              rintro e wz ⟨rfl, hb⟩
              replace z := z.trans (hb.mono z.size)
              refine ⟨_, rfl, ?_⟩
              refine anyC_take (i := 49) (oi := ⟨_, _, _, _, _, _⟩) (v := .bool X2) rfl (by kernel_rfl) (by kernel_rfl) (by kernel_rfl) (fun _ _ _ h => h) (.inl ⟨by kernel_rfl, fun wz hz => by go_simp⟩) ?_
              (try simp only [Act.put, List.setIfInBounds_toArray, List.set_cons_zero, List.set_cons_succ])
              refine anyC_call (i := 52) (o := ⟨_, _, _, _, _, _⟩) (f := 10) (args := #[.slice ahA VL.length chA]) rfl (by kernel_rfl) (by kernel_rfl) (by apply runs_call1 (he := enters_of Try.func10 (by kernel_rfl) rfl) <;> rfl) z ?_
              refine (X0c.out _ _ _ (RO.out _ z).1).mono ?_
              rintro e wz ⟨rfl, hb⟩
              replace z := z.trans (hb.mono z.size)
              refine ⟨_, rfl, ?_⟩
              refine anyC_take (i := 53) (oi := ⟨_, _, _, _, _, _⟩) (v := .bool true) rfl (by kernel_rfl) (by kernel_rfl) (by kernel_rfl) (fun _ _ _ h => h) (.inl ⟨by kernel_rfl, fun wz hz => by go_simp⟩) ?_
              refine anyC_take (i := 54) (oi := ⟨_, _, _, _, _, _⟩) (v := .bool true) rfl (by kernel_rfl) (by kernel_rfl) (by kernel_rfl) (fun _ _ _ h => h) (.inl ⟨by kernel_rfl, fun wz hz => by go_simp⟩) ?_
              refine anyC_take (i := 55) (oi := ⟨_, _, _, _, _, _⟩) (v := .bool true) rfl (by kernel_rfl) (by kernel_rfl) (by kernel_rfl) (fun _ _ _ h => h) (.inl ⟨by kernel_rfl, fun wz hz => by apply runs_assign <;> rfl⟩) ?_
              (try simp only [Act.put, List.setIfInBounds_toArray, List.set_cons_zero, List.set_cons_succ])
              refine anyC_done (by kernel_rfl) z ?_ _
              go_wp2
              go_ret
              exact ⟨by first | rfl | exact ret_bool (by simp), FIN.out _ z⟩
            · simp only [Bool.true_and] at e3
              subst e3
              refine wp_region_any (by kernel_rfl) ?_
              refine any_of_C (C := Below w3.heap.size w3) _ _ _ _ ?_
              replace z := z.drew
              refine anyC_take (i := 0) (oi := ⟨_, _, _, _, _, _⟩) (v := .agg #[.slice ahA VL.length chA, .slice bhA VT.length dhA]) rfl (by kernel_rfl) (by kernel_rfl) (by kernel_rfl) (fun _ _ _ h => h) (.inl ⟨by kernel_rfl, fun wz hz => runs_load (C := Below w3.heap.size w3) 26 _ rfl hGb rfl _ _ _ _ (fun w hw => KG.out _ hw) Try.underlying26 rfl (size_Alg _ _) wz hz⟩) ?_
              refine anyC_call (i := 1) (o := ⟨_, _, _, _, _, _⟩) (f := 8) (args := #[.agg #[.slice ahA VL.length chA, .slice bhA VT.length dhA]]) rfl (by kernel_rfl) (by kernel_rfl) (by apply runs_call1 (he := enters_of Try.func8 (by kernel_rfl) rfl) <;> rfl) z ?_
              refine (C1.out _ _ _ _ _ (RO.out _ z).1 (RO.out _ z).2).mono ?_
              rintro e wz ⟨rfl, hb⟩
              replace z := z.trans (hb.mono z.size)
              refine ⟨_, rfl, ?_⟩
              refine anyC_take (i := 2) (oi := ⟨_, _, _, _, _, _⟩) (v := .bool true) rfl (by kernel_rfl) (by kernel_rfl) (by kernel_rfl) (fun _ _ _ h => h) (.inl ⟨by kernel_rfl, fun wz hz => by apply runs_moveY <;> rfl⟩) ?_
              refine anyC_take (i := 3) (oi := ⟨_, _, _, _, _, _⟩) (v := .pointer (some ⟨hGb, 0, none⟩)) rfl (by kernel_rfl) (by kernel_rfl) (by kernel_rfl) (fun _ _ _ h => h) (.inl ⟨by kernel_rfl, fun wz hz => by go_simp⟩) ?_
              (try simp only [Act.put, List.setIfInBounds_toArray, List.set_cons_zero, List.set_cons_succ])
              refine anyC_take (i := 4) (oi := ⟨_, _, _, _, _, _⟩) (v := .slice ahA VL.length chA) rfl (by kernel_rfl) (by kernel_rfl) (by kernel_rfl) (fun _ _ _ h => h) (.inl ⟨by kernel_rfl, fun wz hz => by have c0 := (bx_cells (KG.out _ hz)).1; go_simp⟩) ?_
              refine anyC_take (i := 5) (oi := ⟨_, _, _, _, _, _⟩) (v := .int .i64 (VL.length : Int)) rfl (by kernel_rfl) (by kernel_rfl) (by kernel_rfl) (fun _ _ _ h => h) (.inl ⟨by kernel_rfl, fun wz hz => by go_simp⟩) ?_
              refine anyC_take (i := 6) (oi := ⟨_, _, _, _, _, _⟩) (v := .pointer (some ⟨hDb, 0, none⟩)) rfl (by kernel_rfl) (by kernel_rfl) (by kernel_rfl) (fun _ _ _ h => h) (.inl ⟨by kernel_rfl, fun wz hz => by go_simp⟩) ?_
              refine anyC_take (i := 7) (oi := ⟨_, _, _, _, _, _⟩) (v := .slice ahD L.length chD) rfl (by kernel_rfl) (by kernel_rfl) (by kernel_rfl) (fun _ _ _ h => h) (.inl ⟨by kernel_rfl, fun wz hz => by have c0 := (bx_cells (KD.out _ hz)).1; go_simp⟩) ?_
              (try simp only [Act.put, List.setIfInBounds_toArray, List.set_cons_zero, List.set_cons_succ])
              refine anyC_take (i := 8) (oi := ⟨_, _, _, _, _, _⟩) (v := .int .i64 (L.length : Int)) rfl (by kernel_rfl) (by kernel_rfl) (by kernel_rfl) (fun _ _ _ h => h) (.inl ⟨by kernel_rfl, fun wz hz => by go_simp⟩) ?_
              refine anyC_take (i := 9) (oi := ⟨_, _, _, _, _, _⟩) (v := .pointer (some ⟨hEb, 0, none⟩)) rfl (by kernel_rfl) (by kernel_rfl) (by kernel_rfl) (fun _ _ _ h => h) (.inl ⟨by kernel_rfl, fun wz hz => by go_simp⟩) ?_
              refine anyC_take (i := 10) (oi := ⟨_, _, _, _, _, _⟩) (v := .slice ahE M.length chE) rfl (by kernel_rfl) (by kernel_rfl) (by kernel_rfl) (fun _ _ _ h => h) (.inl ⟨by kernel_rfl, fun wz hz => by have c0 := (bx_cells (KE.out _ hz)).1; go_simp⟩) ?_
              refine anyC_take (i := 11) (oi := ⟨_, _, _, _, _, _⟩) (v := .int .i64 (M.length : Int)) rfl (by kernel_rfl) (by kernel_rfl) (by kernel_rfl) (fun _ _ _ h => h) (.inl ⟨by kernel_rfl, fun wz hz => by go_simp⟩) ?_
              (try simp only [Act.put, List.setIfInBounds_toArray, List.set_cons_zero, List.set_cons_succ])
              refine anyC_take (i := 12) (oi := ⟨_, _, _, _, _, _⟩) (v := .int .i64 ((L.length : Int) + M.length)) rfl (by kernel_rfl) (by kernel_rfl) (by kernel_rfl) (fun _ _ _ h => h) (.inl ⟨by kernel_rfl, fun wz hz => by have k1 := KW1.out; go_simp⟩) ?_
              refine anyC_take (i := 13) (oi := ⟨_, _, _, _, _, _⟩) (v := .int .i64 ((L.length : Int) + M.length - 1)) rfl (by kernel_rfl) (by kernel_rfl) (by kernel_rfl) (fun _ _ _ h => h) (.inl ⟨by kernel_rfl, fun wz hz => by have k2 := KW2.out; go_simp⟩) ?_
              refine anyC_take (i := 14) (oi := ⟨_, _, _, _, _, _⟩) (v := .bool true) rfl (by kernel_rfl) (by kernel_rfl) (by kernel_rfl) (fun _ _ _ h => h) (.inl ⟨by kernel_rfl, fun wz hz => by have k3 := KE2.out; go_simp⟩) ?_
              refine anyC_take (i := 15) (oi := ⟨_, _, _, _, _, _⟩) (v := .bool true) rfl (by kernel_rfl) (by kernel_rfl) (by kernel_rfl) (fun _ _ _ h => h) (.inl ⟨by kernel_rfl, fun wz hz => by go_simp⟩) ?_
              (try simp only [Act.put, List.setIfInBounds_toArray, List.set_cons_zero, List.set_cons_succ])
              refine anyC_take (i := 16) (oi := ⟨_, _, _, _, _, _⟩) (v := .bool true) rfl (by kernel_rfl) (by kernel_rfl) (by kernel_rfl) (fun _ _ _ h => h) (.inl ⟨by kernel_rfl, fun wz hz => by apply runs_moveY <;> rfl⟩) ?_
              refine anyC_take (i := 17) (oi := ⟨_, _, _, _, _, _⟩) (v := .bool false) rfl (by kernel_rfl) (by kernel_rfl) (by kernel_rfl) (fun _ _ _ h => h) (.inl ⟨by kernel_rfl, fun wz hz => by apply runs_moveY <;> rfl⟩) ?_
              refine anyC_take (i := 18) (oi := ⟨_, _, _, _, _, _⟩) (v := .bool false) rfl (by kernel_rfl) (by kernel_rfl) (by kernel_rfl) (fun _ _ _ h => h) (.inl ⟨by kernel_rfl, fun wz hz => by apply runs_moveY <;> rfl⟩) ?_
              refine anyC_take (i := 19) (oi := ⟨_, _, _, _, _, _⟩) (v := .agg #[.slice ahA VL.length chA, .slice bhA VT.length dhA]) rfl (by kernel_rfl) (by kernel_rfl) (by kernel_rfl) (fun _ _ _ h => h) (.inl ⟨by kernel_rfl, fun wz hz => runs_load (C := Below w3.heap.size w3) 26 _ rfl hGb rfl _ _ _ _ (fun w hw => KG.out _ hw) Try.underlying26 rfl (size_Alg _ _) wz hz⟩) ?_
              (try simp only [Act.put, List.setIfInBounds_toArray, List.set_cons_zero, List.set_cons_succ])
              refine anyC_take (i := 21) (oi := ⟨_, _, _, _, _, _⟩) (v := .agg #[.slice ahD L.length chD, .slice bhD T.length dhD]) rfl (by kernel_rfl) (by kernel_rfl) (by kernel_rfl) (fun _ _ _ h => h) (.inl ⟨by kernel_rfl, fun wz hz => runs_load (C := Below w3.heap.size w3) 26 _ rfl hDb rfl _ _ _ _ (fun w hw => KD.out _ hw) Try.underlying26 rfl (size_Alg _ _) wz hz⟩) ?_
              refine anyC_call (i := 20) (o := ⟨_, _, _, _, _, _⟩) (f := 9) (args := #[.string ⟨#[100, 105, 118, 105, 115, 105, 98, 108, 101]⟩, .agg #[.slice ahA VL.length chA, .slice bhA VT.length dhA]]) rfl (by kernel_rfl) (by kernel_rfl) (by apply runs_call2 (he := enters_of Try.func9 (by kernel_rfl) rfl) <;> rfl) z ?_
              refine (P0.out _ _ _ _ _ (RO.out _ z).1 (RO.out _ z).2).mono ?_
              rintro e wz ⟨rfl, hb⟩
              replace z := z.trans (hb.mono z.size)
              refine ⟨_, rfl, ?_⟩
              refine anyC_call (i := 22) (o := ⟨_, _, _, _, _, _⟩) (f := 9) (args := #[.string ⟨#[100, 105, 118, 105, 115, 105, 98, 108, 101]⟩, .agg #[.slice ahD L.length chD, .slice bhD T.length dhD]]) rfl (by kernel_rfl) (by kernel_rfl) (by apply runs_call2 (he := enters_of Try.func9 (by kernel_rfl) rfl) <;> rfl) z ?_
              refine (P1.out _ _ _ _ _ (RA_.out _ z).1 (RA_.out _ z).2).mono ?_
              rintro e wz ⟨rfl, hb⟩
              replace z := z.trans (hb.mono z.size)
              refine ⟨_, rfl, ?_⟩
              refine anyC_take (i := 23) (oi := ⟨_, _, _, _, _, _⟩) (v := .bool true) rfl (by kernel_rfl) (by kernel_rfl) (by kernel_rfl) (fun _ _ _ h => h) (.inl ⟨by kernel_rfl, fun wz hz => by apply runs_moveY <;> rfl⟩) ?_
              (try simp only [Act.put, List.setIfInBounds_toArray, List.set_cons_zero, List.set_cons_succ])
              refine anyC_take (i := 24) (oi := ⟨_, _, _, _, _, _⟩) (v := .agg #[.slice ahE M.length chE, .slice bhE U.length dhE]) rfl (by kernel_rfl) (by kernel_rfl) (by kernel_rfl) (fun _ _ _ h => h) (.inl ⟨by kernel_rfl, fun wz hz => runs_load (C := Below w3.heap.size w3) 26 _ rfl hEb rfl _ _ _ _ (fun w hw => KE.out _ hw) Try.underlying26 rfl (size_Alg _ _) wz hz⟩) ?_
              refine anyC_call (i := 25) (o := ⟨_, _, _, _, _, _⟩) (f := 9) (args := #[.string ⟨#[100, 105, 118, 105, 115, 105, 98, 108, 101]⟩, .agg #[.slice ahE M.length chE, .slice bhE U.length dhE]]) rfl (by kernel_rfl) (by kernel_rfl) (by apply runs_call2 (he := enters_of Try.func9 (by kernel_rfl) rfl) <;> rfl) z ?_
              refine (P2.out _ _ _ _ _ (RB.out _ z).1 (RB.out _ z).2).mono ?_
              rintro e wz ⟨rfl, hb⟩
              replace z := z.trans (hb.mono z.size)
              refine ⟨_, rfl, ?_⟩
              refine anyC_take (i := 26) (oi := ⟨_, _, _, _, _, _⟩) (v := .bool D0) rfl (by kernel_rfl) (by kernel_rfl) (by kernel_rfl) (fun _ _ _ h => h) (.inl ⟨by kernel_rfl, fun wz hz => by go_simp⟩) ?_
              refine anyC_take (i := 27) (oi := ⟨_, _, _, _, _, _⟩) (v := .bool true) rfl (by kernel_rfl) (by kernel_rfl) (by kernel_rfl) (fun _ _ _ h => h) (.inl ⟨by kernel_rfl, fun wz hz => by go_simp⟩) ?_
              (try simp only [Act.put, List.setIfInBounds_toArray, List.set_cons_zero, List.set_cons_succ])
              refine anyC_take (i := 28) (oi := ⟨_, _, _, _, _, _⟩) (v := .bool true) rfl (by kernel_rfl) (by kernel_rfl) (by kernel_rfl) (fun _ _ _ h => h) (.inl ⟨by kernel_rfl, fun wz hz => by go_simp⟩) ?_
              refine anyC_take (i := 29) (oi := ⟨_, _, _, _, _, _⟩) (v := .bool true) rfl (by kernel_rfl) (by kernel_rfl) (by kernel_rfl) (fun _ _ _ h => h) (.inl ⟨by kernel_rfl, fun wz hz => by go_simp⟩) ?_
              refine anyC_take (i := 30) (oi := ⟨_, _, _, _, _, _⟩) (v := .bool true) rfl (by kernel_rfl) (by kernel_rfl) (by kernel_rfl) (fun _ _ _ h => h) (.inl ⟨by kernel_rfl, fun wz hz => by apply runs_moveY <;> rfl⟩) ?_
              refine anyC_take (i := 31) (oi := ⟨_, _, _, _, _, _⟩) (v := .agg #[.slice ahA VL.length chA, .slice bhA VT.length dhA]) rfl (by kernel_rfl) (by kernel_rfl) (by kernel_rfl) (fun _ _ _ h => h) (.inl ⟨by kernel_rfl, fun wz hz => runs_load (C := Below w3.heap.size w3) 26 _ rfl hGb rfl _ _ _ _ (fun w hw => KG.out _ hw) Try.underlying26 rfl (size_Alg _ _) wz hz⟩) ?_
              (try simp only [Act.put, List.setIfInBounds_toArray, List.set_cons_zero, List.set_cons_succ])
              refine anyC_take (i := 33) (oi := ⟨_, _, _, _, _, _⟩) (v := .agg #[.slice ahD L.length chD, .slice bhD T.length dhD]) rfl (by kernel_rfl) (by kernel_rfl) (by kernel_rfl) (fun _ _ _ h => h) (.inl ⟨by kernel_rfl, fun wz hz => runs_load (C := Below w3.heap.size w3) 26 _ rfl hDb rfl _ _ _ _ (fun w hw => KD.out _ hw) Try.underlying26 rfl (size_Alg _ _) wz hz⟩) ?_
              refine anyC_call (i := 32) (o := ⟨_, _, _, _, _, _⟩) (f := 9) (args := #[.string ⟨#[105, 100, 101, 109, 112, 111, 116, 101, 110, 116]⟩, .agg #[.slice ahA VL.length chA, .slice bhA VT.length dhA]]) rfl (by kernel_rfl) (by kernel_rfl) (by apply runs_call2 (he := enters_of Try.func9 (by kernel_rfl) rfl) <;> rfl) z ?_
              refine (Q0.out _ _ _ _ _ (RO.out _ z).1 (RO.out _ z).2).mono ?_
              rintro e wz ⟨rfl, hb⟩
              replace z := z.trans (hb.mono z.size)
              refine ⟨_, rfl, ?_⟩
              refine anyC_call (i := 34) (o := ⟨_, _, _, _, _, _⟩) (f := 9) (args := #[.string ⟨#[105, 100, 101, 109, 112, 111, 116, 101, 110, 116]⟩, .agg #[.slice ahD L.length chD, .slice bhD T.length dhD]]) rfl (by kernel_rfl) (by kernel_rfl) (by apply runs_call2 (he := enters_of Try.func9 (by kernel_rfl) rfl) <;> rfl) z ?_
              refine (Q1.out _ _ _ _ _ (RA_.out _ z).1 (RA_.out _ z).2).mono ?_
              rintro e wz ⟨rfl, hb⟩
              replace z := z.trans (hb.mono z.size)
              refine ⟨_, rfl, ?_⟩
              refine anyC_take (i := 35) (oi := ⟨_, _, _, _, _, _⟩) (v := .bool false) rfl (by kernel_rfl) (by kernel_rfl) (by kernel_rfl) (fun _ _ _ h => h) (.inl ⟨by kernel_rfl, fun wz hz => by apply runs_moveY <;> rfl⟩) ?_
              (try simp only [Act.put, List.setIfInBounds_toArray, List.set_cons_zero, List.set_cons_succ])
              refine anyC_take (i := 36) (oi := ⟨_, _, _, _, _, _⟩) (v := undef) rfl (by kernel_rfl) (by kernel_rfl) (by kernel_rfl) (fun _ _ _ h => h) (.inr ⟨by kernel_rfl, rfl⟩) ?_
              refine anyC_take (i := 37) (oi := ⟨_, _, _, _, _, _⟩) (v := undef) rfl (by kernel_rfl) (by kernel_rfl) (by kernel_rfl) (fun _ _ _ h => h) (.inr ⟨by kernel_rfl, rfl⟩) ?_
              refine anyC_take (i := 38) (oi := ⟨_, _, _, _, _, _⟩) (v := .bool false) rfl (by kernel_rfl) (by kernel_rfl) (by kernel_rfl) (fun _ _ _ h => h) (.inl ⟨by kernel_rfl, fun wz hz => by go_simp⟩) ?_
              refine anyC_take (i := 39) (oi := ⟨_, _, _, _, _, _⟩) (v := .bool true) rfl (by kernel_rfl) (by kernel_rfl) (by kernel_rfl) (fun _ _ _ h => h) (.inl ⟨by kernel_rfl, fun wz hz => by go_simp⟩) ?_
              (try simp only [Act.put, List.setIfInBounds_toArray, List.set_cons_zero, List.set_cons_succ])
              refine anyC_take (i := 40) (oi := ⟨_, _, _, _, _, _⟩) (v := .bool true) rfl (by kernel_rfl) (by kernel_rfl) (by kernel_rfl) (fun _ _ _ h => h) (.inl ⟨by kernel_rfl, fun wz hz => by go_simp⟩) ?_
              refine anyC_take (i := 41) (oi := ⟨_, _, _, _, _, _⟩) (v := .bool true) rfl (by kernel_rfl) (by kernel_rfl) (by kernel_rfl) (fun _ _ _ h => h) (.inl ⟨by kernel_rfl, fun wz hz => by apply runs_moveY <;> rfl⟩) ?_
              refine anyC_take (i := 42) (oi := ⟨_, _, _, _, _, _⟩) (v := .pointer (some ⟨hDb, 0, none⟩)) rfl (by kernel_rfl) (by kernel_rfl) (by kernel_rfl) (fun _ _ _ h => h) (.inl ⟨by kernel_rfl, fun wz hz => by go_simp⟩) ?_
              refine anyC_take (i := 43) (oi := ⟨_, _, _, _, _, _⟩) (v := .slice ahD L.length chD) rfl (by kernel_rfl) (by kernel_rfl) (by kernel_rfl) (fun _ _ _ h => h) (.inl ⟨by kernel_rfl, fun wz hz => by have c0 := (bx_cells (KD.out _ hz)).1; go_simp⟩) ?_
              (try simp only [Act.put, List.setIfInBounds_toArray, List.set_cons_zero, List.set_cons_succ])
              refine anyC_take (i := 50) (oi := ⟨_, _, _, _, _, _⟩) (v := .pointer (some ⟨hGb, 0, none⟩)) rfl (by kernel_rfl) (by kernel_rfl) (by kernel_rfl) (fun _ _ _ h => h) (.inl ⟨by kernel_rfl, fun wz hz => by go_simp⟩) ?_
              refine anyC_take (i := 51) (oi := ⟨_, _, _, _, _, _⟩) (v := .slice ahA VL.length chA) rfl (by kernel_rfl) (by kernel_rfl) (by kernel_rfl) (fun _ _ _ h => h) (.inl ⟨by kernel_rfl, fun wz hz => by have c0 := (bx_cells (KG.out _ hz)).1; go_simp⟩) ?_
              refine anyC_call (i := 44) (o := ⟨_, _, _, _, _, _⟩) (f := 10) (args := #[.slice ahD L.length chD]) rfl (by kernel_rfl) (by kernel_rfl) (by apply runs_call1 (he := enters_of Try.func10 (by kernel_rfl) rfl) <;> rfl) z ?_
              refine (X1c.out _ _ _ (RA_.out _ z).1).mono ?_
              rintro e wz ⟨rfl, hb⟩
              replace z := z.trans (hb.mono z.size)
              refine ⟨_, rfl, ?_⟩
              refine anyC_take (i := 45) (oi := ⟨_, _, _, _, _, _⟩) (v := .bool true) rfl (by kernel_rfl) (by kernel_rfl) (by kernel_rfl) (fun _ _ _ h => h) (.inl ⟨by kernel_rfl, fun wz hz => by apply runs_moveY <;> rfl⟩) ?_
              (try simp only [Act.put, List.setIfInBounds_toArray, List.set_cons_zero, List.set_cons_succ])
              refine anyC_take (i := 46) (oi := ⟨_, _, _, _, _, _⟩) (v := .pointer (some ⟨hEb, 0, none⟩)) rfl (by kernel_rfl) (by kernel_rfl) (by kernel_rfl) (fun _ _ _ h => h) (.inl ⟨by kernel_rfl, fun wz hz => by go_simp⟩) ?_
              refine anyC_take (i := 47) (oi := ⟨_, _, _, _, _, _⟩) (v := .slice ahE M.length chE) rfl (by kernel_rfl) (by kernel_rfl) (by kernel_rfl) (fun _ _ _ h => h) (.inl ⟨by kernel_rfl, fun wz hz => by have c0 := (bx_cells (KE.out _ hz)).1; go_simp⟩) ?_
              refine anyC_call (i := 48) (o := ⟨_, _, _, _, _, _⟩) (f := 10) (args := #[.slice ahE M.length chE]) rfl (by kernel_rfl) (by kernel_rfl) (by apply runs_call1 (he := enters_of Try.func10 (by kernel_rfl) rfl) <;> rfl) z ?_
              refine (X2c.out _ _ _ (RB.out _ z).1).mono ?_
              rintro e wz ⟨rfl, hb⟩
              replace z := z.trans (hb.mono z.size)
              refine ⟨_, rfl, ?_⟩
              refine anyC_take (i := 49) (oi := ⟨_, _, _, _, _, _⟩) (v := .bool X2) rfl (by kernel_rfl) (by kernel_rfl) (by kernel_rfl) (fun _ _ _ h => h) (.inl ⟨by kernel_rfl, fun wz hz => by go_simp⟩) ?_
              (try simp only [Act.put, List.setIfInBounds_toArray, List.set_cons_zero, List.set_cons_succ])
              refine anyC_call (i := 52) (o := ⟨_, _, _, _, _, _⟩) (f := 10) (args := #[.slice ahA VL.length chA]) rfl (by kernel_rfl) (by kernel_rfl) (by apply runs_call1 (he := enters_of Try.func10 (by kernel_rfl) rfl) <;> rfl) z ?_
              refine (X0c.out _ _ _ (RO.out _ z).1).mono ?_
              rintro e wz ⟨rfl, hb⟩
              replace z := z.trans (hb.mono z.size)
              refine ⟨_, rfl, ?_⟩
              refine anyC_take (i := 53) (oi := ⟨_, _, _, _, _, _⟩) (v := .bool true) rfl (by kernel_rfl) (by kernel_rfl) (by kernel_rfl) (fun _ _ _ h => h) (.inl ⟨by kernel_rfl, fun wz hz => by go_simp⟩) ?_
              refine anyC_take (i := 54) (oi := ⟨_, _, _, _, _, _⟩) (v := .bool true) rfl (by kernel_rfl) (by kernel_rfl) (by kernel_rfl) (fun _ _ _ h => h) (.inl ⟨by kernel_rfl, fun wz hz => by go_simp⟩) ?_
              refine anyC_take (i := 55) (oi := ⟨_, _, _, _, _, _⟩) (v := .bool true) rfl (by kernel_rfl) (by kernel_rfl) (by kernel_rfl) (fun _ _ _ h => h) (.inl ⟨by kernel_rfl, fun wz hz => by apply runs_assign <;> rfl⟩) ?_
              (try simp only [Act.put, List.setIfInBounds_toArray, List.set_cons_zero, List.set_cons_succ])
              refine anyC_done (by kernel_rfl) z ?_ _
              go_wp2
              go_ret
              exact ⟨by first | rfl | exact ret_bool (by simp), FIN.out _ z⟩
        · simp only [Bool.true_and] at e4
          subst e4
          cases X1
          · simp only [Bool.false_and] at e5
            subst e5
            cases D1
            · simp only [Bool.false_and] at e3
              subst e3
              refine wp_region_any (by kernel_rfl) ?_
              refine any_of_C (C := Below w3.heap.size w3) _ _ _ _ ?_
              replace z := z.drew
              refine anyC_take (i := 0) (oi := ⟨_, _, _, _, _, _⟩) (v := .agg #[.slice ahA VL.length chA, .slice bhA VT.length dhA]) rfl (by kernel_rfl) (by kernel_rfl) (by kernel_rfl) (fun _ _ _ h => h) (.inl ⟨by kernel_rfl, fun wz hz => runs_load (C := Below w3.heap.size w3) 26 _ rfl hGb rfl _ _ _ _ (fun w hw => KG.out _ hw) Try.underlying26 rfl (size_Alg _ _) wz hz⟩) ?_
              refine anyC_call (i := 1) (o := ⟨_, _, _, _, _, _⟩) (f := 8) (args := #[.agg #[.slice ahA VL.length chA, .slice bhA VT.length dhA]]) rfl (by kernel_rfl) (by kernel_rfl) (by apply runs_call1 (he := enters_of Try.func8 (by kernel_rfl) rfl) <;> rfl) z ?_
              refine (C1.out _ _ _ _ _ (RO.out _ z).1 (RO.out _ z).2).mono ?_
              rintro e wz ⟨rfl, hb⟩
              replace z := z.trans (hb.mono z.size)
              refine ⟨_, rfl, ?_⟩
              refine anyC_take (i := 2) (oi := ⟨_, _, _, _, _, _⟩) (v := .bool true) rfl (by kernel_rfl) (by kernel_rfl) (by kernel_rfl) (fun _ _ _ h => h) (.inl ⟨by kernel_rfl, fun wz hz => by apply runs_moveY <;> rfl⟩) ?_
              refine anyC_take (i := 3) (oi := ⟨_, _, _, _, _, _⟩) (v := .pointer (some ⟨hGb, 0, none⟩)) rfl (by kernel_rfl) (by kernel_rfl) (by kernel_rfl) (fun _ _ _ h => h) (.inl ⟨by kernel_rfl, fun wz hz => by go_simp⟩) ?_
              (try simp only [Act.put, List.setIfInBounds_toArray, List.set_cons_zero, List.set_cons_succ])
              refine anyC_take (i := 4) (oi := ⟨_, _, _, _, _, _⟩) (v := .slice ahA VL.length chA) rfl (by kernel_rfl) (by kernel_rfl) (by kernel_rfl) (fun _ _ _ h => h) (.inl ⟨by kernel_rfl, fun wz hz => by have c0 := (bx_cells (KG.out _ hz)).1; go_simp⟩) ?_
              refine anyC_take (i := 5) (oi := ⟨_, _, _, _, _, _⟩) (v := .int .i64 (VL.length : Int)) rfl (by kernel_rfl) (by kernel_rfl) (by kernel_rfl) (fun _ _ _ h => h) (.inl ⟨by kernel_rfl, fun wz hz => by go_simp⟩) ?_
              refine anyC_take (i := 6) (oi := ⟨_, _, _, _, _, _⟩) (v := .pointer (some ⟨hDb, 0, none⟩)) rfl (by kernel_rfl) (by kernel_rfl) (by kernel_rfl) (fun _ _ _ h => h) (.inl ⟨by kernel_rfl, fun wz hz => by go_simp⟩) ?_
              refine anyC_take (i := 7) (oi := ⟨_, _, _, _, _, _⟩) (v := .slice ahD L.length chD) rfl (by kernel_rfl) (by kernel_rfl) (by kernel_rfl) (fun _ _ _ h => h) (.inl ⟨by kernel_rfl, fun wz hz => by have c0 := (bx_cells (KD.out _ hz)).1; go_simp⟩) ?_
              (try simp only [Act.put, List.setIfInBounds_toArray, List.set_cons_zero, List.set_cons_succ])
              refine anyC_take (i := 8) (oi := ⟨_, _, _, _, _, _⟩) (v := .int .i64 (L.length : Int)) rfl (by kernel_rfl) (by kernel_rfl) (by kernel_rfl) (fun _ _ _ h => h) (.inl ⟨by kernel_rfl, fun wz hz => by go_simp⟩) ?_
              refine anyC_take (i := 9) (oi := ⟨_, _, _, _, _, _⟩) (v := .pointer (some ⟨hEb, 0, none⟩)) rfl (by kernel_rfl) (by kernel_rfl) (by kernel_rfl) (fun _ _ _ h => h) (.inl ⟨by kernel_rfl, fun wz hz => by go_simp⟩) ?_
              refine anyC_take (i := 10) (oi := ⟨_, _, _, _, _, _⟩) (v := .slice ahE M.length chE) rfl (by kernel_rfl) (by kernel_rfl) (by kernel_rfl) (fun _ _ _ h => h) (.inl ⟨by kernel_rfl, fun wz hz => by have c0 := (bx_cells (KE.out _ hz)).1; go_simp⟩) ?_
              refine anyC_take (i := 11) (oi := ⟨_, _, _, _, _, _⟩) (v := .int .i64 (M.length : Int)) rfl (by kernel_rfl) (by kernel_rfl) (by kernel_rfl) (fun _ _ _ h => h) (.inl ⟨by kernel_rfl, fun wz hz => by go_simp⟩) ?_
              (try simp only [Act.put, List.setIfInBounds_toArray, List.set_cons_zero, List.set_cons_succ])
              refine anyC_take (i := 12) (oi := ⟨_, _, _, _, _, _⟩) (v := .int .i64 ((L.length : Int) + M.length)) rfl (by kernel_rfl) (by kernel_rfl) (by kernel_rfl) (fun _ _ _ h => h) (.inl ⟨by kernel_rfl, fun wz hz => by have k1 := KW1.out; go_simp⟩) ?_
              refine anyC_take (i := 13) (oi := ⟨_, _, _, _, _, _⟩) (v := .int .i64 ((L.length : Int) + M.length - 1)) rfl (by kernel_rfl) (by kernel_rfl) (by kernel_rfl) (fun _ _ _ h => h) (.inl ⟨by kernel_rfl, fun wz hz => by have k2 := KW2.out; go_simp⟩) ?_
              refine anyC_take (i := 14) (oi := ⟨_, _, _, _, _, _⟩) (v := .bool true) rfl (by kernel_rfl) (by kernel_rfl) (by kernel_rfl) (fun _ _ _ h => h) (.inl ⟨by kernel_rfl, fun wz hz => by have k3 := KE2.out; go_simp⟩) ?_
              refine anyC_take (i := 15) (oi := ⟨_, _, _, _, _, _⟩) (v := .bool true) rfl (by kernel_rfl) (by kernel_rfl) (by kernel_rfl) (fun _ _ _ h => h) (.inl ⟨by kernel_rfl, fun wz hz => by go_simp⟩) ?_
              (try simp only [Act.put, List.setIfInBounds_toArray, List.set_cons_zero, List.set_cons_succ])
              refine anyC_take (i := 16) (oi := ⟨_, _, _, _, _, _⟩) (v := .bool true) rfl (by kernel_rfl) (by kernel_rfl) (by kernel_rfl) (fun _ _ _ h => h) (.inl ⟨by kernel_rfl, fun wz hz => by apply runs_moveY <;> rfl⟩) ?_
              refine anyC_take (i := 17) (oi := ⟨_, _, _, _, _, _⟩) (v := .bool false) rfl (by kernel_rfl) (by kernel_rfl) (by kernel_rfl) (fun _ _ _ h => h) (.inl ⟨by kernel_rfl, fun wz hz => by apply runs_moveY <;> rfl⟩) ?_
              refine anyC_take (i := 18) (oi := ⟨_, _, _, _, _, _⟩) (v := .bool false) rfl (by kernel_rfl) (by kernel_rfl) (by kernel_rfl) (fun _ _ _ h => h) (.inl ⟨by kernel_rfl, fun wz hz => by apply runs_moveY <;> rfl⟩) ?_
              refine anyC_take (i := 19) (oi := ⟨_, _, _, _, _, _⟩) (v := .agg #[.slice ahA VL.length chA, .slice bhA VT.length dhA]) rfl (by kernel_rfl) (by kernel_rfl) (by kernel_rfl) (fun _ _ _ h => h) (.inl ⟨by kernel_rfl, fun wz hz => runs_load (C := Below w3.heap.size w3) 26 _ rfl hGb rfl _ _ _ _ (fun w hw => KG.out _ hw) Try.underlying26 rfl (size_Alg _ _) wz hz⟩) ?_
              (try simp only [Act.put, List.setIfInBounds_toArray, List.set_cons_zero, List.set_cons_succ])
              refine anyC_take (i := 21) (oi := ⟨_, _, _, _, _, _⟩) (v := .agg #[.slice ahD L.length chD, .slice bhD T.length dhD]) rfl (by kernel_rfl) (by kernel_rfl) (by kernel_rfl) (fun _ _ _ h => h) (.inl ⟨by kernel_rfl, fun wz hz => runs_load (C := Below w3.heap.size w3) 26 _ rfl hDb rfl _ _ _ _ (fun w hw => KD.out _ hw) Try.underlying26 rfl (size_Alg _ _) wz hz⟩) ?_
              refine anyC_call (i := 20) (o := ⟨_, _, _, _, _, _⟩) (f := 9) (args := #[.string ⟨#[100, 105, 118, 105, 115, 105, 98, 108, 101]⟩, .agg #[.slice ahA VL.length chA, .slice bhA VT.length dhA]]) rfl (by kernel_rfl) (by kernel_rfl) (by apply runs_call2 (he := enters_of Try.func9 (by kernel_rfl) rfl) <;> rfl) z ?_
              refine (P0.out _ _ _ _ _ (RO.out _ z).1 (RO.out _ z).2).mono ?_
              rintro e wz ⟨rfl, hb⟩
              replace z := z.trans (hb.mono z.size)
              refine ⟨_, rfl, ?_⟩
              refine anyC_call (i := 22) (o := ⟨_, _, _, _, _, _⟩) (f := 9) (args := #[.string ⟨#[100, 105, 118, 105, 115, 105, 98, 108, 101]⟩, .agg #[.slice ahD L.length chD, .slice bhD T.length dhD]]) rfl (by kernel_rfl) (by kernel_rfl) (by apply runs_call2 (he := enters_of Try.func9 (by kernel_rfl) rfl) <;> rfl) z ?_
              refine (P1.out _ _ _ _ _ (RA_.out _ z).1 (RA_.out _ z).2).mono ?_
              rintro e wz ⟨rfl, hb⟩
              replace z := z.trans (hb.mono z.size)
              refine ⟨_, rfl, ?_⟩
              refine anyC_take (i := 23) (oi := ⟨_, _, _, _, _, _⟩) (v := .bool false) rfl (by kernel_rfl) (by kernel_rfl) (by kernel_rfl) (fun _ _ _ h => h) (.inl ⟨by kernel_rfl, fun wz hz => by apply runs_moveY <;> rfl⟩) ?_
              (try simp only [Act.put, List.setIfInBounds_toArray, List.set_cons_zero, List.set_cons_succ])
              refine anyC_take (i := 24) (oi := ⟨_, _, _, _, _, _⟩) (v := undef) rfl (by kernel_rfl) (by kernel_rfl) (by kernel_rfl) (fun _ _ _ h => h) (.inr ⟨by kernel_rfl, rfl⟩) ?_
              refine anyC_take (i := 25) (oi := ⟨_, _, _, _, _, _⟩) (v := undef) rfl (by kernel_rfl) (by kernel_rfl) (by kernel_rfl) (fun _ _ _ h => h) (.inr ⟨by kernel_rfl, rfl⟩) ?_
              refine anyC_take (i := 26) (oi := ⟨_, _, _, _, _, _⟩) (v := .bool false) rfl (by kernel_rfl) (by kernel_rfl) (by kernel_rfl) (fun _ _ _ h => h) (.inl ⟨by kernel_rfl, fun wz hz => by go_simp⟩) ?_
              refine anyC_take (i := 27) (oi := ⟨_, _, _, _, _, _⟩) (v := .bool true) rfl (by kernel_rfl) (by kernel_rfl) (by kernel_rfl) (fun _ _ _ h => h) (.inl ⟨by kernel_rfl, fun wz hz => by go_simp⟩) ?_
              (try simp only [Act.put, List.setIfInBounds_toArray, List.set_cons_zero, List.set_cons_succ])
              refine anyC_take (i := 28) (oi := ⟨_, _, _, _, _, _⟩) (v := .bool true) rfl (by kernel_rfl) (by kernel_rfl) (by kernel_rfl) (fun _ _ _ h => h) (.inl ⟨by kernel_rfl, fun wz hz => by go_simp⟩) ?_
              refine anyC_take (i := 29) (oi := ⟨_, _, _, _, _, _⟩) (v := .bool true) rfl (by kernel_rfl) (by kernel_rfl) (by kernel_rfl) (fun _ _ _ h => h) (.inl ⟨by kernel_rfl, fun wz hz => by go_simp⟩) ?_
              refine anyC_take (i := 30) (oi := ⟨_, _, _, _, _, _⟩) (v := .bool true) rfl (by kernel_rfl) (by kernel_rfl) (by kernel_rfl) (fun _ _ _ h => h) (.inl ⟨by kernel_rfl, fun wz hz => by apply runs_moveY <;> rfl⟩) ?_
              refine anyC_take (i := 31) (oi := ⟨_, _, _, _, _, _⟩) (v := .agg #[.slice ahA VL.length chA, .slice bhA VT.length dhA]) rfl (by kernel_rfl) (by kernel_rfl) (by kernel_rfl) (fun _ _ _ h => h) (.inl ⟨by kernel_rfl, fun wz hz => runs_load (C := Below w3.heap.size w3) 26 _ rfl hGb rfl _ _ _ _ (fun w hw => KG.out _ hw) Try.underlying26 rfl (size_Alg _ _) wz hz⟩) ?_
              (try simp only [Act.put, List.setIfInBounds_toArray, List.set_cons_zero, List.set_cons_succ])
              refine anyC_take (i := 33) (oi := ⟨_, _, _, _, _, _⟩) (v := .agg #[.slice ahD L.length chD, .slice bhD T.length dhD]) rfl (by kernel_rfl) (by kernel_rfl) (by kernel_rfl) (fun _ _ _ h => h) (.inl ⟨by kernel_rfl, fun wz hz => runs_load (C := Below w3.heap.size w3) 26 _ rfl hDb rfl _ _ _ _ (fun w hw => KD.out _ hw) Try.underlying26 rfl (size_Alg _ _) wz hz⟩) ?_
              refine anyC_call (i := 32) (o := ⟨_, _, _, _, _, _⟩) (f := 9) (args := #[.string ⟨#[105, 100, 101, 109, 112, 111, 116, 101, 110, 116]⟩, .agg #[.slice ahA VL.length chA, .slice bhA VT.length dhA]]) rfl (by kernel_rfl) (by kernel_rfl) (by apply runs_call2 (he := enters_of Try.func9 (by kernel_rfl) rfl) <;> rfl) z ?_
              refine (Q0.out _ _ _ _ _ (RO.out _ z).1 (RO.out _ z).2).mono ?_
              rintro e wz ⟨rfl, hb⟩
              replace z := z.trans (hb.mono z.size)
              refine ⟨_, rfl, ?_⟩
              refine anyC_call (i := 34) (o := ⟨_, _, _, _, _, _⟩) (f := 9) (args := #[.string ⟨#[105, 100, 101, 109, 112, 111, 116, 101, 110, 116]⟩, .agg #[.slice ahD L.length chD, .slice bhD T.length dhD]]) rfl (by kernel_rfl) (by kernel_rfl) (by apply runs_call2 (he := enters_of Try.func9 (by kernel_rfl) rfl) <;> rfl) z ?_
              refine (Q1.out _ _ _ _ _ (RA_.out _ z).1 (RA_.out _ z).2).mono ?_
              rintro e wz ⟨rfl, hb⟩
              replace z := z.trans (hb.mono z.size)
              refine ⟨_, rfl, ?_⟩
              refine anyC_take (i := 35) (oi := ⟨_, _, _, _, _, _⟩) (v := .bool true) rfl (by kernel_rfl) (by kernel_rfl) (by kernel_rfl) (fun _ _ _ h => h) (.inl ⟨by kernel_rfl, fun wz hz => by apply runs_moveY <;> rfl⟩) ?_
              (try simp only [Act.put, List.setIfInBounds_toArray, List.set_cons_zero, List.set_cons_succ])
              refine anyC_take (i := 36) (oi := ⟨_, _, _, _, _, _⟩) (v := .agg #[.slice ahE M.length chE, .slice bhE U.length dhE]) rfl (by kernel_rfl) (by kernel_rfl) (by kernel_rfl) (fun _ _ _ h => h) (.inl ⟨by kernel_rfl, fun wz hz => runs_load (C := Below w3.heap.size w3) 26 _ rfl hEb rfl _ _ _ _ (fun w hw => KE.out _ hw) Try.underlying26 rfl (size_Alg _ _) wz hz⟩) ?_
              refine anyC_call (i := 37) (o := ⟨_, _, _, _, _, _⟩) (f := 9) (args := #[.string ⟨#[105, 100, 101, 109, 112, 111, 116, 101, 110, 116]⟩, .agg #[.slice ahE M.length chE, .slice bhE U.length dhE]]) rfl (by kernel_rfl) (by kernel_rfl) (by apply runs_call2 (he := enters_of Try.func9 (by kernel_rfl) rfl) <;> rfl) z ?_
              refine (Q2.out _ _ _ _ _ (RB.out _ z).1 (RB.out _ z).2).mono ?_
              rintro e wz ⟨rfl, hb⟩
              replace z := z.trans (hb.mono z.size)
              refine ⟨_, rfl, ?_⟩
              refine anyC_take (i := 38) (oi := ⟨_, _, _, _, _, _⟩) (v := .bool I0) rfl (by kernel_rfl) (by kernel_rfl) (by kernel_rfl) (fun _ _ _ h => h) (.inl ⟨by kernel_rfl, fun wz hz => by go_simp⟩) ?_
              refine anyC_take (i := 39) (oi := ⟨_, _, _, _, _, _⟩) (v := .bool true) rfl (by kernel_rfl) (by kernel_rfl) (by kernel_rfl) (fun _ _ _ h => h) (.inl ⟨by kernel_rfl, fun wz hz => by go_simp⟩) ?_
              (try simp only [Act.put, List.setIfInBounds_toArray, List.set_cons_zero, List.set_cons_succ])
              refine anyC_take (i := 40) (oi := ⟨_, _, _, _, _, _⟩) (v := .bool true) rfl (by kernel_rfl) (by kernel_rfl) (by kernel_rfl) (fun _ _ _ h => h) (.inl ⟨by kernel_rfl, fun wz hz => by go_simp⟩) ?_
              refine anyC_take (i := 41) (oi := ⟨_, _, _, _, _, _⟩) (v := .bool true) rfl (by kernel_rfl) (by kernel_rfl) (by kernel_rfl) (fun _ _ _ h => h) (.inl ⟨by kernel_rfl, fun wz hz => by apply runs_moveY <;> rfl⟩) ?_
              refine anyC_take (i := 42) (oi := ⟨_, _, _, _, _, _⟩) (v := .pointer (some ⟨hDb, 0, none⟩)) rfl (by kernel_rfl) (by kernel_rfl) (by kernel_rfl) (fun _ _ _ h => h) (.inl ⟨by kernel_rfl, fun wz hz => by go_simp⟩) ?_
              refine anyC_take (i := 43) (oi := ⟨_, _, _, _, _, _⟩) (v := .slice ahD L.length chD) rfl (by kernel_rfl) (by kernel_rfl) (by kernel_rfl) (fun _ _ _ h => h) (.inl ⟨by kernel_rfl, fun wz hz => by have c0 := (bx_cells (KD.out _ hz)).1; go_simp⟩) ?_
              (try simp only [Act.put, List.setIfInBounds_toArray, List.set_cons_zero, List.set_cons_succ])
              refine anyC_take (i := 50) (oi := ⟨_, _, _, _, _, _⟩) (v := .pointer (some ⟨hGb, 0, none⟩)) rfl (by kernel_rfl) (by kernel_rfl) (by kernel_rfl) (fun _ _ _ h => h) (.inl ⟨by kernel_rfl, fun wz hz => by go_simp⟩) ?_
              refine anyC_take (i := 51) (oi := ⟨_, _, _, _, _, _⟩) (v := .slice ahA VL.length chA) rfl (by kernel_rfl) (by kernel_rfl) (by kernel_rfl) (fun _ _ _ h => h) (.inl ⟨by kernel_rfl, fun wz hz => by have c0 := (bx_cells (KG.out _ hz)).1; go_simp⟩) ?_
              refine anyC_call (i := 44) (o := ⟨_, _, _, _, _, _⟩) (f := 10) (args := #[.slice ahD L.length chD]) rfl (by kernel_rfl) (by kernel_rfl) (by apply runs_call1 (he := enters_of Try.func10 (by kernel_rfl) rfl) <;> rfl) z ?_
              refine (X1c.out _ _ _ (RA_.out _ z).1).mono ?_
              rintro e wz ⟨rfl, hb⟩
              replace z := z.trans (hb.mono z.size)
              refine ⟨_, rfl, ?_⟩
              refine anyC_take (i := 45) (oi := ⟨_, _, _, _, _, _⟩) (v := .bool false) rfl (by kernel_rfl) (by kernel_rfl) (by kernel_rfl) (fun _ _ _ h => h) (.inl ⟨by kernel_rfl, fun wz hz => by apply runs_moveY <;> rfl⟩) ?_
              (try simp only [Act.put, List.setIfInBounds_toArray, List.set_cons_zero, List.set_cons_succ])
              refine anyC_take (i := 46) (oi := ⟨_, _, _, _, _, _⟩) (v := undef) rfl (by kernel_rfl) (by kernel_rfl) (by kernel_rfl) (fun _ _ _ h => h) (.inr ⟨by kernel_rfl, rfl⟩) ?_
              refine anyC_take (i := 47) (oi := ⟨_, _, _, _, _, _⟩) (v := undef) rfl (by kernel_rfl) (by kernel_rfl) (by kernel_rfl) (fun _ _ _ h => h) (.inr ⟨by kernel_rfl, rfl⟩) ?_
              refine anyC_take (i := 48) (oi := ⟨_, _, _, _, _, _⟩) (v := undef) rfl (by kernel_rfl) (by kernel_rfl) (by kernel_rfl) (fun _ _ _ h => h) (.inr ⟨by kernel_rfl, rfl⟩) ?_
              refine anyC_take (i := 49) (oi := ⟨_, _, _, _, _, _⟩) (v := .bool false) rfl (by kernel_rfl) (by kernel_rfl) (by kernel_rfl) (fun _ _ _ h => h) (.inl ⟨by kernel_rfl, fun wz hz => by go_simp⟩) ?_
              (try simp only [Act.put, List.setIfInBounds_toArray, List.set_cons_zero, List.set_cons_succ])
              refine anyC_call (i := 52) (o := ⟨_, _, _, _, _, _⟩) (f := 10) (args := #[.slice ahA VL.length chA]) rfl (by kernel_rfl) (by kernel_rfl) (by apply runs_call1 (he := enters_of Try.func10 (by kernel_rfl) rfl) <;> rfl) z ?_
              refine (X0c.out _ _ _ (RO.out _ z).1).mono ?_
              rintro e wz ⟨rfl, hb⟩
              replace z := z.trans (hb.mono z.size)
              refine ⟨_, rfl, ?_⟩
              refine anyC_take (i := 53) (oi := ⟨_, _, _, _, _, _⟩) (v := .bool true) rfl (by kernel_rfl) (by kernel_rfl) (by kernel_rfl) (fun _ _ _ h => h) (.inl ⟨by kernel_rfl, fun wz hz => by go_simp⟩) ?_
              refine anyC_take (i := 54) (oi := ⟨_, _, _, _, _, _⟩) (v := .bool true) rfl (by kernel_rfl) (by kernel_rfl) (by kernel_rfl) (fun _ _ _ h => h) (.inl ⟨by kernel_rfl, fun wz hz => by go_simp⟩) ?_
              refine anyC_take (i := 55) (oi := ⟨_, _, _, _, _, _⟩) (v := .bool true) rfl (by kernel_rfl) (by kernel_rfl) (by kernel_rfl) (fun _ _ _ h => h) (.inl ⟨by kernel_rfl, fun wz hz => by apply runs_assign <;> rfl⟩) ?_
              (try simp only [Act.put, List.setIfInBounds_toArray, List.set_cons_zero, List.set_cons_succ])
              refine anyC_done (by kernel_rfl) z ?_ _
              go_wp2
              go_ret
              exact ⟨by first | rfl | exact ret_bool (by simp), FIN.out _ z⟩
            · simp only [Bool.true_and] at e3
              subst e3
              refine wp_region_any (by kernel_rfl) ?_
              refine any_of_C (C := Below w3.heap.size w3) _ _ _ _ ?_
              replace z := z.drew
              refine anyC_take (i := 0) (oi := ⟨_, _, _, _, _, _⟩) (v := .agg #[.slice ahA VL.length chA, .slice bhA VT.length dhA]) rfl (by kernel_rfl) (by kernel_rfl) (by kernel_rfl) (fun _ _ _ h => h) (.inl ⟨by kernel_rfl, fun wz hz => runs_load (C := Below w3.heap.size w3) 26 _ rfl hGb rfl _ _ _ _ (fun w hw => KG.out _ hw) Try.underlying26 rfl (size_Alg _ _) wz hz⟩) ?_
              refine anyC_call (i := 1) (o := ⟨_, _, _, _, _, _⟩) (f := 8) (args := #[.agg #[.slice ahA VL.length chA, .slice bhA VT.length dhA]]) rfl (by kernel_rfl) (by kernel_rfl) (by apply runs_call1 (he := enters_of Try.func8 (by kernel_rfl) rfl) <;> rfl) z ?_
              refine (C1.out _ _ _ _ _ (RO.out _ z).1 (RO.out _ z).2).mono ?_
              rintro e wz ⟨rfl, hb⟩
              replace z := z.trans (hb.mono z.size)
              refine ⟨_, rfl, ?_⟩
              refine anyC_take (i := 2) (oi := ⟨_, _, _, _, _, _⟩) (v := .bool true) rfl (by kernel_rfl) (by kernel_rfl) (by kernel_rfl) (fun _ _ _ h => h) (.inl ⟨by kernel_rfl, fun wz hz => by apply runs_moveY <;> rfl⟩) ?_
              refine anyC_take (i := 3) (oi := ⟨_, _, _, _, _, _⟩) (v := .pointer (some ⟨hGb, 0, none⟩)) rfl (by kernel_rfl) (by kernel_rfl) (by kernel_rfl) (fun _ _ _ h => h) (.inl ⟨by kernel_rfl, fun wz hz => by go_simp⟩) ?_
              (try simp only [Act.put, List.setIfInBounds_toArray, List.set_cons_zero, List.set_cons_succ])
              refine anyC_take (i := 4) (oi := ⟨_, _, _, _, _, _⟩) (v := .slice ahA VL.length chA) rfl (by kernel_rfl) (by kernel_rfl) (by kernel_rfl) (fun _ _ _ h => h) (.inl ⟨by kernel_rfl, fun wz hz => by have c0 := (bx_cells (KG.out _ hz)).1; go_simp⟩) ?_
              refine anyC_take (i := 5) (oi := ⟨_, _, _, _, _, _⟩) (v := .int .i64 (VL.length : Int)) rfl (by kernel_rfl) (by kernel_rfl) (by kernel_rfl) (fun _ _ _ h => h) (.inl ⟨by kernel_rfl, fun wz hz => by go_simp⟩) ?_
              refine anyC_take (i := 6) (oi := ⟨_, _, _, _, _, _⟩) (v := .pointer (some ⟨hDb, 0, none⟩)) rfl (by kernel_rfl) (by kernel_rfl) (by kernel_rfl) (fun _ _ _ h => h) (.inl ⟨by kernel_rfl, fun wz hz => by go_simp⟩) ?_
              refine anyC_take (i := 7) (oi := ⟨_, _, _, _, _, _⟩) (v := .slice ahD L.length chD) rfl (by kernel_rfl) (by kernel_rfl) (by kernel_rfl) (fun _ _ _ h => h) (.inl ⟨by kernel_rfl, fun wz hz => by have c0 := (bx_cells (KD.out _ hz)).1; go_simp⟩) ?_
              (try simp only [Act.put, List.setIfInBounds_toArray, List.set_cons_zero, List.set_cons_succ])
              refine anyC_take (i := 8) (oi := ⟨_, _, _, _, _, _⟩) (v := .int .i64 (L.length : Int)) rfl (by kernel_rfl) (by kernel_rfl) (by kernel_rfl) (fun _ _ _ h => h) (.inl ⟨by kernel_rfl, fun wz hz => by go_simp⟩) ?_
              refine anyC_take (i := 9) (oi := ⟨_, _, _, _, _, _⟩) (v := .pointer (some ⟨hEb, 0, none⟩)) rfl (by kernel_rfl) (by kernel_rfl) (by kernel_rfl) (fun _ _ _ h => h) (.inl ⟨by kernel_rfl, fun wz hz => by go_simp⟩) ?_
              refine anyC_take (i := 10) (oi := ⟨_, _, _, _, _, _⟩) (v := .slice ahE M.length chE) rfl (by kernel_rfl) (by kernel_rfl) (by kernel_rfl) (fun _ _ _ h => h) (.inl ⟨by kernel_rfl, fun wz hz => by have c0 := (bx_cells (KE.out _ hz)).1; go_simp⟩) ?_
              refine anyC_take (i := 11) (oi := ⟨_, _, _, _, _, _⟩) (v := .int .i64 (M.length : Int)) rfl (by kernel_rfl) (by kernel_rfl) (by kernel_rfl) (fun _ _ _ h => h) (.inl ⟨by kernel_rfl, fun wz hz => by go_simp⟩) ?_
              (try simp only [Act.put, List.setIfInBounds_toArray, List.set_cons_zero, List.set_cons_succ])
              refine anyC_take (i := 12) (oi := ⟨_, _, _, _, _, _⟩) (v := .int .i64 ((L.length : Int) + M.length)) rfl (by kernel_rfl) (by kernel_rfl) (by kernel_rfl) (fun _ _ _ h => h) (.inl ⟨by kernel_rfl, fun wz hz => by have k1 := KW1.out; go_simp⟩) ?_
              refine anyC_take (i := 13) (oi := ⟨_, _, _, _, _, _⟩) (v := .int .i64 ((L.length : Int) + M.length - 1)) rfl (by kernel_rfl) (by kernel_rfl) (by kernel_rfl) (fun _ _ _ h => h) (.inl ⟨by kernel_rfl, fun wz hz => by have k2 := KW2.out; go_simp⟩) ?_
              refine anyC_take (i := 14) (oi := ⟨_, _, _, _, _, _⟩) (v := .bool true) rfl (by kernel_rfl) (by kernel_rfl) (by kernel_rfl) (fun _ _ _ h => h) (.inl ⟨by kernel_rfl, fun wz hz => by have k3 := KE2.out; go_simp⟩) ?_
              refine anyC_take (i := 15) (oi := ⟨_, _, _, _, _, _⟩) (v := .bool true) rfl (by kernel_rfl) (by kernel_rfl) (by kernel_rfl) (fun _ _ _ h => h) (.inl ⟨by kernel_rfl, fun wz hz => by go_simp⟩) ?_
              (try simp only [Act.put, List.setIfInBounds_toArray, List.set_cons_zero, List.set_cons_succ])
              refine anyC_take (i := 16) (oi := ⟨_, _, _, _, _, _⟩) (v := .bool true) rfl (by kernel_rfl) (by kernel_rfl) (by kernel_rfl) (fun _ _ _ h => h) (.inl ⟨by kernel_rfl, fun wz hz => by apply runs_moveY <;> rfl⟩) ?_
              refine anyC_take (i := 17) (oi := ⟨_, _, _, _, _, _⟩) (v := .bool false) rfl (by kernel_rfl) (by kernel_rfl) (by kernel_rfl) (fun _ _ _ h => h) (.inl ⟨by kernel_rfl, fun wz hz => by apply runs_moveY <;> rfl⟩) ?_
              refine anyC_take (i := 18) (oi := ⟨_, _, _, _, _, _⟩) (v := .bool false) rfl (by kernel_rfl) (by kernel_rfl) (by kernel_rfl) (fun _ _ _ h => h) (.inl ⟨by kernel_rfl, fun wz hz => by apply runs_moveY <;> rfl⟩) ?_
              refine anyC_take (i := 19) (oi := ⟨_, _, _, _, _, _⟩) (v := .agg #[.slice ahA VL.length chA, .slice bhA VT.length dhA]) rfl (by kernel_rfl) (by kernel_rfl) (by kernel_rfl) (fun _ _ _ h => h) (.inl ⟨by kernel_rfl, fun wz hz => runs_load (C := Below w3.heap.size w3) 26 _ rfl hGb rfl _ _ _ _ (fun w hw => KG.out _ hw) Try.underlying26 rfl (size_Alg _ _) wz hz⟩) ?_
              (try simp only [Act.put, List.setIfInBounds_toArray, List.set_cons_zero, List.set_cons_succ])
              refine anyC_take (i := 21) (oi := ⟨_, _, _, _, _, _⟩) (v := .agg #[.slice ahD L.length chD, .slice bhD T.length dhD]) rfl (by kernel_rfl) (by kernel_rfl) (by kernel_rfl) (fun _ _ _ h => h) (.inl ⟨by kernel_rfl, fun wz hz => runs_load (C := Below w3.heap.size w3) 26 _ rfl hDb rfl _ _ _ _ (fun w hw => KD.out _ hw) Try.underlying26 rfl (size_Alg _ _) wz hz⟩) ?_
              refine anyC_call (i := 20) (o := ⟨_, _, _, _, _, _⟩) (f := 9) (args := #[.string ⟨#[100, 105, 118, 105, 115, 105, 98, 108, 101]⟩, .agg #[.slice ahA VL.length chA, .slice bhA VT.length dhA]]) rfl (by kernel_rfl) (by kernel_rfl) (by apply runs_call2 (he := enters_of Try.func9 (by kernel_rfl) rfl) <;> rfl) z ?_
              refine (P0.out _ _ _ _ _ (RO.out _ z).1 (RO.out _ z).2).mono ?_
              rintro e wz ⟨rfl, hb⟩
              replace z := z.trans (hb.mono z.size)
              refine ⟨_, rfl, ?_⟩
              refine anyC_call (i := 22) (o := ⟨_, _, _, _, _, _⟩) (f := 9) (args := #[.string ⟨#[100, 105, 118, 105, 115, 105, 98, 108, 101]⟩, .agg #[.slice ahD L.length chD, .slice bhD T.length dhD]]) rfl (by kernel_rfl) (by kernel_rfl) (by apply runs_call2 (he := enters_of Try.func9 (by kernel_rfl) rfl) <;> rfl) z ?_
              refine (P1.out _ _ _ _ _ (RA_.out _ z).1 (RA_.out _ z).2).mono ?_
              rintro e wz ⟨rfl, hb⟩
              replace z := z.trans (hb.mono z.size)
              refine ⟨_, rfl, ?_⟩
              refine anyC_take (i := 23) (oi := ⟨_, _, _, _, _, _⟩) (v := .bool true) rfl (by kernel_rfl) (by kernel_rfl) (by kernel_rfl) (fun _ _ _ h => h) (.inl ⟨by kernel_rfl, fun wz hz => by apply runs_moveY <;> rfl⟩) ?_
              (try simp only [Act.put, List.setIfInBounds_toArray, List.set_cons_zero, List.set_cons_succ])
              refine anyC_take (i := 24) (oi := ⟨_, _, _, _, _, _⟩) (v := .agg #[.slice ahE M.length chE, .slice bhE U.length dhE]) rfl (by kernel_rfl) (by kernel_rfl) (by kernel_rfl) (fun _ _ _ h => h) (.inl ⟨by kernel_rfl, fun wz hz => runs_load (C := Below w3.heap.size w3) 26 _ rfl hEb rfl _ _ _ _ (fun w hw => KE.out _ hw) Try.underlying26 rfl (size_Alg _ _) wz hz⟩) ?_
              refine anyC_call (i := 25) (o := ⟨_, _, _, _, _, _⟩) (f := 9) (args := #[.string ⟨#[100, 105, 118, 105, 115, 105, 98, 108, 101]⟩, .agg #[.slice ahE M.length chE, .slice bhE U.length dhE]]) rfl (by kernel_rfl) (by kernel_rfl) (by apply runs_call2 (he := enters_of Try.func9 (by kernel_rfl) rfl) <;> rfl) z ?_
              refine (P2.out _ _ _ _ _ (RB.out _ z).1 (RB.out _ z).2).mono ?_
              rintro e wz ⟨rfl, hb⟩
              replace z := z.trans (hb.mono z.size)
              refine ⟨_, rfl, ?_⟩
              refine anyC_take (i := 26) (oi := ⟨_, _, _, _, _, _⟩) (v := .bool D0) rfl (by kernel_rfl) (by kernel_rfl) (by kernel_rfl) (fun _ _ _ h => h) (.inl ⟨by kernel_rfl, fun wz hz => by go_simp⟩) ?_
              refine anyC_take (i := 27) (oi := ⟨_, _, _, _, _, _⟩) (v := .bool true) rfl (by kernel_rfl) (by kernel_rfl) (by kernel_rfl) (fun _ _ _ h => h) (.inl ⟨by kernel_rfl, fun wz hz => by go_simp⟩) ?_
              (try simp only [Act.put, List.setIfInBounds_toArray, List.set_cons_zero, List.set_cons_succ])
              refine anyC_take (i := 28) (oi := ⟨_, _, _, _, _, _⟩) (v := .bool true) rfl (by kernel_rfl) (by kernel_rfl) (by kernel_rfl) (fun _ _ _ h => h) (.inl ⟨by kernel_rfl, fun wz hz => by go_simp⟩) ?_
              refine anyC_take (i := 29) (oi := ⟨_, _, _, _, _, _⟩) (v := .bool true) rfl (by kernel_rfl) (by kernel_rfl) (by kernel_rfl) (fun _ _ _ h => h) (.inl ⟨by kernel_rfl, fun wz hz => by go_simp⟩) ?_
              refine anyC_take (i := 30) (oi := ⟨_, _, _, _, _, _⟩) (v := .bool true) rfl (by kernel_rfl) (by kernel_rfl) (by kernel_rfl) (fun _ _ _ h => h) (.inl ⟨by kernel_rfl, fun wz hz => by apply runs_moveY <;> rfl⟩) ?_
              refine anyC_take (i := 31) (oi := ⟨_, _, _, _, _, _⟩) (v := .agg #[.slice ahA VL.length chA, .slice bhA VT.length dhA]) rfl (by kernel_rfl) (by kernel_rfl) (by kernel_rfl) (fun _ _ _ h => h) (.inl ⟨by kernel_rfl, fun wz hz => runs_load (C := Below w3.heap.size w3) 26 _ rfl hGb rfl _ _ _ _ (fun w hw => KG.out _ hw) Try.underlying26 rfl (size_Alg _ _) wz hz⟩) ?_
              (try simp only [Act.put, List.setIfInBounds_toArray, List.set_cons_zero, List.set_cons_succ])
              refine anyC_take (i := 33) (oi := ⟨_, _, _, _, _, _⟩) (v := .agg #[.slice ahD L.length chD, .slice bhD T.length dhD]) rfl (by kernel_rfl) (by kernel_rfl) (by kernel_rfl) (fun _ _ _ h => h) (.inl ⟨by kernel_rfl, fun wz hz => runs_load (C := Below w3.heap.size w3) 26 _ rfl hDb rfl _ _ _ _ (fun w hw => KD.out _ hw) Try.underlying26 rfl (size_Alg _ _) wz hz⟩) ?_
              refine anyC_call (i := 32) (o := ⟨_, _, _, _, _, _⟩) (f := 9) (args := #[.string ⟨#[105, 100, 101, 109, 112, 111, 116, 101, 110, 116]⟩, .agg #[.slice ahA VL.length chA, .slice bhA VT.length dhA]]) rfl (by kernel_rfl) (by kernel_rfl) (by apply runs_call2 (he := enters_of Try.func9 (by kernel_rfl) rfl) <;> rfl) z ?_
              refine (Q0.out _ _ _ _ _ (RO.out _ z).1 (RO.out _ z).2).mono ?_
              rintro e wz ⟨rfl, hb⟩
              replace z := z.trans (hb.mono z.size)
              refine ⟨_, rfl, ?_⟩
              refine anyC_call (i := 34) (o := ⟨_, _, _, _, _, _⟩) (f := 9) (args := #[.string ⟨#[105, 100, 101, 109, 112, 111, 116, 101, 110, 116]⟩, .agg #[.slice ahD L.length chD, .slice bhD T.length dhD]]) rfl (by kernel_rfl) (by kernel_rfl) (by apply runs_call2 (he := enters_of Try.func9 (by kernel_rfl) rfl) <;> rfl) z ?_
              refine (Q1.out _ _ _ _ _ (RA_.out _ z).1 (RA_.out _ z).2).mono ?_
              rintro e wz ⟨rfl, hb⟩
              replace z := z.trans (hb.mono z.size)
              refine ⟨_, rfl, ?_⟩
              refine anyC_take (i := 35) (oi := ⟨_, _, _, _, _, _⟩) (v := .bool true) rfl (by kernel_rfl) (by kernel_rfl) (by kernel_rfl) (fun _ _ _ h => h) (.inl ⟨by kernel_rfl, fun wz hz => by apply runs_moveY <;> rfl⟩) ?_
              (try simp only [Act.put, List.setIfInBounds_toArray, List.set_cons_zero, List.set_cons_succ])
              refine anyC_take (i := 36) (oi := ⟨_, _, _, _, _, _⟩) (v := .agg #[.slice ahE M.length chE, .slice bhE U.length dhE]) rfl (by kernel_rfl) (by kernel_rfl) (by kernel_rfl) (fun _ _ _ h => h) (.inl ⟨by kernel_rfl, fun wz hz => runs_load (C := Below w3.heap.size w3) 26 _ rfl hEb rfl _ _ _ _ (fun w hw => KE.out _ hw) Try.underlying26 rfl (size_Alg _ _) wz hz⟩) ?_
              refine anyC_call (i := 37) (o := ⟨_, _, _, _, _, _⟩) (f := 9) (args := #[.string ⟨#[105, 100, 101, 109, 112, 111, 116, 101, 110, 116]⟩, .agg #[.slice ahE M.length chE, .slice bhE U.length dhE]]) rfl (by kernel_rfl) (by kernel_rfl) (by apply runs_call2 (he := enters_of Try.func9 (by kernel_rfl) rfl) <;> rfl) z ?_
              refine (Q2.out _ _ _ _ _ (RB.out _ z).1 (RB.out _ z).2).mono ?_
              rintro e wz ⟨rfl, hb⟩
              replace z := z.trans (hb.mono z.size)
              refine ⟨_, rfl, ?_⟩
              refine anyC_take (i := 38) (oi := ⟨_, _, _, _, _, _⟩) (v := .bool I0) rfl (by kernel_rfl) (by kernel_rfl) (by kernel_rfl) (fun _ _ _ h => h) (.inl ⟨by kernel_rfl, fun wz hz => by go_simp⟩) ?_
              refine anyC_take (i := 39) (oi := ⟨_, _, _, _, _, _⟩) (v := .bool true) rfl (by kernel_rfl) (by kernel_rfl) (by kernel_rfl) (fun _ _ _ h => h) (.inl ⟨by kernel_rfl, fun wz hz => by go_simp⟩) ?_
              (try simp only [Act.put, List.setIfInBounds_toArray, List.set_cons_zero, List.set_cons_succ])
              refine anyC_take (i := 40) (oi := ⟨_, _, _, _, _, _⟩) (v := .bool true) rfl (by kernel_rfl) (by kernel_rfl) (by kernel_rfl) (fun _ _ _ h => h) (.inl ⟨by kernel_rfl, fun wz hz => by go_simp⟩) ?_
              refine anyC_take (i := 41) (oi := ⟨_, _, _, _, _, _⟩) (v := .bool true) rfl (by kernel_rfl) (by kernel_rfl) (by kernel_rfl) (fun _ _ _ h => h) (.inl ⟨by kernel_rfl, fun wz hz => by apply runs_moveY <;> rfl⟩) ?_
              refine anyC_take (i := 42) (oi := ⟨_, _, _, _, _, _⟩) (v := .pointer (some ⟨hDb, 0, none⟩)) rfl (by kernel_rfl) (by kernel_rfl) (by kernel_rfl) (fun _ _ _ h => h) (.inl ⟨by kernel_rfl, fun wz hz => by go_simp⟩) ?_
              refine anyC_take (i := 43) (oi := ⟨_, _, _, _, _, _⟩) (v := .slice ahD L.length chD) rfl (by kernel_rfl) (by kernel_rfl) (by kernel_rfl) (fun _ _ _ h => h) (.inl ⟨by kernel_rfl, fun wz hz => by have c0 := (bx_cells (KD.out _ hz)).1; go_simp⟩) ?_
              (try simp only [Act.put, List.setIfInBounds_toArray, List.set_cons_zero, List.set_cons_succ])
              refine anyC_take (i := 50) (oi := ⟨_, _, _, _, _, _⟩) (v := .pointer (some ⟨hGb, 0, none⟩)) rfl (by kernel_rfl) (by kernel_rfl) (by kernel_rfl) (fun _ _ _ h => h) (.inl ⟨by kernel_rfl, fun wz hz => by go_simp⟩) ?_
              refine anyC_take (i := 51) (oi := ⟨_, _, _, _, _, _⟩) (v := .slice ahA VL.length chA) rfl (by kernel_rfl) (by kernel_rfl) (by kernel_rfl) (fun _ _ _ h => h) (.inl ⟨by kernel_rfl, fun wz hz => by have c0 := (bx_cells (KG.out _ hz)).1; go_simp⟩) ?_
              refine anyC_call (i := 44) (o := ⟨_, _, _, _, _, _⟩) (f := 10) (args := #[.slice ahD L.length chD]) rfl (by kernel_rfl) (by kernel_rfl) (by apply runs_call1 (he := enters_of Try.func10 (by kernel_rfl) rfl) <;> rfl) z ?_
              refine (X1c.out _ _ _ (RA_.out _ z).1).mono ?_
              rintro e wz ⟨rfl, hb⟩
              replace z := z.trans (hb.mono z.size)
              refine ⟨_, rfl, ?_⟩
              refine anyC_take (i := 45) (oi := ⟨_, _, _, _, _, _⟩) (v := .bool false) rfl (by kernel_rfl) (by kernel_rfl) (by kernel_rfl) (fun _ _ _ h => h) (.inl ⟨by kernel_rfl, fun wz hz => by apply runs_moveY <;> rfl⟩) ?_
              (try simp only [Act.put, List.setIfInBounds_toArray, List.set_cons_zero, List.set_cons_succ])
              refine anyC_take (i := 46) (oi := ⟨_, _, _, _, _, _⟩) (v := undef) rfl (by kernel_rfl) (by kernel_rfl) (by kernel_rfl) (fun _ _ _ h => h) (.inr ⟨by kernel_rfl, rfl⟩) ?_
              refine anyC_take (i := 47) (oi := ⟨_, _, _, _, _, _⟩) (v := undef) rfl (by kernel_rfl) (by kernel_rfl) (by kernel_rfl) (fun _ _ _ h => h) (.inr ⟨by kernel_rfl, rfl⟩) ?_
              refine anyC_take (i := 48) (oi := ⟨_, _, _, _, _, _⟩) (v := undef) rfl (by kernel_rfl) (by kernel_rfl) (by kernel_rfl) (fun _ _ _ h => h) (.inr ⟨by kernel_rfl, rfl⟩) ?_
              refine anyC_take (i := 49) (oi := ⟨_, _, _, _, _, _⟩) (v := .bool false) rfl (by kernel_rfl) (by kernel_rfl) (by kernel_rfl) (fun _ _ _ h => h) (.inl ⟨by kernel_rfl, fun wz hz => by go_simp⟩) ?_
              (try simp only [Act.put, List.setIfInBounds_toArray, List.set_cons_zero, List.set_cons_succ])
              refine anyC_call (i := 52) (o := ⟨_, _, _, _, _, _⟩) (f := 10) (args := #[.slice ahA VL.length chA]) rfl (by kernel_rfl) (by kernel_rfl) (by apply runs_call1 (he := enters_of Try.func10 (by kernel_rfl) rfl) <;> rfl) z ?_
              refine (X0c.out _ _ _ (RO.out _ z).1).mono ?_
              rintro e wz ⟨rfl, hb⟩
              replace z := z.trans (hb.mono z.size)
              refine ⟨_, rfl, ?_⟩
              refine anyC_take (i := 53) (oi := ⟨_, _, _, _, _, _⟩) (v := .bool true) rfl (by kernel_rfl) (by kernel_rfl) (by kernel_rfl) (fun _ _ _ h => h) (.inl ⟨by kernel_rfl, fun wz hz => by go_simp⟩) ?_
              refine anyC_take (i := 54) (oi := ⟨_, _, _, _, _, _⟩) (v := .bool true) rfl (by kernel_rfl) (by kernel_rfl) (by kernel_rfl) (fun _ _ _ h => h) (.inl ⟨by kernel_rfl, fun wz hz => by go_simp⟩) ?_
              refine anyC_take (i := 55) (oi := ⟨_, _, _, _, _, _⟩) (v := .bool true) rfl (by kernel_rfl) (by kernel_rfl) (by kernel_rfl) (fun _ _ _ h => h) (.inl ⟨by kernel_rfl, fun wz hz => by apply runs_assign <;> rfl⟩) ?_
              (try simp only [Act.put, List.setIfInBounds_toArray, List.set_cons_zero, List.set_cons_succ])
              refine anyC_done (by kernel_rfl) z ?_ _
              go_wp2
              go_ret
              exact ⟨by first | rfl | exact ret_bool (by simp), FIN.out _ z⟩
          · simp only [Bool.true_and] at e5
            subst e5
            cases D1
            · simp only [Bool.false_and] at e3
              subst e3
              refine wp_region_any (by kernel_rfl) ?_
              refine any_of_C (C := Below w3.heap.size w3) _ _ _ _ ?_
              replace z := z.drew
              refine anyC_take (i := 0) (oi := ⟨_, _, _, _, _, _⟩) (v := .agg #[.slice ahA VL.length chA, .slice bhA VT.length dhA]) rfl (by kernel_rfl) (by kernel_rfl) (by kernel_rfl) (fun _ _ _ h => h) (.inl ⟨by kernel_rfl, fun wz hz => runs_load (C := Below w3.heap.size w3) 26 _ rfl hGb rfl _ _ _ _ (fun w hw => KG.out _ hw) Try.underlying26 rfl (size_Alg _ _) wz hz⟩) ?_
              refine anyC_call (i := 1) (o := ⟨_, _, _, _, _, _⟩) (f := 8) (args := #[.agg #[.slice ahA VL.length chA, .slice bhA VT.length dhA]]) rfl (by kernel_rfl) (by kernel_rfl) (by apply runs_call1 (he := enters_of Try.func8 (by kernel_rfl) rfl) <;> rfl) z ?_
              refine (C1.out _ _ _ _ _ (RO.out _ z).1 (RO.out _ z).2).mono ?_
              rintro e wz ⟨rfl, hb⟩
              replace z := z.trans (hb.mono z.size)
              refine ⟨_, rfl, ?_⟩
              refine anyC_take (i := 2) (oi := ⟨_, _, _, _, _, _⟩) (v := .bool true) rfl (by kernel_rfl) (by kernel_rfl) (by kernel_rfl) (fun _ _ _ h => h) (.inl ⟨by kernel_rfl, fun wz hz => by apply runs_moveY <;> rfl⟩) ?_
              refine anyC_take (i := 3) (oi := ⟨_, _, _, _, _, _⟩) (v := .pointer (some ⟨hGb, 0, none⟩)) rfl (by kernel_rfl) (by kernel_rfl) (by kernel_rfl) (fun _ _ _ h => h) (.inl ⟨by kernel_rfl, fun wz hz => by go_simp⟩) ?_
              (try simp only [Act.put, List.setIfInBounds_toArray, List.set_cons_zero, List.set_cons_succ])
              refine anyC_take (i := 4) (oi := ⟨_, _, _, _, _, _⟩) (v := .slice ahA VL.length chA) rfl (by kernel_rfl) (by kernel_rfl) (by kernel_rfl) (fun _ _ _ h => h) (.inl ⟨by kernel_rfl, fun wz hz => by have c0 := (bx_cells (KG.out _ hz)).1; go_simp⟩) ?_
              refine anyC_take (i := 5) (oi := ⟨_, _, _, _, _, _⟩) (v := .int .i64 (VL.length : Int)) rfl (by kernel_rfl) (by kernel_rfl) (by kernel_rfl) (fun _ _ _ h => h) (.inl ⟨by kernel_rfl, fun wz hz => by go_simp⟩) ?_
              refine anyC_take (i := 6) (oi := ⟨_, _, _, _, _, _⟩) (v := .pointer (some ⟨hDb, 0, none⟩)) rfl (by kernel_rfl) (by kernel_rfl) (by kernel_rfl) (fun _ _ _ h => h) (.inl ⟨by kernel_rfl, fun wz hz => by go_simp⟩) ?_
              refine anyC_take (i := 7) (oi := ⟨_, _, _, _, _, _⟩) (v := .slice ahD L.length chD) rfl (by kernel_rfl) (by kernel_rfl) (by kernel_rfl) (fun _ _ _ h => h) (.inl ⟨by kernel_rfl, fun wz hz => by have c0 := (bx_cells (KD.out _ hz)).1; go_simp⟩) ?_
              (try simp only [Act.put, List.setIfInBounds_toArray, List.set_cons_zero, List.set_cons_succ])
              refine anyC_take (i := 8) (oi := ⟨_, _, _, _, _, _⟩) (v := .int .i64 (L.length : Int)) rfl (by kernel_rfl) (by kernel_rfl) (by kernel_rfl) (fun _ _ _ h => h) (.inl ⟨by kernel_rfl, fun wz hz => by go_simp⟩) ?_
              refine anyC_take (i := 9) (oi := ⟨_, _, _, _, _, _⟩) (v := .pointer (some ⟨hEb, 0, none⟩)) rfl (by kernel_rfl) (by kernel_rfl) (by kernel_rfl) (fun _ _ _ h => h) (.inl ⟨by kernel_rfl, fun wz hz => by go_simp⟩) ?_
              refine anyC_take (i := 10) (oi := ⟨_, _, _, _, _, _⟩) (v := .slice ahE M.length chE) rfl (by kernel_rfl) (by kernel_rfl) (by kernel_rfl) (fun _ _ _ h => h) (.inl ⟨by kernel_rfl, fun wz hz => by have c0 := (bx_cells (KE.out _ hz)).1; go_simp⟩) ?_
              refine anyC_take (i := 11) (oi := ⟨_, _, _, _, _, _⟩) (v := .int .i64 (M.length : Int)) rfl (by kernel_rfl) (by kernel_rfl) (by kernel_rfl) (fun _ _ _ h => h) (.inl ⟨by kernel_rfl, fun wz hz => by go_simp⟩) ?_
              (try simp only [Act.put, List.setIfInBounds_toArray, List.set_cons_zero, List.set_cons_succ])
              refine anyC_take (i := 12) (oi := ⟨_, _, _, _, _, _⟩) (v := .int .i64 ((L.length : Int) + M.length)) rfl (by kernel_rfl) (by kernel_rfl) (by kernel_rfl) (fun _ _ _ h => h) (.inl ⟨by kernel_rfl, fun wz hz => by have k1 := KW1.out; go_simp⟩) ?_
              refine anyC_take (i := 13) (oi := ⟨_, _, _, _, _, _⟩) (v := .int .i64 ((L.length : Int) + M.length - 1)) rfl (by kernel_rfl) (by kernel_rfl) (by kernel_rfl) (fun _ _ _ h => h) (.inl ⟨by kernel_rfl, fun wz hz => by have k2 := KW2.out; go_simp⟩) ?_
              refine anyC_take (i := 14) (oi := ⟨_, _, _, _, _, _⟩) (v := .bool true) rfl (by kernel_rfl) (by kernel_rfl) (by kernel_rfl) (fun _ _ _ h => h) (.inl ⟨by kernel_rfl, fun wz hz => by have k3 := KE2.out; go_simp⟩) ?_
              refine anyC_take (i := 15) (oi := ⟨_, _, _, _, _, _⟩) (v := .bool true) rfl (by kernel_rfl) (by kernel_rfl) (by kernel_rfl) (fun _ _ _ h => h) (.inl ⟨by kernel_rfl, fun wz hz => by go_simp⟩) ?_
              (try simp only [Act.put, List.setIfInBounds_toArray, List.set_cons_zero, List.set_cons_succ])
              refine anyC_take (i := 16) (oi := ⟨_, _, _, _, _, _⟩) (v := .bool true) rfl (by kernel_rfl) (by kernel_rfl) (by kernel_rfl) (fun _ _ _ h => h) (.inl ⟨by kernel_rfl, fun wz hz => by apply runs_moveY <;> rfl⟩) ?_
              refine anyC_take (i := 17) (oi := ⟨_, _, _, _, _, _⟩) (v := .bool false) rfl (by kernel_rfl) (by kernel_rfl) (by kernel_rfl) (fun _ _ _ h => h) (.inl ⟨by kernel_rfl, fun wz hz => by apply runs_moveY <;> rfl⟩) ?_
              refine anyC_take (i := 18) (oi := ⟨_, _, _, _, _, _⟩) (v := .bool false) rfl (by kernel_rfl) (by kernel_rfl) (by kernel_rfl) (fun _ _ _ h => h) (.inl ⟨by kernel_rfl, fun wz hz => by apply runs_moveY <;> rfl⟩) ?_
              refine anyC_take (i := 19) (oi := ⟨_, _, _, _, _, _⟩) (v := .agg #[.slice ahA VL.length chA, .slice bhA VT.length dhA]) rfl (by kernel_rfl) (by kernel_rfl) (by kernel_rfl) (fun _ _ _ h => h) (.inl ⟨by kernel_rfl, fun wz hz => runs_load (C := Below w3.heap.size w3) 26 _ rfl hGb rfl _ _ _ _ (fun w hw => KG.out _ hw) Try.underlying26 rfl (size_Alg _ _) wz hz⟩) ?_
              (try simp only [Act.put, List.setIfInBounds_toArray, List.set_cons_zero, List.set_cons_succ])
              refine anyC_take (i := 21) (oi := ⟨_, _, _, _, _, _⟩) (v := .agg #[.slice ahD L.length chD, .slice bhD T.length dhD]) rfl (by kernel_rfl) (by kernel_rfl) (by kernel_rfl) (fun _ _ _ h => h) (.inl ⟨by kernel_rfl, fun wz hz => runs_load (C := Below w3.heap.size w3) 26 _ rfl hDb rfl _ _ _ _ (fun w hw => KD.out _ hw) Try.underlying26 rfl (size_Alg _ _) wz hz⟩) ?_
              refine anyC_call (i := 20) (o := ⟨_, _, _, _, _, _⟩) (f := 9) (args := #[.string ⟨#[100, 105, 118, 105, 115, 105, 98, 108, 101]⟩, .agg #[.slice ahA VL.length chA, .slice bhA VT.length dhA]]) rfl (by kernel_rfl) (by kernel_rfl) (by apply runs_call2 (he := enters_of Try.func9 (by kernel_rfl) rfl) <;> rfl) z ?_
              refine (P0.out _ _ _ _ _ (RO.out _ z).1 (RO.out _ z).2).mono ?_
              rintro e wz ⟨rfl, hb⟩
              replace z := z.trans (hb.mono z.size)
              refine ⟨_, rfl, ?_⟩
              refine anyC_call (i := 22) (o := ⟨_, _, _, _, _, _⟩) (f := 9) (args := #[.string ⟨#[100, 105, 118, 105, 115, 105, 98, 108, 101]⟩, .agg #[.slice ahD L.length chD, .slice bhD T.length dhD]]) rfl (by kernel_rfl) (by kernel_rfl) (by apply runs_call2 (he := enters_of Try.func9 (by kernel_rfl) rfl) <;> rfl) z ?_
              refine (P1.out _ _ _ _ _ (RA_.out _ z).1 (RA_.out _ z).2).mono ?_
              rintro e wz ⟨rfl, hb⟩
              replace z := z.trans (hb.mono z.size)
              refine ⟨_, rfl, ?_⟩
              refine anyC_take (i := 23) (oi := ⟨_, _, _, _, _, _⟩) (v := .bool false) rfl (by kernel_rfl) (by kernel_rfl) (by kernel_rfl) (fun _ _ _ h => h) (.inl ⟨by kernel_rfl, fun wz hz => by apply runs_moveY <;> rfl⟩) ?_
              (try simp only [Act.put, List.setIfInBounds_toArray, List.set_cons_zero, List.set_cons_succ])
              refine anyC_take (i := 24) (oi := ⟨_, _, _, _, _, _⟩) (v := undef) rfl (by kernel_rfl) (by kernel_rfl) (by kernel_rfl) (fun _ _ _ h => h) (.inr ⟨by kernel_rfl, rfl⟩) ?_
              refine anyC_take (i := 25) (oi := ⟨_, _, _, _, _, _⟩) (v := undef) rfl (by kernel_rfl) (by kernel_rfl) (by kernel_rfl) (fun _ _ _ h => h) (.inr ⟨by kernel_rfl, rfl⟩) ?_
              refine anyC_take (i := 26) (oi := ⟨_, _, _, _, _, _⟩) (v := .bool false) rfl (by kernel_rfl) (by kernel_rfl) (by kernel_rfl) (fun _ _ _ h => h) (.inl ⟨by kernel_rfl, fun wz hz => by go_simp⟩) ?_
              refine anyC_take (i := 27) (oi := ⟨_, _, _, _, _, _⟩) (v := .bool true) rfl (by kernel_rfl) (by kernel_rfl) (by kernel_rfl) (fun _ _ _ h => h) (.inl ⟨by kernel_rfl, fun wz hz => by go_simp⟩) ?_
              (try simp only [Act.put, List.setIfInBounds_toArray, List.set_cons_zero, List.set_cons_succ])
              refine anyC_take (i := 28) (oi := ⟨_, _, _, _, _, _⟩) (v := .bool true) rfl (by kernel_rfl) (by kernel_rfl) (by kernel_rfl) (fun _ _ _ h => h) (.inl ⟨by kernel_rfl, fun wz hz => by go_simp⟩) ?_
              refine anyC_take (i := 29) (oi := ⟨_, _, _, _, _, _⟩) (v := .bool true) rfl (by kernel_rfl) (by kernel_rfl) (by kernel_rfl) (fun _ _ _ h => h) (.inl ⟨by kernel_rfl, fun wz hz => by go_simp⟩) ?_
              refine anyC_take (i := 30) (oi := ⟨_, _, _, _, _, _⟩) (v := .bool true) rfl (by kernel_rfl) (by kernel_rfl) (by kernel_rfl) (fun _ _ _ h => h) (.inl ⟨by kernel_rfl, fun wz hz => by apply runs_moveY <;> rfl⟩) ?_
              refine anyC_take (i := 31) (oi := ⟨_, _, _, _, _, _⟩) (v := .agg #[.slice ahA VL.length chA, .slice bhA VT.length dhA]) rfl (by kernel_rfl) (by kernel_rfl) (by kernel_rfl) (fun _ _ _ h => h) (.inl ⟨by kernel_rfl, fun wz hz => runs_load (C := Below w3.heap.size w3) 26 _ rfl hGb rfl _ _ _ _ (fun w hw => KG.out _ hw) Try.underlying26 rfl (size_Alg _ _) wz hz⟩) ?_
              (try simp only [Act.put, List.setIfInBounds_toArray, List.set_cons_zero, List.set_cons_succ])
              refine anyC_take (i := 33) (oi := ⟨_, _, _, _, _, _⟩) (v := .agg #[.slice ahD L.length chD, .slice bhD T.length dhD]) rfl (by kernel_rfl) (by kernel_rfl) (by kernel_rfl) (fun _ _ _ h => h) (.inl ⟨by kernel_rfl, fun wz hz => runs_load (C := Below w3.heap.size w3) 26 _ rfl hDb rfl _ _ _ _ (fun w hw => KD.out _ hw) Try.underlying26 rfl (size_Alg _ _) wz hz⟩) ?_
              refine anyC_call (i := 32) (o := ⟨_, _, _, _, _, _⟩) (f := 9) (args := #[.string ⟨#[105, 100, 101, 109, 112, 111, 116, 101, 110, 116]⟩, .agg #[.slice ahA VL.length chA, .slice bhA VT.length dhA]]) rfl (by kernel_rfl) (by kernel_rfl) (by apply runs_call2 (he := enters_of Try.func9 (by kernel_rfl) rfl) <;> rfl) z ?_
              refine (Q0.out _ _ _ _ _ (RO.out _ z).1 (RO.out _ z).2).mono ?_
              rintro e wz ⟨rfl, hb⟩
              replace z := z.trans (hb.mono z.size)
              refine ⟨_, rfl, ?_⟩
              refine anyC_call (i := 34) (o := ⟨_, _, _, _, _, _⟩) (f := 9) (args := #[.string ⟨#[105, 100, 101, 109, 112, 111, 116, 101, 110, 116]⟩, .agg #[.slice ahD L.length chD, .slice bhD T.length dhD]]) rfl (by kernel_rfl) (by kernel_rfl) (by apply runs_call2 (he := enters_of Try.func9 (by kernel_rfl) rfl) <;> rfl) z ?_
              refine (Q1.out _ _ _ _ _ (RA_.out _ z).1 (RA_.out _ z).2).mono ?_
              rintro e wz ⟨rfl, hb⟩
              replace z := z.trans (hb.mono z.size)
              refine ⟨_, rfl, ?_⟩
              refine anyC_take (i := 35) (oi := ⟨_, _, _, _, _, _⟩) (v := .bool true) rfl (by kernel_rfl) (by kernel_rfl) (by kernel_rfl) (fun _ _ _ h => h) (.inl ⟨by kernel_rfl, fun wz hz => by apply runs_moveY <;> rfl⟩) ?_
              (try simp only [Act.put, List.setIfInBounds_toArray, List.set_cons_zero, List.set_cons_succ])
              refine anyC_take (i := 36) (oi := ⟨_, _, _, _, _, _⟩) (v := .agg #[.slice ahE M.length chE, .slice bhE U.length dhE]) rfl (by kernel_rfl) (by kernel_rfl) (by kernel_rfl) (fun _ _ _ h => h) (.inl ⟨by kernel_rfl, fun wz hz => runs_load (C := Below w3.heap.size w3) 26 _ rfl hEb rfl _ _ _ _ (fun w hw => KE.out _ hw) Try.underlying26 rfl (size_Alg _ _) wz hz⟩) ?_
              refine anyC_call (i := 37) (o := ⟨_, _, _, _, _, _⟩) (f := 9) (args := #[.string ⟨#[105, 100, 101, 109, 112, 111, 116, 101, 110, 116]⟩, .agg #[.slice ahE M.length chE, .slice bhE U.length dhE]]) rfl (by kernel_rfl) (by kernel_rfl) (by apply runs_call2 (he := enters_of Try.func9 (by kernel_rfl) rfl) <;> rfl) z ?_
              refine (Q2.out _ _ _ _ _ (RB.out _ z).1 (RB.out _ z).2).mono ?_
              rintro e wz ⟨rfl, hb⟩
              replace z := z.trans (hb.mono z.size)
              refine ⟨_, rfl, ?_⟩
              refine anyC_take (i := 38) (oi := ⟨_, _, _, _, _, _⟩) (v := .bool I0) rfl (by kernel_rfl) (by kernel_rfl) (by kernel_rfl) (fun _ _ _ h => h) (.inl ⟨by kernel_rfl, fun wz hz => by go_simp⟩) ?_
              refine anyC_take (i := 39) (oi := ⟨_, _, _, _, _, _⟩) (v := .bool true) rfl (by kernel_rfl) (by kernel_rfl) (by kernel_rfl) (fun _ _ _ h => h) (.inl ⟨by kernel_rfl, fun wz hz => by go_simp⟩) ?_
              (try simp only [Act.put, List.setIfInBounds_toArray, List.set_cons_zero, List.set_cons_succ])
              refine anyC_take (i := 40) (oi := ⟨_, _, _, _, _, _⟩) (v := .bool true) rfl (by kernel_rfl) (by kernel_rfl) (by kernel_rfl) (fun _ _ _ h => h) (.inl ⟨by kernel_rfl, fun wz hz => by go_simp⟩) ?_
              refine anyC_take (i := 41) (oi := ⟨_, _, _, _, _, _⟩) (v := .bool true) rfl (by kernel_rfl) (by kernel_rfl) (by kernel_rfl) (fun _ _ _ h => h) (.inl ⟨by kernel_rfl, fun wz hz => by apply runs_moveY <;> rfl⟩) ?_
              refine anyC_take (i := 42) (oi := ⟨_, _, _, _, _, _⟩) (v := .pointer (some ⟨hDb, 0, none⟩)) rfl (by kernel_rfl) (by kernel_rfl) (by kernel_rfl) (fun _ _ _ h => h) (.inl ⟨by kernel_rfl, fun wz hz => by go_simp⟩) ?_
              refine anyC_take (i := 43) (oi := ⟨_, _, _, _, _, _⟩) (v := .slice ahD L.length chD) rfl (by kernel_rfl) (by kernel_rfl) (by kernel_rfl) (fun _ _ _ h => h) (.inl ⟨by kernel_rfl, fun wz hz => by have c0 := (bx_cells (KD.out _ hz)).1; go_simp⟩) ?_
              (try simp only [Act.put, List.setIfInBounds_toArray, List.set_cons_zero, List.set_cons_succ])
              refine anyC_take (i := 50) (oi := ⟨_, _, _, _, _, _⟩) (v := .pointer (some ⟨hGb, 0, none⟩)) rfl (by kernel_rfl) (by kernel_rfl) (by kernel_rfl) (fun _ _ _ h => h) (.inl ⟨by kernel_rfl, fun wz hz => by go_simp⟩) ?_
              refine anyC_take (i := 51) (oi := ⟨_, _, _, _, _, _⟩) (v := .slice ahA VL.length chA) rfl (by kernel_rfl) (by kernel_rfl) (by kernel_rfl) (fun _ _ _ h => h) (.inl ⟨by kernel_rfl, fun wz hz => by have c0 := (bx_cells (KG.out _ hz)).1; go_simp⟩) ?_
              refine anyC_call (i := 44) (o := ⟨_, _, _, _, _, _⟩) (f := 10) (args := #[.slice ahD L.length chD]) rfl (by kernel_rfl) (by kernel_rfl) (by apply runs_call1 (he := enters_of Try.func10 (by kernel_rfl) rfl) <;> rfl) z ?_
              refine (X1c.out _ _ _ (RA_.out _ z).1).mono ?_
              rintro e wz ⟨rfl, hb⟩
              replace z := z.trans (hb.mono z.size)
              refine ⟨_, rfl, ?_⟩
              refine anyC_take (i := 45) (oi := ⟨_, _, _, _, _, _⟩) (v := .bool true) rfl (by kernel_rfl) (by kernel_rfl) (by kernel_rfl) (fun _ _ _ h => h) (.inl ⟨by kernel_rfl, fun wz hz => by apply runs_moveY <;> rfl⟩) ?_
              (try simp only [Act.put, List.setIfInBounds_toArray, List.set_cons_zero, List.set_cons_succ])
              refine anyC_take (i := 46) (oi := ⟨_, _, _, _, _, _⟩) (v := .pointer (some ⟨hEb, 0, none⟩)) rfl (by kernel_rfl) (by kernel_rfl) (by kernel_rfl) (fun _ _ _ h => h) (.inl ⟨by kernel_rfl, fun wz hz => by go_simp⟩) ?_
              refine anyC_take (i := 47) (oi := ⟨_, _, _, _, _, _⟩) (v := .slice ahE M.length chE) rfl (by kernel_rfl) (by kernel_rfl) (by kernel_rfl) (fun _ _ _ h => h) (.inl ⟨by kernel_rfl, fun wz hz => by have c0 := (bx_cells (KE.out _ hz)).1; go_simp⟩) ?_
              refine anyC_call (i := 48) (o := ⟨_, _, _, _, _, _⟩) (f := 10) (args := #[.slice ahE M.length chE]) rfl (by kernel_rfl) (by kernel_rfl) (by apply runs_call1 (he := enters_of Try.func10 (by kernel_rfl) rfl) <;> rfl) z ?_
              refine (X2c.out _ _ _ (RB.out _ z).1).mono ?_
              rintro e wz ⟨rfl, hb⟩
              replace z := z.trans (hb.mono z.size)
              refine ⟨_, rfl, ?_⟩
              refine anyC_take (i := 49) (oi := ⟨_, _, _, _, _, _⟩) (v := .bool X2) rfl (by kernel_rfl) (by kernel_rfl) (by kernel_rfl) (fun _ _ _ h => h) (.inl ⟨by kernel_rfl, fun wz hz => by go_simp⟩) ?_
              (try simp only [Act.put, List.setIfInBounds_toArray, List.set_cons_zero, List.set_cons_succ])
              refine anyC_call (i := 52) (o := ⟨_, _, _, _, _, _⟩) (f := 10) (args := #[.slice ahA VL.length chA]) rfl (by kernel_rfl) (by kernel_rfl) (by apply runs_call1 (he := enters_of Try.func10 (by kernel_rfl) rfl) <;> rfl) z ?_
              refine (X0c.out _ _ _ (RO.out _ z).1).mono ?_
              rintro e wz ⟨rfl, hb⟩
              replace z := z.trans (hb.mono z.size)
              refine ⟨_, rfl, ?_⟩
              refine anyC_take (i := 53) (oi := ⟨_, _, _, _, _, _⟩) (v := .bool true) rfl (by kernel_rfl) (by kernel_rfl) (by kernel_rfl) (fun _ _ _ h => h) (.inl ⟨by kernel_rfl, fun wz hz => by go_simp⟩) ?_
              refine anyC_take (i := 54) (oi := ⟨_, _, _, _, _, _⟩) (v := .bool true) rfl (by kernel_rfl) (by kernel_rfl) (by kernel_rfl) (fun _ _ _ h => h) (.inl ⟨by kernel_rfl, fun wz hz => by go_simp⟩) ?_
              refine anyC_take (i := 55) (oi := ⟨_, _, _, _, _, _⟩) (v := .bool true) rfl (by kernel_rfl) (by kernel_rfl) (by kernel_rfl) (fun _ _ _ h => h) (.inl ⟨by kernel_rfl, fun wz hz => by apply runs_assign <;> rfl⟩) ?_
              (try simp only [Act.put, List.setIfInBounds_toArray, List.set_cons_zero, List.set_cons_succ])
              refine anyC_done (by kernel_rfl) z ?_ _
              go_wp2
              go_ret
              exact ⟨by first | rfl | exact ret_bool (by simp), FIN.out _ z⟩
            · simp only [Bool.true_and] at e3
              subst e3
              refine wp_region_any (by kernel_rfl) ?_
              refine any_of_C (C := Below w3.heap.size w3) _ _ _ _ ?_
              replace z := z.drew
              refine anyC_take (i := 0) (oi := ⟨_, _, _, _, _, _⟩) (v := .agg #[.slice ahA VL.length chA, .slice bhA VT.length dhA]) rfl (by kernel_rfl) (by kernel_rfl) (by kernel_rfl) (fun _ _ _ h => h) (.inl ⟨by kernel_rfl, fun wz hz => runs_load (C := Below w3.heap.size w3) 26 _ rfl hGb rfl _ _ _ _ (fun w hw => KG.out _ hw) Try.underlying26 rfl (size_Alg _ _) wz hz⟩) ?_
              refine anyC_call (i := 1) (o := ⟨_, _, _, _, _, _⟩) (f := 8) (args := #[.agg #[.slice ahA VL.length chA, .slice bhA VT.length dhA]]) rfl (by kernel_rfl) (by kernel_rfl) (by apply runs_call1 (he := enters_of Try.func8 (by kernel_rfl) rfl) <;> rfl) z ?_
              refine (C1.out _ _ _ _ _ (RO.out _ z).1 (RO.out _ z).2).mono ?_
              rintro e wz ⟨rfl, hb⟩
              replace z := z.trans (hb.mono z.size)
              refine ⟨_, rfl, ?_⟩
              refine anyC_take (i := 2) (oi := ⟨_, _, _, _, _, _⟩) (v := .bool true) rfl (by kernel_rfl) (by kernel_rfl) (by kernel_rfl) (fun _ _ _ h => h) (.inl ⟨by kernel_rfl, fun wz hz => by apply runs_moveY <;> rfl⟩) ?_
              refine anyC_take (i := 3) (oi := ⟨_, _, _, _, _, _⟩) (v := .pointer (some ⟨hGb, 0, none⟩)) rfl (by kernel_rfl) (by kernel_rfl) (by kernel_rfl) (fun _ _ _ h => h) (.inl ⟨by kernel_rfl, fun wz hz => by go_simp⟩) ?_
              (try simp only [Act.put, List.setIfInBounds_toArray, List.set_cons_zero, List.set_cons_succ])
              refine anyC_take (i := 4) (oi := ⟨_, _, _, _, _, _⟩) (v := .slice ahA VL.length chA) rfl (by kernel_rfl) (by kernel_rfl) (by kernel_rfl) (fun _ _ _ h => h) (.inl ⟨by kernel_rfl, fun wz hz => by have c0 := (bx_cells (KG.out _ hz)).1; go_simp⟩) ?_
              refine anyC_take (i := 5) (oi := ⟨_, _, _, _, _, _⟩) (v := .int .i64 (VL.length : Int)) rfl (by kernel_rfl) (by kernel_rfl) (by kernel_rfl) (fun _ _ _ h => h) (.inl ⟨by kernel_rfl, fun wz hz => by go_simp⟩) ?_
              refine anyC_take (i := 6) (oi := ⟨_, _, _, _, _, _⟩) (v := .pointer (some ⟨hDb, 0, none⟩)) rfl (by kernel_rfl) (by kernel_rfl) (by kernel_rfl) (fun _ _ _ h => h) (.inl ⟨by kernel_rfl, fun wz hz => by go_simp⟩) ?_
              refine anyC_take (i := 7) (oi := ⟨_, _, _, _, _, _⟩) (v := .slice ahD L.length chD) rfl (by kernel_rfl) (by kernel_rfl) (by kernel_rfl) (fun _ _ _ h => h) (.inl ⟨by kernel_rfl, fun wz hz => by have c0 := (bx_cells (KD.out _ hz)).1; go_simp⟩) ?_
              (try simp only [Act.put, List.setIfInBounds_toArray, List.set_cons_zero, List.set_cons_succ])
              refine anyC_take (i := 8) (oi := ⟨_, _, _, _, _, _⟩) (v := .int .i64 (L.length : Int)) rfl (by kernel_rfl) (by kernel_rfl) (by kernel_rfl) (fun _ _ _ h => h) (.inl ⟨by kernel_rfl, fun wz hz => by go_simp⟩) ?_
              refine anyC_take (i := 9) (oi := ⟨_, _, _, _, _, _⟩) (v := .pointer (some ⟨hEb, 0, none⟩)) rfl (by kernel_rfl) (by kernel_rfl) (by kernel_rfl) (fun _ _ _ h => h) (.inl ⟨by kernel_rfl, fun wz hz => by go_simp⟩) ?_
              refine anyC_take (i := 10) (oi := ⟨_, _, _, _, _, _⟩) (v := .slice ahE M.length chE) rfl (by kernel_rfl) (by kernel_rfl) (by kernel_rfl) (fun _ _ _ h => h) (.inl ⟨by kernel_rfl, fun wz hz => by have c0 := (bx_cells (KE.out _ hz)).1; go_simp⟩) ?_
              refine anyC_take (i := 11) (oi := ⟨_, _, _, _, _, _⟩) (v := .int .i64 (M.length : Int)) rfl (by kernel_rfl) (by kernel_rfl) (by kernel_rfl) (fun _ _ _ h => h) (.inl ⟨by kernel_rfl, fun wz hz => by go_simp⟩) ?_
              (try simp only [Act.put, List.setIfInBounds_toArray, List.set_cons_zero, List.set_cons_succ])
              refine anyC_take (i := 12) (oi := ⟨_, _, _, _, _, _⟩) (v := .int .i64 ((L.length : Int) + M.length)) rfl (by kernel_rfl) (by kernel_rfl) (by kernel_rfl) (fun _ _ _ h => h) (.inl ⟨by kernel_rfl, fun wz hz => by have k1 := KW1.out; go_simp⟩) ?_
              refine anyC_take (i := 13) (oi := ⟨_, _, _, _, _, _⟩) (v := .int .i64 ((L.length : Int) + M.length - 1)) rfl (by kernel_rfl) (by kernel_rfl) (by kernel_rfl) (fun _ _ _ h => h) (.inl ⟨by kernel_rfl, fun wz hz => by have k2 := KW2.out; go_simp⟩) ?_
              refine anyC_take (i := 14) (oi := ⟨_, _, _, _, _, _⟩) (v := .bool true) rfl (by kernel_rfl) (by kernel_rfl) (by kernel_rfl) (fun _ _ _ h => h) (.inl ⟨by kernel_rfl, fun wz hz => by have k3 := KE2.out; go_simp⟩) ?_
              refine anyC_take (i := 15) (oi := ⟨_, _, _, _, _, _⟩) (v := .bool true) rfl (by kernel_rfl) (by kernel_rfl) (by kernel_rfl) (fun _ _ _ h => h) (.inl ⟨by kernel_rfl, fun wz hz => by go_simp⟩) ?_
              (try simp only [Act.put, List.setIfInBounds_toArray, List.set_cons_zero, List.set_cons_succ])
              refine anyC_take (i := 16) (oi := ⟨_, _, _, _, _, _⟩) (v := .bool true) rfl (by kernel_rfl) (by kernel_rfl) (by kernel_rfl) (fun _ _ _ h => h) (.inl ⟨by kernel_rfl, fun wz hz => by apply runs_moveY <;> rfl⟩) ?_
              refine anyC_take (i := 17) (oi := ⟨_, _, _, _, _, _⟩) (v := .bool false) rfl (by kernel_rfl) (by kernel_rfl) (by kernel_rfl) (fun _ _ _ h => h) (.inl ⟨by kernel_rfl, fun wz hz => by apply runs_moveY <;> rfl⟩) ?_
              refine anyC_take (i := 18) (oi := ⟨_, _, _, _, _, _⟩) (v := .bool false) rfl (by kernel_rfl) (by kernel_rfl) (by kernel_rfl) (fun _ _ _ h => h) (.inl ⟨by kernel_rfl, fun wz hz => by apply runs_moveY <;> rfl⟩) ?_
              refine anyC_take (i := 19) (oi := ⟨_, _, _, _, _, _⟩) (v := .agg #[.slice ahA VL.length chA, .slice bhA VT.length dhA]) rfl (by kernel_rfl) (by kernel_rfl) (by kernel_rfl) (fun _ _ _ h => h) (.inl ⟨by kernel_rfl, fun wz hz => runs_load (C := Below w3.heap.size w3) 26 _ rfl hGb rfl _ _ _ _ (fun w hw => KG.out _ hw) Try.underlying26 rfl (size_Alg _ _) wz hz⟩) ?_
              (try simp only [Act.put, List.setIfInBounds_toArray, List.set_cons_zero, List.set_cons_succ])
              refine anyC_take (i := 21) (oi := ⟨_, _, _, _, _, _⟩) (v := .agg #[.slice ahD L.length chD, .slice bhD T.length dhD]) rfl (by kernel_rfl) (by kernel_rfl) (by kernel_rfl) (fun _ _ _ h => h) (.inl ⟨by kernel_rfl, fun wz hz => runs_load (C := Below w3.heap.size w3) 26 _ rfl hDb rfl _ _ _ _ (fun w hw => KD.out _ hw) Try.underlying26 rfl (size_Alg _ _) wz hz⟩) ?_
              refine anyC_call (i := 20) (o := ⟨_, _, _, _, _, _⟩) (f := 9) (args := #[.string ⟨#[100, 105, 118, 105, 115, 105, 98, 108, 101]⟩, .agg #[.slice ahA VL.length chA, .slice bhA VT.length dhA]]) rfl (by kernel_rfl) (by kernel_rfl) (by apply runs_call2 (he := enters_of Try.func9 (by kernel_rfl) rfl) <;> rfl) z ?_
              refine (P0.out _ _ _ _ _ (RO.out _ z).1 (RO.out _ z).2).mono ?_
              rintro e wz ⟨rfl, hb⟩
              replace z := z.trans (hb.mono z.size)
              refine ⟨_, rfl, ?_⟩
              refine anyC_call (i := 22) (o := ⟨_, _, _, _, _, _⟩) (f := 9) (args := #[.string ⟨#[100, 105, 118, 105, 115, 105, 98, 108, 101]⟩, .agg #[.slice ahD L.length chD, .slice bhD T.length dhD]]) rfl (by kernel_rfl) (by kernel_rfl) (by apply runs_call2 (he := enters_of Try.func9 (by kernel_rfl) rfl) <;> rfl) z ?_
              refine (P1.out _ _ _ _ _ (RA_.out _ z).1 (RA_.out _ z).2).mono ?_
              rintro e wz ⟨rfl, hb⟩
              replace z := z.trans (hb.mono z.size)
              refine ⟨_, rfl, ?_⟩
              refine anyC_take (i := 23) (oi := ⟨_, _, _, _, _, _⟩) (v := .bool true) rfl (by kernel_rfl) (by kernel_rfl) (by kernel_rfl) (fun _ _ _ h => h) (.inl ⟨by kernel_rfl, fun wz hz => by apply runs_moveY <;> rfl⟩) ?_
              (try simp only [Act.put, List.setIfInBounds_toArray, List.set_cons_zero, List.set_cons_succ])
              refine anyC_take (i := 24) (oi := ⟨_, _, _, _, _, _⟩) (v := .agg #[.slice ahE M.length chE, .slice bhE U.length dhE]) rfl (by kernel_rfl) (by kernel_rfl) (by kernel_rfl) (fun _ _ _ h => h) (.inl ⟨by kernel_rfl, fun wz hz => runs_load (C := Below w3.heap.size w3) 26 _ rfl hEb rfl _ _ _ _ (fun w hw => KE.out _ hw) Try.underlying26 rfl (size_Alg _ _) wz hz⟩) ?_
              refine anyC_call (i := 25) (o := ⟨_, _, _, _, _, _⟩) (f := 9) (args := #[.string ⟨#[100, 105, 118, 105, 115, 105, 98, 108, 101]⟩, .agg #[.slice ahE M.length chE, .slice bhE U.length dhE]]) rfl (by kernel_rfl) (by kernel_rfl) (by apply runs_call2 (he := enters_of Try.func9 (by kernel_rfl) rfl) <;> rfl) z ?_
              refine (P2.out _ _ _ _ _ (RB.out _ z).1 (RB.out _ z).2).mono ?_
              rintro e wz ⟨rfl, hb⟩
              replace z := z.trans (hb.mono z.size)
              refine ⟨_, rfl, ?_⟩
              refine anyC_take (i := 26) (oi := ⟨_, _, _, _, _, _⟩) (v := .bool D0) rfl (by kernel_rfl) (by kernel_rfl) (by kernel_rfl) (fun _ _ _ h => h) (.inl ⟨by kernel_rfl, fun wz hz => by go_simp⟩) ?_
              refine anyC_take (i := 27) (oi := ⟨_, _, _, _, _, _⟩) (v := .bool true) rfl (by kernel_rfl) (by kernel_rfl) (by kernel_rfl) (fun _ _ _ h => h) (.inl ⟨by kernel_rfl, fun wz hz => by go_simp⟩) ?_
              (try simp only [Act.put, List.setIfInBounds_toArray, List.set_cons_zero, List.set_cons_succ])
              refine anyC_take (i := 28) (oi := ⟨_, _, _, _, _, _⟩) (v := .bool true) rfl (by kernel_rfl) (by kernel_rfl) (by kernel_rfl) (fun _ _ _ h => h) (.inl ⟨by kernel_rfl, fun wz hz => by go_simp⟩) ?_
              refine anyC_take (i := 29) (oi := ⟨_, _, _, _, _, _⟩) (v := .bool true) rfl (by kernel_rfl) (by kernel_rfl) (by kernel_rfl) (fun _ _ _ h => h) (.inl ⟨by kernel_rfl, fun wz hz => by go_simp⟩) ?_
              refine anyC_take (i := 30) (oi := ⟨_, _, _, _, _, _⟩) (v := .bool true) rfl (by kernel_rfl) (by kernel_rfl) (by kernel_rfl) (fun _ _ _ h => h) (.inl ⟨by kernel_rfl, fun wz hz => by apply runs_moveY <;> rfl⟩) ?_
              refine anyC_take (i := 31) (oi := ⟨_, _, _, _, _, _⟩) (v := .agg #[.slice ahA VL.length chA, .slice bhA VT.length dhA]) rfl (by kernel_rfl) (by kernel_rfl) (by kernel_rfl) (fun _ _ _ h => h) (.inl ⟨by kernel_rfl, fun wz hz => runs_load (C := Below w3.heap.size w3) 26 _ rfl hGb rfl _ _ _ _ (fun w hw => KG.out _ hw) Try.underlying26 rfl (size_Alg _ _) wz hz⟩) ?_
              (try simp only [Act.put, List.setIfInBounds_toArray, List.set_cons_zero, List.set_cons_succ])
              refine anyC_take (i := 33) (oi := ⟨_, _, _, _, _, _⟩) (v := .agg #[.slice ahD L.length chD, .slice bhD T.length dhD]) rfl (by kernel_rfl) (by kernel_rfl) (by kernel_rfl) (fun _ _ _ h => h) (.inl ⟨by kernel_rfl, fun wz hz => runs_load (C := Below w3.heap.size w3) 26 _ rfl hDb rfl _ _ _ _ (fun w hw => KD.out _ hw) Try.underlying26 rfl (size_Alg _ _) wz hz⟩) ?_
              refine anyC_call (i := 32) (o := ⟨_, _, _, _, _, _⟩) (f := 9) (args := #[.string ⟨#[105, 100, 101, 109, 112, 111, 116, 101, 110, 116]⟩, .agg #[.slice ahA VL.length chA, .slice bhA VT.length dhA]]) rfl (by kernel_rfl) (by kernel_rfl) (by apply runs_call2 (he := enters_of Try.func9 (by kernel_rfl) rfl) <;> rfl) z ?_
              refine (Q0.out _ _ _ _ _ (RO.out _ z).1 (RO.out _ z).2).mono ?_
              rintro e wz ⟨rfl, hb⟩
              replace z := z.trans (hb.mono z.size)
              refine ⟨_, rfl, ?_⟩
              refine anyC_call (i := 34) (o := ⟨_, _, _, _, _, _⟩) (f := 9) (args := #[.string ⟨#[105, 100, 101, 109, 112, 111, 116, 101, 110, 116]⟩, .agg #[.slice ahD L.length chD, .slice bhD T.length dhD]]) rfl (by kernel_rfl) (by kernel_rfl) (by apply runs_call2 (he := enters_of Try.func9 (by kernel_rfl) rfl) <;> rfl) z ?_
              refine (Q1.out _ _ _ _ _ (RA_.out _ z).1 (RA_.out _ z).2).mono ?_
              rintro e wz ⟨rfl, hb⟩
              replace z := z.trans (hb.mono z.size)
              refine ⟨_, rfl, ?_⟩
              refine anyC_take (i := 35) (oi := ⟨_, _, _, _, _, _⟩) (v := .bool true) rfl (by kernel_rfl) (by kernel_rfl) (by kernel_rfl) (fun _ _ _ h => h) (.inl ⟨by kernel_rfl, fun wz hz => by apply runs_moveY <;> rfl⟩) ?_
              (try simp only [Act.put, List.setIfInBounds_toArray, List.set_cons_zero, List.set_cons_succ])
              refine anyC_take (i := 36) (oi := ⟨_, _, _, _, _, _⟩) (v := .agg #[.slice ahE M.length chE, .slice bhE U.length dhE]) rfl (by kernel_rfl) (by kernel_rfl) (by kernel_rfl) (fun _ _ _ h => h) (.inl ⟨by kernel_rfl, fun wz hz => runs_load (C := Below w3.heap.size w3) 26 _ rfl hEb rfl _ _ _ _ (fun w hw => KE.out _ hw) Try.underlying26 rfl (size_Alg _ _) wz hz⟩) ?_
              refine anyC_call (i := 37) (o := ⟨_, _, _, _, _, _⟩) (f := 9) (args := #[.string ⟨#[105, 100, 101, 109, 112, 111, 116, 101, 110, 116]⟩, .agg #[.slice ahE M.length chE, .slice bhE U.length dhE]]) rfl (by kernel_rfl) (by kernel_rfl) (by apply runs_call2 (he := enters_of Try.func9 (by kernel_rfl) rfl) <;> rfl) z ?_
              refine (Q2.out _ _ _ _ _ (RB.out _ z).1 (RB.out _ z).2).mono ?_
              rintro e wz ⟨rfl, hb⟩
              replace z := z.trans (hb.mono z.size)
              refine ⟨_, rfl, ?_⟩
              refine anyC_take (i := 38) (oi := ⟨_, _, _, _, _, _⟩) (v := .bool I0) rfl (by kernel_rfl) (by kernel_rfl) (by kernel_rfl) (fun _ _ _ h => h) (.inl ⟨by kernel_rfl, fun wz hz => by go_simp⟩) ?_
              refine anyC_take (i := 39) (oi := ⟨_, _, _, _, _, _⟩) (v := .bool true) rfl (by kernel_rfl) (by kernel_rfl) (by kernel_rfl) (fun _ _ _ h => h) (.inl ⟨by kernel_rfl, fun wz hz => by go_simp⟩) ?_
              (try simp only [Act.put, List.setIfInBounds_toArray, List.set_cons_zero, List.set_cons_succ])
              refine anyC_take (i := 40) (oi := ⟨_, _, _, _, _, _⟩) (v := .bool true) rfl (by kernel_rfl) (by kernel_rfl) (by kernel_rfl) (fun _ _ _ h => h) (.inl ⟨by kernel_rfl, fun wz hz => by go_simp⟩) ?_
              refine anyC_take (i := 41) (oi := ⟨_, _, _, _, _, _⟩) (v := .bool true) rfl (by kernel_rfl) (by kernel_rfl) (by kernel_rfl) (fun _ _ _ h => h) (.inl ⟨by kernel_rfl, fun wz hz => by apply runs_moveY <;> rfl⟩) ?_
              refine anyC_take (i := 42) (oi := ⟨_, _, _, _, _, _⟩) (v := .pointer (some ⟨hDb, 0, none⟩)) rfl (by kernel_rfl) (by kernel_rfl) (by kernel_rfl) (fun _ _ _ h => h) (.inl ⟨by kernel_rfl, fun wz hz => by go_simp⟩) ?_
              refine anyC_take (i := 43) (oi := ⟨_, _, _, _, _, _⟩) (v := .slice ahD L.length chD) rfl (by kernel_rfl) (by kernel_rfl) (by kernel_rfl) (fun _ _ _ h => h) (.inl ⟨by kernel_rfl, fun wz hz => by have c0 := (bx_cells (KD.out _ hz)).1; go_simp⟩) ?_
              (try simp only [Act.put, List.setIfInBounds_toArray, List.set_cons_zero, List.set_cons_succ])
              refine anyC_take (i := 50) (oi := ⟨_, _, _, _, _, _⟩) (v := .pointer (some ⟨hGb, 0, none⟩)) rfl (by kernel_rfl) (by kernel_rfl) (by kernel_rfl) (fun _ _ _ h => h) (.inl ⟨by kernel_rfl, fun wz hz => by go_simp⟩) ?_
              refine anyC_take (i := 51) (oi := ⟨_, _, _, _, _, _⟩) (v := .slice ahA VL.length chA) rfl (by kernel_rfl) (by kernel_rfl) (by kernel_rfl) (fun _ _ _ h => h) (.inl ⟨by kernel_rfl, fun wz hz => by have c0 := (bx_cells (KG.out _ hz)).1; go_simp⟩) ?_
              refine anyC_call (i := 44) (o := ⟨_, _, _, _, _, _⟩) (f := 10) (args := #[.slice ahD L.length chD]) rfl (by kernel_rfl) (by kernel_rfl) (by apply runs_call1 (he := enters_of Try.func10 (by kernel_rfl) rfl) <;> rfl) z ?_
              refine (X1c.out _ _ _ (RA_.out _ z).1).mono ?_
              rintro e wz ⟨rfl, hb⟩
              replace z := z.trans (hb.mono z.size)
              refine ⟨_, rfl, ?_⟩
              refine anyC_take (i := 45) (oi := ⟨_, _, _, _, _, _⟩) (v := .bool true) rfl (by kernel_rfl) (by kernel_rfl) (by kernel_rfl) (fun _ _ _ h => h) (.inl ⟨by kernel_rfl, fun wz hz => by apply runs_moveY <;> rfl⟩) ?_
              (try simp only [Act.put, List.setIfInBounds_toArray, List.set_cons_zero, List.set_cons_succ])
              refine anyC_take (i := 46) (oi := ⟨_, _, _, _, _, _⟩) (v := .pointer (some ⟨hEb, 0, none⟩)) rfl (by kernel_rfl) (by kernel_rfl) (by kernel_rfl) (fun _ _ _ h => h) (.inl ⟨by kernel_rfl, fun wz hz => by go_simp⟩) ?_
              refine anyC_take (i := 47) (oi := ⟨_, _, _, _, _, _⟩) (v := .slice ahE M.length chE) rfl (by kernel_rfl) (by kernel_rfl) (by kernel_rfl) (fun _ _ _ h => h) (.inl ⟨by kernel_rfl, fun wz hz => by have c0 := (bx_cells (KE.out _ hz)).1; go_simp⟩) ?_
              refine anyC_call (i := 48) (o := ⟨_, _, _, _, _, _⟩) (f := 10) (args := #[.slice ahE M.length chE]) rfl (by kernel_rfl) (by kernel_rfl) (by apply runs_call1 (he := enters_of Try.func10 (by kernel_rfl) rfl) <;> rfl) z ?_
              refine (X2c.out _ _ _ (RB.out _ z).1).mono ?_
              rintro e wz ⟨rfl, hb⟩
              replace z := z.trans (hb.mono z.size)
              refine ⟨_, rfl, ?_⟩
              refine anyC_take (i := 49) (oi := ⟨_, _, _, _, _, _⟩) (v := .bool X2) rfl (by kernel_rfl) (by kernel_rfl) (by kernel_rfl) (fun _ _ _ h => h) (.inl ⟨by kernel_rfl, fun wz hz => by go_simp⟩) ?_
              (try simp only [Act.put, List.setIfInBounds_toArray, List.set_cons_zero, List.set_cons_succ])
              refine anyC_call (i := 52) (o := ⟨_, _, _, _, _, _⟩) (f := 10) (args := #[.slice ahA VL.length chA]) rfl (by kernel_rfl) (by kernel_rfl) (by apply runs_call1 (he := enters_of Try.func10 (by kernel_rfl) rfl) <;> rfl) z ?_
              refine (X0c.out _ _ _ (RO.out _ z).1).mono ?_
              rintro e wz ⟨rfl, hb⟩
              replace z := z.trans (hb.mono z.size)
              refine ⟨_, rfl, ?_⟩
              refine anyC_take (i := 53) (oi := ⟨_, _, _, _, _, _⟩) (v := .bool true) rfl (by kernel_rfl) (by kernel_rfl) (by kernel_rfl) (fun _ _ _ h => h) (.inl ⟨by kernel_rfl, fun wz hz => by go_simp⟩) ?_
              refine anyC_take (i := 54) (oi := ⟨_, _, _, _, _, _⟩) (v := .bool true) rfl (by kernel_rfl) (by kernel_rfl) (by kernel_rfl) (fun _ _ _ h => h) (.inl ⟨by kernel_rfl, fun wz hz => by go_simp⟩) ?_
              refine anyC_take (i := 55) (oi := ⟨_, _, _, _, _, _⟩) (v := .bool true) rfl (by kernel_rfl) (by kernel_rfl) (by kernel_rfl) (fun _ _ _ h => h) (.inl ⟨by kernel_rfl, fun wz hz => by apply runs_assign <;> rfl⟩) ?_
              (try simp only [Act.put, List.setIfInBounds_toArray, List.set_cons_zero, List.set_cons_succ])
              refine anyC_done (by kernel_rfl) z ?_ _
              go_wp2
              go_ret
              exact ⟨by first | rfl | exact ret_bool (by simp), FIN.out _ z⟩
      · skip
        go_wp2_with (first
        | go_skip
        | (go_at_call 5; refine (HI.out _ hS.2.1 hS.2.2 hQ.2.1 hQ.2.2).mono ?_; rintro e wz ⟨ahA, chA, bhA, dhA, rfl, r1, r2, hb⟩; (try replace hS := hS.next hb); (try replace hQ := hQ.next hb); (try replace hA := hA.next hb); (try replace hW := hW.next hb); (try replace hD := hD.next hb); (try replace hE := hE.next hb); (try replace hG := hG.next hb); (try replace hK := hK.next hb); (try have cD0 := hD.cells.1); (try have cE0 := hE.cells.1); (try have cG0 := hG.cells.1); have hA : SA w ahA bhA VL VT wz := ⟨hS.1, r1, r2⟩; clear r1 r2)
        | (go_at_call 6; refine (HP.out _ hS.2.1 hS.2.2 hQ.2.1 hQ.2.2).mono ?_; rintro e wz ⟨ahW, chW, bhW, dhW, rfl, r1, r2, hb⟩; (try replace hS := hS.next hb); (try replace hQ := hQ.next hb); (try replace hA := hA.next hb); (try replace hW := hW.next hb); (try replace hD := hD.next hb); (try replace hE := hE.next hb); (try replace hG := hG.next hb); (try replace hK := hK.next hb); (try have cD0 := hD.cells.1); (try have cE0 := hE.cells.1); (try have cG0 := hG.cells.1); have hW : SA w ahW bhW VL VT wz := ⟨hS.1, r1, r2⟩; clear r1 r2)
        | (rw [← hwv]; clear hwv)
        | (rw [← hwy, ← hhEb, ← hhDb]; clear hwy hhEb hhDb)
        | (refine wpList_store_row rfl 26 _ _ rfl wz.heap.size #[.slice ahD L.length chD, .slice bhD T.length dhD] rfl rfl _ _ hZ1 (size_Alg _ _) rfl (one_sl2 _ _ _ _ _ _) ?_)
        | (refine wpList_store_row rfl 26 _ _ rfl (wz.heap.size + 1) #[.slice ahE M.length chE, .slice bhE U.length dhE] rfl rfl _ _ hZ2 (size_Alg _ _) rfl (one_sl2 _ _ _ _ _ _) ?_)
        | (refine wpList_store_row rfl 26 _ _ rfl wz.heap.size #[.slice ahW VL.length chW, .slice bhW VT.length dhW] rfl rfl _ _ (heap_alloc_new wz (.cells #[.slice none 0 0, .slice none 0 0] 26)) (size_Alg _ _) rfl (one_sl2 _ _ _ _ _ _) ?_; rw [World.setRow_alloc_new]; obtain ⟨hKb, hhKb⟩ : ∃ b, b = wz.heap.size := ⟨_, rfl⟩; obtain ⟨wy, hwy⟩ : ∃ wy, wy = wz.alloc (.cells #[.slice ahW VL.length chW, .slice bhW VT.length dhW] 26) := ⟨_, rfl⟩; rw [← hwy, ← hhKb]; have hb : Below wz.heap.size wz wy := (by rw [hwy]; exact (Below.refl _ _).alloc (Nat.le_refl _) _); have hK0 : wy.heap[hKb]? = some (.cells #[.slice ahW VL.length chW, .slice bhW VT.length dhW] 26 (0, 0)) := (by rw [hwy, hhKb]; exact heap_alloc_new wz _); have hK1 := hS.1.size; (try replace hS := hS.next hb); (try replace hQ := hQ.next hb); (try replace hA := hA.next hb); (try replace hW := hW.next hb); (try replace hD := hD.next hb); (try replace hE := hE.next hb); (try replace hG := hG.next hb); (try replace hK := hK.next hb); (try have cD0 := hD.cells.1); (try have cE0 := hE.cells.1); (try have cG0 := hG.cells.1); have hK : Bx w hKb (.slice ahW VL.length chW) (.slice bhW VT.length dhW) wy := ⟨(by rw [hhKb]; exact hK1), hK0⟩; clear hwy hhKb hK0 hK1)
        | (refine wpList_store_row rfl 26 _ _ rfl wz.heap.size #[.slice ahA VL.length chA, .slice bhA VT.length dhA] rfl rfl _ _ (heap_alloc_new wz (.cells #[.slice none 0 0, .slice none 0 0] 26)) (size_Alg _ _) rfl (one_sl2 _ _ _ _ _ _) ?_; rw [World.setRow_alloc_new]; obtain ⟨hGb, hhGb⟩ : ∃ b, b = wz.heap.size := ⟨_, rfl⟩; obtain ⟨wy, hwy⟩ : ∃ wy, wy = wz.alloc (.cells #[.slice ahA VL.length chA, .slice bhA VT.length dhA] 26) := ⟨_, rfl⟩; rw [← hwy, ← hhGb]; have hb : Below wz.heap.size wz wy := (by rw [hwy]; exact (Below.refl _ _).alloc (Nat.le_refl _) _); have hG0 : wy.heap[hGb]? = some (.cells #[.slice ahA VL.length chA, .slice bhA VT.length dhA] 26 (0, 0)) := (by rw [hwy, hhGb]; exact heap_alloc_new wz _); have hG1 := hS.1.size; (try replace hS := hS.next hb); (try replace hQ := hQ.next hb); (try replace hA := hA.next hb); (try replace hW := hW.next hb); (try replace hD := hD.next hb); (try replace hE := hE.next hb); (try replace hG := hG.next hb); (try replace hK := hK.next hb); (try have cD0 := hD.cells.1); (try have cE0 := hE.cells.1); (try have cG0 := hG.cells.1); have hG : Bx w hGb (.slice ahA VL.length chA) (.slice bhA VT.length dhA) wy := ⟨(by rw [hhGb]; exact hG1), hG0⟩; clear hwy hhGb hG0 hG1)
        | (refine wpList_load_row_w rfl 26 _ rfl hDb rfl _ _ _ _ hD.2 Try.underlying26 rfl (size_Alg _ _) ?_)
        | (refine wpList_load_row_w rfl 26 _ rfl hEb rfl _ _ _ _ hE.2 Try.underlying26 rfl (size_Alg _ _) ?_)
        | (refine wpList_load_row_w rfl 26 _ rfl hGb rfl _ _ _ _ hG.2 Try.underlying26 rfl (size_Alg _ _) ?_)
        | (refine wpList_load_row_w rfl 26 _ rfl hKb rfl _ _ _ _ hK.2 Try.underlying26 rfl (size_Alg _ _) ?_)
        | (go_at_call 7; refine (equalAlgebra_same _ _ _ _ _ _ _ _ VL VT _ hA.2.1 hW.2.1 hA.2.2 hW.2.2 hVL HR.out hVT).mono ?_; rintro e wz ⟨rfl, hb⟩; (try replace hS := hS.next hb); (try replace hQ := hQ.next hb); (try replace hA := hA.next hb); (try replace hW := hW.next hb); (try replace hD := hD.next hb); (try replace hE := hE.next hb); (try replace hG := hG.next hb); (try replace hK := hK.next hb); (try have cD0 := hD.cells.1); (try have cE0 := hE.cells.1); (try have cG0 := hG.cells.1)))
        obtain ⟨w3, rfl⟩ : ∃ w3 : World, w3 = wz := ⟨_, rfl⟩
        clear cG0 cD0 cE0
        have HS3 := Lib.hid (show SA w ahD bhD L T w3 ∧ SA w ahE bhE M U w3 ∧ SA w ahA bhA VL VT w3 from ⟨hS, hQ, hA⟩)
        have HB3 := Lib.hid (show Bx w hDb (.slice ahD L.length chD) (.slice bhD T.length dhD) w3 ∧ Bx w hEb (.slice ahE M.length chE) (.slice bhE U.length dhE) w3 ∧ Bx w hGb (.slice ahA VL.length chA) (.slice bhA VT.length dhA) w3 from ⟨hD, hE, hG⟩)
        have RA_ := Lib.hid (show ∀ wz, Below w3.heap.size w3 wz → Rd wz ahD L ∧ RdT wz bhD T from fun wz hz => (HS3.out.1.next hz).2)
        have RB := Lib.hid (show ∀ wz, Below w3.heap.size w3 wz → Rd wz ahE M ∧ RdT wz bhE U from fun wz hz => (HS3.out.2.1.next hz).2)
        have RO := Lib.hid (show ∀ wz, Below w3.heap.size w3 wz → Rd wz ahA VL ∧ RdT wz bhA VT from fun wz hz => (HS3.out.2.2.next hz).2)
        have KD := Lib.hid (show ∀ wz, Below w3.heap.size w3 wz → wz.heap[hDb]? = some (.cells #[.slice ahD L.length chD, .slice bhD T.length dhD] 26 (0, 0)) from fun wz hz => (HB3.out.1.next hz).2)
        have KE := Lib.hid (show ∀ wz, Below w3.heap.size w3 wz → wz.heap[hEb]? = some (.cells #[.slice ahE M.length chE, .slice bhE U.length dhE] 26 (0, 0)) from fun wz hz => (HB3.out.2.1.next hz).2)
        have KG := Lib.hid (show ∀ wz, Below w3.heap.size w3 wz → wz.heap[hGb]? = some (.cells #[.slice ahA VL.length chA, .slice bhA VT.length dhA] 26 (0, 0)) from fun wz hz => (HB3.out.2.2.next hz).2)
        have FIN := Lib.hid (show ∀ wz, Below w3.heap.size w3 wz → Below w.heap.size w wz from fun wz hz => (HS3.out.1.next hz).1)
        have z : Below w3.heap.size w3 w3 := Below.refl _ _
        have KW1 := Lib.hid kw1
        have KW2 := Lib.hid kw2
        have KE2 := Lib.hid e2'
        have e4 := E4.out
        have e5 := E5.out
        have e3 := E3.out
        clear hS hQ hA hD hE hG HS3 HB3 kw1 kw2 e2' E3 E4 E5
        try clear hW hK
        try clear HI HP
        cases I1
        · simp only [Bool.false_and] at e4
          subst e4
          cases X1
          · simp only [Bool.false_and] at e5
            subst e5
            clear e3
            refine wp_region_any (by kernel_rfl) ?_
            refine any_of_C (C := Below w3.heap.size w3) _ _ _ _ ?_
            replace z := z.drew
            refine anyC_take (i := 0) (oi := ⟨_, _, _, _, _, _⟩) (v := .agg #[.slice ahA VL.length chA, .slice bhA VT.length dhA]) rfl (by kernel_rfl) (by kernel_rfl) (by kernel_rfl) (fun _ _ _ h => h) (.inl ⟨by kernel_rfl, fun wz hz => runs_load (C := Below w3.heap.size w3) 26 _ rfl hGb rfl _ _ _ _ (fun w hw => KG.out _ hw) Try.underlying26 rfl (size_Alg _ _) wz hz⟩) ?_
            refine anyC_call (i := 1) (o := ⟨_, _, _, _, _, _⟩) (f := 8) (args := #[.agg #[.slice ahA VL.length chA, .slice bhA VT.length dhA]]) rfl (by kernel_rfl) (by kernel_rfl) (by apply runs_call1 (he := enters_of Try.func8 (by kernel_rfl) rfl) <;> rfl) z ?_
            refine (C1.out _ _ _ _ _ (RO.out _ z).1 (RO.out _ z).2).mono ?_
            rintro e wz ⟨rfl, hb⟩
            replace z := z.trans (hb.mono z.size)
            refine ⟨_, rfl, ?_⟩
            refine anyC_take (i := 2) (oi := ⟨_, _, _, _, _, _⟩) (v := .bool true) rfl (by kernel_rfl) (by kernel_rfl) (by kernel_rfl) (fun _ _ _ h => h) (.inl ⟨by kernel_rfl, fun wz hz => by apply runs_moveY <;> rfl⟩) ?_
            refine anyC_take (i := 3) (oi := ⟨_, _, _, _, _, _⟩) (v := .pointer (some ⟨hGb, 0, none⟩)) rfl (by kernel_rfl) (by kernel_rfl) (by kernel_rfl) (fun _ _ _ h => h) (.inl ⟨by kernel_rfl, fun wz hz => by go_simp⟩) ?_
            (try simp only [Act.put, List.setIfInBounds_toArray, List.set_cons_zero, List.set_cons_succ])
            refine anyC_take (i := 4) (oi := ⟨_, _, _, _, _, _⟩) (v := .slice ahA VL.length chA) rfl (by kernel_rfl) (by kernel_rfl) (by kernel_rfl) (fun _ _ _ h => h) (.inl ⟨by kernel_rfl, fun wz hz => by have c0 := (bx_cells (KG.out _ hz)).1; go_simp⟩) ?_
            refine anyC_take (i := 5) (oi := ⟨_, _, _, _, _, _⟩) (v := .int .i64 (VL.length : Int)) rfl (by kernel_rfl) (by kernel_rfl) (by kernel_rfl) (fun _ _ _ h => h) (.inl ⟨by kernel_rfl, fun wz hz => by go_simp⟩) ?_
            refine anyC_take (i := 6) (oi := ⟨_, _, _, _, _, _⟩) (v := .pointer (some ⟨hDb, 0, none⟩)) rfl (by kernel_rfl) (by kernel_rfl) (by kernel_rfl) (fun _ _ _ h => h) (.inl ⟨by kernel_rfl, fun wz hz => by go_simp⟩) ?_
            refine anyC_take (i := 7) (oi := ⟨_, _, _, _, _, _⟩) (v := .slice ahD L.length chD) rfl (by kernel_rfl) (by kernel_rfl) (by kernel_rfl) (fun _ _ _ h => h) (.inl ⟨by kernel_rfl, fun wz hz => by have c0 := (bx_cells (KD.out _ hz)).1; go_simp⟩) ?_
            (try simp only [Act.put, List.setIfInBounds_toArray, List.set_cons_zero, List.set_cons_succ])
            refine anyC_take (i := 8) (oi := ⟨_, _, _, _, _, _⟩) (v := .int .i64 (L.length : Int)) rfl (by kernel_rfl) (by kernel_rfl) (by kernel_rfl) (fun _ _ _ h => h) (.inl ⟨by kernel_rfl, fun wz hz => by go_simp⟩) ?_
            refine anyC_take (i := 9) (oi := ⟨_, _, _, _, _, _⟩) (v := .pointer (some ⟨hEb, 0, none⟩)) rfl (by kernel_rfl) (by kernel_rfl) (by kernel_rfl) (fun _ _ _ h => h) (.inl ⟨by kernel_rfl, fun wz hz => by go_simp⟩) ?_
            refine anyC_take (i := 10) (oi := ⟨_, _, _, _, _, _⟩) (v := .slice ahE M.length chE) rfl (by kernel_rfl) (by kernel_rfl) (by kernel_rfl) (fun _ _ _ h => h) (.inl ⟨by kernel_rfl, fun wz hz => by have c0 := (bx_cells (KE.out _ hz)).1; go_simp⟩) ?_
            refine anyC_take (i := 11) (oi := ⟨_, _, _, _, _, _⟩) (v := .int .i64 (M.length : Int)) rfl (by kernel_rfl) (by kernel_rfl) (by kernel_rfl) (fun _ _ _ h => h) (.inl ⟨by kernel_rfl, fun wz hz => by go_simp⟩) ?_
            (try simp only [Act.put, List.setIfInBounds_toArray, List.set_cons_zero, List.set_cons_succ])
            refine anyC_take (i := 12) (oi := ⟨_, _, _, _, _, _⟩) (v := .int .i64 ((L.length : Int) + M.length)) rfl (by kernel_rfl) (by kernel_rfl) (by kernel_rfl) (fun _ _ _ h => h) (.inl ⟨by kernel_rfl, fun wz hz => by have k1 := KW1.out; go_simp⟩) ?_
            refine anyC_take (i := 13) (oi := ⟨_, _, _, _, _, _⟩) (v := .int .i64 ((L.length : Int) + M.length - 1)) rfl (by kernel_rfl) (by kernel_rfl) (by kernel_rfl) (fun _ _ _ h => h) (.inl ⟨by kernel_rfl, fun wz hz => by have k2 := KW2.out; go_simp⟩) ?_
            refine anyC_take (i := 14) (oi := ⟨_, _, _, _, _, _⟩) (v := .bool true) rfl (by kernel_rfl) (by kernel_rfl) (by kernel_rfl) (fun _ _ _ h => h) (.inl ⟨by kernel_rfl, fun wz hz => by have k3 := KE2.out; go_simp⟩) ?_
            refine anyC_take (i := 15) (oi := ⟨_, _, _, _, _, _⟩) (v := .bool true) rfl (by kernel_rfl) (by kernel_rfl) (by kernel_rfl) (fun _ _ _ h => h) (.inl ⟨by kernel_rfl, fun wz hz => by go_simp⟩) ?_
            (try simp only [Act.put, List.setIfInBounds_toArray, List.set_cons_zero, List.set_cons_succ])
            refine anyC_take (i := 16) (oi := ⟨_, _, _, _, _, _⟩) (v := .bool true) rfl (by kernel_rfl) (by kernel_rfl) (by kernel_rfl) (fun _ _ _ h => h) (.inl ⟨by kernel_rfl, fun wz hz => by apply runs_moveY <;> rfl⟩) ?_
            refine anyC_take (i := 17) (oi := ⟨_, _, _, _, _, _⟩) (v := .bool true) rfl (by kernel_rfl) (by kernel_rfl) (by kernel_rfl) (fun _ _ _ h => h) (.inl ⟨by kernel_rfl, fun wz hz => by apply runs_moveY <;> rfl⟩) ?_
            refine anyC_take (i := 18) (oi := ⟨_, _, _, _, _, _⟩) (v := .bool true) rfl (by kernel_rfl) (by kernel_rfl) (by kernel_rfl) (fun _ _ _ h => h) (.inl ⟨by kernel_rfl, fun wz hz => by apply runs_moveY <;> rfl⟩) ?_
            refine anyC_take (i := 19) (oi := ⟨_, _, _, _, _, _⟩) (v := undef) rfl (by kernel_rfl) (by kernel_rfl) (by kernel_rfl) (fun _ _ _ h => h) (.inr ⟨by kernel_rfl, rfl⟩) ?_
            (try simp only [Act.put, List.setIfInBounds_toArray, List.set_cons_zero, List.set_cons_succ])
            refine anyC_take (i := 21) (oi := ⟨_, _, _, _, _, _⟩) (v := undef) rfl (by kernel_rfl) (by kernel_rfl) (by kernel_rfl) (fun _ _ _ h => h) (.inr ⟨by kernel_rfl, rfl⟩) ?_
            refine anyC_take (i := 20) (oi := ⟨_, _, _, _, _, _⟩) (v := undef) rfl (by kernel_rfl) (by kernel_rfl) (by kernel_rfl) (fun _ _ _ h => h) (.inr ⟨by kernel_rfl, rfl⟩) ?_
            refine anyC_take (i := 22) (oi := ⟨_, _, _, _, _, _⟩) (v := undef) rfl (by kernel_rfl) (by kernel_rfl) (by kernel_rfl) (fun _ _ _ h => h) (.inr ⟨by kernel_rfl, rfl⟩) ?_
            refine anyC_take (i := 23) (oi := ⟨_, _, _, _, _, _⟩) (v := undef) rfl (by kernel_rfl) (by kernel_rfl) (by kernel_rfl) (fun _ _ _ h => h) (.inr ⟨by kernel_rfl, rfl⟩) ?_
            (try simp only [Act.put, List.setIfInBounds_toArray, List.set_cons_zero, List.set_cons_succ])
            refine anyC_take (i := 24) (oi := ⟨_, _, _, _, _, _⟩) (v := undef) rfl (by kernel_rfl) (by kernel_rfl) (by kernel_rfl) (fun _ _ _ h => h) (.inr ⟨by kernel_rfl, rfl⟩) ?_
            refine anyC_take (i := 25) (oi := ⟨_, _, _, _, _, _⟩) (v := undef) rfl (by kernel_rfl) (by kernel_rfl) (by kernel_rfl) (fun _ _ _ h => h) (.inr ⟨by kernel_rfl, rfl⟩) ?_
            refine anyC_take (i := 26) (oi := ⟨_, _, _, _, _, _⟩) (v := undef) rfl (by kernel_rfl) (by kernel_rfl) (by kernel_rfl) (fun _ _ _ h => h) (.inr ⟨by kernel_rfl, rfl⟩) ?_
            refine anyC_take (i := 27) (oi := ⟨_, _, _, _, _, _⟩) (v := undef) rfl (by kernel_rfl) (by kernel_rfl) (by kernel_rfl) (fun _ _ _ h => h) (.inr ⟨by kernel_rfl, rfl⟩) ?_
            (try simp only [Act.put, List.setIfInBounds_toArray, List.set_cons_zero, List.set_cons_succ])
            refine anyC_take (i := 28) (oi := ⟨_, _, _, _, _, _⟩) (v := .bool true) rfl (by kernel_rfl) (by kernel_rfl) (by kernel_rfl) (fun _ _ _ h => h) (.inl ⟨by kernel_rfl, fun wz hz => by go_simp⟩) ?_
            refine anyC_take (i := 29) (oi := ⟨_, _, _, _, _, _⟩) (v := .bool true) rfl (by kernel_rfl) (by kernel_rfl) (by kernel_rfl) (fun _ _ _ h => h) (.inl ⟨by kernel_rfl, fun wz hz => by go_simp⟩) ?_
            refine anyC_take (i := 30) (oi := ⟨_, _, _, _, _, _⟩) (v := .bool true) rfl (by kernel_rfl) (by kernel_rfl) (by kernel_rfl) (fun _ _ _ h => h) (.inl ⟨by kernel_rfl, fun wz hz => by apply runs_moveY <;> rfl⟩) ?_
            refine anyC_take (i := 31) (oi := ⟨_, _, _, _, _, _⟩) (v := .agg #[.slice ahA VL.length chA, .slice bhA VT.length dhA]) rfl (by kernel_rfl) (by kernel_rfl) (by kernel_rfl) (fun _ _ _ h => h) (.inl ⟨by kernel_rfl, fun wz hz => runs_load (C := Below w3.heap.size w3) 26 _ rfl hGb rfl _ _ _ _ (fun w hw => KG.out _ hw) Try.underlying26 rfl (size_Alg _ _) wz hz⟩) ?_
            (try simp only [Act.put, List.setIfInBounds_toArray, List.set_cons_zero, List.set_cons_succ])
            refine anyC_take (i := 33) (oi := ⟨_, _, _, _, _, _⟩) (v := .agg #[.slice ahD L.length chD, .slice bhD T.length dhD]) rfl (by kernel_rfl) (by kernel_rfl) (by kernel_rfl) (fun _ _ _ h => h) (.inl ⟨by kernel_rfl, fun wz hz => runs_load (C := Below w3.heap.size w3) 26 _ rfl hDb rfl _ _ _ _ (fun w hw => KD.out _ hw) Try.underlying26 rfl (size_Alg _ _) wz hz⟩) ?_
            refine anyC_call (i := 32) (o := ⟨_, _, _, _, _, _⟩) (f := 9) (args := #[.string ⟨#[105, 100, 101, 109, 112, 111, 116, 101, 110, 116]⟩, .agg #[.slice ahA VL.length chA, .slice bhA VT.length dhA]]) rfl (by kernel_rfl) (by kernel_rfl) (by apply runs_call2 (he := enters_of Try.func9 (by kernel_rfl) rfl) <;> rfl) z ?_
            refine (Q0.out _ _ _ _ _ (RO.out _ z).1 (RO.out _ z).2).mono ?_
            rintro e wz ⟨rfl, hb⟩
            replace z := z.trans (hb.mono z.size)
            refine ⟨_, rfl, ?_⟩
            refine anyC_call (i := 34) (o := ⟨_, _, _, _, _, _⟩) (f := 9) (args := #[.string ⟨#[105, 100, 101, 109, 112, 111, 116, 101, 110, 116]⟩, .agg #[.slice ahD L.length chD, .slice bhD T.length dhD]]) rfl (by kernel_rfl) (by kernel_rfl) (by apply runs_call2 (he := enters_of Try.func9 (by kernel_rfl) rfl) <;> rfl) z ?_
            refine (Q1.out _ _ _ _ _ (RA_.out _ z).1 (RA_.out _ z).2).mono ?_
            rintro e wz ⟨rfl, hb⟩
            replace z := z.trans (hb.mono z.size)
            refine ⟨_, rfl, ?_⟩
            refine anyC_take (i := 35) (oi := ⟨_, _, _, _, _, _⟩) (v := .bool false) rfl (by kernel_rfl) (by kernel_rfl) (by kernel_rfl) (fun _ _ _ h => h) (.inl ⟨by kernel_rfl, fun wz hz => by apply runs_moveY <;> rfl⟩) ?_
            (try simp only [Act.put, List.setIfInBounds_toArray, List.set_cons_zero, List.set_cons_succ])
            refine anyC_take (i := 36) (oi := ⟨_, _, _, _, _, _⟩) (v := undef) rfl (by kernel_rfl) (by kernel_rfl) (by kernel_rfl) (fun _ _ _ h => h) (.inr ⟨by kernel_rfl, rfl⟩) ?_
            refine anyC_take (i := 37) (oi := ⟨_, _, _, _, _, _⟩) (v := undef) rfl (by kernel_rfl) (by kernel_rfl) (by kernel_rfl) (fun _ _ _ h => h) (.inr ⟨by kernel_rfl, rfl⟩) ?_
            refine anyC_take (i := 38) (oi := ⟨_, _, _, _, _, _⟩) (v := .bool false) rfl (by kernel_rfl) (by kernel_rfl) (by kernel_rfl) (fun _ _ _ h => h) (.inl ⟨by kernel_rfl, fun wz hz => by go_simp⟩) ?_
            refine anyC_take (i := 39) (oi := ⟨_, _, _, _, _, _⟩) (v := .bool true) rfl (by kernel_rfl) (by kernel_rfl) (by kernel_rfl) (fun _ _ _ h => h) (.inl ⟨by kernel_rfl, fun wz hz => by go_simp⟩) ?_
            (try simp only [Act.put, List.setIfInBounds_toArray, List.set_cons_zero, List.set_cons_succ])
            refine anyC_take (i := 40) (oi := ⟨_, _, _, _, _, _⟩) (v := .bool true) rfl (by kernel_rfl) (by kernel_rfl) (by kernel_rfl) (fun _ _ _ h => h) (.inl ⟨by kernel_rfl, fun wz hz => by go_simp⟩) ?_
            refine anyC_take (i := 41) (oi := ⟨_, _, _, _, _, _⟩) (v := .bool true) rfl (by kernel_rfl) (by kernel_rfl) (by kernel_rfl) (fun _ _ _ h => h) (.inl ⟨by kernel_rfl, fun wz hz => by apply runs_moveY <;> rfl⟩) ?_
            refine anyC_take (i := 42) (oi := ⟨_, _, _, _, _, _⟩) (v := .pointer (some ⟨hDb, 0, none⟩)) rfl (by kernel_rfl) (by kernel_rfl) (by kernel_rfl) (fun _ _ _ h => h) (.inl ⟨by kernel_rfl, fun wz hz => by go_simp⟩) ?_
            refine anyC_take (i := 43) (oi := ⟨_, _, _, _, _, _⟩) (v := .slice ahD L.length chD) rfl (by kernel_rfl) (by kernel_rfl) (by kernel_rfl) (fun _ _ _ h => h) (.inl ⟨by kernel_rfl, fun wz hz => by have c0 := (bx_cells (KD.out _ hz)).1; go_simp⟩) ?_
            (try simp only [Act.put, List.setIfInBounds_toArray, List.set_cons_zero, List.set_cons_succ])
            refine anyC_take (i := 50) (oi := ⟨_, _, _, _, _, _⟩) (v := .pointer (some ⟨hGb, 0, none⟩)) rfl (by kernel_rfl) (by kernel_rfl) (by kernel_rfl) (fun _ _ _ h => h) (.inl ⟨by kernel_rfl, fun wz hz => by go_simp⟩) ?_
            refine anyC_take (i := 51) (oi := ⟨_, _, _, _, _, _⟩) (v := .slice ahA VL.length chA) rfl (by kernel_rfl) (by kernel_rfl) (by kernel_rfl) (fun _ _ _ h => h) (.inl ⟨by kernel_rfl, fun wz hz => by have c0 := (bx_cells (KG.out _ hz)).1; go_simp⟩) ?_
            refine anyC_call (i := 44) (o := ⟨_, _, _, _, _, _⟩) (f := 10) (args := #[.slice ahD L.length chD]) rfl (by kernel_rfl) (by kernel_rfl) (by apply runs_call1 (he := enters_of Try.func10 (by kernel_rfl) rfl) <;> rfl) z ?_
            refine (X1c.out _ _ _ (RA_.out _ z).1).mono ?_
            rintro e wz ⟨rfl, hb⟩
            replace z := z.trans (hb.mono z.size)
            refine ⟨_, rfl, ?_⟩
            refine anyC_take (i := 45) (oi := ⟨_, _, _, _, _, _⟩) (v := .bool false) rfl (by kernel_rfl) (by kernel_rfl) (by kernel_rfl) (fun _ _ _ h => h) (.inl ⟨by kernel_rfl, fun wz hz => by apply runs_moveY <;> rfl⟩) ?_
            (try simp only [Act.put, List.setIfInBounds_toArray, List.set_cons_zero, List.set_cons_succ])
            refine anyC_take (i := 46) (oi := ⟨_, _, _, _, _, _⟩) (v := undef) rfl (by kernel_rfl) (by kernel_rfl) (by kernel_rfl) (fun _ _ _ h => h) (.inr ⟨by kernel_rfl, rfl⟩) ?_
            refine anyC_take (i := 47) (oi := ⟨_, _, _, _, _, _⟩) (v := undef) rfl (by kernel_rfl) (by kernel_rfl) (by kernel_rfl) (fun _ _ _ h => h) (.inr ⟨by kernel_rfl, rfl⟩) ?_
            refine anyC_take (i := 48) (oi := ⟨_, _, _, _, _, _⟩) (v := undef) rfl (by kernel_rfl) (by kernel_rfl) (by kernel_rfl) (fun _ _ _ h => h) (.inr ⟨by kernel_rfl, rfl⟩) ?_
            refine anyC_take (i := 49) (oi := ⟨_, _, _, _, _, _⟩) (v := .bool false) rfl (by kernel_rfl) (by kernel_rfl) (by kernel_rfl) (fun _ _ _ h => h) (.inl ⟨by kernel_rfl, fun wz hz => by go_simp⟩) ?_
            (try simp only [Act.put, List.setIfInBounds_toArray, List.set_cons_zero, List.set_cons_succ])
            refine anyC_call (i := 52) (o := ⟨_, _, _, _, _, _⟩) (f := 10) (args := #[.slice ahA VL.length chA]) rfl (by kernel_rfl) (by kernel_rfl) (by apply runs_call1 (he := enters_of Try.func10 (by kernel_rfl) rfl) <;> rfl) z ?_
            refine (X0c.out _ _ _ (RO.out _ z).1).mono ?_
            rintro e wz ⟨rfl, hb⟩
            replace z := z.trans (hb.mono z.size)
            refine ⟨_, rfl, ?_⟩
            refine anyC_take (i := 53) (oi := ⟨_, _, _, _, _, _⟩) (v := .bool true) rfl (by kernel_rfl) (by kernel_rfl) (by kernel_rfl) (fun _ _ _ h => h) (.inl ⟨by kernel_rfl, fun wz hz => by go_simp⟩) ?_
            refine anyC_take (i := 54) (oi := ⟨_, _, _, _, _, _⟩) (v := .bool true) rfl (by kernel_rfl) (by kernel_rfl) (by kernel_rfl) (fun _ _ _ h => h) (.inl ⟨by kernel_rfl, fun wz hz => by go_simp⟩) ?_
            refine anyC_take (i := 55) (oi := ⟨_, _, _, _, _, _⟩) (v := .bool true) rfl (by kernel_rfl) (by kernel_rfl) (by kernel_rfl) (fun _ _ _ h => h) (.inl ⟨by kernel_rfl, fun wz hz => by apply runs_assign <;> rfl⟩) ?_
            (try simp only [Act.put, List.setIfInBounds_toArray, List.set_cons_zero, List.set_cons_succ])
            refine anyC_done (by kernel_rfl) z ?_ _
            go_wp2
            go_ret
            exact ⟨by first | rfl | exact ret_bool (by simp), FIN.out _ z⟩
          · simp only [Bool.true_and] at e5
            subst e5
            clear e3
            refine wp_region_any (by kernel_rfl) ?_
            refine any_of_C (C := Below w3.heap.size w3) _ _ _ _ ?_
            replace z := z.drew
            refine anyC_take (i := 0) (oi := ⟨_, _, _, _, _, _⟩) (v := .agg #[.slice ahA VL.length chA, .slice bhA VT.length dhA]) rfl (by kernel_rfl) (by kernel_rfl) (by kernel_rfl) (fun _ _ _ h => h) (.inl ⟨by kernel_rfl, fun wz hz => runs_load (C := Below w3.heap.size w3) 26 _ rfl hGb rfl _ _ _ _ (fun w hw => KG.out _ hw) Try.underlying26 rfl (size_Alg _ _) wz hz⟩) ?_
            refine anyC_call (i := 1) (o := ⟨_, _, _, _, _, _⟩) (f := 8) (args := #[.agg #[.slice ahA VL.length chA, .slice bhA VT.length dhA]]) rfl (by kernel_rfl) (by kernel_rfl) (by apply runs_call1 (he := enters_of Try.func8 (by kernel_rfl) rfl) <;> rfl) z ?_
            refine (C1.out _ _ _ _ _ (RO.out _ z).1 (RO.out _ z).2).mono ?_
            rintro e wz ⟨rfl, hb⟩
            replace z := z.trans (hb.mono z.size)
            refine ⟨_, rfl, ?_⟩
            refine anyC_take (i := 2) (oi := ⟨_, _, _, _, _, _⟩) (v := .bool true) rfl (by kernel_rfl) (by kernel_rfl) (by kernel_rfl) (fun _ _ _ h => h) (.inl ⟨by kernel_rfl, fun wz hz => by apply runs_moveY <;> rfl⟩) ?_
            refine anyC_take (i := 3) (oi := ⟨_, _, _, _, _, _⟩) (v := .pointer (some ⟨hGb, 0, none⟩)) rfl (by kernel_rfl) (by kernel_rfl) (by kernel_rfl) (fun _ _ _ h => h) (.inl ⟨by kernel_rfl, fun wz hz => by go_simp⟩) ?_
            (try simp only [Act.put, List.setIfInBounds_toArray, List.set_cons_zero, List.set_cons_succ])
            refine anyC_take (i := 4) (oi := ⟨_, _, _, _, _, _⟩) (v := .slice ahA VL.length chA) rfl (by kernel_rfl) (by kernel_rfl) (by kernel_rfl) (fun _ _ _ h => h) (.inl ⟨by kernel_rfl, fun wz hz => by have c0 := (bx_cells (KG.out _ hz)).1; go_simp⟩) ?_
            refine anyC_take (i := 5) (oi := ⟨_, _, _, _, _, _⟩) (v := .int .i64 (VL.length : Int)) rfl (by kernel_rfl) (by kernel_rfl) (by kernel_rfl) (fun _ _ _ h => h) (.inl ⟨by kernel_rfl, fun wz hz => by go_simp⟩) ?_
            refine anyC_take (i := 6) (oi := ⟨_, _, _, _, _, _⟩) (v := .pointer (some ⟨hDb, 0, none⟩)) rfl (by kernel_rfl) (by kernel_rfl) (by kernel_rfl) (fun _ _ _ h => h) (.inl ⟨by kernel_rfl, fun wz hz => by go_simp⟩) ?_
            refine anyC_take (i := 7) (oi := ⟨_, _, _, _, _, _⟩) (v := .slice ahD L.length chD) rfl (by kernel_rfl) (by kernel_rfl) (by kernel_rfl) (fun _ _ _ h => h) (.inl ⟨by kernel_rfl, fun wz hz => by have c0 := (bx_cells (KD.out _ hz)).1; go_simp⟩) ?_
            (try simp only [Act.put, List.setIfInBounds_toArray, List.set_cons_zero, List.set_cons_succ])
            refine anyC_take (i := 8) (oi := ⟨_, _, _, _, _, _⟩) (v := .int .i64 (L.length : Int)) rfl (by kernel_rfl) (by kernel_rfl) (by kernel_rfl) (fun _ _ _ h => h) (.inl ⟨by kernel_rfl, fun wz hz => by go_simp⟩) ?_
            refine anyC_take (i := 9) (oi := ⟨_, _, _, _, _, _⟩) (v := .pointer (some ⟨hEb, 0, none⟩)) rfl (by kernel_rfl) (by kernel_rfl) (by kernel_rfl) (fun _ _ _ h => h) (.inl ⟨by kernel_rfl, fun wz hz => by go_simp⟩) ?_
            refine anyC_take (i := 10) (oi := ⟨_, _, _, _, _, _⟩) (v := .slice ahE M.length chE) rfl (by kernel_rfl) (by kernel_rfl) (by kernel_rfl) (fun _ _ _ h => h) (.inl ⟨by kernel_rfl, fun wz hz => by have c0 := (bx_cells (KE.out _ hz)).1; go_simp⟩) ?_
            refine anyC_take (i := 11) (oi := ⟨_, _, _, _, _, _⟩) (v := .int .i64 (M.length : Int)) rfl (by kernel_rfl) (by kernel_rfl) (by kernel_rfl) (fun _ _ _ h => h) (.inl ⟨by kernel_rfl, fun wz hz => by go_simp⟩) ?_
            (try simp only [Act.put, List.setIfInBounds_toArray, List.set_cons_zero, List.set_cons_succ])
            refine anyC_take (i := 12) (oi := ⟨_, _, _, _, _, _⟩) (v := .int .i64 ((L.length : Int) + M.length)) rfl (by kernel_rfl) (by kernel_rfl) (by kernel_rfl) (fun _ _ _ h => h) (.inl ⟨by kernel_rfl, fun wz hz => by have k1 := KW1.out; go_simp⟩) ?_
            refine anyC_take (i := 13) (oi := ⟨_, _, _, _, _, _⟩) (v := .int .i64 ((L.length : Int) + M.length - 1)) rfl (by kernel_rfl) (by kernel_rfl) (by kernel_rfl) (fun _ _ _ h => h) (.inl ⟨by kernel_rfl, fun wz hz => by have k2 := KW2.out; go_simp⟩) ?_
            refine anyC_take (i := 14) (oi := ⟨_, _, _, _, _, _⟩) (v := .bool true) rfl (by kernel_rfl) (by kernel_rfl) (by kernel_rfl) (fun _ _ _ h => h) (.inl ⟨by kernel_rfl, fun wz hz => by have k3 := KE2.out; go_simp⟩) ?_
            refine anyC_take (i := 15) (oi := ⟨_, _, _, _, _, _⟩) (v := .bool true) rfl (by kernel_rfl) (by kernel_rfl) (by kernel_rfl) (fun _ _ _ h => h) (.inl ⟨by kernel_rfl, fun wz hz => by go_simp⟩) ?_
            (try simp only [Act.put, List.setIfInBounds_toArray, List.set_cons_zero, List.set_cons_succ])
            refine anyC_take (i := 16) (oi := ⟨_, _, _, _, _, _⟩) (v := .bool true) rfl (by kernel_rfl) (by kernel_rfl) (by kernel_rfl) (fun _ _ _ h => h) (.inl ⟨by kernel_rfl, fun wz hz => by apply runs_moveY <;> rfl⟩) ?_
            refine anyC_take (i := 17) (oi := ⟨_, _, _, _, _, _⟩) (v := .bool true) rfl (by kernel_rfl) (by kernel_rfl) (by kernel_rfl) (fun _ _ _ h => h) (.inl ⟨by kernel_rfl, fun wz hz => by apply runs_moveY <;> rfl⟩) ?_
            refine anyC_take (i := 18) (oi := ⟨_, _, _, _, _, _⟩) (v := .bool true) rfl (by kernel_rfl) (by kernel_rfl) (by kernel_rfl) (fun _ _ _ h => h) (.inl ⟨by kernel_rfl, fun wz hz => by apply runs_moveY <;> rfl⟩) ?_
            refine anyC_take (i := 19) (oi := ⟨_, _, _, _, _, _⟩) (v := undef) rfl (by kernel_rfl) (by kernel_rfl) (by kernel_rfl) (fun _ _ _ h => h) (.inr ⟨by kernel_rfl, rfl⟩) ?_
            (try simp only [Act.put, List.setIfInBounds_toArray, List.set_cons_zero, List.set_cons_succ])
            refine anyC_take (i := 21) (oi := ⟨_, _, _, _, _, _⟩) (v := undef) rfl (by kernel_rfl) (by kernel_rfl) (by kernel_rfl) (fun _ _ _ h => h) (.inr ⟨by kernel_rfl, rfl⟩) ?_
            refine anyC_take (i := 20) (oi := ⟨_, _, _, _, _, _⟩) (v := undef) rfl (by kernel_rfl) (by kernel_rfl) (by kernel_rfl) (fun _ _ _ h => h) (.inr ⟨by kernel_rfl, rfl⟩) ?_
            refine anyC_take (i := 22) (oi := ⟨_, _, _, _, _, _⟩) (v := undef) rfl (by kernel_rfl) (by kernel_rfl) (by kernel_rfl) (fun _ _ _ h => h) (.inr ⟨by kernel_rfl, rfl⟩) ?_
            refine anyC_take (i := 23) (oi := ⟨_, _, _, _, _, _⟩) (v := undef) rfl (by kernel_rfl) (by kernel_rfl) (by kernel_rfl) (fun _ _ _ h => h) (.inr ⟨by kernel_rfl, rfl⟩) ?_
            (try simp only [Act.put, List.setIfInBounds_toArray, List.set_cons_zero, List.set_cons_succ])
            refine anyC_take (i := 24) (oi := ⟨_, _, _, _, _, _⟩) (v := undef) rfl (by kernel_rfl) (by kernel_rfl) (by kernel_rfl) (fun _ _ _ h => h) (.inr ⟨by kernel_rfl, rfl⟩) ?_
            refine anyC_take (i := 25) (oi := ⟨_, _, _, _, _, _⟩) (v := undef) rfl (by kernel_rfl) (by kernel_rfl) (by kernel_rfl) (fun _ _ _ h => h) (.inr ⟨by kernel_rfl, rfl⟩) ?_
            refine anyC_take (i := 26) (oi := ⟨_, _, _, _, _, _⟩) (v := undef) rfl (by kernel_rfl) (by kernel_rfl) (by kernel_rfl) (fun _ _ _ h => h) (.inr ⟨by kernel_rfl, rfl⟩) ?_
            refine anyC_take (i := 27) (oi := ⟨_, _, _, _, _, _⟩) (v := undef) rfl (by kernel_rfl) (by kernel_rfl) (by kernel_rfl) (fun _ _ _ h => h) (.inr ⟨by kernel_rfl, rfl⟩) ?_
            (try simp only [Act.put, List.setIfInBounds_toArray, List.set_cons_zero, List.set_cons_succ])
            refine anyC_take (i := 28) (oi := ⟨_, _, _, _, _, _⟩) (v := .bool true) rfl (by kernel_rfl) (by kernel_rfl) (by kernel_rfl) (fun _ _ _ h => h) (.inl ⟨by kernel_rfl, fun wz hz => by go_simp⟩) ?_
            refine anyC_take (i := 29) (oi := ⟨_, _, _, _, _, _⟩) (v := .bool true) rfl (by kernel_rfl) (by kernel_rfl) (by kernel_rfl) (fun _ _ _ h => h) (.inl ⟨by kernel_rfl, fun wz hz => by go_simp⟩) ?_
            refine anyC_take (i := 30) (oi := ⟨_, _, _, _, _, _⟩) (v := .bool true) rfl (by kernel_rfl) (by kernel_rfl) (by kernel_rfl) (fun _ _ _ h => h) (.inl ⟨by kernel_rfl, fun wz hz => by apply runs_moveY <;> rfl⟩) ?_
            refine anyC_take (i := 31) (oi := ⟨_, _, _, _, _, _⟩) (v := .agg #[.slice ahA VL.length chA, .slice bhA VT.length dhA]) rfl (by kernel_rfl) (by kernel_rfl) (by kernel_rfl) (fun _ _ _ h => h) (.inl ⟨by kernel_rfl, fun wz hz => runs_load (C := Below w3.heap.size w3) 26 _ rfl hGb rfl _ _ _ _ (fun w hw => KG.out _ hw) Try.underlying26 rfl (size_Alg _ _) wz hz⟩) ?_
            (try simp only [Act.put, List.setIfInBounds_toArray, List.set_cons_zero, List.set_cons_succ])
            refine anyC_take (i := 33) (oi := ⟨_, _, _, _, _, _⟩) (v := .agg #[.slice ahD L.length chD, .slice bhD T.length dhD]) rfl (by kernel_rfl) (by kernel_rfl) (by kernel_rfl) (fun _ _ _ h => h) (.inl ⟨by kernel_rfl, fun wz hz => runs_load (C := Below w3.heap.size w3) 26 _ rfl hDb rfl _ _ _ _ (fun w hw => KD.out _ hw) Try.underlying26 rfl (size_Alg _ _) wz hz⟩) ?_
            refine anyC_call (i := 32) (o := ⟨_, _, _, _, _, _⟩) (f := 9) (args := #[.string ⟨#[105, 100, 101, 109, 112, 111, 116, 101, 110, 116]⟩, .agg #[.slice ahA VL.length chA, .slice bhA VT.length dhA]]) rfl (by kernel_rfl) (by kernel_rfl) (by apply runs_call2 (he := enters_of Try.func9 (by kernel_rfl) rfl) <;> rfl) z ?_
            refine (Q0.out _ _ _ _ _ (RO.out _ z).1 (RO.out _ z).2).mono ?_
            rintro e wz ⟨rfl, hb⟩
            replace z := z.trans (hb.mono z.size)
            refine ⟨_, rfl, ?_⟩
            refine anyC_call (i := 34) (o := ⟨_, _, _, _, _, _⟩) (f := 9) (args := #[.string ⟨#[105, 100, 101, 109, 112, 111, 116, 101, 110, 116]⟩, .agg #[.slice ahD L.length chD, .slice bhD T.length dhD]]) rfl (by kernel_rfl) (by kernel_rfl) (by apply runs_call2 (he := enters_of Try.func9 (by kernel_rfl) rfl) <;> rfl) z ?_
            refine (Q1.out _ _ _ _ _ (RA_.out _ z).1 (RA_.out _ z).2).mono ?_
            rintro e wz ⟨rfl, hb⟩
            replace z := z.trans (hb.mono z.size)
            refine ⟨_, rfl, ?_⟩
            refine anyC_take (i := 35) (oi := ⟨_, _, _, _, _, _⟩) (v := .bool false) rfl (by kernel_rfl) (by kernel_rfl) (by kernel_rfl) (fun _ _ _ h => h) (.inl ⟨by kernel_rfl, fun wz hz => by apply runs_moveY <;> rfl⟩) ?_
            (try simp only [Act.put, List.setIfInBounds_toArray, List.set_cons_zero, List.set_cons_succ])
            refine anyC_take (i := 36) (oi := ⟨_, _, _, _, _, _⟩) (v := undef) rfl (by kernel_rfl) (by kernel_rfl) (by kernel_rfl) (fun _ _ _ h => h) (.inr ⟨by kernel_rfl, rfl⟩) ?_
            refine anyC_take (i := 37) (oi := ⟨_, _, _, _, _, _⟩) (v := undef) rfl (by kernel_rfl) (by kernel_rfl) (by kernel_rfl) (fun _ _ _ h => h) (.inr ⟨by kernel_rfl, rfl⟩) ?_
            refine anyC_take (i := 38) (oi := ⟨_, _, _, _, _, _⟩) (v := .bool false) rfl (by kernel_rfl) (by kernel_rfl) (by kernel_rfl) (fun _ _ _ h => h) (.inl ⟨by kernel_rfl, fun wz hz => by go_simp⟩) ?_
            refine anyC_take (i := 39) (oi := ⟨_, _, _, _, _, _⟩) (v := .bool true) rfl (by kernel_rfl) (by kernel_rfl) (by kernel_rfl) (fun _ _ _ h => h) (.inl ⟨by kernel_rfl, fun wz hz => by go_simp⟩) ?_
            (try simp only [Act.put, List.setIfInBounds_toArray, List.set_cons_zero, List.set_cons_succ])
            refine anyC_take (i := 40) (oi := ⟨_, _, _, _, _, _⟩) (v := .bool true) rfl (by kernel_rfl) (by kernel_rfl) (by kernel_rfl) (fun _ _ _ h => h) (.inl ⟨by kernel_rfl, fun wz hz => by go_simp⟩) ?_
            refine anyC_take (i := 41) (oi := ⟨_, _, _, _, _, _⟩) (v := .bool true) rfl (by kernel_rfl) (by kernel_rfl) (by kernel_rfl) (fun _ _ _ h => h) (.inl ⟨by kernel_rfl, fun wz hz => by apply runs_moveY <;> rfl⟩) ?_
            refine anyC_take (i := 42) (oi := ⟨_, _, _, _, _, _⟩) (v := .pointer (some ⟨hDb, 0, none⟩)) rfl (by kernel_rfl) (by kernel_rfl) (by kernel_rfl) (fun _ _ _ h => h) (.inl ⟨by kernel_rfl, fun wz hz => by go_simp⟩) ?_
            refine anyC_take (i := 43) (oi := ⟨_, _, _, _, _, _⟩) (v := .slice ahD L.length chD) rfl (by kernel_rfl) (by kernel_rfl) (by kernel_rfl) (fun _ _ _ h => h) (.inl ⟨by kernel_rfl, fun wz hz => by have c0 := (bx_cells (KD.out _ hz)).1; go_simp⟩) ?_
            (try simp only [Act.put, List.setIfInBounds_toArray, List.set_cons_zero, List.set_cons_succ])
            refine anyC_take (i := 50) (oi := ⟨_, _, _, _, _, _⟩) (v := .pointer (some ⟨hGb, 0, none⟩)) rfl (by kernel_rfl) (by kernel_rfl) (by kernel_rfl) (fun _ _ _ h => h) (.inl ⟨by kernel_rfl, fun wz hz => by go_simp⟩) ?_
            refine anyC_take (i := 51) (oi := ⟨_, _, _, _, _, _⟩) (v := .slice ahA VL.length chA) rfl (by kernel_rfl) (by kernel_rfl) (by kernel_rfl) (fun _ _ _ h => h) (.inl ⟨by kernel_rfl, fun wz hz => by have c0 := (bx_cells (KG.out _ hz)).1; go_simp⟩) ?_
            refine anyC_call (i := 44) (o := ⟨_, _, _, _, _, _⟩) (f := 10) (args := #[.slice ahD L.length chD]) rfl (by kernel_rfl) (by kernel_rfl) (by apply runs_call1 (he := enters_of Try.func10 (by kernel_rfl) rfl) <;> rfl) z ?_
            refine (X1c.out _ _ _ (RA_.out _ z).1).mono ?_
            rintro e wz ⟨rfl, hb⟩
            replace z := z.trans (hb.mono z.size)
            refine ⟨_, rfl, ?_⟩
            refine anyC_take (i := 45) (oi := ⟨_, _, _, _, _, _⟩) (v := .bool true) rfl (by kernel_rfl) (by kernel_rfl) (by kernel_rfl) (fun _ _ _ h => h) (.inl ⟨by kernel_rfl, fun wz hz => by apply runs_moveY <;> rfl⟩) ?_
            (try simp only [Act.put, List.setIfInBounds_toArray, List.set_cons_zero, List.set_cons_succ])
            refine anyC_take (i := 46) (oi := ⟨_, _, _, _, _, _⟩) (v := .pointer (some ⟨hEb, 0, none⟩)) rfl (by kernel_rfl) (by kernel_rfl) (by kernel_rfl) (fun _ _ _ h => h) (.inl ⟨by kernel_rfl, fun wz hz => by go_simp⟩) ?_
            refine anyC_take (i := 47) (oi := ⟨_, _, _, _, _, _⟩) (v := .slice ahE M.length chE) rfl (by kernel_rfl) (by kernel_rfl) (by kernel_rfl) (fun _ _ _ h => h) (.inl ⟨by kernel_rfl, fun wz hz => by have c0 := (bx_cells (KE.out _ hz)).1; go_simp⟩) ?_
            refine anyC_call (i := 48) (o := ⟨_, _, _, _, _, _⟩) (f := 10) (args := #[.slice ahE M.length chE]) rfl (by kernel_rfl) (by kernel_rfl) (by apply runs_call1 (he := enters_of Try.func10 (by kernel_rfl) rfl) <;> rfl) z ?_
            refine (X2c.out _ _ _ (RB.out _ z).1).mono ?_
            rintro e wz ⟨rfl, hb⟩
            replace z := z.trans (hb.mono z.size)
            refine ⟨_, rfl, ?_⟩
            refine anyC_take (i := 49) (oi := ⟨_, _, _, _, _, _⟩) (v := .bool X2) rfl (by kernel_rfl) (by kernel_rfl) (by kernel_rfl) (fun _ _ _ h => h) (.inl ⟨by kernel_rfl, fun wz hz => by go_simp⟩) ?_
            (try simp only [Act.put, List.setIfInBounds_toArray, List.set_cons_zero, List.set_cons_succ])
            refine anyC_call (i := 52) (o := ⟨_, _, _, _, _, _⟩) (f := 10) (args := #[.slice ahA VL.length chA]) rfl (by kernel_rfl) (by kernel_rfl) (by apply runs_call1 (he := enters_of Try.func10 (by kernel_rfl) rfl) <;> rfl) z ?_
            refine (X0c.out _ _ _ (RO.out _ z).1).mono ?_
            rintro e wz ⟨rfl, hb⟩
            replace z := z.trans (hb.mono z.size)
            refine ⟨_, rfl, ?_⟩
            refine anyC_take (i := 53) (oi := ⟨_, _, _, _, _, _⟩) (v := .bool true) rfl (by kernel_rfl) (by kernel_rfl) (by kernel_rfl) (fun _ _ _ h => h) (.inl ⟨by kernel_rfl, fun wz hz => by go_simp⟩) ?_
            refine anyC_take (i := 54) (oi := ⟨_, _, _, _, _, _⟩) (v := .bool true) rfl (by kernel_rfl) (by kernel_rfl) (by kernel_rfl) (fun _ _ _ h => h) (.inl ⟨by kernel_rfl, fun wz hz => by go_simp⟩) ?_
            refine anyC_take (i := 55) (oi := ⟨_, _, _, _, _, _⟩) (v := .bool true) rfl (by kernel_rfl) (by kernel_rfl) (by kernel_rfl) (fun _ _ _ h => h) (.inl ⟨by kernel_rfl, fun wz hz => by apply runs_assign <;> rfl⟩) ?_
            (try simp only [Act.put, List.setIfInBounds_toArray, List.set_cons_zero, List.set_cons_succ])
            refine anyC_done (by kernel_rfl) z ?_ _
            go_wp2
            go_ret
            exact ⟨by first | rfl | exact ret_bool (by simp), FIN.out _ z⟩
        · simp only [Bool.true_and] at e4
          subst e4
          cases X1
          · simp only [Bool.false_and] at e5
            subst e5
            clear e3
            refine wp_region_any (by kernel_rfl) ?_
            refine any_of_C (C := Below w3.heap.size w3) _ _ _ _ ?_
            replace z := z.drew
            refine anyC_take (i := 0) (oi := ⟨_, _, _, _, _, _⟩) (v := .agg #[.slice ahA VL.length chA, .slice bhA VT.length dhA]) rfl (by kernel_rfl) (by kernel_rfl) (by kernel_rfl) (fun _ _ _ h => h) (.inl ⟨by kernel_rfl, fun wz hz => runs_load (C := Below w3.heap.size w3) 26 _ rfl hGb rfl _ _ _ _ (fun w hw => KG.out _ hw) Try.underlying26 rfl (size_Alg _ _) wz hz⟩) ?_
            refine anyC_call (i := 1) (o := ⟨_, _, _, _, _, _⟩) (f := 8) (args := #[.agg #[.slice ahA VL.length chA, .slice bhA VT.length dhA]]) rfl (by kernel_rfl) (by kernel_rfl) (by apply runs_call1 (he := enters_of Try.func8 (by kernel_rfl) rfl) <;> rfl) z ?_
            refine (C1.out _ _ _ _ _ (RO.out _ z).1 (RO.out _ z).2).mono ?_
            rintro e wz ⟨rfl, hb⟩
            replace z := z.trans (hb.mono z.size)
            refine ⟨_, rfl, ?_⟩
            refine anyC_take (i := 2) (oi := ⟨_, _, _, _, _, _⟩) (v := .bool true) rfl (by kernel_rfl) (by kernel_rfl) (by kernel_rfl) (fun _ _ _ h => h) (.inl ⟨by kernel_rfl, fun wz hz => by apply runs_moveY <;> rfl⟩) ?_
            refine anyC_take (i := 3) (oi := ⟨_, _, _, _, _, _⟩) (v := .pointer (some ⟨hGb, 0, none⟩)) rfl (by kernel_rfl) (by kernel_rfl) (by kernel_rfl) (fun _ _ _ h => h) (.inl ⟨by kernel_rfl, fun wz hz => by go_simp⟩) ?_
            (try simp only [Act.put, List.setIfInBounds_toArray, List.set_cons_zero, List.set_cons_succ])
            refine anyC_take (i := 4) (oi := ⟨_, _, _, _, _, _⟩) (v := .slice ahA VL.length chA) rfl (by kernel_rfl) (by kernel_rfl) (by kernel_rfl) (fun _ _ _ h => h) (.inl ⟨by kernel_rfl, fun wz hz => by have c0 := (bx_cells (KG.out _ hz)).1; go_simp⟩) ?_
            refine anyC_take (i := 5) (oi := ⟨_, _, _, _, _, _⟩) (v := .int .i64 (VL.length : Int)) rfl (by kernel_rfl) (by kernel_rfl) (by kernel_rfl) (fun _ _ _ h => h) (.inl ⟨by kernel_rfl, fun wz hz => by go_simp⟩) ?_
            refine anyC_take (i := 6) (oi := ⟨_, _, _, _, _, _⟩) (v := .pointer (some ⟨hDb, 0, none⟩)) rfl (by kernel_rfl) (by kernel_rfl) (by kernel_rfl) (fun _ _ _ h => h) (.inl ⟨by kernel_rfl, fun wz hz => by go_simp⟩) ?_
            refine anyC_take (i := 7) (oi := ⟨_, _, _, _, _, _⟩) (v := .slice ahD L.length chD) rfl (by kernel_rfl) (by kernel_rfl) (by kernel_rfl) (fun _ _ _ h => h) (.inl ⟨by kernel_rfl, fun wz hz => by have c0 := (bx_cells (KD.out _ hz)).1; go_simp⟩) ?_
            (try simp only [Act.put, List.setIfInBounds_toArray, List.set_cons_zero, List.set_cons_succ])
            refine anyC_take (i := 8) (oi := ⟨_, _, _, _, _, _⟩) (v := .int .i64 (L.length : Int)) rfl (by kernel_rfl) (by kernel_rfl) (by kernel_rfl) (fun _ _ _ h => h) (.inl ⟨by kernel_rfl, fun wz hz => by go_simp⟩) ?_
            refine anyC_take (i := 9) (oi := ⟨_, _, _, _, _, _⟩) (v := .pointer (some ⟨hEb, 0, none⟩)) rfl (by kernel_rfl) (by kernel_rfl) (by kernel_rfl) (fun _ _ _ h => h) (.inl ⟨by kernel_rfl, fun wz hz => by go_simp⟩) ?_
            refine anyC_take (i := 10) (oi := ⟨_, _, _, _, _, _⟩) (v := .slice ahE M.length chE) rfl (by kernel_rfl) (by kernel_rfl) (by kernel_rfl) (fun _ _ _ h => h) (.inl ⟨by kernel_rfl, fun wz hz => by have c0 := (bx_cells (KE.out _ hz)).1; go_simp⟩) ?_
            refine anyC_take (i := 11) (oi := ⟨_, _, _, _, _, _⟩) (v := .int .i64 (M.length : Int)) rfl (by kernel_rfl) (by kernel_rfl) (by kernel_rfl) (fun _ _ _ h => h) (.inl ⟨by kernel_rfl, fun wz hz => by go_simp⟩) ?_
            (try simp only [Act.put, List.setIfInBounds_toArray, List.set_cons_zero, List.set_cons_succ])
            refine anyC_take (i := 12) (oi := ⟨_, _, _, _, _, _⟩) (v := .int .i64 ((L.length : Int) + M.length)) rfl (by kernel_rfl) (by kernel_rfl) (by kernel_rfl) (fun _ _ _ h => h) (.inl ⟨by kernel_rfl, fun wz hz => by have k1 := KW1.out; go_simp⟩) ?_
            refine anyC_take (i := 13) (oi := ⟨_, _, _, _, _, _⟩) (v := .int .i64 ((L.length : Int) + M.length - 1)) rfl (by kernel_rfl) (by kernel_rfl) (by kernel_rfl) (fun _ _ _ h => h) (.inl ⟨by kernel_rfl, fun wz hz => by have k2 := KW2.out; go_simp⟩) ?_
            refine anyC_take (i := 14) (oi := ⟨_, _, _, _, _, _⟩) (v := .bool true) rfl (by kernel_rfl) (by kernel_rfl) (by kernel_rfl) (fun _ _ _ h => h) (.inl ⟨by kernel_rfl, fun wz hz => by have k3 := KE2.out; go_simp⟩) ?_
            refine anyC_take (i := 15) (oi := ⟨_, _, _, _, _, _⟩) (v := .bool true) rfl (by kernel_rfl) (by kernel_rfl) (by kernel_rfl) (fun _ _ _ h => h) (.inl ⟨by kernel_rfl, fun wz hz => by go_simp⟩) ?_
            (try simp only [Act.put, List.setIfInBounds_toArray, List.set_cons_zero, List.set_cons_succ])
            refine anyC_take (i := 16) (oi := ⟨_, _, _, _, _, _⟩) (v := .bool true) rfl (by kernel_rfl) (by kernel_rfl) (by kernel_rfl) (fun _ _ _ h => h) (.inl ⟨by kernel_rfl, fun wz hz => by apply runs_moveY <;> rfl⟩) ?_
            refine anyC_take (i := 17) (oi := ⟨_, _, _, _, _, _⟩) (v := .bool true) rfl (by kernel_rfl) (by kernel_rfl) (by kernel_rfl) (fun _ _ _ h => h) (.inl ⟨by kernel_rfl, fun wz hz => by apply runs_moveY <;> rfl⟩) ?_
            refine anyC_take (i := 18) (oi := ⟨_, _, _, _, _, _⟩) (v := .bool true) rfl (by kernel_rfl) (by kernel_rfl) (by kernel_rfl) (fun _ _ _ h => h) (.inl ⟨by kernel_rfl, fun wz hz => by apply runs_moveY <;> rfl⟩) ?_
            refine anyC_take (i := 19) (oi := ⟨_, _, _, _, _, _⟩) (v := undef) rfl (by kernel_rfl) (by kernel_rfl) (by kernel_rfl) (fun _ _ _ h => h) (.inr ⟨by kernel_rfl, rfl⟩) ?_
            (try simp only [Act.put, List.setIfInBounds_toArray, List.set_cons_zero, List.set_cons_succ])
            refine anyC_take (i := 21) (oi := ⟨_, _, _, _, _, _⟩) (v := undef) rfl (by kernel_rfl) (by kernel_rfl) (by kernel_rfl) (fun _ _ _ h => h) (.inr ⟨by kernel_rfl, rfl⟩) ?_
            refine anyC_take (i := 20) (oi := ⟨_, _, _, _, _, _⟩) (v := undef) rfl (by kernel_rfl) (by kernel_rfl) (by kernel_rfl) (fun _ _ _ h => h) (.inr ⟨by kernel_rfl, rfl⟩) ?_
            refine anyC_take (i := 22) (oi := ⟨_, _, _, _, _, _⟩) (v := undef) rfl (by kernel_rfl) (by kernel_rfl) (by kernel_rfl) (fun _ _ _ h => h) (.inr ⟨by kernel_rfl, rfl⟩) ?_
            refine anyC_take (i := 23) (oi := ⟨_, _, _, _, _, _⟩) (v := undef) rfl (by kernel_rfl) (by kernel_rfl) (by kernel_rfl) (fun _ _ _ h => h) (.inr ⟨by kernel_rfl, rfl⟩) ?_
            (try simp only [Act.put, List.setIfInBounds_toArray, List.set_cons_zero, List.set_cons_succ])
            refine anyC_take (i := 24) (oi := ⟨_, _, _, _, _, _⟩) (v := undef) rfl (by kernel_rfl) (by kernel_rfl) (by kernel_rfl) (fun _ _ _ h => h) (.inr ⟨by kernel_rfl, rfl⟩) ?_
            refine anyC_take (i := 25) (oi := ⟨_, _, _, _, _, _⟩) (v := undef) rfl (by kernel_rfl) (by kernel_rfl) (by kernel_rfl) (fun _ _ _ h => h) (.inr ⟨by kernel_rfl, rfl⟩) ?_
            refine anyC_take (i := 26) (oi := ⟨_, _, _, _, _, _⟩) (v := undef) rfl (by kernel_rfl) (by kernel_rfl) (by kernel_rfl) (fun _ _ _ h => h) (.inr ⟨by kernel_rfl, rfl⟩) ?_
            refine anyC_take (i := 27) (oi := ⟨_, _, _, _, _, _⟩) (v := undef) rfl (by kernel_rfl) (by kernel_rfl) (by kernel_rfl) (fun _ _ _ h => h) (.inr ⟨by kernel_rfl, rfl⟩) ?_
            (try simp only [Act.put, List.setIfInBounds_toArray, List.set_cons_zero, List.set_cons_succ])
            refine anyC_take (i := 28) (oi := ⟨_, _, _, _, _, _⟩) (v := .bool true) rfl (by kernel_rfl) (by kernel_rfl) (by kernel_rfl) (fun _ _ _ h => h) (.inl ⟨by kernel_rfl, fun wz hz => by go_simp⟩) ?_
            refine anyC_take (i := 29) (oi := ⟨_, _, _, _, _, _⟩) (v := .bool true) rfl (by kernel_rfl) (by kernel_rfl) (by kernel_rfl) (fun _ _ _ h => h) (.inl ⟨by kernel_rfl, fun wz hz => by go_simp⟩) ?_
            refine anyC_take (i := 30) (oi := ⟨_, _, _, _, _, _⟩) (v := .bool true) rfl (by kernel_rfl) (by kernel_rfl) (by kernel_rfl) (fun _ _ _ h => h) (.inl ⟨by kernel_rfl, fun wz hz => by apply runs_moveY <;> rfl⟩) ?_
            refine anyC_take (i := 31) (oi := ⟨_, _, _, _, _, _⟩) (v := .agg #[.slice ahA VL.length chA, .slice bhA VT.length dhA]) rfl (by kernel_rfl) (by kernel_rfl) (by kernel_rfl) (fun _ _ _ h => h) (.inl ⟨by kernel_rfl, fun wz hz => runs_load (C := Below w3.heap.size w3) 26 _ rfl hGb rfl _ _ _ _ (fun w hw => KG.out _ hw) Try.underlying26 rfl (size_Alg _ _) wz hz⟩) ?_
            (try simp only [Act.put, List.setIfInBounds_toArray, List.set_cons_zero, List.set_cons_succ])
            refine anyC_take (i := 33) (oi := ⟨_, _, _, _, _, _⟩) (v := .agg #[.slice ahD L.length chD, .slice bhD T.length dhD]) rfl (by kernel_rfl) (by kernel_rfl) (by kernel_rfl) (fun _ _ _ h => h) (.inl ⟨by kernel_rfl, fun wz hz => runs_load (C := Below w3.heap.size w3) 26 _ rfl hDb rfl _ _ _ _ (fun w hw => KD.out _ hw) Try.underlying26 rfl (size_Alg _ _) wz hz⟩) ?_
            refine anyC_call (i := 32) (o := ⟨_, _, _, _, _, _⟩) (f := 9) (args := #[.string ⟨#[105, 100, 101, 109, 112, 111, 116, 101, 110, 116]⟩, .agg #[.slice ahA VL.length chA, .slice bhA VT.length dhA]]) rfl (by kernel_rfl) (by kernel_rfl) (by apply runs_call2 (he := enters_of Try.func9 (by kernel_rfl) rfl) <;> rfl) z ?_
            refine (Q0.out _ _ _ _ _ (RO.out _ z).1 (RO.out _ z).2).mono ?_
            rintro e wz ⟨rfl, hb⟩
            replace z := z.trans (hb.mono z.size)
            refine ⟨_, rfl, ?_⟩
            refine anyC_call (i := 34) (o := ⟨_, _, _, _, _, _⟩) (f := 9) (args := #[.string ⟨#[105, 100, 101, 109, 112, 111, 116, 101, 110, 116]⟩, .agg #[.slice ahD L.length chD, .slice bhD T.length dhD]]) rfl (by kernel_rfl) (by kernel_rfl) (by apply runs_call2 (he := enters_of Try.func9 (by kernel_rfl) rfl) <;> rfl) z ?_
            refine (Q1.out _ _ _ _ _ (RA_.out _ z).1 (RA_.out _ z).2).mono ?_
            rintro e wz ⟨rfl, hb⟩
            replace z := z.trans (hb.mono z.size)
            refine ⟨_, rfl, ?_⟩
            refine anyC_take (i := 35) (oi := ⟨_, _, _, _, _, _⟩) (v := .bool true) rfl (by kernel_rfl) (by kernel_rfl) (by kernel_rfl) (fun _ _ _ h => h) (.inl ⟨by kernel_rfl, fun wz hz => by apply runs_moveY <;> rfl⟩) ?_
            (try simp only [Act.put, List.setIfInBounds_toArray, List.set_cons_zero, List.set_cons_succ])
            refine anyC_take (i := 36) (oi := ⟨_, _, _, _, _, _⟩) (v := .agg #[.slice ahE M.length chE, .slice bhE U.length dhE]) rfl (by kernel_rfl) (by kernel_rfl) (by kernel_rfl) (fun _ _ _ h => h) (.inl ⟨by kernel_rfl, fun wz hz => runs_load (C := Below w3.heap.size w3) 26 _ rfl hEb rfl _ _ _ _ (fun w hw => KE.out _ hw) Try.underlying26 rfl (size_Alg _ _) wz hz⟩) ?_
            refine anyC_call (i := 37) (o := ⟨_, _, _, _, _, _⟩) (f := 9) (args := #[.string ⟨#[105, 100, 101, 109, 112, 111, 116, 101, 110, 116]⟩, .agg #[.slice ahE M.length chE, .slice bhE U.length dhE]]) rfl (by kernel_rfl) (by kernel_rfl) (by apply runs_call2 (he := enters_of Try.func9 (by kernel_rfl) rfl) <;> rfl) z ?_
            refine (Q2.out _ _ _ _ _ (RB.out _ z).1 (RB.out _ z).2).mono ?_
            rintro e wz ⟨rfl, hb⟩
            replace z := z.trans (hb.mono z.size)
            refine ⟨_, rfl, ?_⟩
            refine anyC_take (i := 38) (oi := ⟨_, _, _, _, _, _⟩) (v := .bool I0) rfl (by kernel_rfl) (by kernel_rfl) (by kernel_rfl) (fun _ _ _ h => h) (.inl ⟨by kernel_rfl, fun wz hz => by go_simp⟩) ?_
            refine anyC_take (i := 39) (oi := ⟨_, _, _, _, _, _⟩) (v := .bool true) rfl (by kernel_rfl) (by kernel_rfl) (by kernel_rfl) (fun _ _ _ h => h) (.inl ⟨by kernel_rfl, fun wz hz => by go_simp⟩) ?_
            (try simp only [Act.put, List.setIfInBounds_toArray, List.set_cons_zero, List.set_cons_succ])
            refine anyC_take (i := 40) (oi := ⟨_, _, _, _, _, _⟩) (v := .bool true) rfl (by kernel_rfl) (by kernel_rfl) (by kernel_rfl) (fun _ _ _ h => h) (.inl ⟨by kernel_rfl, fun wz hz => by go_simp⟩) ?_
            refine anyC_take (i := 41) (oi := ⟨_, _, _, _, _, _⟩) (v := .bool true) rfl (by kernel_rfl) (by kernel_rfl) (by kernel_rfl) (fun _ _ _ h => h) (.inl ⟨by kernel_rfl, fun wz hz => by apply runs_moveY <;> rfl⟩) ?_
            refine anyC_take (i := 42) (oi := ⟨_, _, _, _, _, _⟩) (v := .pointer (some ⟨hDb, 0, none⟩)) rfl (by kernel_rfl) (by kernel_rfl) (by kernel_rfl) (fun _ _ _ h => h) (.inl ⟨by kernel_rfl, fun wz hz => by go_simp⟩) ?_
            refine anyC_take (i := 43) (oi := ⟨_, _, _, _, _, _⟩) (v := .slice ahD L.length chD) rfl (by kernel_rfl) (by kernel_rfl) (by kernel_rfl) (fun _ _ _ h => h) (.inl ⟨by kernel_rfl, fun wz hz => by have c0 := (bx_cells (KD.out _ hz)).1; go_simp⟩) ?_
            (try simp only [Act.put, List.setIfInBounds_toArray, List.set_cons_zero, List.set_cons_succ])
            refine anyC_take (i := 50) (oi := ⟨_, _, _, _, _, _⟩) (v := .pointer (some ⟨hGb, 0, none⟩)) rfl (by kernel_rfl) (by kernel_rfl) (by kernel_rfl) (fun _ _ _ h => h) (.inl ⟨by kernel_rfl, fun wz hz => by go_simp⟩) ?_
            refine anyC_take (i := 51) (oi := ⟨_, _, _, _, _, _⟩) (v := .slice ahA VL.length chA) rfl (by kernel_rfl) (by kernel_rfl) (by kernel_rfl) (fun _ _ _ h => h) (.inl ⟨by kernel_rfl, fun wz hz => by have c0 := (bx_cells (KG.out _ hz)).1; go_simp⟩) ?_
            refine anyC_call (i := 44) (o := ⟨_, _, _, _, _, _⟩) (f := 10) (args := #[.slice ahD L.length chD]) rfl (by kernel_rfl) (by kernel_rfl) (by apply runs_call1 (he := enters_of Try.func10 (by kernel_rfl) rfl) <;> rfl) z ?_
            refine (X1c.out _ _ _ (RA_.out _ z).1).mono ?_
            rintro e wz ⟨rfl, hb⟩
            replace z := z.trans (hb.mono z.size)
            refine ⟨_, rfl, ?_⟩
            refine anyC_take (i := 45) (oi := ⟨_, _, _, _, _, _⟩) (v := .bool false) rfl (by kernel_rfl) (by kernel_rfl) (by kernel_rfl) (fun _ _ _ h => h) (.inl ⟨by kernel_rfl, fun wz hz => by apply runs_moveY <;> rfl⟩) ?_
            (try simp only [Act.put, List.setIfInBounds_toArray, List.set_cons_zero, List.set_cons_succ])
            refine anyC_take (i := 46) (oi := ⟨_, _, _, _, _, _⟩) (v := undef) rfl (by kernel_rfl) (by kernel_rfl) (by kernel_rfl) (fun _ _ _ h => h) (.inr ⟨by kernel_rfl, rfl⟩) ?_
            refine anyC_take (i := 47) (oi := ⟨_, _, _, _, _, _⟩) (v := undef) rfl (by kernel_rfl) (by kernel_rfl) (by kernel_rfl) (fun _ _ _ h => h) (.inr ⟨by kernel_rfl, rfl⟩) ?_
            refine anyC_take (i := 48) (oi := ⟨_, _, _, _, _, _⟩) (v := undef) rfl (by kernel_rfl) (by kernel_rfl) (by kernel_rfl) (fun _ _ _ h => h) (.inr ⟨by kernel_rfl, rfl⟩) ?_
            refine anyC_take (i := 49) (oi := ⟨_, _, _, _, _, _⟩) (v := .bool false) rfl (by kernel_rfl) (by kernel_rfl) (by kernel_rfl) (fun _ _ _ h => h) (.inl ⟨by kernel_rfl, fun wz hz => by go_simp⟩) ?_
            (try simp only [Act.put, List.setIfInBounds_toArray, List.set_cons_zero, List.set_cons_succ])
            refine anyC_call (i := 52) (o := ⟨_, _, _, _, _, _⟩) (f := 10) (args := #[.slice ahA VL.length chA]) rfl (by kernel_rfl) (by kernel_rfl) (by apply runs_call1 (he := enters_of Try.func10 (by kernel_rfl) rfl) <;> rfl) z ?_
            refine (X0c.out _ _ _ (RO.out _ z).1).mono ?_
            rintro e wz ⟨rfl, hb⟩
            replace z := z.trans (hb.mono z.size)
            refine ⟨_, rfl, ?_⟩
            refine anyC_take (i := 53) (oi := ⟨_, _, _, _, _, _⟩) (v := .bool true) rfl (by kernel_rfl) (by kernel_rfl) (by kernel_rfl) (fun _ _ _ h => h) (.inl ⟨by kernel_rfl, fun wz hz => by go_simp⟩) ?_
            refine anyC_take (i := 54) (oi := ⟨_, _, _, _, _, _⟩) (v := .bool true) rfl (by kernel_rfl) (by kernel_rfl) (by kernel_rfl) (fun _ _ _ h => h) (.inl ⟨by kernel_rfl, fun wz hz => by go_simp⟩) ?_
            refine anyC_take (i := 55) (oi := ⟨_, _, _, _, _, _⟩) (v := .bool true) rfl (by kernel_rfl) (by kernel_rfl) (by kernel_rfl) (fun _ _ _ h => h) (.inl ⟨by kernel_rfl, fun wz hz => by apply runs_assign <;> rfl⟩) ?_
            (try simp only [Act.put, List.setIfInBounds_toArray, List.set_cons_zero, List.set_cons_succ])
            refine anyC_done (by kernel_rfl) z ?_ _
            go_wp2
            go_ret
            exact ⟨by first | rfl | exact ret_bool (by simp), FIN.out _ z⟩
          · simp only [Bool.true_and] at e5
            subst e5
            clear e3
            refine wp_region_any (by kernel_rfl) ?_
            refine any_of_C (C := Below w3.heap.size w3) _ _ _ _ ?_
            replace z := z.drew
            refine anyC_take (i := 0) (oi := ⟨_, _, _, _, _, _⟩) (v := .agg #[.slice ahA VL.length chA, .slice bhA VT.length dhA]) rfl (by kernel_rfl) (by kernel_rfl) (by kernel_rfl) (fun _ _ _ h => h) (.inl ⟨by kernel_rfl, fun wz hz => runs_load (C := Below w3.heap.size w3) 26 _ rfl hGb rfl _ _ _ _ (fun w hw => KG.out _ hw) Try.underlying26 rfl (size_Alg _ _) wz hz⟩) ?_
            refine anyC_call (i := 1) (o := ⟨_, _, _, _, _, _⟩) (f := 8) (args := #[.agg #[.slice ahA VL.length chA, .slice bhA VT.length dhA]]) rfl (by kernel_rfl) (by kernel_rfl) (by apply runs_call1 (he := enters_of Try.func8 (by kernel_rfl) rfl) <;> rfl) z ?_
            refine (C1.out _ _ _ _ _ (RO.out _ z).1 (RO.out _ z).2).mono ?_
            rintro e wz ⟨rfl, hb⟩
            replace z := z.trans (hb.mono z.size)
            refine ⟨_, rfl, ?_⟩
            refine anyC_take (i := 2) (oi := ⟨_, _, _, _, _, _⟩) (v := .bool true) rfl (by kernel_rfl) (by kernel_rfl) (by kernel_rfl) (fun _ _ _ h => h) (.inl ⟨by kernel_rfl, fun wz hz => by apply runs_moveY <;> rfl⟩) ?_
            refine anyC_take (i := 3) (oi := ⟨_, _, _, _, _, _⟩) (v := .pointer (some ⟨hGb, 0, none⟩)) rfl (by kernel_rfl) (by kernel_rfl) (by kernel_rfl) (fun _ _ _ h => h) (.inl ⟨by kernel_rfl, fun wz hz => by go_simp⟩) ?_
            (try simp only [Act.put, List.setIfInBounds_toArray, List.set_cons_zero, List.set_cons_succ])
            refine anyC_take (i := 4) (oi := ⟨_, _, _, _, _, _⟩) (v := .slice ahA VL.length chA) rfl (by kernel_rfl) (by kernel_rfl) (by kernel_rfl) (fun _ _ _ h => h) (.inl ⟨by kernel_rfl, fun wz hz => by have c0 := (bx_cells (KG.out _ hz)).1; go_simp⟩) ?_
            refine anyC_take (i := 5) (oi := ⟨_, _, _, _, _, _⟩) (v := .int .i64 (VL.length : Int)) rfl (by kernel_rfl) (by kernel_rfl) (by kernel_rfl) (fun _ _ _ h => h) (.inl ⟨by kernel_rfl, fun wz hz => by go_simp⟩) ?_
            refine anyC_take (i := 6) (oi := ⟨_, _, _, _, _, _⟩) (v := .pointer (some ⟨hDb, 0, none⟩)) rfl (by kernel_rfl) (by kernel_rfl) (by kernel_rfl) (fun _ _ _ h => h) (.inl ⟨by kernel_rfl, fun wz hz => by go_simp⟩) ?_
            refine anyC_take (i := 7) (oi := ⟨_, _, _, _, _, _⟩) (v := .slice ahD L.length chD) rfl (by kernel_rfl) (by kernel_rfl) (by kernel_rfl) (fun _ _ _ h => h) (.inl ⟨by kernel_rfl, fun wz hz => by have c0 := (bx_cells (KD.out _ hz)).1; go_simp⟩) ?_
            (try simp only [Act.put, List.setIfInBounds_toArray, List.set_cons_zero, List.set_cons_succ])
            refine anyC_take (i := 8) (oi := ⟨_, _, _, _, _, _⟩) (v := .int .i64 (L.length : Int)) rfl (by kernel_rfl) (by kernel_rfl) (by kernel_rfl) (fun _ _ _ h => h) (.inl ⟨by kernel_rfl, fun wz hz => by go_simp⟩) ?_
            refine anyC_take (i := 9) (oi := ⟨_, _, _, _, _, _⟩) (v := .pointer (some ⟨hEb, 0, none⟩)) rfl (by kernel_rfl) (by kernel_rfl) (by kernel_rfl) (fun _ _ _ h => h) (.inl ⟨by kernel_rfl, fun wz hz => by go_simp⟩) ?_
            refine anyC_take (i := 10) (oi := ⟨_, _, _, _, _, _⟩) (v := .slice ahE M.length chE) rfl (by kernel_rfl) (by kernel_rfl) (by kernel_rfl) (fun _ _ _ h => h) (.inl ⟨by kernel_rfl, fun wz hz => by have c0 := (bx_cells (KE.out _ hz)).1; go_simp⟩) ?_
            refine anyC_take (i := 11) (oi := ⟨_, _, _, _, _, _⟩) (v := .int .i64 (M.length : Int)) rfl (by kernel_rfl) (by kernel_rfl) (by kernel_rfl) (fun _ _ _ h => h) (.inl ⟨by kernel_rfl, fun wz hz => by go_simp⟩) ?_
            (try simp only [Act.put, List.setIfInBounds_toArray, List.set_cons_zero, List.set_cons_succ])
            refine anyC_take (i := 12) (oi := ⟨_, _, _, _, _, _⟩) (v := .int .i64 ((L.length : Int) + M.length)) rfl (by kernel_rfl) (by kernel_rfl) (by kernel_rfl) (fun _ _ _ h => h) (.inl ⟨by kernel_rfl, fun wz hz => by have k1 := KW1.out; go_simp⟩) ?_
            refine anyC_take (i := 13) (oi := ⟨_, _, _, _, _, _⟩) (v := .int .i64 ((L.length : Int) + M.length - 1)) rfl (by kernel_rfl) (by kernel_rfl) (by kernel_rfl) (fun _ _ _ h => h) (.inl ⟨by kernel_rfl, fun wz hz => by have k2 := KW2.out; go_simp⟩) ?_
            refine anyC_take (i := 14) (oi := ⟨_, _, _, _, _, _⟩) (v := .bool true) rfl (by kernel_rfl) (by kernel_rfl) (by kernel_rfl) (fun _ _ _ h => h) (.inl ⟨by kernel_rfl, fun wz hz => by have k3 := KE2.out; go_simp⟩) ?_
            refine anyC_take (i := 15) (oi := ⟨_, _, _, _, _, _⟩) (v := .bool true) rfl (by kernel_rfl) (by kernel_rfl) (by kernel_rfl) (fun _ _ _ h => h) (.inl ⟨by kernel_rfl, fun wz hz => by go_simp⟩) ?_
            (try simp only [Act.put, List.setIfInBounds_toArray, List.set_cons_zero, List.set_cons_succ])
            refine anyC_take (i := 16) (oi := ⟨_, _, _, _, _, _⟩) (v := .bool true) rfl (by kernel_rfl) (by kernel_rfl) (by kernel_rfl) (fun _ _ _ h => h) (.inl ⟨by kernel_rfl, fun wz hz => by apply runs_moveY <;> rfl⟩) ?_
            refine anyC_take (i := 17) (oi := ⟨_, _, _, _, _, _⟩) (v := .bool true) rfl (by kernel_rfl) (by kernel_rfl) (by kernel_rfl) (fun _ _ _ h => h) (.inl ⟨by kernel_rfl, fun wz hz => by apply runs_moveY <;> rfl⟩) ?_
            refine anyC_take (i := 18) (oi := ⟨_, _, _, _, _, _⟩) (v := .bool true) rfl (by kernel_rfl) (by kernel_rfl) (by kernel_rfl) (fun _ _ _ h => h) (.inl ⟨by kernel_rfl, fun wz hz => by apply runs_moveY <;> rfl⟩) ?_
            refine anyC_take (i := 19) (oi := ⟨_, _, _, _, _, _⟩) (v := undef) rfl (by kernel_rfl) (by kernel_rfl) (by kernel_rfl) (fun _ _ _ h => h) (.inr ⟨by kernel_rfl, rfl⟩) ?_
            (try simp only [Act.put, List.setIfInBounds_toArray, List.set_cons_zero, List.set_cons_succ])
            refine anyC_take (i := 21) (oi := ⟨_, _, _, _, _, _⟩) (v := undef) rfl (by kernel_rfl) (by kernel_rfl) (by kernel_rfl) (fun _ _ _ h => h) (.inr ⟨by kernel_rfl, rfl⟩) ?_
            refine anyC_take (i := 20) (oi := ⟨_, _, _, _, _, _⟩) (v := undef) rfl (by kernel_rfl) (by kernel_rfl) (by kernel_rfl) (fun _ _ _ h => h) (.inr ⟨by kernel_rfl, rfl⟩) ?_
            refine anyC_take (i := 22) (oi := ⟨_, _, _, _, _, _⟩) (v := undef) rfl (by kernel_rfl) (by kernel_rfl) (by kernel_rfl) (fun _ _ _ h => h) (.inr ⟨by kernel_rfl, rfl⟩) ?_
            refine anyC_take (i := 23) (oi := ⟨_, _, _, _, _, _⟩) (v := undef) rfl (by kernel_rfl) (by kernel_rfl) (by kernel_rfl) (fun _ _ _ h => h) (.inr ⟨by kernel_rfl, rfl⟩) ?_
            (try simp only [Act.put, List.setIfInBounds_toArray, List.set_cons_zero, List.set_cons_succ])
            refine anyC_take (i := 24) (oi := ⟨_, _, _, _, _, _⟩) (v := undef) rfl (by kernel_rfl) (by kernel_rfl) (by kernel_rfl) (fun _ _ _ h => h) (.inr ⟨by kernel_rfl, rfl⟩) ?_
            refine anyC_take (i := 25) (oi := ⟨_, _, _, _, _, _⟩) (v := undef) rfl (by kernel_rfl) (by kernel_rfl) (by kernel_rfl) (fun _ _ _ h => h) (.inr ⟨by kernel_rfl, rfl⟩) ?_
            refine anyC_take (i := 26) (oi := ⟨_, _, _, _, _, _⟩) (v := undef) rfl (by kernel_rfl) (by kernel_rfl) (by kernel_rfl) (fun _ _ _ h => h) (.inr ⟨by kernel_rfl, rfl⟩) ?_
            refine anyC_take (i := 27) (oi := ⟨_, _, _, _, _, _⟩) (v := undef) rfl (by kernel_rfl) (by kernel_rfl) (by kernel_rfl) (fun _ _ _ h => h) (.inr ⟨by kernel_rfl, rfl⟩) ?_
            (try simp only [Act.put, List.setIfInBounds_toArray, List.set_cons_zero, List.set_cons_succ])
            refine anyC_take (i := 28) (oi := ⟨_, _, _, _, _, _⟩) (v := .bool true) rfl (by kernel_rfl) (by kernel_rfl) (by kernel_rfl) (fun _ _ _ h => h) (.inl ⟨by kernel_rfl, fun wz hz => by go_simp⟩) ?_
            refine anyC_take (i := 29) (oi := ⟨_, _, _, _, _, _⟩) (v := .bool true) rfl (by kernel_rfl) (by kernel_rfl) (by kernel_rfl) (fun _ _ _ h => h) (.inl ⟨by kernel_rfl, fun wz hz => by go_simp⟩) ?_
            refine anyC_take (i := 30) (oi := ⟨_, _, _, _, _, _⟩) (v := .bool true) rfl (by kernel_rfl) (by kernel_rfl) (by kernel_rfl) (fun _ _ _ h => h) (.inl ⟨by kernel_rfl, fun wz hz => by apply runs_moveY <;> rfl⟩) ?_
            refine anyC_take (i := 31) (oi := ⟨_, _, _, _, _, _⟩) (v := .agg #[.slice ahA VL.length chA, .slice bhA VT.length dhA]) rfl (by kernel_rfl) (by kernel_rfl) (by kernel_rfl) (fun _ _ _ h => h) (.inl ⟨by kernel_rfl, fun wz hz => runs_load (C := Below w3.heap.size w3) 26 _ rfl hGb rfl _ _ _ _ (fun w hw => KG.out _ hw) Try.underlying26 rfl (size_Alg _ _) wz hz⟩) ?_
            (try simp only [Act.put, List.setIfInBounds_toArray, List.set_cons_zero, List.set_cons_succ])
            refine anyC_take (i := 33) (oi := ⟨_, _, _, _, _, _⟩) (v := .agg #[.slice ahD L.length chD, .slice bhD T.length dhD]) rfl (by kernel_rfl) (by kernel_rfl) (by kernel_rfl) (fun _ _ _ h => h) (.inl ⟨by kernel_rfl, fun wz hz => runs_load (C := Below w3.heap.size w3) 26 _ rfl hDb rfl _ _ _ _ (fun w hw => KD.out _ hw) Try.underlying26 rfl (size_Alg _ _) wz hz⟩) ?_
            refine anyC_call (i := 32) (o := ⟨_, _, _, _, _, _⟩) (f := 9) (args := #[.string ⟨#[105, 100, 101, 109, 112, 111, 116, 101, 110, 116]⟩, .agg #[.slice ahA VL.length chA, .slice bhA VT.length dhA]]) rfl (by kernel_rfl) (by kernel_rfl) (by apply runs_call2 (he := enters_of Try.func9 (by kernel_rfl) rfl) <;> rfl) z ?_
            refine (Q0.out _ _ _ _ _ (RO.out _ z).1 (RO.out _ z).2).mono ?_
            rintro e wz ⟨rfl, hb⟩
            replace z := z.trans (hb.mono z.size)
            refine ⟨_, rfl, ?_⟩
            refine anyC_call (i := 34) (o := ⟨_, _, _, _, _, _⟩) (f := 9) (args := #[.string ⟨#[105, 100, 101, 109, 112, 111, 116, 101, 110, 116]⟩, .agg #[.slice ahD L.length chD, .slice bhD T.length dhD]]) rfl (by kernel_rfl) (by kernel_rfl) (by apply runs_call2 (he := enters_of Try.func9 (by kernel_rfl) rfl) <;> rfl) z ?_
            refine (Q1.out _ _ _ _ _ (RA_.out _ z).1 (RA_.out _ z).2).mono ?_
            rintro e wz ⟨rfl, hb⟩
            replace z := z.trans (hb.mono z.size)
            refine ⟨_, rfl, ?_⟩
            refine anyC_take (i := 35) (oi := ⟨_, _, _, _, _, _⟩) (v := .bool true) rfl (by kernel_rfl) (by kernel_rfl) (by kernel_rfl) (fun _ _ _ h => h) (.inl ⟨by kernel_rfl, fun wz hz => by apply runs_moveY <;> rfl⟩) ?_
            (try simp only [Act.put, List.setIfInBounds_toArray, List.set_cons_zero, List.set_cons_succ])
            refine anyC_take (i := 36) (oi := ⟨_, _, _, _, _, _⟩) (v := .agg #[.slice ahE M.length chE, .slice bhE U.length dhE]) rfl (by kernel_rfl) (by kernel_rfl) (by kernel_rfl) (fun _ _ _ h => h) (.inl ⟨by kernel_rfl, fun wz hz => runs_load (C := Below w3.heap.size w3) 26 _ rfl hEb rfl _ _ _ _ (fun w hw => KE.out _ hw) Try.underlying26 rfl (size_Alg _ _) wz hz⟩) ?_
            refine anyC_call (i := 37) (o := ⟨_, _, _, _, _, _⟩) (f := 9) (args := #[.string ⟨#[105, 100, 101, 109, 112, 111, 116, 101, 110, 116]⟩, .agg #[.slice ahE M.length chE, .slice bhE U.length dhE]]) rfl (by kernel_rfl) (by kernel_rfl) (by apply runs_call2 (he := enters_of Try.func9 (by kernel_rfl) rfl) <;> rfl) z ?_
            refine (Q2.out _ _ _ _ _ (RB.out _ z).1 (RB.out _ z).2).mono ?_
            rintro e wz ⟨rfl, hb⟩
            replace z := z.trans (hb.mono z.size)
            refine ⟨_, rfl, ?_⟩
            refine anyC_take (i := 38) (oi := ⟨_, _, _, _, _, _⟩) (v := .bool I0) rfl (by kernel_rfl) (by kernel_rfl) (by kernel_rfl) (fun _ _ _ h => h) (.inl ⟨by kernel_rfl, fun wz hz => by go_simp⟩) ?_
            refine anyC_take (i := 39) (oi := ⟨_, _, _, _, _, _⟩) (v := .bool true) rfl (by kernel_rfl) (by kernel_rfl) (by kernel_rfl) (fun _ _ _ h => h) (.inl ⟨by kernel_rfl, fun wz hz => by go_simp⟩) ?_
            (try simp only [Act.put, List.setIfInBounds_toArray, List.set_cons_zero, List.set_cons_succ])
            refine anyC_take (i := 40) (oi := ⟨_, _, _, _, _, _⟩) (v := .bool true) rfl (by kernel_rfl) (by kernel_rfl) (by kernel_rfl) (fun _ _ _ h => h) (.inl ⟨by kernel_rfl, fun wz hz => by go_simp⟩) ?_
            refine anyC_take (i := 41) (oi := ⟨_, _, _, _, _, _⟩) (v := .bool true) rfl (by kernel_rfl) (by kernel_rfl) (by kernel_rfl) (fun _ _ _ h => h) (.inl ⟨by kernel_rfl, fun wz hz => by apply runs_moveY <;> rfl⟩) ?_
            refine anyC_take (i := 42) (oi := ⟨_, _, _, _, _, _⟩) (v := .pointer (some ⟨hDb, 0, none⟩)) rfl (by kernel_rfl) (by kernel_rfl) (by kernel_rfl) (fun _ _ _ h => h) (.inl ⟨by kernel_rfl, fun wz hz => by go_simp⟩) ?_
            refine anyC_take (i := 43) (oi := ⟨_, _, _, _, _, _⟩) (v := .slice ahD L.length chD) rfl (by kernel_rfl) (by kernel_rfl) (by kernel_rfl) (fun _ _ _ h => h) (.inl ⟨by kernel_rfl, fun wz hz => by have c0 := (bx_cells (KD.out _ hz)).1; go_simp⟩) ?_
            (try simp only [Act.put, List.setIfInBounds_toArray, List.set_cons_zero, List.set_cons_succ])
            refine anyC_take (i := 50) (oi := ⟨_, _, _, _, _, _⟩) (v := .pointer (some ⟨hGb, 0, none⟩)) rfl (by kernel_rfl) (by kernel_rfl) (by kernel_rfl) (fun _ _ _ h => h) (.inl ⟨by kernel_rfl, fun wz hz => by go_simp⟩) ?_
            refine anyC_take (i := 51) (oi := ⟨_, _, _, _, _, _⟩) (v := .slice ahA VL.length chA) rfl (by kernel_rfl) (by kernel_rfl) (by kernel_rfl) (fun _ _ _ h => h) (.inl ⟨by kernel_rfl, fun wz hz => by have c0 := (bx_cells (KG.out _ hz)).1; go_simp⟩) ?_
            refine anyC_call (i := 44) (o := ⟨_, _, _, _, _, _⟩) (f := 10) (args := #[.slice ahD L.length chD]) rfl (by kernel_rfl) (by kernel_rfl) (by apply runs_call1 (he := enters_of Try.func10 (by kernel_rfl) rfl) <;> rfl) z ?_
            refine (X1c.out _ _ _ (RA_.out _ z).1).mono ?_
            rintro e wz ⟨rfl, hb⟩
            replace z := z.trans (hb.mono z.size)
            refine ⟨_, rfl, ?_⟩
            refine anyC_take (i := 45) (oi := ⟨_, _, _, _, _, _⟩) (v := .bool true) rfl (by kernel_rfl) (by kernel_rfl) (by kernel_rfl) (fun _ _ _ h => h) (.inl ⟨by kernel_rfl, fun wz hz => by apply runs_moveY <;> rfl⟩) ?_
            (try simp only [Act.put, List.setIfInBounds_toArray, List.set_cons_zero, List.set_cons_succ])
            refine anyC_take (i := 46) (oi := ⟨_, _, _, _, _, _⟩) (v := .pointer (some ⟨hEb, 0, none⟩)) rfl (by kernel_rfl) (by kernel_rfl) (by kernel_rfl) (fun _ _ _ h => h) (.inl ⟨by kernel_rfl, fun wz hz => by go_simp⟩) ?_
            refine anyC_take (i := 47) (oi := ⟨_, _, _, _, _, _⟩) (v := .slice ahE M.length chE) rfl (by kernel_rfl) (by kernel_rfl) (by kernel_rfl) (fun _ _ _ h => h) (.inl ⟨by kernel_rfl, fun wz hz => by have c0 := (bx_cells (KE.out _ hz)).1; go_simp⟩) ?_
            refine anyC_call (i := 48) (o := ⟨_, _, _, _, _, _⟩) (f := 10) (args := #[.slice ahE M.length chE]) rfl (by kernel_rfl) (by kernel_rfl) (by apply runs_call1 (he := enters_of Try.func10 (by kernel_rfl) rfl) <;> rfl) z ?_
            refine (X2c.out _ _ _ (RB.out _ z).1).mono ?_
            rintro e wz ⟨rfl, hb⟩
            replace z := z.trans (hb.mono z.size)
            refine ⟨_, rfl, ?_⟩
            refine anyC_take (i := 49) (oi := ⟨_, _, _, _, _, _⟩) (v := .bool X2) rfl (by kernel_rfl) (by kernel_rfl) (by kernel_rfl) (fun _ _ _ h => h) (.inl ⟨by kernel_rfl, fun wz hz => by go_simp⟩) ?_
            (try simp only [Act.put, List.setIfInBounds_toArray, List.set_cons_zero, List.set_cons_succ])
            refine anyC_call (i := 52) (o := ⟨_, _, _, _, _, _⟩) (f := 10) (args := #[.slice ahA VL.length chA]) rfl (by kernel_rfl) (by kernel_rfl) (by apply runs_call1 (he := enters_of Try.func10 (by kernel_rfl) rfl) <;> rfl) z ?_
            refine (X0c.out _ _ _ (RO.out _ z).1).mono ?_
            rintro e wz ⟨rfl, hb⟩
            replace z := z.trans (hb.mono z.size)
            refine ⟨_, rfl, ?_⟩
            refine anyC_take (i := 53) (oi := ⟨_, _, _, _, _, _⟩) (v := .bool true) rfl (by kernel_rfl) (by kernel_rfl) (by kernel_rfl) (fun _ _ _ h => h) (.inl ⟨by kernel_rfl, fun wz hz => by go_simp⟩) ?_
            refine anyC_take (i := 54) (oi := ⟨_, _, _, _, _, _⟩) (v := .bool true) rfl (by kernel_rfl) (by kernel_rfl) (by kernel_rfl) (fun _ _ _ h => h) (.inl ⟨by kernel_rfl, fun wz hz => by go_simp⟩) ?_
            refine anyC_take (i := 55) (oi := ⟨_, _, _, _, _, _⟩) (v := .bool true) rfl (by kernel_rfl) (by kernel_rfl) (by kernel_rfl) (fun _ _ _ h => h) (.inl ⟨by kernel_rfl, fun wz hz => by apply runs_assign <;> rfl⟩) ?_
            (try simp only [Act.put, List.setIfInBounds_toArray, List.set_cons_zero, List.set_cons_succ])
            refine anyC_done (by kernel_rfl) z ?_ _
            go_wp2
            go_ret
            exact ⟨by first | rfl | exact ret_bool (by simp), FIN.out _ z⟩
end Go.Proofs.Ytadcbofcohdmhaa
