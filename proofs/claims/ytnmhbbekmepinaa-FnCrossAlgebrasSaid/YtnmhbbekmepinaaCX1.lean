import Derived.Test.YtnmhbbekmepinaaCX0
import Derived.Test.YtnmhbbekmepinaaKG7
import Derived.Test.YtnmhbbekmepinaaCC3
import Derived.Test.YtnmhbbekmepinaaP2
import Derived.Test.YtnmhbbekmepinaaSL0
import Derived.Test.YtnmhbbekmepinaaN7
namespace Go.Proofs.Ytnmhbbekmepinaa
open Go.RowKit
set_option linter.unusedVariables false

def crN : List ByteArray := [⟨#[112, 114, 101, 108, 105, 110, 101, 97, 114]⟩, ⟨#[100, 105, 118, 105, 115, 105, 98, 108, 101]⟩, ⟨#[105, 110, 118, 111, 108, 117, 116, 105, 118, 101]⟩, ⟨#[105, 100, 101, 109, 112, 111, 116, 101, 110, 116]⟩, ⟨#[98, 111, 111, 108, 101, 97, 110]⟩]
def nmS (i : Int) : ByteArray := crN.getD i.toNat ⟨#[]⟩
theorem five_of {i : Int} (i0 : 0 ≤ i) (i5 : i < 5) : i = 0 ∨ i = 1 ∨ i = 2 ∨ i = 3 ∨ i = 4 := by omega
theorem hp_nm {i : Int} (i0 : 0 ≤ i) (i5 : i < 5) {L : List Int} {T : List (List Int)} (h : algB L T = true) : hpB (nmS i) L T = hasB i.toNat L T := by
  rcases five_of i0 i5 with rfl | rfl | rfl | rfl | rfl
  · exact hp_0 (s := ⟨#[112, 114, 101, 108, 105, 110, 101, 97, 114]⟩) (by decide +kernel) h
  · exact hp_1 (s := ⟨#[100, 105, 118, 105, 115, 105, 98, 108, 101]⟩) (by decide +kernel) (by decide +kernel) h
  · exact hp_2 (s := ⟨#[105, 110, 118, 111, 108, 117, 116, 105, 118, 101]⟩) (by decide +kernel) (by decide +kernel) (by decide +kernel) h
  · exact hp_3 (s := ⟨#[105, 100, 101, 109, 112, 111, 116, 101, 110, 116]⟩) (by decide +kernel) (by decide +kernel) (by decide +kernel) (by decide +kernel) h
  · exact hp_4 (s := ⟨#[98, 111, 111, 108, 101, 97, 110]⟩) (by decide +kernel) (by decide +kernel) (by decide +kernel) (by decide +kernel) (by decide +kernel) h
theorem sgCr_all {L M A : List Int} {T U B : List (List Int)} (h : sgCr1 L T M U A B = true) : algB A B = true ∧ (fls A B).length = (fls L T).length * (fls M U).length ∧ ∀ i : Int, 0 ≤ i → i < 5 → hasB i.toNat A B = (hasB i.toNat L T && hasB i.toNat M U) := by
  unfold sgCr1 at h
  simp only [Bool.and_eq_true, beq_iff_eq] at h
  obtain ⟨⟨h0, h1⟩, ⟨p0, p1⟩, p2, p3, p4⟩ := h
  refine ⟨h0, h1, fun i i0 i5 => ?_⟩
  rcases five_of i0 i5 with rfl | rfl | rfl | rfl | rfl
  · exact p0
  · exact p1
  · exact p2
  · exact p3
  · exact p4
theorem nm_cells {w : World} {bn : Nat} (h : w.heap[bn]? = some (.cells #[.string ⟨#[112, 114, 101, 108, 105, 110, 101, 97, 114]⟩, .string ⟨#[100, 105, 118, 105, 115, 105, 98, 108, 101]⟩, .string ⟨#[105, 110, 118, 111, 108, 117, 116, 105, 118, 101]⟩, .string ⟨#[105, 100, 101, 109, 112, 111, 116, 101, 110, 116]⟩, .string ⟨#[98, 111, 111, 108, 101, 97, 110]⟩] 9 (0, 0))) {i : Int} (i0 : 0 ≤ i) (i5 : i < 5) : w.cell? ⟨bn, i.toNat, none⟩ = some (.string (nmS i)) := by
  rw [cell_of_row w bn _ _ _ _ h]
  rcases five_of i0 i5 with rfl | rfl | rfl | rfl | rfl <;> rfl
theorem runs_moveY {P : Program} {o : Oper} {a : Act} (x : Operand) (ho : o.op = .move x) (v : Value) (hx : a.eval x = v) (w : World) : (execOp a.eval o).run P w = .ok (.value v) w := by
  subst hx
  unfold execOp
  simp [ho]
set_option maxRecDepth 100000 in
set_option maxHeartbeats 16000000 in
/-- laws.FnCrossAlgebras -/
theorem lawPCrossAlgebras (a0 : Option Addr) (len0 cap0 : Nat) (w : World) (hy : RdY w a0 len0 w.heap.size) (hc : len0 ≤ cap0) (hm : len0 ≤ maxLen) :
    Calls Try.prog 15 #[.slice a0 len0 cap0] w fun e w' => e = .returned (.bool true) ∧ Below w.heap.size w w' := by
  by_cases hbig : 1048576 < len0
  · have hbig2 : (1048576 : Int) < len0 := by omega
    go_enter Try.func15, Try.ntmps15
    go_wp2
    go_ret
    exact ⟨rfl, Below.refl _ _⟩
  · have hs : len0 ≤ 1048576 := by omega
    have hs2 : ¬ (1048576 : Int) < len0 := by omega
    go_enter Try.func15, Try.ntmps15
    go_wp2_with fail
    refine (drawCrossAlgebras_any a0 len0 cap0 w hy hc hs).mono ?_
    rintro e wz ⟨L, T, ahD, chD, bhD, dhD, M, U, ahE, chE, bhE, dhE, rfl, hP, hP2, hr, hT, hr2, hT2, hb0⟩
    have _ := hm
    clear hs hs2 hbig hy hm hc
    obtain ⟨l1, l7, _, _⟩ := someP_len hP
    obtain ⟨m1, m7, _, _⟩ := someP_len hP2
    obtain ⟨wv, hwv⟩ : ∃ wv, wv = (wz.alloc (.cells #[.slice none 0 0, .slice none 0 0] 27)).alloc (.cells #[.slice none 0 0, .slice none 0 0] 27) := ⟨_, rfl⟩
    obtain ⟨wy, hwy⟩ : ∃ wy, wy = (wv.setRow wz.heap.size #[.slice ahD L.length chD, .slice bhD T.length dhD]).setRow (wz.heap.size + 1) #[.slice ahE M.length chE, .slice bhE U.length dhE] := ⟨_, rfl⟩
    have hZ1 : wv.heap[wz.heap.size]? = some (.cells #[.slice none 0 0, .slice none 0 0] 27 (0, 0)) := by rw [hwv, Below.heap_alloc _ _ _ (by simp)]; exact heap_alloc_new wz _
    have hZ2 : (wv.setRow wz.heap.size #[.slice ahD L.length chD, .slice bhD T.length dhD]).heap[wz.heap.size + 1]? = some (.cells #[.slice none 0 0, .slice none 0 0] 27 (0, 0)) := (setRow_other _ _ _ _ (by omega)).trans (by rw [hwv]; exact heap_alloc2_new _ _ _)
    have hbv : Below wz.heap.size wz wv := by rw [hwv]; exact ((Below.refl _ _).alloc (Nat.le_refl _) _).alloc (by simp) _
    have hby : Below wz.heap.size wz wy := by rw [hwy]; exact below_setRow' (below_setRow' hbv (Nat.le_refl _) _) (by omega) _
    have hS : SA w ahD bhD L T wy := ⟨hb0.trans (hby.mono hb0.size), hr.below hby, hT.below hby⟩
    have hQ : SA w ahE bhE M U wy := ⟨hS.1, hr2.below hby, hT2.below hby⟩
    obtain ⟨hDb, hhDb⟩ : ∃ b, b = wz.heap.size := ⟨_, rfl⟩
    obtain ⟨hEb, hhEb⟩ : ∃ b, b = wz.heap.size + 1 := ⟨_, rfl⟩
    have hD : Bx w hDb (.slice ahD L.length chD) (.slice bhD T.length dhD) wy := ⟨by rw [hhDb]; exact hb0.size, by rw [hwy, hhDb]; exact (setRow_other _ _ _ _ (by omega)).trans (setRow_heap _ _ _ _ _ _ hZ1)⟩
    have hE : Bx w hEb (.slice ahE M.length chE) (.slice bhE U.length dhE) wy := ⟨by rw [hhEb]; have := hb0.size; omega, by rw [hwy, hhEb]; exact setRow_heap _ _ _ _ _ _ hZ2⟩
    have cD0 := hD.cells.1
    have cE0 := hE.cells.1
    have hti := ca_ti L T M U
    obtain ⟨VL, hVLe⟩ : ∃ V, V = caL L T M U := ⟨_, rfl⟩
    obtain ⟨VT, hVTe⟩ : ∃ V, V = caT L T M U := ⟨_, rfl⟩
    obtain ⟨V, hVe⟩ : ∃ V, V = caOk L T M U := ⟨_, rfl⟩
    have HI := Lib.hid (show ∀ (w : World), Rd w ahD L → RdT w bhD T → Rd w ahE M → RdT w bhE U → Calls Try.prog 19 #[.agg #[.slice ahD L.length chD, .slice bhD T.length dhD], .agg #[.slice ahE M.length chE, .slice bhE U.length dhE]] w (RetR VL VT V w) from fun w h1 h2 h3 h4 => by rw [hVLe, hVTe, hVe]; exact (implCrossAlgebras_any _ _ _ _ L T _ _ _ _ M U w h1 h2 h3 h4).mono fun _ _ h => h.r)
    have HP := Lib.hid (show ∀ (w : World), Rd w ahD L → RdT w bhD T → Rd w ahE M → RdT w bhE U → Calls Try.prog 17 #[.agg #[.slice ahD L.length chD, .slice bhD T.length dhD], .agg #[.slice ahE M.length chE, .slice bhE U.length dhE]] w (RetR VL VT V w) from fun w h1 h2 h3 h4 => by rw [hVLe, hVTe, hVe]; exact (specCrossAlgebras_any _ _ _ _ L T _ _ _ _ M U w h1 h2 h3 h4).mono fun _ _ h => h.r)
    rw [← hVLe, ← hVTe] at hti
    have hVL : VL.length ≤ 1073741824 := by have := hti.1; omega
    have hVT : VT.length ≤ 1073741824 := by have := hti.2.1; omega
    have HR := Lib.hid (show ∀ j : Nat, j < VT.length → (rowAt VT j).length ≤ 1073741824 from fun j hj => by have := hti.2.2 j hj; omega)
    have hv6 := hti.1
    clear hb0 hr hT hr2 hT2 hby hbv hti
    cases hok : caOk L T M U with
    | false =>
      rw [hok] at hVe
      subst hVe
      clear hVLe hVTe hok hP hP2
      go_wp2_with (first
        | go_skip
        | (go_at_call 19; refine (HI.out _ hS.2.1 hS.2.2 hQ.2.1 hQ.2.2).mono ?_; rintro e wz ⟨ahA, chA, bhA, dhA, rfl, r1, r2, hb⟩; (try replace hS := hS.next hb); (try replace hQ := hQ.next hb); (try replace hA := hA.next hb); (try replace hW := hW.next hb); (try replace hD := hD.next hb); (try replace hE := hE.next hb); (try replace hG := hG.next hb); (try replace hK := hK.next hb); (try have cD0 := hD.cells.1); (try have cE0 := hE.cells.1); (try have cG0 := hG.cells.1); have hA : SA w ahA bhA VL VT wz := ⟨hS.1, r1, r2⟩; clear r1 r2)
        | (go_at_call 17; refine (HP.out _ hS.2.1 hS.2.2 hQ.2.1 hQ.2.2).mono ?_; rintro e wz ⟨ahW, chW, bhW, dhW, rfl, r1, r2, hb⟩; (try replace hS := hS.next hb); (try replace hQ := hQ.next hb); (try replace hA := hA.next hb); (try replace hW := hW.next hb); (try replace hD := hD.next hb); (try replace hE := hE.next hb); (try replace hG := hG.next hb); (try replace hK := hK.next hb); (try have cD0 := hD.cells.1); (try have cE0 := hE.cells.1); (try have cG0 := hG.cells.1); have hW : SA w ahW bhW VL VT wz := ⟨hS.1, r1, r2⟩; clear r1 r2)
        | (rw [← hwv]; clear hwv)
        | (rw [← hwy, ← hhEb, ← hhDb]; clear hwy hhEb hhDb)
        | (refine wpList_store_row rfl 27 _ _ rfl wz.heap.size #[.slice ahD L.length chD, .slice bhD T.length dhD] rfl rfl _ _ hZ1 (size_Alg _ _) rfl (one_sl2 _ _ _ _ _ _) ?_)
        | (refine wpList_store_row rfl 27 _ _ rfl (wz.heap.size + 1) #[.slice ahE M.length chE, .slice bhE U.length dhE] rfl rfl _ _ hZ2 (size_Alg _ _) rfl (one_sl2 _ _ _ _ _ _) ?_)
        | (refine wpList_store_row rfl 27 _ _ rfl wz.heap.size #[.slice ahW VL.length chW, .slice bhW VT.length dhW] rfl rfl _ _ (heap_alloc_new wz (.cells #[.slice none 0 0, .slice none 0 0] 27)) (size_Alg _ _) rfl (one_sl2 _ _ _ _ _ _) ?_; rw [World.setRow_alloc_new]; obtain ⟨hKb, hhKb⟩ : ∃ b, b = wz.heap.size := ⟨_, rfl⟩; obtain ⟨wy, hwy⟩ : ∃ wy, wy = wz.alloc (.cells #[.slice ahW VL.length chW, .slice bhW VT.length dhW] 27) := ⟨_, rfl⟩; rw [← hwy, ← hhKb]; have hb : Below wz.heap.size wz wy := (by rw [hwy]; exact (Below.refl _ _).alloc (Nat.le_refl _) _); have hK0 : wy.heap[hKb]? = some (.cells #[.slice ahW VL.length chW, .slice bhW VT.length dhW] 27 (0, 0)) := (by rw [hwy, hhKb]; exact heap_alloc_new wz _); have hK1 := hS.1.size; (try replace hS := hS.next hb); (try replace hQ := hQ.next hb); (try replace hA := hA.next hb); (try replace hW := hW.next hb); (try replace hD := hD.next hb); (try replace hE := hE.next hb); (try replace hG := hG.next hb); (try replace hK := hK.next hb); (try have cD0 := hD.cells.1); (try have cE0 := hE.cells.1); (try have cG0 := hG.cells.1); have hK : Bx w hKb (.slice ahW VL.length chW) (.slice bhW VT.length dhW) wy := ⟨(by rw [hhKb]; exact hK1), hK0⟩; clear hwy hhKb hK0 hK1)
        | (refine wpList_store_row rfl 27 _ _ rfl wz.heap.size #[.slice ahA VL.length chA, .slice bhA VT.length dhA] rfl rfl _ _ (heap_alloc_new wz (.cells #[.slice none 0 0, .slice none 0 0] 27)) (size_Alg _ _) rfl (one_sl2 _ _ _ _ _ _) ?_; rw [World.setRow_alloc_new]; obtain ⟨hGb, hhGb⟩ : ∃ b, b = wz.heap.size := ⟨_, rfl⟩; obtain ⟨wy, hwy⟩ : ∃ wy, wy = wz.alloc (.cells #[.slice ahA VL.length chA, .slice bhA VT.length dhA] 27) := ⟨_, rfl⟩; rw [← hwy, ← hhGb]; have hb : Below wz.heap.size wz wy := (by rw [hwy]; exact (Below.refl _ _).alloc (Nat.le_refl _) _); have hG0 : wy.heap[hGb]? = some (.cells #[.slice ahA VL.length chA, .slice bhA VT.length dhA] 27 (0, 0)) := (by rw [hwy, hhGb]; exact heap_alloc_new wz _); have hG1 := hS.1.size; (try replace hS := hS.next hb); (try replace hQ := hQ.next hb); (try replace hA := hA.next hb); (try replace hW := hW.next hb); (try replace hD := hD.next hb); (try replace hE := hE.next hb); (try replace hG := hG.next hb); (try replace hK := hK.next hb); (try have cD0 := hD.cells.1); (try have cE0 := hE.cells.1); (try have cG0 := hG.cells.1); have hG : Bx w hGb (.slice ahA VL.length chA) (.slice bhA VT.length dhA) wy := ⟨(by rw [hhGb]; exact hG1), hG0⟩; clear hwy hhGb hG0 hG1)
        | (refine wpList_load_row_w rfl 27 _ rfl hDb rfl _ _ _ _ hD.2 Try.underlying27 rfl (size_Alg _ _) ?_)
        | (refine wpList_load_row_w rfl 27 _ rfl hEb rfl _ _ _ _ hE.2 Try.underlying27 rfl (size_Alg _ _) ?_)
        | (refine wpList_load_row_w rfl 27 _ rfl hGb rfl _ _ _ _ hG.2 Try.underlying27 rfl (size_Alg _ _) ?_)
        | (refine wpList_load_row_w rfl 27 _ rfl hKb rfl _ _ _ _ hK.2 Try.underlying27 rfl (size_Alg _ _) ?_)
        | (go_at_call 48; refine (equalAlgebra_same _ _ _ _ _ _ _ _ VL VT _ hA.2.1 hW.2.1 hA.2.2 hW.2.2 hVL HR.out hVT).mono ?_; rintro e wz ⟨rfl, hb⟩; (try replace hS := hS.next hb); (try replace hQ := hQ.next hb); (try replace hA := hA.next hb); (try replace hW := hW.next hb); (try replace hD := hD.next hb); (try replace hE := hE.next hb); (try replace hG := hG.next hb); (try replace hK := hK.next hb); (try have cD0 := hD.cells.1); (try have cE0 := hE.cells.1); (try have cG0 := hG.cells.1)))
      go_ret
      exact ⟨rfl, hS.1⟩
    | true =>
      have hq := sg_cr hP hP2 hok
      have hk := hok
      unfold caOk at hk
      rw [Bool.and_eq_true, Bool.and_eq_true] at hk
      obtain ⟨ha1, ha2, _⟩ := hk
      rw [← hVLe, ← hVTe] at hq
      obtain ⟨ha0, hfl, hhas⟩ := sgCr_all hq
      rw [hok] at hVe
      subst hVe
      have PO := Lib.hid (show ∀ i : Int, 0 ≤ i → i < 5 → ∀ (a b : Option Addr) (ca cb : Nat) (w : World), Rd w a VL → RdT w b VT → Calls Try.prog 51 #[.string (nmS i), .agg #[.slice a VL.length ca, .slice b VT.length cb]] w fun e w' => e = .returned (.bool (hasB i.toNat VL VT)) ∧ Below w.heap.size w w' from fun i i0 i5 a b ca cb w h1 h2 => ret_to (implHasProperty_any _ _ _ _ _ VL VT w h1 h2) (congrArg Value.bool (hp_nm i0 i5 ha0)))
      have PA := Lib.hid (show ∀ i : Int, 0 ≤ i → i < 5 → ∀ (a b : Option Addr) (ca cb : Nat) (w : World), Rd w a L → RdT w b T → Calls Try.prog 51 #[.string (nmS i), .agg #[.slice a L.length ca, .slice b T.length cb]] w fun e w' => e = .returned (.bool (hasB i.toNat L T)) ∧ Below w.heap.size w w' from fun i i0 i5 a b ca cb w h1 h2 => ret_to (implHasProperty_any _ _ _ _ _ L T w h1 h2) (congrArg Value.bool (hp_nm i0 i5 ha1)))
      have PB := Lib.hid (show ∀ i : Int, 0 ≤ i → i < 5 → ∀ (a b : Option Addr) (ca cb : Nat) (w : World), Rd w a M → RdT w b U → Calls Try.prog 51 #[.string (nmS i), .agg #[.slice a M.length ca, .slice b U.length cb]] w fun e w' => e = .returned (.bool (hasB i.toNat M U)) ∧ Below w.heap.size w w' from fun i i0 i5 a b ca cb w h1 h2 => ret_to (implHasProperty_any _ _ _ _ _ M U w h1 h2) (congrArg Value.bool (hp_nm i0 i5 ha2)))
      have C1 := Lib.hid (show ∀ (a b : Option Addr) (ca cb : Nat) (w : World), Rd w a VL → RdT w b VT → Calls Try.prog 50 #[.agg #[.slice a VL.length ca, .slice b VT.length cb]] w fun e w' => e = .returned (.bool true) ∧ Below w.heap.size w w' from fun a b ca cb w h1 h2 => ret_to (implValidAlgebra_any _ _ _ _ VL VT w h1 h2) (congrArg Value.bool ha0))
      obtain ⟨F0, hF0⟩ : ∃ F, F = fls VL VT := ⟨_, rfl⟩
      obtain ⟨F1, hF1⟩ : ∃ F, F = fls L T := ⟨_, rfl⟩
      obtain ⟨F2, hF2⟩ : ∃ F, F = fls M U := ⟨_, rfl⟩
      have F0c := Lib.hid (show ∀ (a b : Option Addr) (ca cb : Nat) (w : World), Rd w a VL → RdT w b VT → Calls Try.prog 70 #[.agg #[.slice a VL.length ca, .slice b VT.length cb]] w (RetSl w.heap.size F0 w) from fun a b ca cb w h1 h2 => by have := implFiltersOf_any a b ca cb VL VT w h1 h2; unfold algV at this; rw [ha0, if_pos rfl, ← hF0] at this; exact this)
      have F1c := Lib.hid (show ∀ (a b : Option Addr) (ca cb : Nat) (w : World), Rd w a L → RdT w b T → Calls Try.prog 70 #[.agg #[.slice a L.length ca, .slice b T.length cb]] w (RetSl w.heap.size F1 w) from fun a b ca cb w h1 h2 => by have := implFiltersOf_any a b ca cb L T w h1 h2; unfold algV at this; rw [ha1, if_pos rfl, ← hF1] at this; exact this)
      have F2c := Lib.hid (show ∀ (a b : Option Addr) (ca cb : Nat) (w : World), Rd w a M → RdT w b U → Calls Try.prog 70 #[.agg #[.slice a M.length ca, .slice b U.length cb]] w (RetSl w.heap.size F2 w) from fun a b ca cb w h1 h2 => by have := implFiltersOf_any a b ca cb M U w h1 h2; unfold algV at this; rw [ha2, if_pos rfl, ← hF2] at this; exact this)
      have hf64 := fls_len VL VT (lat_len (alg_lat ha0)).2
      rw [← hF0] at hf64
      rw [← hF0, ← hF1, ← hF2] at hfl
      have KM := Lib.hid (show IntKind.i64.wrap ((F1.length : Int) * (F2.length : Int)) = (F0.length : Int) from by
        have : ((F1.length : Int) * (F2.length : Int)) = (F0.length : Int) := by rw [hfl]; simp
        rw [this]
        exact IntWalk.i64_in _ (by omega))
      have HH := Lib.hid hhas
      clear hVLe hVTe hok hP hP2 hq ha0 ha1 ha2 hF0 hF1 hF2 hfl hhas hf64
      go_wp2_with (first
        | go_skip
        | (go_at_call 19; refine (HI.out _ hS.2.1 hS.2.2 hQ.2.1 hQ.2.2).mono ?_; rintro e wz ⟨ahA, chA, bhA, dhA, rfl, r1, r2, hb⟩; (try replace hS := hS.next hb); (try replace hQ := hQ.next hb); (try replace hA := hA.next hb); (try replace hW := hW.next hb); (try replace hD := hD.next hb); (try replace hE := hE.next hb); (try replace hG := hG.next hb); (try replace hK := hK.next hb); (try have cD0 := hD.cells.1); (try have cE0 := hE.cells.1); (try have cG0 := hG.cells.1); have hA : SA w ahA bhA VL VT wz := ⟨hS.1, r1, r2⟩; clear r1 r2)
        | (go_at_call 17; refine (HP.out _ hS.2.1 hS.2.2 hQ.2.1 hQ.2.2).mono ?_; rintro e wz ⟨ahW, chW, bhW, dhW, rfl, r1, r2, hb⟩; (try replace hS := hS.next hb); (try replace hQ := hQ.next hb); (try replace hA := hA.next hb); (try replace hW := hW.next hb); (try replace hD := hD.next hb); (try replace hE := hE.next hb); (try replace hG := hG.next hb); (try replace hK := hK.next hb); (try have cD0 := hD.cells.1); (try have cE0 := hE.cells.1); (try have cG0 := hG.cells.1); have hW : SA w ahW bhW VL VT wz := ⟨hS.1, r1, r2⟩; clear r1 r2)
        | (rw [← hwv]; clear hwv)
        | (rw [← hwy, ← hhEb, ← hhDb]; clear hwy hhEb hhDb)
        | (refine wpList_store_row rfl 27 _ _ rfl wz.heap.size #[.slice ahD L.length chD, .slice bhD T.length dhD] rfl rfl _ _ hZ1 (size_Alg _ _) rfl (one_sl2 _ _ _ _ _ _) ?_)
        | (refine wpList_store_row rfl 27 _ _ rfl (wz.heap.size + 1) #[.slice ahE M.length chE, .slice bhE U.length dhE] rfl rfl _ _ hZ2 (size_Alg _ _) rfl (one_sl2 _ _ _ _ _ _) ?_)
        | (refine wpList_store_row rfl 27 _ _ rfl wz.heap.size #[.slice ahW VL.length chW, .slice bhW VT.length dhW] rfl rfl _ _ (heap_alloc_new wz (.cells #[.slice none 0 0, .slice none 0 0] 27)) (size_Alg _ _) rfl (one_sl2 _ _ _ _ _ _) ?_; rw [World.setRow_alloc_new]; obtain ⟨hKb, hhKb⟩ : ∃ b, b = wz.heap.size := ⟨_, rfl⟩; obtain ⟨wy, hwy⟩ : ∃ wy, wy = wz.alloc (.cells #[.slice ahW VL.length chW, .slice bhW VT.length dhW] 27) := ⟨_, rfl⟩; rw [← hwy, ← hhKb]; have hb : Below wz.heap.size wz wy := (by rw [hwy]; exact (Below.refl _ _).alloc (Nat.le_refl _) _); have hK0 : wy.heap[hKb]? = some (.cells #[.slice ahW VL.length chW, .slice bhW VT.length dhW] 27 (0, 0)) := (by rw [hwy, hhKb]; exact heap_alloc_new wz _); have hK1 := hS.1.size; (try replace hS := hS.next hb); (try replace hQ := hQ.next hb); (try replace hA := hA.next hb); (try replace hW := hW.next hb); (try replace hD := hD.next hb); (try replace hE := hE.next hb); (try replace hG := hG.next hb); (try replace hK := hK.next hb); (try have cD0 := hD.cells.1); (try have cE0 := hE.cells.1); (try have cG0 := hG.cells.1); have hK : Bx w hKb (.slice ahW VL.length chW) (.slice bhW VT.length dhW) wy := ⟨(by rw [hhKb]; exact hK1), hK0⟩; clear hwy hhKb hK0 hK1)
        | (refine wpList_store_row rfl 27 _ _ rfl wz.heap.size #[.slice ahA VL.length chA, .slice bhA VT.length dhA] rfl rfl _ _ (heap_alloc_new wz (.cells #[.slice none 0 0, .slice none 0 0] 27)) (size_Alg _ _) rfl (one_sl2 _ _ _ _ _ _) ?_; rw [World.setRow_alloc_new]; obtain ⟨hGb, hhGb⟩ : ∃ b, b = wz.heap.size := ⟨_, rfl⟩; obtain ⟨wy, hwy⟩ : ∃ wy, wy = wz.alloc (.cells #[.slice ahA VL.length chA, .slice bhA VT.length dhA] 27) := ⟨_, rfl⟩; rw [← hwy, ← hhGb]; have hb : Below wz.heap.size wz wy := (by rw [hwy]; exact (Below.refl _ _).alloc (Nat.le_refl _) _); have hG0 : wy.heap[hGb]? = some (.cells #[.slice ahA VL.length chA, .slice bhA VT.length dhA] 27 (0, 0)) := (by rw [hwy, hhGb]; exact heap_alloc_new wz _); have hG1 := hS.1.size; (try replace hS := hS.next hb); (try replace hQ := hQ.next hb); (try replace hA := hA.next hb); (try replace hW := hW.next hb); (try replace hD := hD.next hb); (try replace hE := hE.next hb); (try replace hG := hG.next hb); (try replace hK := hK.next hb); (try have cD0 := hD.cells.1); (try have cE0 := hE.cells.1); (try have cG0 := hG.cells.1); have hG : Bx w hGb (.slice ahA VL.length chA) (.slice bhA VT.length dhA) wy := ⟨(by rw [hhGb]; exact hG1), hG0⟩; clear hwy hhGb hG0 hG1)
        | (refine wpList_load_row_w rfl 27 _ rfl hDb rfl _ _ _ _ hD.2 Try.underlying27 rfl (size_Alg _ _) ?_)
        | (refine wpList_load_row_w rfl 27 _ rfl hEb rfl _ _ _ _ hE.2 Try.underlying27 rfl (size_Alg _ _) ?_)
        | (refine wpList_load_row_w rfl 27 _ rfl hGb rfl _ _ _ _ hG.2 Try.underlying27 rfl (size_Alg _ _) ?_)
        | (refine wpList_load_row_w rfl 27 _ rfl hKb rfl _ _ _ _ hK.2 Try.underlying27 rfl (size_Alg _ _) ?_)
        | (go_at_call 48; refine (equalAlgebra_same _ _ _ _ _ _ _ _ VL VT _ hA.2.1 hW.2.1 hA.2.2 hW.2.2 hVL HR.out hVT).mono ?_; rintro e wz ⟨rfl, hb⟩; (try replace hS := hS.next hb); (try replace hQ := hQ.next hb); (try replace hA := hA.next hb); (try replace hW := hW.next hb); (try replace hD := hD.next hb); (try replace hE := hE.next hb); (try replace hG := hG.next hb); (try replace hK := hK.next hb); (try have cD0 := hD.cells.1); (try have cE0 := hE.cells.1); (try have cG0 := hG.cells.1)))
      obtain ⟨w3, rfl⟩ : ∃ w3 : World, w3 = wz := ⟨_, rfl⟩
      clear cG0 cD0 cE0
      obtain ⟨w4, hw4⟩ : ∃ x, x = w3.alloc (.cells #[.string ⟨#[112, 114, 101, 108, 105, 110, 101, 97, 114]⟩, .string ⟨#[100, 105, 118, 105, 115, 105, 98, 108, 101]⟩, .string ⟨#[105, 110, 118, 111, 108, 117, 116, 105, 118, 101]⟩, .string ⟨#[105, 100, 101, 109, 112, 111, 116, 101, 110, 116]⟩, .string ⟨#[98, 111, 111, 108, 101, 97, 110]⟩] 9) := ⟨_, rfl⟩
      obtain ⟨bn, hbn⟩ : ∃ x, x = w3.heap.size := ⟨_, rfl⟩
      have hb34 : Below w3.heap.size w3 w4 := by rw [hw4]; exact (Below.refl _ _).alloc (Nat.le_refl _) _
      have hnw : w4.heap[bn]? = some (.cells #[.string ⟨#[112, 114, 101, 108, 105, 110, 101, 97, 114]⟩, .string ⟨#[100, 105, 118, 105, 115, 105, 98, 108, 101]⟩, .string ⟨#[105, 110, 118, 111, 108, 117, 116, 105, 118, 101]⟩, .string ⟨#[105, 100, 101, 109, 112, 111, 116, 101, 110, 116]⟩, .string ⟨#[98, 111, 111, 108, 101, 97, 110]⟩] 9 (0, 0)) := by rw [hw4, hbn]; exact heap_alloc_new w3 _
      rw [← hw4, ← hbn]
      clear hw4 hbn
      have HS3 := Lib.hid (show SA w ahD bhD L T w4 ∧ SA w ahE bhE M U w4 ∧ SA w ahA bhA VL VT w4 from ⟨hS.next hb34, hQ.next hb34, hA.next hb34⟩)
      have HB3 := Lib.hid (show Bx w hDb (.slice ahD L.length chD) (.slice bhD T.length dhD) w4 ∧ Bx w hEb (.slice ahE M.length chE) (.slice bhE U.length dhE) w4 ∧ Bx w hGb (.slice ahA VL.length chA) (.slice bhA VT.length dhA) w4 from ⟨hD.next hb34, hE.next hb34, hG.next hb34⟩)
      have RA_ := Lib.hid (show ∀ wz, Below w4.heap.size w4 wz → Rd wz ahD L ∧ RdT wz bhD T from fun wz hz => (HS3.out.1.next hz).2)
      have RB := Lib.hid (show ∀ wz, Below w4.heap.size w4 wz → Rd wz ahE M ∧ RdT wz bhE U from fun wz hz => (HS3.out.2.1.next hz).2)
      have RO := Lib.hid (show ∀ wz, Below w4.heap.size w4 wz → Rd wz ahA VL ∧ RdT wz bhA VT from fun wz hz => (HS3.out.2.2.next hz).2)
      have KD := Lib.hid (show ∀ wz, Below w4.heap.size w4 wz → wz.heap[hDb]? = some (.cells #[.slice ahD L.length chD, .slice bhD T.length dhD] 27 (0, 0)) from fun wz hz => (HB3.out.1.next hz).2)
      have KE := Lib.hid (show ∀ wz, Below w4.heap.size w4 wz → wz.heap[hEb]? = some (.cells #[.slice ahE M.length chE, .slice bhE U.length dhE] 27 (0, 0)) from fun wz hz => (HB3.out.2.1.next hz).2)
      have KG := Lib.hid (show ∀ wz, Below w4.heap.size w4 wz → wz.heap[hGb]? = some (.cells #[.slice ahA VL.length chA, .slice bhA VT.length dhA] 27 (0, 0)) from fun wz hz => (HB3.out.2.2.next hz).2)
      have KNm := Lib.hid (show ∀ wz, Below w4.heap.size w4 wz → ∀ i : Int, 0 ≤ i → i < 5 → wz.cell? ⟨bn, i.toNat, none⟩ = some (.string (nmS i)) from fun wz hz i i0 i5 => nm_cells ((hz.block _ (lt_of_block hnw)).trans hnw) i0 i5)
      have FIN := Lib.hid (show ∀ wz, Below w4.heap.size w4 wz → Below w.heap.size w wz from fun wz hz => (HS3.out.1.next hz).1)
      have z4 : Below w4.heap.size w4 w4 := Below.refl _ _
      clear hb34 hnw hS hQ hA hD hE hG HS3 HB3
      try clear hW hK
      try clear HI HP
      go_loopw [10] (fun iv wr => ∃ i : Int, 0 ≤ i ∧ i ≤ 5 ∧ iv = .int .i64 i ∧ Below w4.heap.size w4 wr) (fun iv _ => (10 - intOf iv).toNat)
      case atStart => exact ⟨0, by omega, by omega, rfl, z4⟩
      case round =>
        clear z4
        obtain ⟨i, hi0, hi5, rfl, z⟩ := hrel
        have ki : IntKind.i64.wrap (i + 1) = i + 1 := IntWalk.i64_in _ (by omega)
        by_cases hk : i < 5
        · have KN := Lib.hid (show ∀ wz, Below w4.heap.size w4 wz → wz.cell? ⟨bn, i.toNat, none⟩ = some (.string (nmS i)) from fun wz hz => KNm.out wz hz i hi0 hk)
          obtain ⟨po, hpo⟩ : ∃ q, q = hasB i.toNat VL VT := ⟨_, rfl⟩
          obtain ⟨pa, hpa⟩ : ∃ q, q = hasB i.toNat L T := ⟨_, rfl⟩
          obtain ⟨pb, hpb⟩ : ∃ q, q = hasB i.toNat M U := ⟨_, rfl⟩
          have hh := HH.out i hi0 hk
          rw [← hpo, ← hpa, ← hpb] at hh
          cases pa
          · rw [Bool.false_and] at hh
            subst hh
            have HPO := Lib.hid hpo.symm
            have HPA := Lib.hid hpa.symm
            clear hpo hpa hpb KNm
            go_wp2_with fail
            refine wp_region_any (by kernel_rfl) ?_
            refine any_of_C (C := Below w4.heap.size w4) _ _ _ _ ?_
            replace z := z.drew
            refine anyC_take (i := 0) (oi := ⟨_, _, _, _, _, _⟩) (v := .slice (some ⟨bn, 0, none⟩) 5 5) rfl (by kernel_rfl) (by kernel_rfl) (by kernel_rfl) (fun _ _ _ h => h) (.inl ⟨by kernel_rfl, fun wz hz => by apply runs_moveY <;> rfl⟩) ?_
            (try simp only [Act.put, List.setIfInBounds_toArray, List.set_cons_zero, List.set_cons_succ])
            refine anyC_take (i := 1) (oi := ⟨_, _, _, _, _, _⟩) (v := .int .i64 i) rfl (by kernel_rfl) (by kernel_rfl) (by kernel_rfl) (fun _ _ _ h => h) (.inl ⟨by kernel_rfl, fun wz hz => by apply runs_moveY <;> rfl⟩) ?_
            (try simp only [Act.put, List.setIfInBounds_toArray, List.set_cons_zero, List.set_cons_succ])
            refine anyC_take (i := 2) (oi := ⟨_, _, _, _, _, _⟩) (v := .pointer (some ⟨bn, i.toNat, none⟩)) rfl (by kernel_rfl) (by kernel_rfl) (by kernel_rfl) (fun _ _ _ h => h) (.inl ⟨by kernel_rfl, fun wz hz => by go_simp⟩) ?_
            (try simp only [Act.put, List.setIfInBounds_toArray, List.set_cons_zero, List.set_cons_succ])
            refine anyC_take (i := 3) (oi := ⟨_, _, _, _, _, _⟩) (v := .string (nmS i)) rfl (by kernel_rfl) (by kernel_rfl) (by kernel_rfl) (fun _ _ _ h => h) (.inl ⟨by kernel_rfl, fun wz hz => by have c0 := KN.out _ hz; go_simp⟩) ?_
            (try simp only [Act.put, List.setIfInBounds_toArray, List.set_cons_zero, List.set_cons_succ])
            refine anyC_take (i := 4) (oi := ⟨_, _, _, _, _, _⟩) (v := .agg #[.slice ahA VL.length chA, .slice bhA VT.length dhA]) rfl (by kernel_rfl) (by kernel_rfl) (by kernel_rfl) (fun _ _ _ h => h) (.inl ⟨by kernel_rfl, fun wz hz => runs_load (C := Below w4.heap.size w4) 27 _ rfl hGb rfl _ _ _ _ (fun w hw => KG.out _ hw) Try.underlying27 rfl (size_Alg _ _) wz hz⟩) ?_
            (try simp only [Act.put, List.setIfInBounds_toArray, List.set_cons_zero, List.set_cons_succ])
            refine anyC_take (i := 6) (oi := ⟨_, _, _, _, _, _⟩) (v := .slice (some ⟨bn, 0, none⟩) 5 5) rfl (by kernel_rfl) (by kernel_rfl) (by kernel_rfl) (fun _ _ _ h => h) (.inl ⟨by kernel_rfl, fun wz hz => by apply runs_moveY <;> rfl⟩) ?_
            (try simp only [Act.put, List.setIfInBounds_toArray, List.set_cons_zero, List.set_cons_succ])
            refine anyC_take (i := 7) (oi := ⟨_, _, _, _, _, _⟩) (v := .int .i64 i) rfl (by kernel_rfl) (by kernel_rfl) (by kernel_rfl) (fun _ _ _ h => h) (.inl ⟨by kernel_rfl, fun wz hz => by apply runs_moveY <;> rfl⟩) ?_
            (try simp only [Act.put, List.setIfInBounds_toArray, List.set_cons_zero, List.set_cons_succ])
            refine anyC_take (i := 8) (oi := ⟨_, _, _, _, _, _⟩) (v := .pointer (some ⟨bn, i.toNat, none⟩)) rfl (by kernel_rfl) (by kernel_rfl) (by kernel_rfl) (fun _ _ _ h => h) (.inl ⟨by kernel_rfl, fun wz hz => by go_simp⟩) ?_
            (try simp only [Act.put, List.setIfInBounds_toArray, List.set_cons_zero, List.set_cons_succ])
            refine anyC_take (i := 9) (oi := ⟨_, _, _, _, _, _⟩) (v := .string (nmS i)) rfl (by kernel_rfl) (by kernel_rfl) (by kernel_rfl) (fun _ _ _ h => h) (.inl ⟨by kernel_rfl, fun wz hz => by have c0 := KN.out _ hz; go_simp⟩) ?_
            (try simp only [Act.put, List.setIfInBounds_toArray, List.set_cons_zero, List.set_cons_succ])
            refine anyC_take (i := 10) (oi := ⟨_, _, _, _, _, _⟩) (v := .agg #[.slice ahD L.length chD, .slice bhD T.length dhD]) rfl (by kernel_rfl) (by kernel_rfl) (by kernel_rfl) (fun _ _ _ h => h) (.inl ⟨by kernel_rfl, fun wz hz => runs_load (C := Below w4.heap.size w4) 27 _ rfl hDb rfl _ _ _ _ (fun w hw => KD.out _ hw) Try.underlying27 rfl (size_Alg _ _) wz hz⟩) ?_
            (try simp only [Act.put, List.setIfInBounds_toArray, List.set_cons_zero, List.set_cons_succ])
            refine anyC_call (i := 5) (o := ⟨_, _, _, _, _, _⟩) (f := 51) (args := #[.string (nmS i), .agg #[.slice ahA VL.length chA, .slice bhA VT.length dhA]]) rfl (by kernel_rfl) (by kernel_rfl) (by apply runs_call2 (he := enters_of Try.func51 (by kernel_rfl) rfl) <;> rfl) z ?_
            refine (ret_to (PO.out i hi0 hk _ _ _ _ _ (RO.out _ z).1 (RO.out _ z).2) (congrArg Value.bool HPO.out)).mono ?_
            rintro e wz ⟨rfl, hb⟩
            replace z := z.trans (hb.mono z.size)
            refine ⟨_, rfl, ?_⟩
            (try simp only [Act.put, List.setIfInBounds_toArray, List.set_cons_zero, List.set_cons_succ])
            refine anyC_call (i := 11) (o := ⟨_, _, _, _, _, _⟩) (f := 51) (args := #[.string (nmS i), .agg #[.slice ahD L.length chD, .slice bhD T.length dhD]]) rfl (by kernel_rfl) (by kernel_rfl) (by apply runs_call2 (he := enters_of Try.func51 (by kernel_rfl) rfl) <;> rfl) z ?_
            refine (ret_to (PA.out i hi0 hk _ _ _ _ _ (RA_.out _ z).1 (RA_.out _ z).2) (congrArg Value.bool HPA.out)).mono ?_
            rintro e wz ⟨rfl, hb⟩
            replace z := z.trans (hb.mono z.size)
            refine ⟨_, rfl, ?_⟩
            (try simp only [Act.put, List.setIfInBounds_toArray, List.set_cons_zero, List.set_cons_succ])
            refine anyC_take (i := 12) (oi := ⟨_, _, _, _, _, _⟩) (v := .bool false) rfl (by kernel_rfl) (by kernel_rfl) (by kernel_rfl) (fun _ _ _ h => h) (.inl ⟨by kernel_rfl, fun wz hz => by apply runs_moveY <;> rfl⟩) ?_
            (try simp only [Act.put, List.setIfInBounds_toArray, List.set_cons_zero, List.set_cons_succ])
            refine anyC_take (i := 13) (oi := ⟨_, _, _, _, _, _⟩) (v := undef) rfl (by kernel_rfl) (by kernel_rfl) (by kernel_rfl) (fun _ _ _ h => h) (.inr ⟨by kernel_rfl, rfl⟩) ?_
            (try simp only [Act.put, List.setIfInBounds_toArray, List.set_cons_zero, List.set_cons_succ])
            refine anyC_take (i := 14) (oi := ⟨_, _, _, _, _, _⟩) (v := undef) rfl (by kernel_rfl) (by kernel_rfl) (by kernel_rfl) (fun _ _ _ h => h) (.inr ⟨by kernel_rfl, rfl⟩) ?_
            (try simp only [Act.put, List.setIfInBounds_toArray, List.set_cons_zero, List.set_cons_succ])
            refine anyC_take (i := 15) (oi := ⟨_, _, _, _, _, _⟩) (v := undef) rfl (by kernel_rfl) (by kernel_rfl) (by kernel_rfl) (fun _ _ _ h => h) (.inr ⟨by kernel_rfl, rfl⟩) ?_
            (try simp only [Act.put, List.setIfInBounds_toArray, List.set_cons_zero, List.set_cons_succ])
            refine anyC_take (i := 16) (oi := ⟨_, _, _, _, _, _⟩) (v := undef) rfl (by kernel_rfl) (by kernel_rfl) (by kernel_rfl) (fun _ _ _ h => h) (.inr ⟨by kernel_rfl, rfl⟩) ?_
            (try simp only [Act.put, List.setIfInBounds_toArray, List.set_cons_zero, List.set_cons_succ])
            refine anyC_take (i := 17) (oi := ⟨_, _, _, _, _, _⟩) (v := undef) rfl (by kernel_rfl) (by kernel_rfl) (by kernel_rfl) (fun _ _ _ h => h) (.inr ⟨by kernel_rfl, rfl⟩) ?_
            (try simp only [Act.put, List.setIfInBounds_toArray, List.set_cons_zero, List.set_cons_succ])
            refine anyC_take (i := 18) (oi := ⟨_, _, _, _, _, _⟩) (v := undef) rfl (by kernel_rfl) (by kernel_rfl) (by kernel_rfl) (fun _ _ _ h => h) (.inr ⟨by kernel_rfl, rfl⟩) ?_
            (try simp only [Act.put, List.setIfInBounds_toArray, List.set_cons_zero, List.set_cons_succ])
            refine anyC_take (i := 19) (oi := ⟨_, _, _, _, _, _⟩) (v := .bool false) rfl (by kernel_rfl) (by kernel_rfl) (by kernel_rfl) (fun _ _ _ h => h) (.inl ⟨by kernel_rfl, fun wz hz => by go_simp⟩) ?_
            (try simp only [Act.put, List.setIfInBounds_toArray, List.set_cons_zero, List.set_cons_succ])
            refine anyC_take (i := 20) (oi := ⟨_, _, _, _, _, _⟩) (v := .bool false) rfl (by kernel_rfl) (by kernel_rfl) (by kernel_rfl) (fun _ _ _ h => h) (.inl ⟨by kernel_rfl, fun wz hz => by go_simp⟩) ?_
            (try simp only [Act.put, List.setIfInBounds_toArray, List.set_cons_zero, List.set_cons_succ])
            refine anyC_done (by kernel_rfl) z ?_ _
            go_wp2
            go_roundw
            case rel => exact ⟨i + 1, by omega, by omega, rfl, z⟩
            case measure => simp [intOf]; omega
          · rw [Bool.true_and] at hh
            subst hh
            have HPO := Lib.hid hpo.symm
            have HPA := Lib.hid hpa.symm
            have HPB := Lib.hid hpb.symm
            clear hpo hpa hpb KNm
            cases po
            · go_wp2_with fail
              refine wp_region_any (by kernel_rfl) ?_
              refine any_of_C (C := Below w4.heap.size w4) _ _ _ _ ?_
              replace z := z.drew
              refine anyC_take (i := 0) (oi := ⟨_, _, _, _, _, _⟩) (v := .slice (some ⟨bn, 0, none⟩) 5 5) rfl (by kernel_rfl) (by kernel_rfl) (by kernel_rfl) (fun _ _ _ h => h) (.inl ⟨by kernel_rfl, fun wz hz => by apply runs_moveY <;> rfl⟩) ?_
              (try simp only [Act.put, List.setIfInBounds_toArray, List.set_cons_zero, List.set_cons_succ])
              refine anyC_take (i := 1) (oi := ⟨_, _, _, _, _, _⟩) (v := .int .i64 i) rfl (by kernel_rfl) (by kernel_rfl) (by kernel_rfl) (fun _ _ _ h => h) (.inl ⟨by kernel_rfl, fun wz hz => by apply runs_moveY <;> rfl⟩) ?_
              (try simp only [Act.put, List.setIfInBounds_toArray, List.set_cons_zero, List.set_cons_succ])
              refine anyC_take (i := 2) (oi := ⟨_, _, _, _, _, _⟩) (v := .pointer (some ⟨bn, i.toNat, none⟩)) rfl (by kernel_rfl) (by kernel_rfl) (by kernel_rfl) (fun _ _ _ h => h) (.inl ⟨by kernel_rfl, fun wz hz => by go_simp⟩) ?_
              (try simp only [Act.put, List.setIfInBounds_toArray, List.set_cons_zero, List.set_cons_succ])
              refine anyC_take (i := 3) (oi := ⟨_, _, _, _, _, _⟩) (v := .string (nmS i)) rfl (by kernel_rfl) (by kernel_rfl) (by kernel_rfl) (fun _ _ _ h => h) (.inl ⟨by kernel_rfl, fun wz hz => by have c0 := KN.out _ hz; go_simp⟩) ?_
              (try simp only [Act.put, List.setIfInBounds_toArray, List.set_cons_zero, List.set_cons_succ])
              refine anyC_take (i := 4) (oi := ⟨_, _, _, _, _, _⟩) (v := .agg #[.slice ahA VL.length chA, .slice bhA VT.length dhA]) rfl (by kernel_rfl) (by kernel_rfl) (by kernel_rfl) (fun _ _ _ h => h) (.inl ⟨by kernel_rfl, fun wz hz => runs_load (C := Below w4.heap.size w4) 27 _ rfl hGb rfl _ _ _ _ (fun w hw => KG.out _ hw) Try.underlying27 rfl (size_Alg _ _) wz hz⟩) ?_
              (try simp only [Act.put, List.setIfInBounds_toArray, List.set_cons_zero, List.set_cons_succ])
              refine anyC_take (i := 6) (oi := ⟨_, _, _, _, _, _⟩) (v := .slice (some ⟨bn, 0, none⟩) 5 5) rfl (by kernel_rfl) (by kernel_rfl) (by kernel_rfl) (fun _ _ _ h => h) (.inl ⟨by kernel_rfl, fun wz hz => by apply runs_moveY <;> rfl⟩) ?_
              (try simp only [Act.put, List.setIfInBounds_toArray, List.set_cons_zero, List.set_cons_succ])
              refine anyC_take (i := 7) (oi := ⟨_, _, _, _, _, _⟩) (v := .int .i64 i) rfl (by kernel_rfl) (by kernel_rfl) (by kernel_rfl) (fun _ _ _ h => h) (.inl ⟨by kernel_rfl, fun wz hz => by apply runs_moveY <;> rfl⟩) ?_
              (try simp only [Act.put, List.setIfInBounds_toArray, List.set_cons_zero, List.set_cons_succ])
              refine anyC_take (i := 8) (oi := ⟨_, _, _, _, _, _⟩) (v := .pointer (some ⟨bn, i.toNat, none⟩)) rfl (by kernel_rfl) (by kernel_rfl) (by kernel_rfl) (fun _ _ _ h => h) (.inl ⟨by kernel_rfl, fun wz hz => by go_simp⟩) ?_
              (try simp only [Act.put, List.setIfInBounds_toArray, List.set_cons_zero, List.set_cons_succ])
              refine anyC_take (i := 9) (oi := ⟨_, _, _, _, _, _⟩) (v := .string (nmS i)) rfl (by kernel_rfl) (by kernel_rfl) (by kernel_rfl) (fun _ _ _ h => h) (.inl ⟨by kernel_rfl, fun wz hz => by have c0 := KN.out _ hz; go_simp⟩) ?_
              (try simp only [Act.put, List.setIfInBounds_toArray, List.set_cons_zero, List.set_cons_succ])
              refine anyC_take (i := 10) (oi := ⟨_, _, _, _, _, _⟩) (v := .agg #[.slice ahD L.length chD, .slice bhD T.length dhD]) rfl (by kernel_rfl) (by kernel_rfl) (by kernel_rfl) (fun _ _ _ h => h) (.inl ⟨by kernel_rfl, fun wz hz => runs_load (C := Below w4.heap.size w4) 27 _ rfl hDb rfl _ _ _ _ (fun w hw => KD.out _ hw) Try.underlying27 rfl (size_Alg _ _) wz hz⟩) ?_
              (try simp only [Act.put, List.setIfInBounds_toArray, List.set_cons_zero, List.set_cons_succ])
              refine anyC_call (i := 5) (o := ⟨_, _, _, _, _, _⟩) (f := 51) (args := #[.string (nmS i), .agg #[.slice ahA VL.length chA, .slice bhA VT.length dhA]]) rfl (by kernel_rfl) (by kernel_rfl) (by apply runs_call2 (he := enters_of Try.func51 (by kernel_rfl) rfl) <;> rfl) z ?_
              refine (ret_to (PO.out i hi0 hk _ _ _ _ _ (RO.out _ z).1 (RO.out _ z).2) (congrArg Value.bool HPO.out)).mono ?_
              rintro e wz ⟨rfl, hb⟩
              replace z := z.trans (hb.mono z.size)
              refine ⟨_, rfl, ?_⟩
              (try simp only [Act.put, List.setIfInBounds_toArray, List.set_cons_zero, List.set_cons_succ])
              refine anyC_call (i := 11) (o := ⟨_, _, _, _, _, _⟩) (f := 51) (args := #[.string (nmS i), .agg #[.slice ahD L.length chD, .slice bhD T.length dhD]]) rfl (by kernel_rfl) (by kernel_rfl) (by apply runs_call2 (he := enters_of Try.func51 (by kernel_rfl) rfl) <;> rfl) z ?_
              refine (ret_to (PA.out i hi0 hk _ _ _ _ _ (RA_.out _ z).1 (RA_.out _ z).2) (congrArg Value.bool HPA.out)).mono ?_
              rintro e wz ⟨rfl, hb⟩
              replace z := z.trans (hb.mono z.size)
              refine ⟨_, rfl, ?_⟩
              (try simp only [Act.put, List.setIfInBounds_toArray, List.set_cons_zero, List.set_cons_succ])
              refine anyC_take (i := 12) (oi := ⟨_, _, _, _, _, _⟩) (v := .bool true) rfl (by kernel_rfl) (by kernel_rfl) (by kernel_rfl) (fun _ _ _ h => h) (.inl ⟨by kernel_rfl, fun wz hz => by apply runs_moveY <;> rfl⟩) ?_
              (try simp only [Act.put, List.setIfInBounds_toArray, List.set_cons_zero, List.set_cons_succ])
              refine anyC_take (i := 13) (oi := ⟨_, _, _, _, _, _⟩) (v := .slice (some ⟨bn, 0, none⟩) 5 5) rfl (by kernel_rfl) (by kernel_rfl) (by kernel_rfl) (fun _ _ _ h => h) (.inl ⟨by kernel_rfl, fun wz hz => by apply runs_moveY <;> rfl⟩) ?_
              (try simp only [Act.put, List.setIfInBounds_toArray, List.set_cons_zero, List.set_cons_succ])
              refine anyC_take (i := 14) (oi := ⟨_, _, _, _, _, _⟩) (v := .int .i64 i) rfl (by kernel_rfl) (by kernel_rfl) (by kernel_rfl) (fun _ _ _ h => h) (.inl ⟨by kernel_rfl, fun wz hz => by apply runs_moveY <;> rfl⟩) ?_
              (try simp only [Act.put, List.setIfInBounds_toArray, List.set_cons_zero, List.set_cons_succ])
              refine anyC_take (i := 15) (oi := ⟨_, _, _, _, _, _⟩) (v := .pointer (some ⟨bn, i.toNat, none⟩)) rfl (by kernel_rfl) (by kernel_rfl) (by kernel_rfl) (fun _ _ _ h => h) (.inl ⟨by kernel_rfl, fun wz hz => by go_simp⟩) ?_
              (try simp only [Act.put, List.setIfInBounds_toArray, List.set_cons_zero, List.set_cons_succ])
              refine anyC_take (i := 16) (oi := ⟨_, _, _, _, _, _⟩) (v := .string (nmS i)) rfl (by kernel_rfl) (by kernel_rfl) (by kernel_rfl) (fun _ _ _ h => h) (.inl ⟨by kernel_rfl, fun wz hz => by have c0 := KN.out _ hz; go_simp⟩) ?_
              (try simp only [Act.put, List.setIfInBounds_toArray, List.set_cons_zero, List.set_cons_succ])
              refine anyC_take (i := 17) (oi := ⟨_, _, _, _, _, _⟩) (v := .agg #[.slice ahE M.length chE, .slice bhE U.length dhE]) rfl (by kernel_rfl) (by kernel_rfl) (by kernel_rfl) (fun _ _ _ h => h) (.inl ⟨by kernel_rfl, fun wz hz => runs_load (C := Below w4.heap.size w4) 27 _ rfl hEb rfl _ _ _ _ (fun w hw => KE.out _ hw) Try.underlying27 rfl (size_Alg _ _) wz hz⟩) ?_
              (try simp only [Act.put, List.setIfInBounds_toArray, List.set_cons_zero, List.set_cons_succ])
              refine anyC_call (i := 18) (o := ⟨_, _, _, _, _, _⟩) (f := 51) (args := #[.string (nmS i), .agg #[.slice ahE M.length chE, .slice bhE U.length dhE]]) rfl (by kernel_rfl) (by kernel_rfl) (by apply runs_call2 (he := enters_of Try.func51 (by kernel_rfl) rfl) <;> rfl) z ?_
              refine (ret_to (PB.out i hi0 hk _ _ _ _ _ (RB.out _ z).1 (RB.out _ z).2) (congrArg Value.bool HPB.out)).mono ?_
              rintro e wz ⟨rfl, hb⟩
              replace z := z.trans (hb.mono z.size)
              refine ⟨_, rfl, ?_⟩
              (try simp only [Act.put, List.setIfInBounds_toArray, List.set_cons_zero, List.set_cons_succ])
              refine anyC_take (i := 19) (oi := ⟨_, _, _, _, _, _⟩) (v := .bool false) rfl (by kernel_rfl) (by kernel_rfl) (by kernel_rfl) (fun _ _ _ h => h) (.inl ⟨by kernel_rfl, fun wz hz => by go_simp⟩) ?_
              (try simp only [Act.put, List.setIfInBounds_toArray, List.set_cons_zero, List.set_cons_succ])
              refine anyC_take (i := 20) (oi := ⟨_, _, _, _, _, _⟩) (v := .bool false) rfl (by kernel_rfl) (by kernel_rfl) (by kernel_rfl) (fun _ _ _ h => h) (.inl ⟨by kernel_rfl, fun wz hz => by go_simp⟩) ?_
              (try simp only [Act.put, List.setIfInBounds_toArray, List.set_cons_zero, List.set_cons_succ])
              refine anyC_done (by kernel_rfl) z ?_ _
              go_wp2
              go_roundw
              case rel => exact ⟨i + 1, by omega, by omega, rfl, z⟩
              case measure => simp [intOf]; omega
            · go_wp2_with fail
              refine wp_region_any (by kernel_rfl) ?_
              refine any_of_C (C := Below w4.heap.size w4) _ _ _ _ ?_
              replace z := z.drew
              refine anyC_take (i := 0) (oi := ⟨_, _, _, _, _, _⟩) (v := .slice (some ⟨bn, 0, none⟩) 5 5) rfl (by kernel_rfl) (by kernel_rfl) (by kernel_rfl) (fun _ _ _ h => h) (.inl ⟨by kernel_rfl, fun wz hz => by apply runs_moveY <;> rfl⟩) ?_
              (try simp only [Act.put, List.setIfInBounds_toArray, List.set_cons_zero, List.set_cons_succ])
              refine anyC_take (i := 1) (oi := ⟨_, _, _, _, _, _⟩) (v := .int .i64 i) rfl (by kernel_rfl) (by kernel_rfl) (by kernel_rfl) (fun _ _ _ h => h) (.inl ⟨by kernel_rfl, fun wz hz => by apply runs_moveY <;> rfl⟩) ?_
              (try simp only [Act.put, List.setIfInBounds_toArray, List.set_cons_zero, List.set_cons_succ])
              refine anyC_take (i := 2) (oi := ⟨_, _, _, _, _, _⟩) (v := .pointer (some ⟨bn, i.toNat, none⟩)) rfl (by kernel_rfl) (by kernel_rfl) (by kernel_rfl) (fun _ _ _ h => h) (.inl ⟨by kernel_rfl, fun wz hz => by go_simp⟩) ?_
              (try simp only [Act.put, List.setIfInBounds_toArray, List.set_cons_zero, List.set_cons_succ])
              refine anyC_take (i := 3) (oi := ⟨_, _, _, _, _, _⟩) (v := .string (nmS i)) rfl (by kernel_rfl) (by kernel_rfl) (by kernel_rfl) (fun _ _ _ h => h) (.inl ⟨by kernel_rfl, fun wz hz => by have c0 := KN.out _ hz; go_simp⟩) ?_
              (try simp only [Act.put, List.setIfInBounds_toArray, List.set_cons_zero, List.set_cons_succ])
              refine anyC_take (i := 4) (oi := ⟨_, _, _, _, _, _⟩) (v := .agg #[.slice ahA VL.length chA, .slice bhA VT.length dhA]) rfl (by kernel_rfl) (by kernel_rfl) (by kernel_rfl) (fun _ _ _ h => h) (.inl ⟨by kernel_rfl, fun wz hz => runs_load (C := Below w4.heap.size w4) 27 _ rfl hGb rfl _ _ _ _ (fun w hw => KG.out _ hw) Try.underlying27 rfl (size_Alg _ _) wz hz⟩) ?_
              (try simp only [Act.put, List.setIfInBounds_toArray, List.set_cons_zero, List.set_cons_succ])
              refine anyC_take (i := 6) (oi := ⟨_, _, _, _, _, _⟩) (v := .slice (some ⟨bn, 0, none⟩) 5 5) rfl (by kernel_rfl) (by kernel_rfl) (by kernel_rfl) (fun _ _ _ h => h) (.inl ⟨by kernel_rfl, fun wz hz => by apply runs_moveY <;> rfl⟩) ?_
              (try simp only [Act.put, List.setIfInBounds_toArray, List.set_cons_zero, List.set_cons_succ])
              refine anyC_take (i := 7) (oi := ⟨_, _, _, _, _, _⟩) (v := .int .i64 i) rfl (by kernel_rfl) (by kernel_rfl) (by kernel_rfl) (fun _ _ _ h => h) (.inl ⟨by kernel_rfl, fun wz hz => by apply runs_moveY <;> rfl⟩) ?_
              (try simp only [Act.put, List.setIfInBounds_toArray, List.set_cons_zero, List.set_cons_succ])
              refine anyC_take (i := 8) (oi := ⟨_, _, _, _, _, _⟩) (v := .pointer (some ⟨bn, i.toNat, none⟩)) rfl (by kernel_rfl) (by kernel_rfl) (by kernel_rfl) (fun _ _ _ h => h) (.inl ⟨by kernel_rfl, fun wz hz => by go_simp⟩) ?_
              (try simp only [Act.put, List.setIfInBounds_toArray, List.set_cons_zero, List.set_cons_succ])
              refine anyC_take (i := 9) (oi := ⟨_, _, _, _, _, _⟩) (v := .string (nmS i)) rfl (by kernel_rfl) (by kernel_rfl) (by kernel_rfl) (fun _ _ _ h => h) (.inl ⟨by kernel_rfl, fun wz hz => by have c0 := KN.out _ hz; go_simp⟩) ?_
              (try simp only [Act.put, List.setIfInBounds_toArray, List.set_cons_zero, List.set_cons_succ])
              refine anyC_take (i := 10) (oi := ⟨_, _, _, _, _, _⟩) (v := .agg #[.slice ahD L.length chD, .slice bhD T.length dhD]) rfl (by kernel_rfl) (by kernel_rfl) (by kernel_rfl) (fun _ _ _ h => h) (.inl ⟨by kernel_rfl, fun wz hz => runs_load (C := Below w4.heap.size w4) 27 _ rfl hDb rfl _ _ _ _ (fun w hw => KD.out _ hw) Try.underlying27 rfl (size_Alg _ _) wz hz⟩) ?_
              (try simp only [Act.put, List.setIfInBounds_toArray, List.set_cons_zero, List.set_cons_succ])
              refine anyC_call (i := 5) (o := ⟨_, _, _, _, _, _⟩) (f := 51) (args := #[.string (nmS i), .agg #[.slice ahA VL.length chA, .slice bhA VT.length dhA]]) rfl (by kernel_rfl) (by kernel_rfl) (by apply runs_call2 (he := enters_of Try.func51 (by kernel_rfl) rfl) <;> rfl) z ?_
              refine (ret_to (PO.out i hi0 hk _ _ _ _ _ (RO.out _ z).1 (RO.out _ z).2) (congrArg Value.bool HPO.out)).mono ?_
              rintro e wz ⟨rfl, hb⟩
              replace z := z.trans (hb.mono z.size)
              refine ⟨_, rfl, ?_⟩
              (try simp only [Act.put, List.setIfInBounds_toArray, List.set_cons_zero, List.set_cons_succ])
              refine anyC_call (i := 11) (o := ⟨_, _, _, _, _, _⟩) (f := 51) (args := #[.string (nmS i), .agg #[.slice ahD L.length chD, .slice bhD T.length dhD]]) rfl (by kernel_rfl) (by kernel_rfl) (by apply runs_call2 (he := enters_of Try.func51 (by kernel_rfl) rfl) <;> rfl) z ?_
              refine (ret_to (PA.out i hi0 hk _ _ _ _ _ (RA_.out _ z).1 (RA_.out _ z).2) (congrArg Value.bool HPA.out)).mono ?_
              rintro e wz ⟨rfl, hb⟩
              replace z := z.trans (hb.mono z.size)
              refine ⟨_, rfl, ?_⟩
              (try simp only [Act.put, List.setIfInBounds_toArray, List.set_cons_zero, List.set_cons_succ])
              refine anyC_take (i := 12) (oi := ⟨_, _, _, _, _, _⟩) (v := .bool true) rfl (by kernel_rfl) (by kernel_rfl) (by kernel_rfl) (fun _ _ _ h => h) (.inl ⟨by kernel_rfl, fun wz hz => by apply runs_moveY <;> rfl⟩) ?_
              (try simp only [Act.put, List.setIfInBounds_toArray, List.set_cons_zero, List.set_cons_succ])
              refine anyC_take (i := 13) (oi := ⟨_, _, _, _, _, _⟩) (v := .slice (some ⟨bn, 0, none⟩) 5 5) rfl (by kernel_rfl) (by kernel_rfl) (by kernel_rfl) (fun _ _ _ h => h) (.inl ⟨by kernel_rfl, fun wz hz => by apply runs_moveY <;> rfl⟩) ?_
              (try simp only [Act.put, List.setIfInBounds_toArray, List.set_cons_zero, List.set_cons_succ])
              refine anyC_take (i := 14) (oi := ⟨_, _, _, _, _, _⟩) (v := .int .i64 i) rfl (by kernel_rfl) (by kernel_rfl) (by kernel_rfl) (fun _ _ _ h => h) (.inl ⟨by kernel_rfl, fun wz hz => by apply runs_moveY <;> rfl⟩) ?_
              (try simp only [Act.put, List.setIfInBounds_toArray, List.set_cons_zero, List.set_cons_succ])
              refine anyC_take (i := 15) (oi := ⟨_, _, _, _, _, _⟩) (v := .pointer (some ⟨bn, i.toNat, none⟩)) rfl (by kernel_rfl) (by kernel_rfl) (by kernel_rfl) (fun _ _ _ h => h) (.inl ⟨by kernel_rfl, fun wz hz => by go_simp⟩) ?_
              (try simp only [Act.put, List.setIfInBounds_toArray, List.set_cons_zero, List.set_cons_succ])
              refine anyC_take (i := 16) (oi := ⟨_, _, _, _, _, _⟩) (v := .string (nmS i)) rfl (by kernel_rfl) (by kernel_rfl) (by kernel_rfl) (fun _ _ _ h => h) (.inl ⟨by kernel_rfl, fun wz hz => by have c0 := KN.out _ hz; go_simp⟩) ?_
              (try simp only [Act.put, List.setIfInBounds_toArray, List.set_cons_zero, List.set_cons_succ])
              refine anyC_take (i := 17) (oi := ⟨_, _, _, _, _, _⟩) (v := .agg #[.slice ahE M.length chE, .slice bhE U.length dhE]) rfl (by kernel_rfl) (by kernel_rfl) (by kernel_rfl) (fun _ _ _ h => h) (.inl ⟨by kernel_rfl, fun wz hz => runs_load (C := Below w4.heap.size w4) 27 _ rfl hEb rfl _ _ _ _ (fun w hw => KE.out _ hw) Try.underlying27 rfl (size_Alg _ _) wz hz⟩) ?_
              (try simp only [Act.put, List.setIfInBounds_toArray, List.set_cons_zero, List.set_cons_succ])
              refine anyC_call (i := 18) (o := ⟨_, _, _, _, _, _⟩) (f := 51) (args := #[.string (nmS i), .agg #[.slice ahE M.length chE, .slice bhE U.length dhE]]) rfl (by kernel_rfl) (by kernel_rfl) (by apply runs_call2 (he := enters_of Try.func51 (by kernel_rfl) rfl) <;> rfl) z ?_
              refine (ret_to (PB.out i hi0 hk _ _ _ _ _ (RB.out _ z).1 (RB.out _ z).2) (congrArg Value.bool HPB.out)).mono ?_
              rintro e wz ⟨rfl, hb⟩
              replace z := z.trans (hb.mono z.size)
              refine ⟨_, rfl, ?_⟩
              (try simp only [Act.put, List.setIfInBounds_toArray, List.set_cons_zero, List.set_cons_succ])
              refine anyC_take (i := 19) (oi := ⟨_, _, _, _, _, _⟩) (v := .bool true) rfl (by kernel_rfl) (by kernel_rfl) (by kernel_rfl) (fun _ _ _ h => h) (.inl ⟨by kernel_rfl, fun wz hz => by go_simp⟩) ?_
              (try simp only [Act.put, List.setIfInBounds_toArray, List.set_cons_zero, List.set_cons_succ])
              refine anyC_take (i := 20) (oi := ⟨_, _, _, _, _, _⟩) (v := .bool false) rfl (by kernel_rfl) (by kernel_rfl) (by kernel_rfl) (fun _ _ _ h => h) (.inl ⟨by kernel_rfl, fun wz hz => by go_simp⟩) ?_
              (try simp only [Act.put, List.setIfInBounds_toArray, List.set_cons_zero, List.set_cons_succ])
              refine anyC_done (by kernel_rfl) z ?_ _
              go_wp2
              go_roundw
              case rel => exact ⟨i + 1, by omega, by omega, rfl, z⟩
              case measure => simp [intOf]; omega
        · have hi : i = 5 := by omega
          subst hi
          clear KNm
          go_wp2_with fail
          refine wp_region_any (by kernel_rfl) ?_
          refine any_of_C (C := Below w4.heap.size w4) _ _ _ _ ?_
          replace z := z.drew
          refine anyC_take (i := 0) (oi := ⟨_, _, _, _, _, _⟩) (v := .agg #[.slice ahA VL.length chA, .slice bhA VT.length dhA]) rfl (by kernel_rfl) (by kernel_rfl) (by kernel_rfl) (fun _ _ _ h => h) (.inl ⟨by kernel_rfl, fun wz hz => runs_load (C := Below w4.heap.size w4) 27 _ rfl hGb rfl _ _ _ _ (fun w hw => KG.out _ hw) Try.underlying27 rfl (size_Alg _ _) wz hz⟩) ?_
          (try simp only [Act.put, List.setIfInBounds_toArray, List.set_cons_zero, List.set_cons_succ])
          refine anyC_call (i := 1) (o := ⟨_, _, _, _, _, _⟩) (f := 50) (args := #[.agg #[.slice ahA VL.length chA, .slice bhA VT.length dhA]]) rfl (by kernel_rfl) (by kernel_rfl) (by apply runs_call1 (he := enters_of Try.func50 (by kernel_rfl) rfl) <;> rfl) z ?_
          refine (C1.out _ _ _ _ _ (RO.out _ z).1 (RO.out _ z).2).mono ?_
          rintro e wz ⟨rfl, hb⟩
          replace z := z.trans (hb.mono z.size)
          refine ⟨_, rfl, ?_⟩
          (try simp only [Act.put, List.setIfInBounds_toArray, List.set_cons_zero, List.set_cons_succ])
          refine anyC_take (i := 2) (oi := ⟨_, _, _, _, _, _⟩) (v := .bool true) rfl (by kernel_rfl) (by kernel_rfl) (by kernel_rfl) (fun _ _ _ h => h) (.inl ⟨by kernel_rfl, fun wz hz => by apply runs_moveY <;> rfl⟩) ?_
          (try simp only [Act.put, List.setIfInBounds_toArray, List.set_cons_zero, List.set_cons_succ])
          refine anyC_take (i := 3) (oi := ⟨_, _, _, _, _, _⟩) (v := .agg #[.slice ahA VL.length chA, .slice bhA VT.length dhA]) rfl (by kernel_rfl) (by kernel_rfl) (by kernel_rfl) (fun _ _ _ h => h) (.inl ⟨by kernel_rfl, fun wz hz => runs_load (C := Below w4.heap.size w4) 27 _ rfl hGb rfl _ _ _ _ (fun w hw => KG.out _ hw) Try.underlying27 rfl (size_Alg _ _) wz hz⟩) ?_
          (try simp only [Act.put, List.setIfInBounds_toArray, List.set_cons_zero, List.set_cons_succ])
          refine anyC_take (i := 6) (oi := ⟨_, _, _, _, _, _⟩) (v := .agg #[.slice ahD L.length chD, .slice bhD T.length dhD]) rfl (by kernel_rfl) (by kernel_rfl) (by kernel_rfl) (fun _ _ _ h => h) (.inl ⟨by kernel_rfl, fun wz hz => runs_load (C := Below w4.heap.size w4) 27 _ rfl hDb rfl _ _ _ _ (fun w hw => KD.out _ hw) Try.underlying27 rfl (size_Alg _ _) wz hz⟩) ?_
          (try simp only [Act.put, List.setIfInBounds_toArray, List.set_cons_zero, List.set_cons_succ])
          refine anyC_take (i := 9) (oi := ⟨_, _, _, _, _, _⟩) (v := .agg #[.slice ahE M.length chE, .slice bhE U.length dhE]) rfl (by kernel_rfl) (by kernel_rfl) (by kernel_rfl) (fun _ _ _ h => h) (.inl ⟨by kernel_rfl, fun wz hz => runs_load (C := Below w4.heap.size w4) 27 _ rfl hEb rfl _ _ _ _ (fun w hw => KE.out _ hw) Try.underlying27 rfl (size_Alg _ _) wz hz⟩) ?_
          (try simp only [Act.put, List.setIfInBounds_toArray, List.set_cons_zero, List.set_cons_succ])
          refine anyC_call (i := 4) (o := ⟨_, _, _, _, _, _⟩) (f := 70) (args := #[.agg #[.slice ahA VL.length chA, .slice bhA VT.length dhA]]) rfl (by kernel_rfl) (by kernel_rfl) (by apply runs_call1 (he := enters_of Try.func70 (by kernel_rfl) rfl) <;> rfl) z ?_
          refine (F0c.out _ _ _ _ _ (RO.out _ z).1 (RO.out _ z).2).mono ?_
          rintro e wz ⟨x0, c0, rfl, xo, hb⟩
          replace z := z.trans (hb.mono z.size)
          clear xo
          refine ⟨_, rfl, ?_⟩
          (try simp only [Act.put, List.setIfInBounds_toArray, List.set_cons_zero, List.set_cons_succ])
          refine anyC_take (i := 5) (oi := ⟨_, _, _, _, _, _⟩) (v := .int .i64 (F0.length : Int)) rfl (by kernel_rfl) (by kernel_rfl) (by kernel_rfl) (fun _ _ _ h => h) (.inl ⟨by kernel_rfl, fun wz hz => by go_simp⟩) ?_
          (try simp only [Act.put, List.setIfInBounds_toArray, List.set_cons_zero, List.set_cons_succ])
          refine anyC_call (i := 7) (o := ⟨_, _, _, _, _, _⟩) (f := 70) (args := #[.agg #[.slice ahD L.length chD, .slice bhD T.length dhD]]) rfl (by kernel_rfl) (by kernel_rfl) (by apply runs_call1 (he := enters_of Try.func70 (by kernel_rfl) rfl) <;> rfl) z ?_
          refine (F1c.out _ _ _ _ _ (RA_.out _ z).1 (RA_.out _ z).2).mono ?_
          rintro e wz ⟨x1, c1, rfl, xo, hb⟩
          replace z := z.trans (hb.mono z.size)
          clear xo
          refine ⟨_, rfl, ?_⟩
          (try simp only [Act.put, List.setIfInBounds_toArray, List.set_cons_zero, List.set_cons_succ])
          refine anyC_take (i := 8) (oi := ⟨_, _, _, _, _, _⟩) (v := .int .i64 (F1.length : Int)) rfl (by kernel_rfl) (by kernel_rfl) (by kernel_rfl) (fun _ _ _ h => h) (.inl ⟨by kernel_rfl, fun wz hz => by go_simp⟩) ?_
          (try simp only [Act.put, List.setIfInBounds_toArray, List.set_cons_zero, List.set_cons_succ])
          refine anyC_call (i := 10) (o := ⟨_, _, _, _, _, _⟩) (f := 70) (args := #[.agg #[.slice ahE M.length chE, .slice bhE U.length dhE]]) rfl (by kernel_rfl) (by kernel_rfl) (by apply runs_call1 (he := enters_of Try.func70 (by kernel_rfl) rfl) <;> rfl) z ?_
          refine (F2c.out _ _ _ _ _ (RB.out _ z).1 (RB.out _ z).2).mono ?_
          rintro e wz ⟨x2, c2, rfl, xo, hb⟩
          replace z := z.trans (hb.mono z.size)
          clear xo
          refine ⟨_, rfl, ?_⟩
          (try simp only [Act.put, List.setIfInBounds_toArray, List.set_cons_zero, List.set_cons_succ])
          refine anyC_take (i := 11) (oi := ⟨_, _, _, _, _, _⟩) (v := .int .i64 (F2.length : Int)) rfl (by kernel_rfl) (by kernel_rfl) (by kernel_rfl) (fun _ _ _ h => h) (.inl ⟨by kernel_rfl, fun wz hz => by go_simp⟩) ?_
          (try simp only [Act.put, List.setIfInBounds_toArray, List.set_cons_zero, List.set_cons_succ])
          refine anyC_take (i := 12) (oi := ⟨_, _, _, _, _, _⟩) (v := .int .i64 (F0.length : Int)) rfl (by kernel_rfl) (by kernel_rfl) (by kernel_rfl) (fun _ _ _ h => h) (.inl ⟨by kernel_rfl, fun wz hz => by have km := KM.out; go_simp⟩) ?_
          (try simp only [Act.put, List.setIfInBounds_toArray, List.set_cons_zero, List.set_cons_succ])
          refine anyC_take (i := 13) (oi := ⟨_, _, _, _, _, _⟩) (v := .bool true) rfl (by kernel_rfl) (by kernel_rfl) (by kernel_rfl) (fun _ _ _ h => h) (.inl ⟨by kernel_rfl, fun wz hz => by go_simp⟩) ?_
          (try simp only [Act.put, List.setIfInBounds_toArray, List.set_cons_zero, List.set_cons_succ])
          refine anyC_take (i := 14) (oi := ⟨_, _, _, _, _, _⟩) (v := .bool true) rfl (by kernel_rfl) (by kernel_rfl) (by kernel_rfl) (fun _ _ _ h => h) (.inl ⟨by kernel_rfl, fun wz hz => by go_simp⟩) ?_
          (try simp only [Act.put, List.setIfInBounds_toArray, List.set_cons_zero, List.set_cons_succ])
          refine anyC_take (i := 15) (oi := ⟨_, _, _, _, _, _⟩) (v := .bool true) rfl (by kernel_rfl) (by kernel_rfl) (by kernel_rfl) (fun _ _ _ h => h) (.inl ⟨by kernel_rfl, fun wz hz => by apply runs_assign <;> rfl⟩) ?_
          (try simp only [Act.put, List.setIfInBounds_toArray, List.set_cons_zero, List.set_cons_succ])
          refine anyC_done (by kernel_rfl) z ?_ _
          go_wp2
          go_ret
          exact ⟨rfl, FIN.out _ z⟩
end Go.Proofs.Ytnmhbbekmepinaa
