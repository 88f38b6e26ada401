import Derived.Test.YtjcambkjcagcoaaQF0
import Derived.Test.YtjcambkjcagcoaaQG1
import Derived.Test.YtjcambkjcagcoaaQU5
import Derived.Test.YtjcambkjcagcoaaQR
import Derived.Test.YtjcambkjcagcoaaSL0
import Derived.Test.YtjcambkjcagcoaaLC
import Derived.Test.YtjcambkjcagcoaaB15
namespace Go.Proofs.Ytjcambkjcagcoaa
open Go.RowKit
set_option linter.unusedVariables false

theorem RetSAsb.r {L : List Int} {T : List (List Int)} {W : List Int} {V : Bool} {w w' : World} {e : Ending} (h : RetSAsb L T W V w e w') : RetRs L T W V w e w' := by
  obtain ⟨a, n, c, b, m, d, s, k, q, rfl, ho, hs, hb⟩ := h
  obtain ⟨rfl, rfl, r1, r2⟩ := ra_parts ho.ra
  obtain ⟨rfl, r3⟩ := rs_parts hs
  exact ⟨a, c, b, d, s, q, rfl, r1, r2, r3, hb⟩
set_option maxRecDepth 100000 in
set_option maxHeartbeats 4000000 in
/-- laws.FnQuotientOf -/
theorem lawPQuotientOf (a0 : Option Addr) (len0 cap0 : Nat) (w : World) (hy : RdY w a0 len0 w.heap.size) (hc : len0 ≤ cap0) (hm : len0 ≤ maxLen) :
    Calls Try.prog 5 #[.slice a0 len0 cap0] w fun e w' => e = .returned (.bool true) ∧ Below w.heap.size w w' := by
  by_cases hbig : 1048576 < len0
  · have hbig2 : (1048576 : Int) < len0 := by omega
    go_enter Try.func5, Try.ntmps5
    go_wp2
    go_ret
    exact ⟨rfl, Below.refl _ _⟩
  · have hs : len0 ≤ 1048576 := by omega
    have hs2 : ¬ (1048576 : Int) < len0 := by omega
    go_enter Try.func5, Try.ntmps5
    go_wp2_with fail
    refine (drawQuotientOf_any a0 len0 cap0 w hy hc hs).mono ?_
    rintro e wz ⟨L, T, ahD, chD, bhD, dhD, f, rfl, x0, x1, hP, hr, hT, hb0⟩
    have _ := hm
    clear hs hs2 hbig hy hm hc
    have hS : SA w ahD bhD L T wz := ⟨hb0, hr, hT⟩
    have hti := qu_ti L T f
    have htl := quTo_len L T f
    obtain ⟨VL, hVLe⟩ : ∃ V, V = quL L T f := ⟨_, rfl⟩
    obtain ⟨VT, hVTe⟩ : ∃ V, V = quTb L T f := ⟨_, rfl⟩
    obtain ⟨VW, hVWe⟩ : ∃ V, V = quTo L T f := ⟨_, rfl⟩
    obtain ⟨V, hVe⟩ : ∃ V, V = afB L T f := ⟨_, rfl⟩
    have HI := Lib.hid (show ∀ (w : World), Rd w ahD L → RdT w bhD T → Calls Try.prog 20 #[.agg #[.slice ahD L.length chD, .slice bhD T.length dhD], .int .i64 f] w (RetRs VL VT VW V w) from fun w h1 h2 => by rw [hVLe, hVTe, hVWe, hVe]; exact (implQuotientOf_any _ _ _ _ L T f w h1 h2).mono fun _ _ h => h.r)
    have HP := Lib.hid (show ∀ (w : World), Rd w ahD L → RdT w bhD T → Calls Try.prog 18 #[.agg #[.slice ahD L.length chD, .slice bhD T.length dhD], .int .i64 f] w (RetRs VL VT VW V w) from fun w h1 h2 => by rw [hVLe, hVTe, hVWe, hVe]; exact (specQuotientOf_any _ _ _ _ L T f w h1 h2).mono fun _ _ h => h.r)
    rw [← hVLe, ← hVTe] at hti
    rw [← hVWe] at htl
    have hVL : VL.length ≤ 1073741824 := by have := hti.1; omega
    have hVT : VT.length ≤ 1073741824 := by have := hti.2.1; omega
    have hVW : VW.length ≤ 1073741824 := by omega
    have hVR : ∀ j : Nat, j < VT.length → (rowAt VT j).length ≤ 1073741824 := fun j hj => by have := hti.2.2 j hj; omega
    have HR := Lib.hid hVR
    have hv6 := hti.1
    clear hb0 hr hT hti hVR
    cases hok : afB L T f with
    | false =>
      rw [hok] at hVe
      subst hVe
      clear hVLe hVTe hVWe hok hP
      go_wp2_with (first
        | go_skip
        | (go_at_call 20; refine (HI.out _ hS.2.1 hS.2.2).mono ?_; rintro e wz ⟨ahA, chA, bhA, dhA, shA, qhA, rfl, r1, r2, r3, hb⟩; (try replace hS := hS.next hb); (try replace hJ := hJ.next hb); (try replace hY := hY.next hb); (try replace hA := hA.next hb); (try replace hW := hW.next hb); (try replace hD := hD.next hb); (try replace hG := hG.next hb); (try replace hK := hK.next hb); have hA : SA w ahA bhA VL VT wz := ⟨hS.1, r1, r2⟩; have hJ : St w shA VW wz := ⟨hS.1, r3⟩; clear r1 r2 r3)
        | (go_at_call 18; refine (HP.out _ hS.2.1 hS.2.2).mono ?_; rintro e wz ⟨ahW, chW, bhW, dhW, shW, qhW, rfl, r1, r2, r3, hb⟩; (try replace hS := hS.next hb); (try replace hJ := hJ.next hb); (try replace hY := hY.next hb); (try replace hA := hA.next hb); (try replace hW := hW.next hb); (try replace hD := hD.next hb); (try replace hG := hG.next hb); (try replace hK := hK.next hb); have hW : SA w ahW bhW VL VT wz := ⟨hS.1, r1, r2⟩; have hY : St w shW VW wz := ⟨hS.1, r3⟩; clear r1 r2 r3)
        | (refine wpList_store_row rfl 26 _ _ rfl wz.heap.size #[.slice ahW VL.length chW, .slice bhW VT.length dhW] rfl rfl _ _ (heap_alloc_new wz (.cells #[.slice none 0 0, .slice none 0 0] 26)) (size_Alg _ _) rfl (one_sl2 _ _ _ _ _ _) ?_; rw [World.setRow_alloc_new]; obtain ⟨hKb, hhKb⟩ : ∃ b, b = wz.heap.size := ⟨_, rfl⟩; obtain ⟨wy, hwy⟩ : ∃ wy, wy = wz.alloc (.cells #[.slice ahW VL.length chW, .slice bhW VT.length dhW] 26) := ⟨_, rfl⟩; rw [← hwy, ← hhKb]; have hb : Below wz.heap.size wz wy := (by rw [hwy]; exact (Below.refl _ _).alloc (Nat.le_refl _) _); have hK0 : wy.heap[hKb]? = some (.cells #[.slice ahW VL.length chW, .slice bhW VT.length dhW] 26 (0, 0)) := (by rw [hwy, hhKb]; exact heap_alloc_new wz _); have hK1 := hS.1.size; (try replace hS := hS.next hb); (try replace hJ := hJ.next hb); (try replace hY := hY.next hb); (try replace hA := hA.next hb); (try replace hW := hW.next hb); (try replace hD := hD.next hb); (try replace hG := hG.next hb); (try replace hK := hK.next hb); have hK : Bx w hKb (.slice ahW VL.length chW) (.slice bhW VT.length dhW) wy := ⟨(by rw [hhKb]; exact hK1), hK0⟩; clear hwy hhKb hK0 hK1)
        | (refine wpList_store_row rfl 26 _ _ rfl wz.heap.size #[.slice ahA VL.length chA, .slice bhA VT.length dhA] rfl rfl _ _ (heap_alloc_new wz (.cells #[.slice none 0 0, .slice none 0 0] 26)) (size_Alg _ _) rfl (one_sl2 _ _ _ _ _ _) ?_; rw [World.setRow_alloc_new]; obtain ⟨hGb, hhGb⟩ : ∃ b, b = wz.heap.size := ⟨_, rfl⟩; obtain ⟨wy, hwy⟩ : ∃ wy, wy = wz.alloc (.cells #[.slice ahA VL.length chA, .slice bhA VT.length dhA] 26) := ⟨_, rfl⟩; rw [← hwy, ← hhGb]; have hb : Below wz.heap.size wz wy := (by rw [hwy]; exact (Below.refl _ _).alloc (Nat.le_refl _) _); have hG0 : wy.heap[hGb]? = some (.cells #[.slice ahA VL.length chA, .slice bhA VT.length dhA] 26 (0, 0)) := (by rw [hwy, hhGb]; exact heap_alloc_new wz _); have hG1 := hS.1.size; (try replace hS := hS.next hb); (try replace hJ := hJ.next hb); (try replace hY := hY.next hb); (try replace hA := hA.next hb); (try replace hW := hW.next hb); (try replace hD := hD.next hb); (try replace hG := hG.next hb); (try replace hK := hK.next hb); have hG : Bx w hGb (.slice ahA VL.length chA) (.slice bhA VT.length dhA) wy := ⟨(by rw [hhGb]; exact hG1), hG0⟩; clear hwy hhGb hG0 hG1)
        | (refine wpList_store_row rfl 26 _ _ rfl wz.heap.size #[.slice ahD L.length chD, .slice bhD T.length dhD] rfl rfl _ _ (heap_alloc_new wz (.cells #[.slice none 0 0, .slice none 0 0] 26)) (size_Alg _ _) rfl (one_sl2 _ _ _ _ _ _) ?_; rw [World.setRow_alloc_new]; obtain ⟨hDb, hhDb⟩ : ∃ b, b = wz.heap.size := ⟨_, rfl⟩; obtain ⟨wy, hwy⟩ : ∃ wy, wy = wz.alloc (.cells #[.slice ahD L.length chD, .slice bhD T.length dhD] 26) := ⟨_, rfl⟩; rw [← hwy, ← hhDb]; have hb : Below wz.heap.size wz wy := (by rw [hwy]; exact (Below.refl _ _).alloc (Nat.le_refl _) _); have hD0 : wy.heap[hDb]? = some (.cells #[.slice ahD L.length chD, .slice bhD T.length dhD] 26 (0, 0)) := (by rw [hwy, hhDb]; exact heap_alloc_new wz _); have hD1 := hS.1.size; (try replace hS := hS.next hb); (try replace hJ := hJ.next hb); (try replace hY := hY.next hb); (try replace hA := hA.next hb); (try replace hW := hW.next hb); (try replace hD := hD.next hb); (try replace hG := hG.next hb); (try replace hK := hK.next hb); have hD : Bx w hDb (.slice ahD L.length chD) (.slice bhD T.length dhD) wy := ⟨(by rw [hhDb]; exact hD1), hD0⟩; clear hwy hhDb hD0 hD1)
        | (refine wpList_load_row_w rfl 26 _ rfl hDb rfl _ _ _ _ hD.2 Try.underlying26 rfl (size_Alg _ _) ?_)
        | (refine wpList_load_row_w rfl 26 _ rfl hGb rfl _ _ _ _ hG.2 Try.underlying26 rfl (size_Alg _ _) ?_)
        | (refine wpList_load_row_w rfl 26 _ rfl hKb rfl _ _ _ _ hK.2 Try.underlying26 rfl (size_Alg _ _) ?_)
        | (go_at_call 14; refine (equalAlgebra_same _ _ _ _ _ _ _ _ VL VT _ hA.2.1 hW.2.1 hA.2.2 hW.2.2 hVL HR.out hVT).mono ?_; rintro e wz ⟨rfl, hb⟩; (try replace hS := hS.next hb); (try replace hJ := hJ.next hb); (try replace hY := hY.next hb); (try replace hA := hA.next hb); (try replace hW := hW.next hb); (try replace hD := hD.next hb); (try replace hG := hG.next hb); (try replace hK := hK.next hb); (try have cG0 := hG.cells.1))
        | (go_at_call 28; refine (dr_toQ (equalInts_same _ _ _ _ VW _ hJ.2 hY.2 hVW)).mono ?_; rintro e wz ⟨rfl, hb⟩; (try replace hS := hS.next hb); (try replace hJ := hJ.next hb); (try replace hY := hY.next hb); (try replace hA := hA.next hb); (try replace hW := hW.next hb); (try replace hD := hD.next hb); (try replace hG := hG.next hb); (try replace hK := hK.next hb); (try have cG0 := hG.cells.1)))
      go_ret
      exact ⟨rfl, hS.1⟩
    | true =>
      obtain ⟨ha, hf, f0, f6⟩ := afB_parts hok
      have hq := sg_qu hP ha (fls_mem.2 ⟨f0, (by unfold afB isFilB setB at hok; simp only [Bool.and_eq_true, decide_eq_true_iff] at hok; omega), hf⟩)
      unfold sgQu1 at hq
      rw [← hVLe, ← hVTe, ← hVWe] at hq
      simp only [Bool.and_eq_true, beq_iff_eq] at hq
      obtain ⟨e1, e2, e3, e4⟩ := hq
      have e4' : imgI L T VL VT VW = pw (VL.length : Int) - 1 := e4
      rw [hok] at hVe
      subst hVe
      have pq := pw_30 (VL.length : Int) (by omega)
      have pq0 := pw_pos (VL.length : Int)
      have kw : IntKind.i64.wrap (pw (VL.length : Int) - 1) = pw (VL.length : Int) - 1 := IntWalk.i64_in _ (by omega)
      have hlW : VW.length ≤ 1048576 := by omega
      have C1 := Lib.hid (show ∀ (a b : Option Addr) (ca cb : Nat) (w : World), Rd w a VL → RdT w b VT → Calls Try.prog 15 #[.agg #[.slice a VL.length ca, .slice b VT.length cb]] w fun e w' => e = .returned (.bool true) ∧ Below w.heap.size w w' from fun a b ca cb w h1 h2 => ret_to (implValidAlgebra_any _ _ _ _ VL VT w h1 h2) (congrArg Value.bool e1))
      have C2 := Lib.hid (show ∀ (a b a2 b2 s : Option Addr) (ca cb ca2 cb2 cs : Nat) (w : World), Rd w a L → RdT w b T → Rd w a2 VL → RdT w b2 VT → Rd w s VW → Calls Try.prog 29 #[.agg #[.slice a L.length ca, .slice b T.length cb], .agg #[.slice a2 VL.length ca2, .slice b2 VT.length cb2], .slice s VW.length cs] w fun e w' => e = .returned (.bool true) ∧ Below w.heap.size w w' from fun a b a2 b2 s ca cb ca2 cb2 cs w h1 h2 h3 h4 h5 => ret_to (implIsMap_any _ _ _ _ L T _ _ _ _ VL VT _ _ VW w h1 h2 h3 h4 h5 hlW) (congrArg Value.bool e2))
      have C3 := Lib.hid (show ∀ (a b a2 b2 s : Option Addr) (ca cb ca2 cb2 cs : Nat) (w : World), Rd w a L → RdT w b T → Rd w a2 VL → RdT w b2 VT → Rd w s VW → Calls Try.prog 30 #[.agg #[.slice a L.length ca, .slice b T.length cb], .agg #[.slice a2 VL.length ca2, .slice b2 VT.length cb2], .slice s VW.length cs] w fun e w' => e = .returned (.int .i64 f) ∧ Below w.heap.size w w' from fun a b a2 b2 s ca cb ca2 cb2 cs w h1 h2 h3 h4 h5 => ret_to (implKernelOf_any _ _ _ _ L T _ _ _ _ VL VT _ _ VW w h1 h2 h3 h4 h5 hlW) (congrArg (Value.int .i64) e3))
      have C4 := Lib.hid (show ∀ (a b a2 b2 s : Option Addr) (ca cb ca2 cb2 cs : Nat) (w : World), Rd w a L → RdT w b T → Rd w a2 VL → RdT w b2 VT → Rd w s VW → Calls Try.prog 31 #[.agg #[.slice a L.length ca, .slice b T.length cb], .agg #[.slice a2 VL.length ca2, .slice b2 VT.length cb2], .slice s VW.length cs] w fun e w' => e = .returned (.int .i64 (pw (VL.length : Int) - 1)) ∧ Below w.heap.size w w' from fun a b a2 b2 s ca cb ca2 cb2 cs w h1 h2 h3 h4 h5 => ret_to (implImageOf_any _ _ _ _ L T _ _ _ _ VL VT _ _ VW w h1 h2 h3 h4 h5 hlW) (congrArg (Value.int .i64) e4'))
      clear hVLe hVTe hVWe hok hP ha hf e1 e2 e3 e4 e4'
      go_wp2_with (first
        | go_skip
        | (go_at_call 20; refine (HI.out _ hS.2.1 hS.2.2).mono ?_; rintro e wz ⟨ahA, chA, bhA, dhA, shA, qhA, rfl, r1, r2, r3, hb⟩; (try replace hS := hS.next hb); (try replace hJ := hJ.next hb); (try replace hY := hY.next hb); (try replace hA := hA.next hb); (try replace hW := hW.next hb); (try replace hD := hD.next hb); (try replace hG := hG.next hb); (try replace hK := hK.next hb); have hA : SA w ahA bhA VL VT wz := ⟨hS.1, r1, r2⟩; have hJ : St w shA VW wz := ⟨hS.1, r3⟩; clear r1 r2 r3)
        | (go_at_call 18; refine (HP.out _ hS.2.1 hS.2.2).mono ?_; rintro e wz ⟨ahW, chW, bhW, dhW, shW, qhW, rfl, r1, r2, r3, hb⟩; (try replace hS := hS.next hb); (try replace hJ := hJ.next hb); (try replace hY := hY.next hb); (try replace hA := hA.next hb); (try replace hW := hW.next hb); (try replace hD := hD.next hb); (try replace hG := hG.next hb); (try replace hK := hK.next hb); have hW : SA w ahW bhW VL VT wz := ⟨hS.1, r1, r2⟩; have hY : St w shW VW wz := ⟨hS.1, r3⟩; clear r1 r2 r3)
        | (refine wpList_store_row rfl 26 _ _ rfl wz.heap.size #[.slice ahW VL.length chW, .slice bhW VT.length dhW] rfl rfl _ _ (heap_alloc_new wz (.cells #[.slice none 0 0, .slice none 0 0] 26)) (size_Alg _ _) rfl (one_sl2 _ _ _ _ _ _) ?_; rw [World.setRow_alloc_new]; obtain ⟨hKb, hhKb⟩ : ∃ b, b = wz.heap.size := ⟨_, rfl⟩; obtain ⟨wy, hwy⟩ : ∃ wy, wy = wz.alloc (.cells #[.slice ahW VL.length chW, .slice bhW VT.length dhW] 26) := ⟨_, rfl⟩; rw [← hwy, ← hhKb]; have hb : Below wz.heap.size wz wy := (by rw [hwy]; exact (Below.refl _ _).alloc (Nat.le_refl _) _); have hK0 : wy.heap[hKb]? = some (.cells #[.slice ahW VL.length chW, .slice bhW VT.length dhW] 26 (0, 0)) := (by rw [hwy, hhKb]; exact heap_alloc_new wz _); have hK1 := hS.1.size; (try replace hS := hS.next hb); (try replace hJ := hJ.next hb); (try replace hY := hY.next hb); (try replace hA := hA.next hb); (try replace hW := hW.next hb); (try replace hD := hD.next hb); (try replace hG := hG.next hb); (try replace hK := hK.next hb); have hK : Bx w hKb (.slice ahW VL.length chW) (.slice bhW VT.length dhW) wy := ⟨(by rw [hhKb]; exact hK1), hK0⟩; clear hwy hhKb hK0 hK1)
        | (refine wpList_store_row rfl 26 _ _ rfl wz.heap.size #[.slice ahA VL.length chA, .slice bhA VT.length dhA] rfl rfl _ _ (heap_alloc_new wz (.cells #[.slice none 0 0, .slice none 0 0] 26)) (size_Alg _ _) rfl (one_sl2 _ _ _ _ _ _) ?_; rw [World.setRow_alloc_new]; obtain ⟨hGb, hhGb⟩ : ∃ b, b = wz.heap.size := ⟨_, rfl⟩; obtain ⟨wy, hwy⟩ : ∃ wy, wy = wz.alloc (.cells #[.slice ahA VL.length chA, .slice bhA VT.length dhA] 26) := ⟨_, rfl⟩; rw [← hwy, ← hhGb]; have hb : Below wz.heap.size wz wy := (by rw [hwy]; exact (Below.refl _ _).alloc (Nat.le_refl _) _); have hG0 : wy.heap[hGb]? = some (.cells #[.slice ahA VL.length chA, .slice bhA VT.length dhA] 26 (0, 0)) := (by rw [hwy, hhGb]; exact heap_alloc_new wz _); have hG1 := hS.1.size; (try replace hS := hS.next hb); (try replace hJ := hJ.next hb); (try replace hY := hY.next hb); (try replace hA := hA.next hb); (try replace hW := hW.next hb); (try replace hD := hD.next hb); (try replace hG := hG.next hb); (try replace hK := hK.next hb); have hG : Bx w hGb (.slice ahA VL.length chA) (.slice bhA VT.length dhA) wy := ⟨(by rw [hhGb]; exact hG1), hG0⟩; clear hwy hhGb hG0 hG1)
        | (refine wpList_store_row rfl 26 _ _ rfl wz.heap.size #[.slice ahD L.length chD, .slice bhD T.length dhD] rfl rfl _ _ (heap_alloc_new wz (.cells #[.slice none 0 0, .slice none 0 0] 26)) (size_Alg _ _) rfl (one_sl2 _ _ _ _ _ _) ?_; rw [World.setRow_alloc_new]; obtain ⟨hDb, hhDb⟩ : ∃ b, b = wz.heap.size := ⟨_, rfl⟩; obtain ⟨wy, hwy⟩ : ∃ wy, wy = wz.alloc (.cells #[.slice ahD L.length chD, .slice bhD T.length dhD] 26) := ⟨_, rfl⟩; rw [← hwy, ← hhDb]; have hb : Below wz.heap.size wz wy := (by rw [hwy]; exact (Below.refl _ _).alloc (Nat.le_refl _) _); have hD0 : wy.heap[hDb]? = some (.cells #[.slice ahD L.length chD, .slice bhD T.length dhD] 26 (0, 0)) := (by rw [hwy, hhDb]; exact heap_alloc_new wz _); have hD1 := hS.1.size; (try replace hS := hS.next hb); (try replace hJ := hJ.next hb); (try replace hY := hY.next hb); (try replace hA := hA.next hb); (try replace hW := hW.next hb); (try replace hD := hD.next hb); (try replace hG := hG.next hb); (try replace hK := hK.next hb); have hD : Bx w hDb (.slice ahD L.length chD) (.slice bhD T.length dhD) wy := ⟨(by rw [hhDb]; exact hD1), hD0⟩; clear hwy hhDb hD0 hD1)
        | (refine wpList_load_row_w rfl 26 _ rfl hDb rfl _ _ _ _ hD.2 Try.underlying26 rfl (size_Alg _ _) ?_)
        | (refine wpList_load_row_w rfl 26 _ rfl hGb rfl _ _ _ _ hG.2 Try.underlying26 rfl (size_Alg _ _) ?_)
        | (refine wpList_load_row_w rfl 26 _ rfl hKb rfl _ _ _ _ hK.2 Try.underlying26 rfl (size_Alg _ _) ?_)
        | (go_at_call 14; refine (equalAlgebra_same _ _ _ _ _ _ _ _ VL VT _ hA.2.1 hW.2.1 hA.2.2 hW.2.2 hVL HR.out hVT).mono ?_; rintro e wz ⟨rfl, hb⟩; (try replace hS := hS.next hb); (try replace hJ := hJ.next hb); (try replace hY := hY.next hb); (try replace hA := hA.next hb); (try replace hW := hW.next hb); (try replace hD := hD.next hb); (try replace hG := hG.next hb); (try replace hK := hK.next hb); (try have cG0 := hG.cells.1))
        | (go_at_call 28; refine (dr_toQ (equalInts_same _ _ _ _ VW _ hJ.2 hY.2 hVW)).mono ?_; rintro e wz ⟨rfl, hb⟩; (try replace hS := hS.next hb); (try replace hJ := hJ.next hb); (try replace hY := hY.next hb); (try replace hA := hA.next hb); (try replace hW := hW.next hb); (try replace hD := hD.next hb); (try replace hG := hG.next hb); (try replace hK := hK.next hb); (try have cG0 := hG.cells.1)))
      obtain ⟨w3, rfl⟩ : ∃ w3 : World, w3 = wz := ⟨_, rfl⟩
      clear cG0
      refine region_in (Below w3.heap.size w3) (by kernel_rfl) (by kernel_rfl) (Dr.below ⟨1, rfl⟩ _) fun hne => ?_
      have r0 : ∀ s : In (Below w3.heap.size w3), s.w.cell? ⟨hGb, 0, none⟩ = some (.slice ahA VL.length chA) := fun s => (hG.next s.h).cells.1
      repeat (first
        | (go_big_quiet_want; refine quiet_load_row 26 _ rfl hGb rfl _ _ _ _ (fun w' ⟨s, hs⟩ => by rw [hs]; exact (hG.next s.h).2) Try.underlying26 rfl (size_Alg _ _) ?_; simp only [Act.put, List.setIfInBounds_toArray, List.set_cons_succ, List.set_cons_zero]; go_big_quiet_on)
        | (go_big_quiet_want; refine quiet_load_row 26 _ rfl hDb rfl _ _ _ _ (fun w' ⟨s, hs⟩ => by rw [hs]; exact (hD.next s.h).2) Try.underlying26 rfl (size_Alg _ _) ?_; simp only [Act.put, List.setIfInBounds_toArray, List.set_cons_succ, List.set_cons_zero]; go_big_quiet_on)
        | go_big_quiet_step ((first
          | (go_at_call 15; exact in_below _ (Nat.le_refl _) (C1.out _ _ _ _ _ (hA.next (In.h _)).2.1 (hA.next (In.h _)).2.2))
          | (go_at_call 29; exact in_below _ (Nat.le_refl _) (C2.out _ _ _ _ _ _ _ _ _ _ _ (hS.next (In.h _)).2.1 (hS.next (In.h _)).2.2 (hA.next (In.h _)).2.1 (hA.next (In.h _)).2.2 (hJ.next (In.h _)).2))
          | (go_at_call 30; exact in_below _ (Nat.le_refl _) (C3.out _ _ _ _ _ _ _ _ _ _ _ (hS.next (In.h _)).2.1 (hS.next (In.h _)).2.2 (hA.next (In.h _)).2.1 (hA.next (In.h _)).2.2 (hJ.next (In.h _)).2))
          | (go_at_call 31; exact in_below _ (Nat.le_refl _) (C4.out _ _ _ _ _ _ _ _ _ _ _ (hS.next (In.h _)).2.1 (hS.next (In.h _)).2.2 (hA.next (In.h _)).2.1 (hA.next (In.h _)).2.2 (hJ.next (In.h _)).2))
          | (go_at_call 32; exact in_same _ (lawPower_any _ _ (by omega) (by omega))))))
      refine wpQuiet_nil ?_
      intro s
      have hb4 := (hS.next s.h).1
      obtain ⟨w7, hw7⟩ : ∃ x : World, x = s.w := ⟨_, rfl⟩
      rw [← hw7] at hb4 ⊢
      clear hw7 r0
      go_wp2
      go_ret
      exact ⟨by first | rfl | exact ret_bool (by simp), hb4⟩
end Go.Proofs.Ytjcambkjcagcoaa
