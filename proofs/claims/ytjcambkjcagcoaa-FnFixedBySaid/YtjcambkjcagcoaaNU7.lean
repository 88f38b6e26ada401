import Derived.Test.YtjcambkjcagcoaaNU6
import Derived.Test.YtjcambkjcagcoaaNU5
import Derived.Test.YtjcambkjcagcoaaPF4
import Derived.Test.YtjcambkjcagcoaaSL0
import Derived.Test.YtjcambkjcagcoaaH10
import Derived.Test.YtjcambkjcagcoaaM13
namespace Go.Proofs.Ytjcambkjcagcoaa
open Go.RowKit
set_option linter.unusedVariables false

set_option maxRecDepth 100000 in
set_option maxHeartbeats 2000000 in
/-- laws.FnFixedBy -/
theorem lawPFixedBy (a0 : Option Addr) (len0 cap0 : Nat) (w : World) (hy : RdY w a0 len0 w.heap.size) (hc : len0 ≤ cap0) (hm : len0 ≤ maxLen) :
    Calls Try.prog 3 #[.slice a0 len0 cap0] w fun e w' => e = .returned (.bool true) ∧ Below w.heap.size w w' := by
  by_cases hbig : 1048576 < len0
  · have hbig2 : (1048576 : Int) < len0 := by omega
    go_enter Try.func3, Try.ntmps3
    go_wp2
    go_ret
    exact ⟨rfl, Below.refl _ _⟩
  · have hs : len0 ≤ 1048576 := by omega
    have hs2 : ¬ (1048576 : Int) < len0 := by omega
    obtain ⟨i0, hi, hz0, hz1, hz2⟩ := info_parts info_int
    go_enter Try.func3, Try.ntmps3
    go_wp2_with fail
    refine (drawFixedBy_any a0 len0 cap0 w hy hc hs).mono ?_
    rintro e wz ⟨L, T, ahD, chD, bhD, dhD, t, ta, tc, rfl, ⟨hP, hr, hT, hb0⟩, htm, hct, hlt⟩
    have _ := hm
    clear hs hs2 hbig hy hm hc
    have hS : SA w ahD bhD L T wz := ⟨hb0, hr, hT⟩
    have hJ : St w ta t wz := ⟨hb0, htm⟩
    have hM1 : t.length ≤ 1048576 := by omega
    have hti := fb_ti L T t
    obtain ⟨VL, hVLe⟩ : ∃ V, V = fbL L T t := ⟨_, rfl⟩
    obtain ⟨VT, hVTe⟩ : ∃ V, V = fbT L T t := ⟨_, rfl⟩
    obtain ⟨V, hVe⟩ : ∃ V, V = fbOk L T t := ⟨_, rfl⟩
    have HI := Lib.hid (show ∀ (w : World), Rd w ahD L → RdT w bhD T → Rd w ta t → Calls Try.prog 12 #[.agg #[.slice ahD L.length chD, .slice bhD T.length dhD], .slice ta t.length tc] w (RetR VL VT V w) from fun w h1 h2 h3 => by rw [hVLe, hVTe, hVe]; exact (implFixedBy_any _ _ _ _ L T _ _ t w h1 h2 h3 hM1).mono fun _ _ h => h.r)
    have HP := Lib.hid (show ∀ (w : World), Rd w ahD L → RdT w bhD T → Rd w ta t → Calls Try.prog 13 #[.agg #[.slice ahD L.length chD, .slice bhD T.length dhD], .slice ta t.length tc] w (RetR VL VT V w) from fun w h1 h2 h3 => by rw [hVLe, hVTe, hVe]; exact (specFixedBy_any _ _ _ _ L T _ _ t w h1 h2 h3 hM1).mono fun _ _ h => h.r)
    rw [← hVLe, ← hVTe] at hti
    have hVL : VL.length ≤ 1073741824 := by have := hti.1; omega
    have hVT : VT.length ≤ 1073741824 := by have := hti.2.1; omega
    have hVR : ∀ j : Nat, j < VT.length → (rowAt VT j).length ≤ 1073741824 := fun j hj => by have := hti.2.2 j hj; omega
    have HR := Lib.hid hVR
    clear hb0 hr hT htm hti hVR hP
    cases hok : fbOk L T t with
    | false =>
      rw [hok] at hVe
      subst hVe
      clear hVLe hVTe hok
      go_wp2_with (first
        | go_skip
        | (go_at_call 12; refine (HI.out _ hS.2.1 hS.2.2 hJ.2).mono ?_; rintro e wz ⟨ahA, chA, bhA, dhA, rfl, r1, r2, hb⟩; (try replace hS := hS.next hb); (try replace hJ := hJ.next hb); (try replace hA := hA.next hb); (try replace hW := hW.next hb); (try replace hD := hD.next hb); (try replace hG := hG.next hb); (try replace hK := hK.next hb); have hA : SA w ahA bhA VL VT wz := ⟨hS.1, r1, r2⟩; clear r1 r2)
        | (go_at_call 13; refine (HP.out _ hS.2.1 hS.2.2 hJ.2).mono ?_; rintro e wz ⟨ahW, chW, bhW, dhW, rfl, r1, r2, hb⟩; (try replace hS := hS.next hb); (try replace hJ := hJ.next hb); (try replace hA := hA.next hb); (try replace hW := hW.next hb); (try replace hD := hD.next hb); (try replace hG := hG.next hb); (try replace hK := hK.next hb); have hW : SA w ahW bhW VL VT wz := ⟨hS.1, r1, r2⟩; clear r1 r2)
        | (refine wpList_store_row rfl 26 _ _ rfl wz.heap.size #[.slice ahW VL.length chW, .slice bhW VT.length dhW] rfl rfl _ _ (heap_alloc_new wz (.cells #[.slice none 0 0, .slice none 0 0] 26)) (size_Alg _ _) rfl (one_sl2 _ _ _ _ _ _) ?_; rw [World.setRow_alloc_new]; obtain ⟨hKb, hhKb⟩ : ∃ b, b = wz.heap.size := ⟨_, rfl⟩; obtain ⟨wy, hwy⟩ : ∃ wy, wy = wz.alloc (.cells #[.slice ahW VL.length chW, .slice bhW VT.length dhW] 26) := ⟨_, rfl⟩; rw [← hwy, ← hhKb]; have hb : Below wz.heap.size wz wy := (by rw [hwy]; exact (Below.refl _ _).alloc (Nat.le_refl _) _); have hK0 : wy.heap[hKb]? = some (.cells #[.slice ahW VL.length chW, .slice bhW VT.length dhW] 26 (0, 0)) := (by rw [hwy, hhKb]; exact heap_alloc_new wz _); have hK1 := hS.1.size; (try replace hS := hS.next hb); (try replace hJ := hJ.next hb); (try replace hA := hA.next hb); (try replace hW := hW.next hb); (try replace hD := hD.next hb); (try replace hG := hG.next hb); (try replace hK := hK.next hb); have hK : Bx w hKb (.slice ahW VL.length chW) (.slice bhW VT.length dhW) wy := ⟨(by rw [hhKb]; exact hK1), hK0⟩; clear hwy hhKb hK0 hK1)
        | (refine wpList_store_row rfl 26 _ _ rfl wz.heap.size #[.slice ahA VL.length chA, .slice bhA VT.length dhA] rfl rfl _ _ (heap_alloc_new wz (.cells #[.slice none 0 0, .slice none 0 0] 26)) (size_Alg _ _) rfl (one_sl2 _ _ _ _ _ _) ?_; rw [World.setRow_alloc_new]; obtain ⟨hGb, hhGb⟩ : ∃ b, b = wz.heap.size := ⟨_, rfl⟩; obtain ⟨wy, hwy⟩ : ∃ wy, wy = wz.alloc (.cells #[.slice ahA VL.length chA, .slice bhA VT.length dhA] 26) := ⟨_, rfl⟩; rw [← hwy, ← hhGb]; have hb : Below wz.heap.size wz wy := (by rw [hwy]; exact (Below.refl _ _).alloc (Nat.le_refl _) _); have hG0 : wy.heap[hGb]? = some (.cells #[.slice ahA VL.length chA, .slice bhA VT.length dhA] 26 (0, 0)) := (by rw [hwy, hhGb]; exact heap_alloc_new wz _); have hG1 := hS.1.size; (try replace hS := hS.next hb); (try replace hJ := hJ.next hb); (try replace hA := hA.next hb); (try replace hW := hW.next hb); (try replace hD := hD.next hb); (try replace hG := hG.next hb); (try replace hK := hK.next hb); have hG : Bx w hGb (.slice ahA VL.length chA) (.slice bhA VT.length dhA) wy := ⟨(by rw [hhGb]; exact hG1), hG0⟩; clear hwy hhGb hG0 hG1)
        | (refine wpList_store_row rfl 26 _ _ rfl wz.heap.size #[.slice ahD L.length chD, .slice bhD T.length dhD] rfl rfl _ _ (heap_alloc_new wz (.cells #[.slice none 0 0, .slice none 0 0] 26)) (size_Alg _ _) rfl (one_sl2 _ _ _ _ _ _) ?_; rw [World.setRow_alloc_new]; obtain ⟨hDb, hhDb⟩ : ∃ b, b = wz.heap.size := ⟨_, rfl⟩; obtain ⟨wy, hwy⟩ : ∃ wy, wy = wz.alloc (.cells #[.slice ahD L.length chD, .slice bhD T.length dhD] 26) := ⟨_, rfl⟩; rw [← hwy, ← hhDb]; have hb : Below wz.heap.size wz wy := (by rw [hwy]; exact (Below.refl _ _).alloc (Nat.le_refl _) _); have hD0 : wy.heap[hDb]? = some (.cells #[.slice ahD L.length chD, .slice bhD T.length dhD] 26 (0, 0)) := (by rw [hwy, hhDb]; exact heap_alloc_new wz _); have hD1 := hS.1.size; (try replace hS := hS.next hb); (try replace hJ := hJ.next hb); (try replace hA := hA.next hb); (try replace hW := hW.next hb); (try replace hD := hD.next hb); (try replace hG := hG.next hb); (try replace hK := hK.next hb); have hD : Bx w hDb (.slice ahD L.length chD) (.slice bhD T.length dhD) wy := ⟨(by rw [hhDb]; exact hD1), hD0⟩; clear hwy hhDb hD0 hD1)
        | (refine wpList_load_row_w rfl 26 _ rfl hDb rfl _ _ _ _ hD.2 Try.underlying26 rfl (size_Alg _ _) ?_)
        | (refine wpList_load_row_w rfl 26 _ rfl hGb rfl _ _ _ _ hG.2 Try.underlying26 rfl (size_Alg _ _) ?_)
        | (refine wpList_load_row_w rfl 26 _ rfl hKb rfl _ _ _ _ hK.2 Try.underlying26 rfl (size_Alg _ _) ?_)
        | (go_at_call 14; refine (equalAlgebra_same _ _ _ _ _ _ _ _ VL VT _ hA.2.1 hW.2.1 hA.2.2 hW.2.2 hVL HR.out hVT).mono ?_; rintro e wz ⟨rfl, hb⟩; (try replace hS := hS.next hb); (try replace hJ := hJ.next hb); (try replace hA := hA.next hb); (try replace hW := hW.next hb); (try replace hD := hD.next hb); (try replace hG := hG.next hb); (try replace hK := hK.next hb); (try have cG0 := hG.cells.1)))
      go_ret
      exact ⟨rfl, hS.1⟩
    | true =>
      obtain ⟨_, e1, e2⟩ := fb_yes hok
      have hAs : algB L T = true ∧ snB L T t = true := by
        unfold fbOk asnB at hok
        rw [Bool.and_eq_true, Bool.and_eq_true] at hok
        exact hok.1
      obtain ⟨ha, hsn⟩ := hAs
      rw [hok] at hVe
      subst hVe
      have e3 : algB VL VT = true := by
        rw [hVLe, hVTe, e1, e2, fx_alg ha hsn]
        unfold fbOk at hok
        rw [Bool.and_eq_true] at hok
        exact hok.2
      have htL : num t = num L := (nuc_of hsn).1
      obtain ⟨Wl, hWl⟩ : ∃ W, W = fxW L t := ⟨_, rfl⟩
      have hlW : VL.length = Wl.length := by
        have : num (fxU L t) = num (fxW L t) := upL_num _ (by unfold num; omega)
        rw [hVLe, e1, hWl]
        unfold num at this
        omega
      have HIMP := Lib.hid (show ∀ p q : Int, 0 ≤ p → p < Wl.length → 0 ≤ q → q < Wl.length → nth Wl (imp VL VT p q) = imp L T (nth Wl p) (nth Wl q) from fun p q p0 p1 q0 q1 => by
        have hok2 : algB (fxU L t) (fxS L T t) = true := by rw [← e1, ← e2, ← hVLe, ← hVTe]; exact e3
        rw [hVLe, hVTe, e1, e2, hWl]
        rw [hWl] at p1 q1
        exact fx_imp ha hsn hok2 p0 p1 q0 q1)
      have HWE := Lib.hid (show ∀ p : Int, 0 ≤ p → p < Wl.length → El L (nth Wl p) from fun p p0 p1 => by
        rw [hWl] at p1 ⊢
        exact (fx_is p0 p1).1.1)
      have HFI := Lib.hid (show filtTo (fxP t) (t.length : Int) = Wl by
        rw [hWl]
        unfold fxW
        rw [← htL]; rfl)
      have HA0 := Lib.hid ha
      have HA3 := Lib.hid e3
      obtain ⟨n1, n6, _⟩ := latB_parts (alg_lat ha)
      obtain ⟨m1, m6, _⟩ := latB_parts (alg_lat e3)
      have hn : num L = L.length := rfl
      have hm' : num VL = VL.length := rfl
      have htn : num t = t.length := rfl
      have ht1 : 1 ≤ t.length := by omega
      have ht6 : t.length ≤ 6 := by omega
      have hW1 : 1 ≤ Wl.length := by omega
      have hW6 : Wl.length ≤ 6 := by omega
      have hlWi : (VL.length : Int) = Wl.length := by omega
      have hneq : ((Wl.length : Int) != (VL.length : Int)) = false := by rw [hlWi]; simp
      have HLW := Lib.hid hlW
      obtain ⟨jb, jo, rfl, _⟩ := hJ.2 (fun e => by rw [e] at ht1; simp at ht1)
      clear hVLe hVTe hok e1 e2 ha hsn htL hWl hlW hlWi hn hm' htn n1 n6 m1 m6
      go_wp2_with (first
        | go_skip
        | (go_at_call 12; refine (HI.out _ hS.2.1 hS.2.2 hJ.2).mono ?_; rintro e wz ⟨ahA, chA, bhA, dhA, rfl, r1, r2, hb⟩; (try replace hS := hS.next hb); (try replace hJ := hJ.next hb); (try replace hA := hA.next hb); (try replace hW := hW.next hb); (try replace hD := hD.next hb); (try replace hG := hG.next hb); (try replace hK := hK.next hb); have hA : SA w ahA bhA VL VT wz := ⟨hS.1, r1, r2⟩; clear r1 r2)
        | (go_at_call 13; refine (HP.out _ hS.2.1 hS.2.2 hJ.2).mono ?_; rintro e wz ⟨ahW, chW, bhW, dhW, rfl, r1, r2, hb⟩; (try replace hS := hS.next hb); (try replace hJ := hJ.next hb); (try replace hA := hA.next hb); (try replace hW := hW.next hb); (try replace hD := hD.next hb); (try replace hG := hG.next hb); (try replace hK := hK.next hb); have hW : SA w ahW bhW VL VT wz := ⟨hS.1, r1, r2⟩; clear r1 r2)
        | (refine wpList_store_row rfl 26 _ _ rfl wz.heap.size #[.slice ahW VL.length chW, .slice bhW VT.length dhW] rfl rfl _ _ (heap_alloc_new wz (.cells #[.slice none 0 0, .slice none 0 0] 26)) (size_Alg _ _) rfl (one_sl2 _ _ _ _ _ _) ?_; rw [World.setRow_alloc_new]; obtain ⟨hKb, hhKb⟩ : ∃ b, b = wz.heap.size := ⟨_, rfl⟩; obtain ⟨wy, hwy⟩ : ∃ wy, wy = wz.alloc (.cells #[.slice ahW VL.length chW, .slice bhW VT.length dhW] 26) := ⟨_, rfl⟩; rw [← hwy, ← hhKb]; have hb : Below wz.heap.size wz wy := (by rw [hwy]; exact (Below.refl _ _).alloc (Nat.le_refl _) _); have hK0 : wy.heap[hKb]? = some (.cells #[.slice ahW VL.length chW, .slice bhW VT.length dhW] 26 (0, 0)) := (by rw [hwy, hhKb]; exact heap_alloc_new wz _); have hK1 := hS.1.size; (try replace hS := hS.next hb); (try replace hJ := hJ.next hb); (try replace hA := hA.next hb); (try replace hW := hW.next hb); (try replace hD := hD.next hb); (try replace hG := hG.next hb); (try replace hK := hK.next hb); have hK : Bx w hKb (.slice ahW VL.length chW) (.slice bhW VT.length dhW) wy := ⟨(by rw [hhKb]; exact hK1), hK0⟩; clear hwy hhKb hK0 hK1)
        | (refine wpList_store_row rfl 26 _ _ rfl wz.heap.size #[.slice ahA VL.length chA, .slice bhA VT.length dhA] rfl rfl _ _ (heap_alloc_new wz (.cells #[.slice none 0 0, .slice none 0 0] 26)) (size_Alg _ _) rfl (one_sl2 _ _ _ _ _ _) ?_; rw [World.setRow_alloc_new]; obtain ⟨hGb, hhGb⟩ : ∃ b, b = wz.heap.size := ⟨_, rfl⟩; obtain ⟨wy, hwy⟩ : ∃ wy, wy = wz.alloc (.cells #[.slice ahA VL.length chA, .slice bhA VT.length dhA] 26) := ⟨_, rfl⟩; rw [← hwy, ← hhGb]; have hb : Below wz.heap.size wz wy := (by rw [hwy]; exact (Below.refl _ _).alloc (Nat.le_refl _) _); have hG0 : wy.heap[hGb]? = some (.cells #[.slice ahA VL.length chA, .slice bhA VT.length dhA] 26 (0, 0)) := (by rw [hwy, hhGb]; exact heap_alloc_new wz _); have hG1 := hS.1.size; (try replace hS := hS.next hb); (try replace hJ := hJ.next hb); (try replace hA := hA.next hb); (try replace hW := hW.next hb); (try replace hD := hD.next hb); (try replace hG := hG.next hb); (try replace hK := hK.next hb); have hG : Bx w hGb (.slice ahA VL.length chA) (.slice bhA VT.length dhA) wy := ⟨(by rw [hhGb]; exact hG1), hG0⟩; clear hwy hhGb hG0 hG1)
        | (refine wpList_store_row rfl 26 _ _ rfl wz.heap.size #[.slice ahD L.length chD, .slice bhD T.length dhD] rfl rfl _ _ (heap_alloc_new wz (.cells #[.slice none 0 0, .slice none 0 0] 26)) (size_Alg _ _) rfl (one_sl2 _ _ _ _ _ _) ?_; rw [World.setRow_alloc_new]; obtain ⟨hDb, hhDb⟩ : ∃ b, b = wz.heap.size := ⟨_, rfl⟩; obtain ⟨wy, hwy⟩ : ∃ wy, wy = wz.alloc (.cells #[.slice ahD L.length chD, .slice bhD T.length dhD] 26) := ⟨_, rfl⟩; rw [← hwy, ← hhDb]; have hb : Below wz.heap.size wz wy := (by rw [hwy]; exact (Below.refl _ _).alloc (Nat.le_refl _) _); have hD0 : wy.heap[hDb]? = some (.cells #[.slice ahD L.length chD, .slice bhD T.length dhD] 26 (0, 0)) := (by rw [hwy, hhDb]; exact heap_alloc_new wz _); have hD1 := hS.1.size; (try replace hS := hS.next hb); (try replace hJ := hJ.next hb); (try replace hA := hA.next hb); (try replace hW := hW.next hb); (try replace hD := hD.next hb); (try replace hG := hG.next hb); (try replace hK := hK.next hb); have hD : Bx w hDb (.slice ahD L.length chD) (.slice bhD T.length dhD) wy := ⟨(by rw [hhDb]; exact hD1), hD0⟩; clear hwy hhDb hD0 hD1)
        | (refine wpList_load_row_w rfl 26 _ rfl hDb rfl _ _ _ _ hD.2 Try.underlying26 rfl (size_Alg _ _) ?_)
        | (refine wpList_load_row_w rfl 26 _ rfl hGb rfl _ _ _ _ hG.2 Try.underlying26 rfl (size_Alg _ _) ?_)
        | (refine wpList_load_row_w rfl 26 _ rfl hKb rfl _ _ _ _ hK.2 Try.underlying26 rfl (size_Alg _ _) ?_)
        | (go_at_call 14; refine (equalAlgebra_same _ _ _ _ _ _ _ _ VL VT _ hA.2.1 hW.2.1 hA.2.2 hW.2.2 hVL HR.out hVT).mono ?_; rintro e wz ⟨rfl, hb⟩; (try replace hS := hS.next hb); (try replace hJ := hJ.next hb); (try replace hA := hA.next hb); (try replace hW := hW.next hb); (try replace hD := hD.next hb); (try replace hG := hG.next hb); (try replace hK := hK.next hb); (try have cG0 := hG.cells.1)))
      obtain ⟨w3, rfl⟩ : ∃ w3 : World, w3 = wz := ⟨_, rfl⟩
      have KJ := Lib.hid (show ∀ wx, Below w3.heap.size w3 wx → Cells wx jb jo t from fun wx hx => by
        obtain ⟨b', o', e, hc⟩ := (hJ.next hx).2 (fun e => by rw [e] at ht1; simp at ht1)
        simp only [Option.some.injEq, Addr.mk.injEq] at e
        rw [e.1, e.2.1]; exact hc)
      clear cG0
      go_loopw [9, 10] (fun lv xv wr => ∃ x : Int, 0 ≤ x ∧ x ≤ t.length ∧ xv = .int .i64 x ∧ Own w3.heap.size wr lv (filtTo (fxP t) x) ∧ Below w3.heap.size w3 wr) (fun _ xv _ => (7 - intOf xv).toNat)
      case atStart => exact ⟨0, by omega, by omega, rfl, Own.row (L := []) (heap_alloc_new w3 _) (Nat.le_refl _) (Nat.zero_le _), (Below.refl _ _).alloc (Nat.le_refl _) _⟩
      case round =>
        obtain ⟨x, x0, x1, rfl, hown, z⟩ := hrel
        by_cases hx : x < t.length
        · have q1 := (KJ.out _ z).at x x0 (by unfold num; omega)
          have hfl := filtTo_len (fxP t) x
          have hsu := filtTo_succ (fxP t) x x0
          obtain ⟨FL, hFL⟩ : ∃ F, F = filtTo (fxP t) x := ⟨_, rfl⟩
          rw [← hFL] at hsu hown hfl
          have hfl6 : FL.length ≤ 6 := by omega
          have hzs := z.size
          clear hFL hfl
          cases hq : (nth t x == x) with
          | false =>
            have HS := Lib.hid (show filtTo (fxP t) (x + 1) = FL by rw [hsu, if_neg (by unfold fxP; rw [hq]; decide)])
            clear hsu
            go_wp2
            go_roundw
            case rel => exact ⟨x + 1, by omega, by omega, rfl, by rw [HS.out]; exact hown, z⟩
            case measure => simp [intOf]; omega
          | true =>
            have HS := Lib.hid (show filtTo (fxP t) (x + 1) = FL ++ [x] by rw [hsu, if_pos (by unfold fxP; exact hq)])
            clear hsu
            go_wp2_with (at_builtin; refine wpList_append_own _ rfl _ _ 23 rfl w3.heap.size 3 i0 (.int .i64 0) 1 8 Try.underlying23 hi hz0 hz1 hz2 rfl (by decide) _ _ _ rfl (World.ownsRow.alloc hown _) ⟨wr.heap.size, 0, none⟩ 1 1 [.int .i64 x] rfl rfl (cell_one_new _ _ _) (fun x hx => by simp at hx; subst hx; rfl) (by unfold maxLen; omega) (by omega) (by simp; omega) ?_; intro v5 w5 hown5 hgrow5 _)
            go_roundw
            case rel => exact ⟨x + 1, by omega, by omega, rfl, by unfold Own; rw [HS.out, List.map_append, List.length_append]; exact hown5, (z.alloc z.size _).grown hgrow5 (by simp; omega) (fun q hq => (World.ownsRow.lt hown q hq).1)⟩
            case measure => simp [intOf]; omega
        · have e : x = t.length := by omega
          subst e
          rw [HFI.out] at hown
          obtain ⟨gl, cl, rfl, _, _⟩ := hown.shape.resolve_left (fun h => by have := h.2; rw [this] at hW1; simp at hW1)
          replace hS := hS.next z
          replace hA := hA.next z
          replace hD := hD.next z
          replace hG := hG.next z
          replace hJ := hJ.next z
          replace hW := hW.next z
          replace hK := hK.next z
          have KO := Lib.hid (show ∀ wx, Below wr.heap.size wr wx → Cells wx gl 0 Wl from fun wx hx => by
            obtain ⟨b', o', e, hc⟩ := (hown.below hx).rd (fun e => by rw [e] at hW1; simp at hW1)
            simp only [Option.some.injEq, Addr.mk.injEq] at e
            rw [e.1, e.2.1]; exact hc)
          obtain ⟨w5, hw5⟩ : ∃ w5 : World, w5 = wr := ⟨_, rfl⟩
          have zz : Below w5.heap.size w5 w5 := Below.refl _ _
          rw [← hw5] at hS hA hD hG hJ hW hK KO ⊢
          clear hw5 hown z KJ HI HP
          have cG0 := hG.cells.1
          go_wp2_with (first | go_skip | (refine wpList_load_row_w rfl 26 _ rfl hGb rfl _ _ _ _ hG.2 Try.underlying26 rfl (size_Alg _ _) ?_) | (go_at_call 15; refine (implValidAlgebra_any _ _ _ _ VL VT _ hA.2.1 hA.2.2).mono ?_; rw [HA3.out]; rintro e w6 ⟨rfl, hb⟩; replace zz := zz.trans (hb.mono zz.size); replace hS := hS.next hb; replace hA := hA.next hb; replace hD := hD.next hb; replace hG := hG.next hb))
          have KO6 := Lib.hid (show ∀ wx, Below w6.heap.size w6 wx → Cells wx gl 0 Wl from fun wx hx => KO.out wx (zz.trans (hx.mono zz.size)))
          have KG := Lib.hid (show ∀ wx, Below w6.heap.size w6 wx → wx.heap[hGb]? = some (.cells #[.slice ahA VL.length chA, .slice bhA VT.length dhA] 26 (0, 0)) from fun wx hx => (hG.next hx).2)
          have KD := Lib.hid (show ∀ wx, Below w6.heap.size w6 wx → wx.heap[hDb]? = some (.cells #[.slice ahD L.length chD, .slice bhD T.length dhD] 26 (0, 0)) from fun wx hx => (hD.next hx).2)
          have FIN := Lib.hid (show ∀ wx, Below w6.heap.size w6 wx → Below w.heap.size w wx from fun wx hx => (hS.next hx).1)
          have HA6 := Lib.hid hA
          have HS6 := Lib.hid hS
          clear hS hA hD hG hJ hW hK KO zz cG0
          go_loopw [11, 12] (fun iv _ wr => ∃ u : Int, 0 ≤ u ∧ u ≤ Wl.length ∧ iv = .int .i64 u ∧ Below w6.heap.size w6 wr) (fun iv _ _ => (7 - intOf iv).toNat)
          case atStart => exact ⟨0, by omega, by omega, rfl, Below.refl _ _⟩
          case round =>
            obtain ⟨u, u0, u1, rfl, z⟩ := hrel
            by_cases hu : u < Wl.length
            · go_wp2
              go_loopw [12] (fun kv wr => ∃ k : Int, 0 ≤ k ∧ k ≤ Wl.length ∧ kv = .int .i64 k ∧ Below w6.heap.size w6 wr) (fun kv _ => (7 - intOf kv).toNat)
              case atStart => exact ⟨0, by omega, by omega, rfl, z⟩
              case round =>
                clear z
                obtain ⟨k, k0, k1, rfl, z⟩ := hrel
                by_cases hk : k < Wl.length
                · have hnV : num VL = Wl.length := by have := HLW.out; unfold num; omega
                  obtain ⟨o1, ho1⟩ : ∃ o, o = imp VL VT u k := ⟨_, rfl⟩
                  obtain ⟨o2, ho2⟩ : ∃ o, o = imp L T (nth Wl u) (nth Wl k) := ⟨_, rfl⟩
                  have eo := imp_el HA3.out u k
                  rw [← ho1] at eo
                  have o10 : 0 ≤ o1 := eo.1
                  have o11 : o1 < Wl.length := by have := eo.2; omega
                  have v1 : implyI VL VT u k = o1 := by rw [imply_el HA3.out ⟨u0, by omega⟩ ⟨k0, by omega⟩, ho1]
                  have v2 : implyI L T (nth Wl u) (nth Wl k) = o2 := by rw [imply_el HA0.out (HWE.out u u0 hu) (HWE.out k k0 hk), ho2]
                  have v3 : (nth Wl o1 != o2) = false := by rw [ho1, ho2, HIMP.out u k u0 hu k0 hk]; simp
                  have KI1 := Lib.hid (fun (wx : World) (hx : Below w6.heap.size w6 wx) => ret_to (implImplyOf_any ahA bhA chA dhA VL VT u k wx (HA6.out.next hx).2.1 (HA6.out.next hx).2.2) (congrArg (Value.int .i64) v1))
                  have KI2 := Lib.hid (fun (wx : World) (hx : Below w6.heap.size w6 wx) => ret_to (implImplyOf_any ahD bhD chD dhD L T (nth Wl u) (nth Wl k) wx (HS6.out.next hx).2.1 (HS6.out.next hx).2.2) (congrArg (Value.int .i64) v2))
                  clear v1 v2 ho1 ho2 eo hnV
                  go_wp2
                  refine region_in (Below wr.heap.size wr) (by kernel_rfl) (by kernel_rfl) (Dr.below ⟨1, rfl⟩ _) fun hne => ?_
                  have r_u : ∀ s : In (Below wr.heap.size wr), s.w.cell? ⟨gl, (u).toNat, none⟩ = some (.int .i64 (nth Wl u)) := fun s => by have := (KO6.out _ (in_trans z s)).at u u0 (by unfold num; omega); rwa [Nat.zero_add] at this
                  have r_k : ∀ s : In (Below wr.heap.size wr), s.w.cell? ⟨gl, (k).toNat, none⟩ = some (.int .i64 (nth Wl k)) := fun s => by have := (KO6.out _ (in_trans z s)).at k k0 (by unfold num; omega); rwa [Nat.zero_add] at this
                  have r_o1 : ∀ s : In (Below wr.heap.size wr), s.w.cell? ⟨gl, (o1).toNat, none⟩ = some (.int .i64 (nth Wl o1)) := fun s => by have := (KO6.out _ (in_trans z s)).at o1 o10 (by unfold num; omega); rwa [Nat.zero_add] at this
                  repeat (first
                    | (go_big_quiet_want; refine quiet_load_row 26 _ rfl hGb rfl _ _ _ _ (fun w' ⟨s, hs⟩ => by rw [hs]; exact KG.out _ (in_trans z s)) Try.underlying26 rfl (size_Alg _ _) ?_; simp only [Act.put, List.setIfInBounds_toArray, List.set_cons_succ, List.set_cons_zero]; go_big_quiet_on)
                    | (go_big_quiet_want; refine quiet_load_row 26 _ rfl hDb rfl _ _ _ _ (fun w' ⟨s, hs⟩ => by rw [hs]; exact KD.out _ (in_trans z s)) Try.underlying26 rfl (size_Alg _ _) ?_; simp only [Act.put, List.setIfInBounds_toArray, List.set_cons_succ, List.set_cons_zero]; go_big_quiet_on)
                    | go_big_quiet_step ((first | (go_at_call_of 16 (Value.agg #[.slice ahA VL.length chA, .slice bhA VT.length dhA]); exact in_below _ (Nat.le_refl _) (KI1.out _ (in_trans z (by assumption)))) | (go_at_call_of 16 (Value.agg #[.slice ahD L.length chD, .slice bhD T.length dhD]); exact in_below _ (Nat.le_refl _) (KI2.out _ (in_trans z (by assumption)))))))
                  refine wpQuiet_nil ?_
                  intro s
                  have z4 := in_trans z s
                  obtain ⟨w7, hw7⟩ : ∃ x : World, x = s.w := ⟨_, rfl⟩
                  rw [← hw7] at z4 ⊢
                  clear hw7 r_u r_k r_o1
                  go_wp2
                  go_roundw
                  case rel => exact ⟨k + 1, by omega, by omega, rfl, z4⟩
                  case measure => simp [intOf]; omega
                · go_wp2
                  go_roundw
                  case rel => exact ⟨u + 1, by omega, by omega, rfl, z⟩
                  case measure => simp [intOf]; omega
            · go_wp2
              go_ret
              exact ⟨rfl, FIN.out _ z⟩
end Go.Proofs.Ytjcambkjcagcoaa
