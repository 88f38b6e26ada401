import Derived.Test.YtnmhbbekmepinaaSS5
import Derived.Test.YtnmhbbekmepinaaSS2
import Derived.Test.YtnmhbbekmepinaaG9
import Derived.Test.YtnmhbbekmepinaaPR3
namespace Go.Proofs.Ytnmhbbekmepinaa
open Go.RowKit
set_option linter.unusedVariables false

set_option maxRecDepth 100000 in
set_option maxHeartbeats 4000000 in
theorem isChain_B2 (b off cap : Nat) (L : List Int) (w : World) (hc : Cells w b off L) (hs : Small L) : Calls Try.prog 112 #[.slice (some ⟨b, off, none⟩) L.length cap] w fun e w' => e = .returned (.bool (chainB L)) ∧ Below w.heap.size w w' := by
  refine (isChain_any b off cap L w hc hs).mono fun e w' ⟨he, hw⟩ => ⟨he, by rw [← hw]; exact Below.refl _ _⟩
theorem specSizesOf_no (a b : Option Addr) (ca cb : Nat) (L : List Int) (T : List (List Int)) (w : World) (hr : Rd w a L) (hT : RdT w b T) (h : algB L T = false) : Calls Try.prog 44 #[.agg #[.slice a L.length ca, .slice b T.length cb]] w (RetSsb (sqL L T) (sqB L T) w) := by
  obtain ⟨w1, hw1⟩ : ∃ w1, w1 = w.alloc (.cells #[.slice a L.length ca, .slice b T.length cb] 27) := ⟨_, rfl⟩
  have hB : Below w.heap.size w w1 := by rw [hw1]; exact (Below.refl _ _).alloc (Nat.le_refl _) _
  have hx : w1.heap[w.heap.size]? = some (.cells #[.slice a L.length ca, .slice b T.length cb] 27 (0, 0)) := by rw [hw1]; exact heap_alloc_new w _
  have Kx := Lib.hid (show ∀ wz, Below w1.heap.size w1 wz → wz.heap[w.heap.size]? = some (.cells #[.slice a L.length ca, .slice b T.length cb] 27 (0, 0)) from fun wz h => (h.block _ (lt_of_block hx)).trans hx)
  have KR := Lib.hid (show ∀ wz, Below w1.heap.size w1 wz → Rd wz a L from fun wz h => (hr.below hB).below h)
  have KT := Lib.hid (show ∀ wz, Below w1.heap.size w1 wz → RdT wz b T from fun wz h => (hT.below hB).below h)
  have z1 : Below w1.heap.size w1 w1 := Below.refl _ _
  clear hr hT hx
  have HA := Lib.hid h
  have HV := Lib.hid (sq_na h)
  clear h
  go_enter Try.func44, Try.ntmps44
  go_wp2_with (first
    | go_skip
    | (rw [← hw1]; clear hw1)
    | (refine wpList_load_row_w rfl 27 _ rfl w.heap.size rfl _ _ _ _ (Kx.out _ (by assumption)) Try.underlying27 rfl (size_Alg _ _) ?_)
    | (go_at_call 73; refine (ret_below (validAlgebra_any _ _ _ _ L T _ (KR.out _ z1) (KT.out _ z1)) HA.out).mono ?_; rintro e w2 ⟨rfl, h2⟩; have z2 : Below w1.heap.size w1 w2 := h2; clear h2; obtain ⟨c0, c1⟩ := bx_cells (Kx.out _ z2)))
  go_ret2
  rw [HV.out.1, HV.out.2]
  exact ⟨none, 0, 0, rfl, ⟨none, 0, rfl, fun h => absurd rfl h⟩, hB.trans (z2.mono hB.size)⟩
set_option maxRecDepth 100000 in
set_option maxHeartbeats 4000000 in
theorem specSizesOf_div (a b : Option Addr) (ca cb : Nat) (L : List Int) (T : List (List Int)) (w : World) (hr : Rd w a L) (hT : RdT w b T) (h : algB L T = true) (h2 : chainB L = false ∨ hasB 1 L T = false) : Calls Try.prog 44 #[.agg #[.slice a L.length ca, .slice b T.length cb]] w (RetSsb (sqL L T) (sqB L T) w) := by
  obtain ⟨l1, l6, hsm⟩ := latB_parts (alg_lat h)
  obtain ⟨ab, ao, rfl, _⟩ := hr (fun e => by rw [e] at l1; simp [num] at l1)
  obtain ⟨tb, to, rfl, _⟩ := tab_of hT (alg_shape h) l1
  obtain ⟨w1, hw1⟩ : ∃ w1, w1 = w.alloc (.cells #[.slice (some ⟨ab, ao, none⟩) L.length ca, .slice (some ⟨tb, to, none⟩) T.length cb] 27) := ⟨_, rfl⟩
  have hB : Below w.heap.size w w1 := by rw [hw1]; exact (Below.refl _ _).alloc (Nat.le_refl _) _
  have hx : w1.heap[w.heap.size]? = some (.cells #[.slice (some ⟨ab, ao, none⟩) L.length ca, .slice (some ⟨tb, to, none⟩) T.length cb] 27 (0, 0)) := by rw [hw1]; exact heap_alloc_new w _
  have Kx := Lib.hid (show ∀ wz, Below w1.heap.size w1 wz → wz.heap[w.heap.size]? = some (.cells #[.slice (some ⟨ab, ao, none⟩) L.length ca, .slice (some ⟨tb, to, none⟩) T.length cb] 27 (0, 0)) from fun wz h => (h.block _ (lt_of_block hx)).trans hx)
  have KR := Lib.hid (show ∀ wz, Below w1.heap.size w1 wz → Rd wz (some ⟨ab, ao, none⟩) L from fun wz h => (hr.below hB).below h)
  have KT := Lib.hid (show ∀ wz, Below w1.heap.size w1 wz → RdT wz (some ⟨tb, to, none⟩) T from fun wz h => (hT.below hB).below h)
  have z1 : Below w1.heap.size w1 w1 := Below.refl _ _
  clear hr hT hx
  have KC := Lib.hid (show ∀ wz, Below w1.heap.size w1 wz → Cells wz ab ao L from fun wz hb => by
    obtain ⟨b', off', e, hc⟩ := (KR.out wz hb) (fun e => by rw [e] at l1; simp [num] at l1)
    simp only [Option.some.injEq, Addr.mk.injEq] at e
    rw [e.1, e.2.1]; exact hc)
  obtain ⟨tb', to', e1, rb, ro, rc, hTA⟩ := tab_of (KT.out _ (Below.refl _ _)) (alg_shape h) l1
  simp only [Option.some.injEq, Addr.mk.injEq] at e1
  obtain ⟨rfl, rfl, _⟩ := e1
  have KA := Lib.hid (show ∀ wz, Below w1.heap.size w1 wz → TabAt wz tb to (num L) L.length rb ro rc T from fun wz hb => hTA.below hb)
  have HS6 := Lib.hid hsm
  have n6 : (L.length : Int) ≤ 6 := l6
  have n1 : 1 ≤ (L.length : Int) := l1
  have HA := Lib.hid h
  have HV := Lib.hid (sq_div h h2)
  have HIS0 := Lib.hid (fun (w : World) (h1 : Rd w (some ⟨ab, ao, none⟩) L) (h2 : RdT w (some ⟨tb, to, none⟩) T) => specIs_1 ⟨#[100, 105, 118, 105, 115, 105, 98, 108, 101]⟩ (by decide +kernel) (by decide +kernel) (some ⟨ab, ao, none⟩) (some ⟨tb, to, none⟩) ca cb L T w h1 h2 h)
  have HBB := Lib.hid (show all2 (L.length : Int) (prQ1 L T) = hasB 1 L T from rfl)
  clear h hTA
  cases hch : chainB L with
  | false =>
    have HCH := Lib.hid hch
    clear h2
    go_enter Try.func44, Try.ntmps44
    go_wp2_with (first
      | go_skip
      | (rw [← hw1]; clear hw1)
      | (refine wpList_load_row_w rfl 27 _ rfl w.heap.size rfl _ _ _ _ (Kx.out _ (by assumption)) Try.underlying27 rfl (size_Alg _ _) ?_)
      | (go_at_call 73; refine (ret_below (validAlgebra_any _ _ _ _ L T _ (KR.out _ z1) (KT.out _ z1)) HA.out).mono ?_; rintro e w2 ⟨rfl, h2⟩; have z2 : Below w1.heap.size w1 w2 := h2; clear h2; obtain ⟨c0, c1⟩ := bx_cells (Kx.out _ z2))
      | (go_at_call 112; refine (ret_below (isChain_B2 _ _ _ L _ (KC.out _ z2) HS6.out) HCH.out).mono ?_; rintro e w3 ⟨rfl, h3⟩; have z3 := z2.trans (h3.mono z2.size); clear h3 c0 c1; obtain ⟨c0, c1⟩ := bx_cells (Kx.out _ z3)))
    go_ret2
    rw [HV.out.1, HV.out.2]
    exact ⟨none, 0, 0, rfl, ⟨none, 0, rfl, fun h => absurd rfl h⟩, hB.trans (z3.mono hB.size)⟩
  | true =>
    have HCH := Lib.hid hch
    have hd : hasB 1 L T = false := h2.resolve_left (by rw [hch]; simp)
    have HIS := Lib.hid (fun (w : World) (h1 : Rd w (some ⟨ab, ao, none⟩) L) (h2 : RdT w (some ⟨tb, to, none⟩) T) => by have := HIS0.out w h1 h2; rw [HBB.out, hd] at this; exact this)
    clear h2 hd
    go_enter Try.func44, Try.ntmps44
    go_wp2_with (first
      | go_skip
      | (rw [← hw1]; clear hw1)
      | (refine wpList_load_row_w rfl 27 _ rfl w.heap.size rfl _ _ _ _ (Kx.out _ (by assumption)) Try.underlying27 rfl (size_Alg _ _) ?_)
      | (go_at_call 73; refine (ret_below (validAlgebra_any _ _ _ _ L T _ (KR.out _ z1) (KT.out _ z1)) HA.out).mono ?_; rintro e w2 ⟨rfl, h2⟩; have z2 : Below w1.heap.size w1 w2 := h2; clear h2; obtain ⟨c0, c1⟩ := bx_cells (Kx.out _ z2))
      | (go_at_call 112; refine (ret_below (isChain_B2 _ _ _ L _ (KC.out _ z2) HS6.out) HCH.out).mono ?_; rintro e w3 ⟨rfl, h3⟩; have z3 := z2.trans (h3.mono z2.size); clear h3 c0 c1; obtain ⟨c0, c1⟩ := bx_cells (Kx.out _ z3))
      | (go_at_call 113; refine (HIS.out _ (KR.out _ z3) (KT.out _ z3)).mono ?_; rintro e w4 ⟨rfl, h4⟩; have z4 := z3.trans (h4.mono z3.size); clear h4; (try clear c0 c1)))
    go_ret2
    rw [HV.out.1, HV.out.2]
    exact ⟨none, 0, 0, rfl, ⟨none, 0, rfl, fun h => absurd rfl h⟩, hB.trans (z4.mono hB.size)⟩
end Go.Proofs.Ytnmhbbekmepinaa
