import Derived.Test.YtjcambkjcagcoaaGreatKM6
import Derived.Test.YtjcambkjcagcoaaGreatKM7
namespace Go.Proofs.YtjcambkjcagcoaaGreat
open Go.RowKit

set_option maxRecDepth 100000 in
set_option maxHeartbeats 2000000 in
/-- spec.GreatestFilters -/
theorem specGreatestFilters_any (a b : Option Addr) (ca cb : Nat) (L : List Int) (T : List (List Int)) (w : World) (hr : Rd w a L) (hT : RdT w b T) :
    Calls Tryz.prog 27 #[.agg #[.slice a L.length ca, .slice b T.length cb]] w (RetSl w.heap.size (algV L T (grs L T)) w) := by
  obtain ⟨w1, hw1⟩ : ∃ w1, w1 = w.alloc (.cells #[.slice a L.length ca, .slice b T.length cb] 26) := ⟨_, rfl⟩
  have hB : Below w.heap.size w w1 := by rw [hw1]; exact (Below.refl _ _).alloc (Nat.le_refl _) _
  have hx : w1.heap[w.heap.size]? = some (.cells #[.slice a L.length ca, .slice b T.length cb] 26 (0, 0)) := by rw [hw1]; exact heap_alloc_new w _
  obtain ⟨c0, c1⟩ := bx_cells hx
  have Kx := Lib.hid (show ∀ wz, Below w1.heap.size w1 wz → wz.heap[w.heap.size]? = some (.cells #[.slice a L.length ca, .slice b T.length cb] 26 (0, 0)) from fun wz h => (h.block _ (lt_of_block hx)).trans hx)
  have KR := Lib.hid (show ∀ wz, Below w1.heap.size w1 wz → Rd wz a L from fun wz h => (hr.below hB).below h)
  have KT := Lib.hid (show ∀ wz, Below w1.heap.size w1 wz → RdT wz b T from fun wz h => (hT.below hB).below h)
  have z1 : Below w1.heap.size w1 w1 := Below.refl _ _
  clear hr hT hx
  cases hA : algB L T with
  | false =>
    have hv := Lib.hid (algV_f (V := grs L T) hA)
    have HA := Lib.hid hA
    clear hA
    go_enter Tryz.func27, Tryz.ntmps27
    go_wp2_with (first
      | go_skip
      | (rw [← hw1]; clear hw1)
      | (refine wpList_load_row_w rfl 26 _ rfl w.heap.size rfl _ _ _ _ (Kx.out _ (by assumption)) Tryz.underlying26 rfl (size_Alg _ _) ?_)
      | (go_at_call 46; refine (ret_below (validAlgebra_any _ _ _ _ L T _ (KR.out _ z1) (KT.out _ z1)) HA.out).mono ?_; rintro e w2 ⟨rfl, h2⟩; have z2 : Below w1.heap.size w1 w2 := h2; clear h2))
    go_ret
    rw [hv.out]
    exact ⟨none, 0, rfl, Own.nothing _ _, hB.trans (z2.mono hB.size)⟩
  | true =>
    have hv := Lib.hid (algV_t (V := grs L T) hA)
    have HA := Lib.hid hA
    clear hA
    go_enter Tryz.func27, Tryz.ntmps27
    go_wp2_with (first
      | go_skip
      | (rw [← hw1]; clear hw1)
      | (refine wpList_load_row_w rfl 26 _ rfl w.heap.size rfl _ _ _ _ (Kx.out _ (by assumption)) Tryz.underlying26 rfl (size_Alg _ _) ?_)
      | (go_at_call 46; refine (ret_below (validAlgebra_any _ _ _ _ L T _ (KR.out _ z1) (KT.out _ z1)) HA.out).mono ?_; rintro e w2 ⟨rfl, h2⟩; have z2 : Below w1.heap.size w1 w2 := h2; clear h2)
      | (go_at_call 76; refine (specGreatest_any _ _ _ _ L T _ (KR.out _ z2) (KT.out _ z2) HA.out).mono ?_; rintro e w3 ⟨a3, c3, rfl, o3, h3⟩; have z3 : Below w1.heap.size w1 w3 := z2.trans (h3.mono z2.size)))
    go_ret
    rw [hv.out]
    exact ⟨a3, c3, rfl, o3.from (by have := hB.size; have := z2.size; omega), hB.trans (z3.mono hB.size)⟩
set_option maxRecDepth 100000 in
set_option maxHeartbeats 2000000 in
/-- spec.IsLocal -/
theorem specIsLocal_any (a b : Option Addr) (ca cb : Nat) (L : List Int) (T : List (List Int)) (w : World) (hr : Rd w a L) (hT : RdT w b T) :
    Calls Tryz.prog 40 #[.agg #[.slice a L.length ca, .slice b T.length cb]] w fun e w' => e = .returned (.bool (algB L T && (((grs L T).length : Int) == 1))) ∧ Below w.heap.size w w' := by
  obtain ⟨w1, hw1⟩ : ∃ w1, w1 = w.alloc (.cells #[.slice a L.length ca, .slice b T.length cb] 26) := ⟨_, rfl⟩
  have hB : Below w.heap.size w w1 := by rw [hw1]; exact (Below.refl _ _).alloc (Nat.le_refl _) _
  have hx : w1.heap[w.heap.size]? = some (.cells #[.slice a L.length ca, .slice b T.length cb] 26 (0, 0)) := by rw [hw1]; exact heap_alloc_new w _
  obtain ⟨c0, c1⟩ := bx_cells hx
  have Kx := Lib.hid (show ∀ wz, Below w1.heap.size w1 wz → wz.heap[w.heap.size]? = some (.cells #[.slice a L.length ca, .slice b T.length cb] 26 (0, 0)) from fun wz h => (h.block _ (lt_of_block hx)).trans hx)
  have KR := Lib.hid (show ∀ wz, Below w1.heap.size w1 wz → Rd wz a L from fun wz h => (hr.below hB).below h)
  have KT := Lib.hid (show ∀ wz, Below w1.heap.size w1 wz → RdT wz b T from fun wz h => (hT.below hB).below h)
  have z1 : Below w1.heap.size w1 w1 := Below.refl _ _
  clear hr hT hx
  cases hA : algB L T with
  | false =>
    have HA := Lib.hid hA
    clear hA
    go_enter Tryz.func40, Tryz.ntmps40
    go_wp2_with (first
      | go_skip
      | (rw [← hw1]; clear hw1)
      | (refine wpList_load_row_w rfl 26 _ rfl w.heap.size rfl _ _ _ _ (Kx.out _ (by assumption)) Tryz.underlying26 rfl (size_Alg _ _) ?_)
      | (go_at_call 46; refine (ret_below (validAlgebra_any _ _ _ _ L T _ (KR.out _ z1) (KT.out _ z1)) HA.out).mono ?_; rintro e w2 ⟨rfl, h2⟩; have z2 : Below w1.heap.size w1 w2 := h2; clear h2))
    go_ret
    exact ⟨rfl, hB.trans (z2.mono hB.size)⟩
  | true =>
    have HA := Lib.hid hA
    clear hA
    go_enter Tryz.func40, Tryz.ntmps40
    go_wp2_with (first
      | go_skip
      | (rw [← hw1]; clear hw1)
      | (refine wpList_load_row_w rfl 26 _ rfl w.heap.size rfl _ _ _ _ (Kx.out _ (by assumption)) Tryz.underlying26 rfl (size_Alg _ _) ?_)
      | (go_at_call 46; refine (ret_below (validAlgebra_any _ _ _ _ L T _ (KR.out _ z1) (KT.out _ z1)) HA.out).mono ?_; rintro e w2 ⟨rfl, h2⟩; have z2 : Below w1.heap.size w1 w2 := h2; clear h2)
      | (go_at_call 76; refine (specGreatest_any _ _ _ _ L T _ (KR.out _ z2) (KT.out _ z2) HA.out).mono ?_; rintro e w3 ⟨a3, c3, rfl, o3, h3⟩; have z3 : Below w1.heap.size w1 w3 := z2.trans (h3.mono z2.size)))
    go_ret
    exact ⟨rfl, hB.trans (z3.mono hB.size)⟩
set_option maxRecDepth 100000 in
set_option maxHeartbeats 2000000 in
/-- spec.RadicalOf -/
theorem specRadicalOf_any (a b : Option Addr) (ca cb : Nat) (L : List Int) (T : List (List Int)) (w : World) (hr : Rd w a L) (hT : RdT w b T) :
    Calls Tryz.prog 32 #[.agg #[.slice a L.length ca, .slice b T.length cb]] w fun e w' => e = .returned (.int .i64 (radI L T)) ∧ Below w.heap.size w w' := by
  obtain ⟨w1, hw1⟩ : ∃ w1, w1 = w.alloc (.cells #[.slice a L.length ca, .slice b T.length cb] 26) := ⟨_, rfl⟩
  have hB : Below w.heap.size w w1 := by rw [hw1]; exact (Below.refl _ _).alloc (Nat.le_refl _) _
  have hx : w1.heap[w.heap.size]? = some (.cells #[.slice a L.length ca, .slice b T.length cb] 26 (0, 0)) := by rw [hw1]; exact heap_alloc_new w _
  obtain ⟨c0, c1⟩ := bx_cells hx
  have Kx := Lib.hid (show ∀ wz, Below w1.heap.size w1 wz → wz.heap[w.heap.size]? = some (.cells #[.slice a L.length ca, .slice b T.length cb] 26 (0, 0)) from fun wz h => (h.block _ (lt_of_block hx)).trans hx)
  have KR := Lib.hid (show ∀ wz, Below w1.heap.size w1 wz → Rd wz a L from fun wz h => (hr.below hB).below h)
  have KT := Lib.hid (show ∀ wz, Below w1.heap.size w1 wz → RdT wz b T from fun wz h => (hT.below hB).below h)
  have z1 : Below w1.heap.size w1 w1 := Below.refl _ _
  clear hr hT hx
  cases hA : algB L T with
  | false =>
    have hv := Lib.hid (show radI L T = -1 by unfold radI; rw [hA]; rfl)
    have HA := Lib.hid hA
    clear hA
    go_enter Tryz.func32, Tryz.ntmps32
    go_wp2_with (first
      | go_skip
      | (rw [← hw1]; clear hw1)
      | (refine wpList_load_row_w rfl 26 _ rfl w.heap.size rfl _ _ _ _ (Kx.out _ (by assumption)) Tryz.underlying26 rfl (size_Alg _ _) ?_)
      | (go_at_call 46; refine (ret_below (validAlgebra_any _ _ _ _ L T _ (KR.out _ z1) (KT.out _ z1)) HA.out).mono ?_; rintro e w2 ⟨rfl, h2⟩; have z2 : Below w1.heap.size w1 w2 := h2; clear h2))
    go_ret
    exact ⟨ret_int (by rw [hv.out]), hB.trans (z2.mono hB.size)⟩
  | true =>
    have n1 := (lat_len (alg_lat hA)).1
    have n6 := (lat_len (alg_lat hA)).2
    have l1 : (1 : Int) ≤ L.length := n1
    have l6 : (L.length : Int) ≤ 6 := n6
    obtain ⟨p1, p64⟩ := pw_6 n6
    have pe : pw (L.length : Int) = pw (num L) := rfl
    have k1 : IntKind.i64.wrap (pw (L.length : Int) - 1) = pw (L.length : Int) - 1 := IntWalk.i64_in _ (by omega)
    obtain ⟨V, hV⟩ : ∃ V, V = grs L T := ⟨_, rfl⟩
    have hlen : V.length ≤ 64 := by rw [hV]; exact grs_64 (alg_lat hA)
    have HM := Lib.hid (show ∀ i : Int, 0 ≤ i → i < V.length → 0 ≤ nth V i ∧ nth V i ≤ 63 from fun i i0 i1 => by rw [hV] at i1 ⊢; exact grs_63 (alg_lat hA) _ (nth_mem _ i0 i1))
    have hv := Lib.hid (show radI L T = com (num L) V by rw [hV]; unfold radI; rw [hA]; rfl)
    have HF := Lib.hid (show ∀ (a b : Option Addr) (ca cb : Nat) (w : World), Rd w a L → RdT w b T → Calls Tryz.prog 76 #[.agg #[.slice a L.length ca, .slice b T.length cb]] w (RetSl w.heap.size V w) from fun a b ca cb w h1 h2 => by rw [hV]; exact specGreatest_any a b ca cb L T w h1 h2 hA)
    have HA := Lib.hid hA
    clear hA hV
    go_enter Tryz.func32, Tryz.ntmps32
    go_wp2_with (first
      | go_skip
      | (rw [← hw1]; clear hw1)
      | (refine wpList_load_row_w rfl 26 _ rfl w.heap.size rfl _ _ _ _ (Kx.out _ (by assumption)) Tryz.underlying26 rfl (size_Alg _ _) ?_)
      | (go_at_call 46; refine (ret_below (validAlgebra_any _ _ _ _ L T _ (KR.out _ z1) (KT.out _ z1)) HA.out).mono ?_; rintro e w2 ⟨rfl, h2⟩; have z2 : Below w1.heap.size w1 w2 := h2; clear h2; obtain ⟨e0, e1⟩ := bx_cells (Kx.out _ z2))
      | (go_at_call 78; refine (power_any _ _ (by omega) (by omega)).mono ?_; rintro e w4 ⟨rfl, rfl⟩)
      | (go_at_call 76; refine (HF.out _ _ _ _ _ (KR.out _ z2) (KT.out _ z2)).mono ?_; rintro e w3 ⟨a3, c3, rfl, o3, h3⟩))
    have r3 := o3.rd
    have z3 : Below w1.heap.size w1 w3 := z2.trans (h3.mono z2.size)
    clear o3 h3 z2 e0 e1
    go_loopw [3, 5] (fun o c wr => ∃ i : Int, 0 ≤ i ∧ i ≤ V.length ∧ c = .int .i64 i ∧ o = .int .i64 (com (num L) (V.take i.toNat)) ∧ w3 = wr) (fun _ c _ => (64 - intOf c).toNat)
    case atStart => exact ⟨0, by omega, by omega, rfl, by first | rfl | (rw [pe]; rfl), rfl⟩
    case round =>
      obtain ⟨i, i0, i1, rfl, rfl, rfl⟩ := hrel
      by_cases hi : i < V.length
      · obtain ⟨vb, vo, rfl, hcl⟩ := r3 (by intro e; rw [e] at hi; simp at hi; omega)
        have d0 := hcl.at i i0 hi
        obtain ⟨m0, m1⟩ := HM.out i i0 hi
        obtain ⟨q0, q1⟩ := com_range (num L) (V.take i.toNat)
        have hb2 := bits_and_i64 (com (num L) (V.take i.toNat)) (nth V i) q0 (by omega) m0 (by omega)
        have hsu := Lib.hid (show com (num L) (V.take (i + 1).toNat) = an (com (num L) (V.take i.toNat)) (nth V i) by rw [take_next V i0 hi, com_succ])
        clear hcl
        go_wp2
        go_roundw
        case rel => exact ⟨i + 1, by omega, by omega, rfl, by rw [hsu.out], by trivial⟩
        case measure => simp [intOf]; omega
      · have ht := take_end V (show (V.length : Int) ≤ i by omega)
        rw [ht]
        go_wp2
        go_ret
        exact ⟨ret_int (by rw [hv.out]), hB.trans (z3.mono hB.size)⟩
end Go.Proofs.YtjcambkjcagcoaaGreat
