import Derived.Test.YtmapofenghjinaaP7
import Derived.Test.YtmapofenghjinaaG11
import Derived.Test.YtmapofenghjinaaD2
import Derived.Test.YtmapofenghjinaaL6
namespace Go.Proofs.Ytmapofenghjinaa
open Go.RowKit
theorem enters_toA_StackAlgebras : Enters 17 := enters_of Try.func17 (by kernel_rfl) rfl
theorem enters_sp_StackAlgebras : Enters 27 := enters_of Try.func27 (by kernel_rfl) rfl
theorem enters_im_StackAlgebras : Enters 28 := enters_of Try.func28 (by kernel_rfl) rfl
set_option maxRecDepth 100000 in
set_option maxHeartbeats 8000000 in
/-- the law -/
theorem lawStackAlgebras (a0 b0 : Option Addr) (ca0 cb0 : Nat) (L0 : List Int) (T0 : List (List Int)) (a1 b1 : Option Addr) (ca1 cb1 : Nat) (L1 : List Int) (T1 : List (List Int)) (w : World) (hr0 : Rd w a0 L0) (ht0 : RdT w b0 T0) (hL0 : L0.length ≤ maxLen) (hn0 : T0.length ≤ maxLen) (hm0 : ∀ j : Nat, j < T0.length → (rowAt T0 j).length ≤ maxLen) (hr1 : Rd w a1 L1) (ht1 : RdT w b1 T1) (hL1 : L1.length ≤ maxLen) (hn1 : T1.length ≤ maxLen) (hm1 : ∀ j : Nat, j < T1.length → (rowAt T1 j).length ≤ maxLen) :
    Calls Try.prog 5 #[.agg #[.slice a0 L0.length ca0, .slice b0 T0.length cb0], .agg #[.slice a1 L1.length ca1, .slice b1 T1.length cb1]] w fun e w' => e = .returned (.bool true) ∧ Below w.heap.size w w' := by
  unfold maxLen at *
  have HM0 := Lib.hid (show ∀ j : Nat, j < T0.length → ((rowAt T0 j).length : Int) ≤ 9223372036854775807 from fun j hj => by have := hm0 j hj; omega)
  have hLL0 : (L0.length : Int) ≤ 9223372036854775807 := by omega
  have hnn0 : (T0.length : Int) ≤ 9223372036854775807 := by omega
  have HM1 := Lib.hid (show ∀ j : Nat, j < T1.length → ((rowAt T1 j).length : Int) ≤ 9223372036854775807 from fun j hj => by have := hm1 j hj; omega)
  have hLL1 : (L1.length : Int) ≤ 9223372036854775807 := by omega
  have hnn1 : (T1.length : Int) ≤ 9223372036854775807 := by omega
  obtain ⟨w1, hw1⟩ : ∃ w1, w1 = ((w.alloc (.cells #[.slice a0 L0.length ca0, .slice b0 T0.length cb0] 25)).alloc (.cells #[.slice a1 L1.length ca1, .slice b1 T1.length cb1] 25)) := ⟨_, rfl⟩
  have hB : Below w.heap.size w w1 := by rw [hw1]; exact (((Below.refl _ _).alloc (Nat.le_refl _) _).alloc (by simp; try omega) _)
  have hx0 : w1.heap[w.heap.size]? = some (.cells #[.slice a0 L0.length ca0, .slice b0 T0.length cb0] 25 (0, 0)) := by rw [hw1, Below.heap_alloc _ _ _ (by simp)]; exact heap_alloc_new w _
  have Kx0 := Lib.hid (show ∀ wz, Below w1.heap.size w1 wz → wz.heap[w.heap.size]? = some (.cells #[.slice a0 L0.length ca0, .slice b0 T0.length cb0] 25 (0, 0)) from fun wz h => (h.block _ (lt_of_block hx0)).trans hx0)
  have HR0 := Lib.hid (hr0.below hB)
  have HT0 := Lib.hid (ht0.below hB)
  have hx1 : w1.heap[(w.heap.size + 1)]? = some (.cells #[.slice a1 L1.length ca1, .slice b1 T1.length cb1] 25 (0, 0)) := by rw [hw1]; exact heap_alloc2_new _ _ _
  have Kx1 := Lib.hid (show ∀ wz, Below w1.heap.size w1 wz → wz.heap[(w.heap.size + 1)]? = some (.cells #[.slice a1 L1.length ca1, .slice b1 T1.length cb1] 25 (0, 0)) from fun wz h => (h.block _ (lt_of_block hx1)).trans hx1)
  have HR1 := Lib.hid (hr1.below hB)
  have HT1 := Lib.hid (ht1.below hB)
  have z0 : Below w1.heap.size w1 w1 := Below.refl _ _
  have TI0 := Lib.hid (st_ti L0 T0 L1 T1 : Ti (stL L0 T0 L1 T1) (stT L0 T0 L1 T1))
  obtain ⟨VL0, hVL0⟩ : ∃ V, V = stL L0 T0 L1 T1 := ⟨_, rfl⟩
  obtain ⟨VT0, hVT0⟩ : ∃ V, V = stT L0 T0 L1 T1 := ⟨_, rfl⟩
  rw [← hVL0, ← hVT0] at TI0
  obtain ⟨V1, hV1⟩ : ∃ V, V = stOk L0 T0 L1 T1 := ⟨_, rfl⟩
  have hne1 : (V1 != V1) = false := by simp
  have HS := Lib.hid (show ∀ (a0 : Option Addr) (n0 c0 : Nat) (b0 : Option Addr) (m0 d0 : Nat) (a1 : Option Addr) (n1 c1 : Nat) (b1 : Option Addr) (m1 d1 : Nat) (w : World), RA w (.slice a0 n0 c0) (.slice b0 m0 d0) L0 T0 → RA w (.slice a1 n1 c1) (.slice b1 m1 d1) L1 T1 → Calls Try.prog 27 #[.agg #[.slice a0 n0 c0, .slice b0 m0 d0], .agg #[.slice a1 n1 c1, .slice b1 m1 d1]] w (RetSAb VL0 VT0 V1 w) from fun a0 n0 c0 b0 m0 d0 a1 n1 c1 b1 m1 d1 w h0 h1 => by obtain ⟨xa0, xc0, xb0, xd0, e0, f0, r0, t0⟩ := h0; obtain ⟨xa1, xc1, xb1, xd1, e1, f1, r1, t1⟩ := h1; rw [e0, f0, e1, f1, hVL0, hVT0, hV1]; exact specStackAlgebras_any xa0 xb0 xc0 xd0 L0 T0 xa1 xb1 xc1 xd1 L1 T1 w r0 t0 r1 t1 )
  have HI := Lib.hid (show ∀ (a0 : Option Addr) (n0 c0 : Nat) (b0 : Option Addr) (m0 d0 : Nat) (a1 : Option Addr) (n1 c1 : Nat) (b1 : Option Addr) (m1 d1 : Nat) (w : World), RA w (.slice a0 n0 c0) (.slice b0 m0 d0) L0 T0 → RA w (.slice a1 n1 c1) (.slice b1 m1 d1) L1 T1 → Calls Try.prog 28 #[.agg #[.slice a0 n0 c0, .slice b0 m0 d0], .agg #[.slice a1 n1 c1, .slice b1 m1 d1]] w (RetGAb VL0 VT0 V1 w) from fun a0 n0 c0 b0 m0 d0 a1 n1 c1 b1 m1 d1 w h0 h1 => by obtain ⟨xa0, xc0, xb0, xd0, e0, f0, r0, t0⟩ := h0; obtain ⟨xa1, xc1, xb1, xd1, e1, f1, r1, t1⟩ := h1; rw [e0, f0, e1, f1, hVL0, hVT0, hV1]; exact implStackAlgebras_any xa0 xb0 xc0 xd0 L0 T0 xa1 xb1 xc1 xd1 L1 T1 w r0 t0 r1 t1 )
  clear hVL0 hVT0 hV1 hm0 ht0 hx0 hm1 ht1 hx1 hr0 hr1
  go_enter Try.func5, Try.ntmps5
  go_wp2_with (first | (rw [← hw1]; clear hw1) | (refine wpList_load_row_w rfl 25 _ rfl w.heap.size rfl _ _ _ _ (Kx0.out _ (by first | assumption | exact (by assumption : Below _ w1 _).alloc (Below.size (by assumption)) _)) Try.underlying25 rfl (size_LAlg _ _) ?_) | (refine wpList_load_row_w rfl 25 _ rfl (w.heap.size + 1) rfl _ _ _ _ (Kx1.out _ (by first | assumption | exact (by assumption : Below _ w1 _).alloc (Below.size (by assumption)) _)) Try.underlying25 rfl (size_LAlg _ _) ?_))
  refine (szAlgebra_any _ _ _ _ L0 T0 1048576 _ (HT0.out.below z0) (by omega) (by omega) hLL0 HM0.out hnn0).mono ?_
  rintro e s0w ⟨⟨v0, rfl, p0, q0, r0⟩, hbs0⟩
  have z21 := z0.trans (hbs0.mono z0.size)
  have n22 := hbs0.size
  clear z0 hbs0
  by_cases hv0 : v0 < 0
  · go_wp2
    go_ret
    exact ⟨rfl, hB.trans (z21.mono hB.size)⟩
  obtain ⟨s1, s2, s3⟩ := r0 (by omega)
  have Sm0 := Lib.hid (show Sm L0 T0 from ⟨by omega, by omega, fun j hj => by have := s3 j hj; omega⟩)
  obtain ⟨wl0, wu0⟩ := wtA_le Sm0.out
  clear s1 s2 s3 r0
  go_wp2_with (first | go_skip | (refine wpList_load_row_w rfl 25 _ rfl w.heap.size rfl _ _ _ _ (Kx0.out _ (by first | assumption | exact (by assumption : Below _ w1 _).alloc (Below.size (by assumption)) _)) Try.underlying25 rfl (size_LAlg _ _) ?_) | (refine wpList_load_row_w rfl 25 _ rfl (w.heap.size + 1) rfl _ _ _ _ (Kx1.out _ (by first | assumption | exact (by assumption : Below _ w1 _).alloc (Below.size (by assumption)) _)) Try.underlying25 rfl (size_LAlg _ _) ?_))
  refine (szAlgebra_any _ _ _ _ L1 T1 v0 _ (HT1.out.below z21) (by omega) (by omega) hLL1 HM1.out hnn1).mono ?_
  rintro e s1w ⟨⟨v1, rfl, p1, q1, r1⟩, hbs1⟩
  have z23 := z21.trans (hbs1.mono z21.size)
  have n24 := hbs1.size
  clear z21 hbs1
  by_cases hv1 : v1 < 0
  · go_wp2
    go_ret
    exact ⟨rfl, hB.trans (z23.mono hB.size)⟩
  obtain ⟨s1, s2, s3⟩ := r1 (by omega)
  have Sm1 := Lib.hid (show Sm L1 T1 from ⟨by omega, by omega, fun j hj => by have := s3 j hj; omega⟩)
  obtain ⟨wl1, wu1⟩ := wtA_le Sm1.out
  clear s1 s2 s3 r1
  go_wp2_with (first | go_skip | (refine wpList_load_row_w rfl 25 _ rfl w.heap.size rfl _ _ _ _ (Kx0.out _ (by first | assumption | exact (by assumption : Below _ w1 _).alloc (Below.size (by assumption)) _)) Try.underlying25 rfl (size_LAlg _ _) ?_) | (refine wpList_load_row_w rfl 25 _ rfl (w.heap.size + 1) rfl _ _ _ _ (Kx1.out _ (by first | assumption | exact (by assumption : Below _ w1 _).alloc (Below.size (by assumption)) _)) Try.underlying25 rfl (size_LAlg _ _) ?_))
  refine wp_region_any (by kernel_rfl) ?_
  refine any_of_C (C := fun wz => Below w1.heap.size w1 wz) _ _ _ _ ?_
  refine anyC_take (i := 0) (v := .agg #[.slice a0 L0.length ca0, .slice b0 T0.length cb0]) rfl (by kernel_rfl) (by kernel_rfl) (by kernel_rfl) (fun _ _ _ h => h) (.inl ⟨rfl, fun wz hz => runs_load (C := fun wz => Below w1.heap.size w1 wz) 25 _ rfl w.heap.size rfl _ _ _ _ (fun w hw => Kx0.out _ hw) Try.underlying25 rfl (size_LAlg _ _) wz hz⟩) ?_
  refine anyC_take (i := 2) (v := .agg #[.slice a1 L1.length ca1, .slice b1 T1.length cb1]) rfl (by kernel_rfl) (by kernel_rfl) (by kernel_rfl) (fun _ _ _ h => h) (.inl ⟨rfl, fun wz hz => runs_load (C := fun wz => Below w1.heap.size w1 wz) 25 _ rfl (w.heap.size + 1) rfl _ _ _ _ (fun w hw => Kx1.out _ hw) Try.underlying25 rfl (size_LAlg _ _) wz hz⟩) ?_
  have z25 := z23.trans (show Below _ s1w (s1w.drewN 1) from Dr.below ⟨1, rfl⟩ _)
  clear z23
  refine anyC_call (i := 1) (o := _) (f := 17) (args := #[.agg #[.slice a0 L0.length ca0, .slice b0 T0.length cb0]]) rfl (by kernel_rfl) rfl (by apply runs_call1 (he := enters_toA_StackAlgebras) <;> rfl) z25 ?_
  refine (toAlgebra_G _ _ _ _ L0 T0 _ (HR0.out.below z25) (HT0.out.below z25) Sm0.out).mono ?_
  rintro e m0w ⟨m0a, m0n, m0c, m0b, m0m, m0d, rfl, gm0, hbm0⟩
  have z26 := z25.trans (hbm0.mono z25.size)
  have n27 := hbm0.size
  clear hbm0
  refine ⟨_, rfl, ?_⟩
  refine anyC_call (i := 3) (o := _) (f := 17) (args := #[.agg #[.slice a1 L1.length ca1, .slice b1 T1.length cb1]]) rfl (by kernel_rfl) rfl (by apply runs_call1 (he := enters_toA_StackAlgebras) <;> rfl) z26 ?_
  refine (toAlgebra_G _ _ _ _ L1 T1 _ (HR1.out.below z26) (HT1.out.below z26) Sm1.out).mono ?_
  rintro e m1w ⟨m1a, m1n, m1c, m1b, m1m, m1d, rfl, gm1, hbm1⟩
  have z28 := z26.trans (hbm1.mono z26.size)
  have n29 := hbm1.size
  replace gm0 := gm0.below hbm1
  clear hbm1
  refine ⟨_, rfl, ?_⟩
  refine anyC_call (i := 4) (o := _) (f := 27) (args := #[.agg #[.slice m0a m0n m0c, .slice m0b m0m m0d], .agg #[.slice m1a m1n m1c, .slice m1b m1m m1d]]) rfl (by kernel_rfl) rfl (by apply runs_call2 (he := enters_sp_StackAlgebras) <;> rfl) z28 ?_
  refine (HS.out _ _ _ _ _ _ _ _ _ _ _ _ _ gm0.rd gm1.rd).mono ?_
  rintro e wS ⟨S0a, S0n, S0c, S0b, S0m, S0d, rfl, S0g, hbS⟩
  have z30 := z28.trans (hbS.mono z28.size)
  have n31 := hbS.size
  clear hbS gm0 gm1
  refine ⟨_, rfl, ?_⟩
  refine anyC_take (i := 5) (v := .tuple #[.agg #[.slice S0a S0n S0c, .slice S0b S0m S0d], .bool V1]) rfl (by kernel_rfl) (by kernel_rfl) (by kernel_rfl) (fun _ _ _ h => h) (.inl ⟨rfl, fun wz hz => by apply runs_move <;> rfl⟩) ?_
  refine anyC_take (i := 6) (v := .agg #[.slice S0a S0n S0c, .slice S0b S0m S0d]) rfl (by kernel_rfl) (by kernel_rfl) (by kernel_rfl) (fun _ _ _ h => h) (.inl ⟨rfl, fun wz hz => by apply runs_extract <;> rfl⟩) ?_
  refine anyC_take (i := 7) (v := .bool V1) rfl (by kernel_rfl) (by kernel_rfl) (by kernel_rfl) (fun _ _ _ h => h) (.inl ⟨rfl, fun wz hz => by apply runs_extract <;> rfl⟩) ?_
  refine anyC_take (i := 10) (v := .bool V1) rfl (by kernel_rfl) (by kernel_rfl) (by kernel_rfl) (fun _ _ _ h => h) (.inl ⟨rfl, fun wz hz => by apply runs_assign <;> rfl⟩) ?_
  refine anyC_law (i := 8) rfl (by kernel_rfl) z30 ?_
  go_wp2_with fail
  refine anyC_law (i := 9) rfl (by kernel_rfl) (z30.alloc z30.size _) ?_
  refine wpList_store_row rfl 28 _ _ rfl wS.heap.size #[.slice S0a S0n S0c, .slice S0b S0m S0d] rfl rfl _ _ (heap_alloc_new wS (.cells #[.slice none 0 0, .slice none 0 0] 28)) (size_Alg _ _) rfl (one_sl2 _ _ _ _ _ _) ?_
  rw [World.setRow_alloc_new]
  obtain ⟨gS0, hgS0⟩ : ∃ g, g = wS.heap.size := ⟨_, rfl⟩
  obtain ⟨wSb, hwSb⟩ : ∃ x, x = wS.alloc (.cells #[.slice S0a S0n S0c, .slice S0b S0m S0d] 28) := ⟨_, rfl⟩
  rw [← hwSb, ← hgS0]
  have hbwSb : Below wS.heap.size wS wSb := (by rw [hwSb]
  exact (Below.refl _ _).alloc (Nat.le_refl _) _)
  have hxgS0 : wSb.heap[gS0]? = some (.cells #[.slice S0a S0n S0c, .slice S0b S0m S0d] 28 (0, 0)) := (by rw [hwSb, hgS0]
  exact heap_alloc_new wS _)
  have ngS0 : wS.heap.size ≤ gS0 := Nat.le_of_eq hgS0.symm
  have mgS0 : gS0 < wSb.heap.size := lt_of_block hxgS0
  have KS := Lib.hid (show ∀ wz, Below wSb.heap.size wSb wz → wz.heap[gS0]? = some (.cells #[.slice S0a S0n S0c, .slice S0b S0m S0d] 28 (0, 0)) from fun wz h => (h.block _ (lt_of_block hxgS0)).trans hxgS0)
  clear hwSb hgS0 hxgS0
  have z32 := z30.trans (hbwSb.mono z30.size)
  have Sz0 : Below wSb.heap.size wSb wSb := Below.refl _ _
  unfold wpList
  refine anyC_done (by kernel_rfl) z32 ?_ _
  simp only [List.getElem_toArray, List.getElem_cons_zero, List.getElem_cons_succ, Act.put, List.setIfInBounds_toArray, List.set_cons_succ, List.set_cons_zero]
  have HS0 := Lib.hid (S0g.below hbwSb)
  clear S0g
  clear hbwSb
  go_wp2_with (first | go_skip | (refine wpList_load_row_w rfl 25 _ rfl w.heap.size rfl _ _ _ _ (Kx0.out _ (by first | assumption | exact (by assumption : Below _ w1 _).alloc (Below.size (by assumption)) _)) Try.underlying25 rfl (size_LAlg _ _) ?_) | (refine wpList_load_row_w rfl 25 _ rfl (w.heap.size + 1) rfl _ _ _ _ (Kx1.out _ (by first | assumption | exact (by assumption : Below _ w1 _).alloc (Below.size (by assumption)) _)) Try.underlying25 rfl (size_LAlg _ _) ?_) | (refine wpList_load_row_w rfl 28 _ rfl gS0 rfl _ _ _ _ (KS.out _ (by assumption)) Try.underlying28 rfl (size_Alg _ _) ?_))
  have nlo0 : w1.heap.size ≤ wSb.heap.size := z32.size
  refine (toAlgebra_G _ _ _ _ L0 T0 _ (HR0.out.below z32) (HT0.out.below z32) Sm0.out).mono ?_
  rintro e x0w ⟨x0a, x0n, x0c, x0b, x0m, x0d, rfl, gx0, hbx0⟩
  have z33 := z32.trans (hbx0.mono z32.size)
  have Sz33 := Sz0.trans (hbx0.mono Sz0.size)
  have n34 := hbx0.size
  clear hbx0
  go_wp2_with (first | go_skip | (refine wpList_load_row_w rfl 25 _ rfl w.heap.size rfl _ _ _ _ (Kx0.out _ (by first | assumption | exact (by assumption : Below _ w1 _).alloc (Below.size (by assumption)) _)) Try.underlying25 rfl (size_LAlg _ _) ?_) | (refine wpList_load_row_w rfl 25 _ rfl (w.heap.size + 1) rfl _ _ _ _ (Kx1.out _ (by first | assumption | exact (by assumption : Below _ w1 _).alloc (Below.size (by assumption)) _)) Try.underlying25 rfl (size_LAlg _ _) ?_) | (refine wpList_load_row_w rfl 28 _ rfl gS0 rfl _ _ _ _ (KS.out _ (by assumption)) Try.underlying28 rfl (size_Alg _ _) ?_))
  obtain ⟨b0, hb0⟩ : ∃ g, g = x0w.heap.size := ⟨_, rfl⟩
  obtain ⟨X0w, hX0w⟩ : ∃ x, x = x0w.alloc (.cells #[.slice x0a x0n x0c, .slice x0b x0m x0d] 28) := ⟨_, rfl⟩
  rw [← hX0w, ← hb0]
  have hbX0w : Below x0w.heap.size x0w X0w := (by rw [hX0w]
  exact (Below.refl _ _).alloc (Nat.le_refl _) _)
  have hxb0 : X0w.heap[b0]? = some (.cells #[.slice x0a x0n x0c, .slice x0b x0m x0d] 28 (0, 0)) := (by rw [hX0w, hb0]
  exact heap_alloc_new x0w _)
  have nb0 : x0w.heap.size ≤ b0 := Nat.le_of_eq hb0.symm
  have mb0 : b0 < X0w.heap.size := lt_of_block hxb0
  have KX0 := Lib.hid (show ∀ wz, Below X0w.heap.size X0w wz → wz.heap[b0]? = some (.cells #[.slice x0a x0n x0c, .slice x0b x0m x0d] 28 (0, 0)) from fun wz h => (h.block _ (lt_of_block hxb0)).trans hxb0)
  clear hX0w hb0 hxb0
  have GX0 := Lib.hid (gx0.below hbX0w)
  clear gx0
  have z35 := z33.trans (hbX0w.mono z33.size)
  have Sz35 := Sz33.trans (hbX0w.mono Sz33.size)
  have n36 := hbX0w.size
  clear z33 Sz33 hbX0w
  have y0z0 : Below X0w.heap.size X0w X0w := Below.refl _ _
  go_wp2_with (first | go_skip | (refine wpList_load_row_w rfl 25 _ rfl w.heap.size rfl _ _ _ _ (Kx0.out _ (by first | assumption | exact (by assumption : Below _ w1 _).alloc (Below.size (by assumption)) _)) Try.underlying25 rfl (size_LAlg _ _) ?_) | (refine wpList_load_row_w rfl 25 _ rfl (w.heap.size + 1) rfl _ _ _ _ (Kx1.out _ (by first | assumption | exact (by assumption : Below _ w1 _).alloc (Below.size (by assumption)) _)) Try.underlying25 rfl (size_LAlg _ _) ?_) | (refine wpList_load_row_w rfl 28 _ rfl gS0 rfl _ _ _ _ (KS.out _ (by assumption)) Try.underlying28 rfl (size_Alg _ _) ?_) | (refine wpList_load_row_w rfl 28 _ rfl b0 rfl _ _ _ _ (KX0.out _ (by assumption)) Try.underlying28 rfl (size_Alg _ _) ?_))
  have nlo1 : w1.heap.size ≤ X0w.heap.size := z35.size
  refine (toAlgebra_G _ _ _ _ L1 T1 _ (HR1.out.below z35) (HT1.out.below z35) Sm1.out).mono ?_
  rintro e x1w ⟨x1a, x1n, x1c, x1b, x1m, x1d, rfl, gx1, hbx1⟩
  have z37 := z35.trans (hbx1.mono z35.size)
  have Sz37 := Sz35.trans (hbx1.mono Sz35.size)
  have y0z37 := y0z0.trans (hbx1.mono y0z0.size)
  have n38 := hbx1.size
  clear hbx1
  go_wp2_with (first | go_skip | (refine wpList_load_row_w rfl 25 _ rfl w.heap.size rfl _ _ _ _ (Kx0.out _ (by first | assumption | exact (by assumption : Below _ w1 _).alloc (Below.size (by assumption)) _)) Try.underlying25 rfl (size_LAlg _ _) ?_) | (refine wpList_load_row_w rfl 25 _ rfl (w.heap.size + 1) rfl _ _ _ _ (Kx1.out _ (by first | assumption | exact (by assumption : Below _ w1 _).alloc (Below.size (by assumption)) _)) Try.underlying25 rfl (size_LAlg _ _) ?_) | (refine wpList_load_row_w rfl 28 _ rfl gS0 rfl _ _ _ _ (KS.out _ (by assumption)) Try.underlying28 rfl (size_Alg _ _) ?_) | (refine wpList_load_row_w rfl 28 _ rfl b0 rfl _ _ _ _ (KX0.out _ (by assumption)) Try.underlying28 rfl (size_Alg _ _) ?_))
  obtain ⟨b1, hb1⟩ : ∃ g, g = x1w.heap.size := ⟨_, rfl⟩
  obtain ⟨X1w, hX1w⟩ : ∃ x, x = x1w.alloc (.cells #[.slice x1a x1n x1c, .slice x1b x1m x1d] 28) := ⟨_, rfl⟩
  rw [← hX1w, ← hb1]
  have hbX1w : Below x1w.heap.size x1w X1w := (by rw [hX1w]
  exact (Below.refl _ _).alloc (Nat.le_refl _) _)
  have hxb1 : X1w.heap[b1]? = some (.cells #[.slice x1a x1n x1c, .slice x1b x1m x1d] 28 (0, 0)) := (by rw [hX1w, hb1]
  exact heap_alloc_new x1w _)
  have nb1 : x1w.heap.size ≤ b1 := Nat.le_of_eq hb1.symm
  have mb1 : b1 < X1w.heap.size := lt_of_block hxb1
  have KX1 := Lib.hid (show ∀ wz, Below X1w.heap.size X1w wz → wz.heap[b1]? = some (.cells #[.slice x1a x1n x1c, .slice x1b x1m x1d] 28 (0, 0)) from fun wz h => (h.block _ (lt_of_block hxb1)).trans hxb1)
  clear hX1w hb1 hxb1
  have GX1 := Lib.hid (gx1.below hbX1w)
  clear gx1
  have z39 := z37.trans (hbX1w.mono z37.size)
  have Sz39 := Sz37.trans (hbX1w.mono Sz37.size)
  have y0z39 := y0z37.trans (hbX1w.mono y0z37.size)
  have n40 := hbX1w.size
  clear z37 Sz37 y0z37 hbX1w
  have y1z0 : Below X1w.heap.size X1w X1w := Below.refl _ _
  go_wp2_with (first | go_skip | (refine wpList_load_row_w rfl 25 _ rfl w.heap.size rfl _ _ _ _ (Kx0.out _ (by first | assumption | exact (by assumption : Below _ w1 _).alloc (Below.size (by assumption)) _)) Try.underlying25 rfl (size_LAlg _ _) ?_) | (refine wpList_load_row_w rfl 25 _ rfl (w.heap.size + 1) rfl _ _ _ _ (Kx1.out _ (by first | assumption | exact (by assumption : Below _ w1 _).alloc (Below.size (by assumption)) _)) Try.underlying25 rfl (size_LAlg _ _) ?_) | (refine wpList_load_row_w rfl 28 _ rfl gS0 rfl _ _ _ _ (KS.out _ (by assumption)) Try.underlying28 rfl (size_Alg _ _) ?_) | (refine wpList_load_row_w rfl 28 _ rfl b0 rfl _ _ _ _ (KX0.out _ (by assumption)) Try.underlying28 rfl (size_Alg _ _) ?_) | (refine wpList_load_row_w rfl 28 _ rfl b1 rfl _ _ _ _ (KX1.out _ (by assumption)) Try.underlying28 rfl (size_Alg _ _) ?_))
  have nlg : w1.heap.size ≤ X1w.heap.size := z39.size
  refine (HI.out _ _ _ _ _ _ _ _ _ _ _ _ _ (GX0.out.below y0z39).rd (GX1.out.below y1z0).rd).mono ?_
  rintro e wI ⟨G0a, G0n, G0c, G0b, G0m, G0d, rfl, G0g, hbG⟩
  have z41 := z39.trans (hbG.mono z39.size)
  have Sz41 := Sz39.trans (hbG.mono Sz39.size)
  have y0z41 := y0z39.trans (hbG.mono y0z39.size)
  have y1z41 := y1z0.trans (hbG.mono y1z0.size)
  have n42 := hbG.size
  clear hbG
  go_wp2_with (first | go_skip | (refine wpList_store_row rfl 28 _ _ rfl wI.heap.size #[.slice G0a G0n G0c, .slice G0b G0m G0d] rfl rfl _ _ (heap_alloc_new wI (.cells #[.slice none 0 0, .slice none 0 0] 28)) (size_Alg _ _) rfl (one_sl2 _ _ _ _ _ _) ?_; rw [World.setRow_alloc_new]; obtain ⟨gG0, hgG0⟩ : ∃ g, g = wI.heap.size := ⟨_, rfl⟩; obtain ⟨wJ, hwJ⟩ : ∃ x, x = wI.alloc (.cells #[.slice G0a G0n G0c, .slice G0b G0m G0d] 28) := ⟨_, rfl⟩; rw [← hwJ, ← hgG0]; have hbwJ : Below wI.heap.size wI wJ := (by rw [hwJ]; exact (Below.refl _ _).alloc (Nat.le_refl _) _); have hxgG0 : wJ.heap[gG0]? = some (.cells #[.slice G0a G0n G0c, .slice G0b G0m G0d] 28 (0, 0)) := (by rw [hwJ, hgG0]; exact heap_alloc_new wI _); have ngG0 : wI.heap.size ≤ gG0 := Nat.le_of_eq hgG0.symm; have mgG0 : gG0 < wJ.heap.size := lt_of_block hxgG0; have KG := Lib.hid (show ∀ wz, Below wJ.heap.size wJ wz → wz.heap[gG0]? = some (.cells #[.slice G0a G0n G0c, .slice G0b G0m G0d] 28 (0, 0)) from fun wz h => (h.block _ (lt_of_block hxgG0)).trans hxgG0); clear hwJ hgG0 hxgG0; have z43 := z41.trans (hbwJ.mono z41.size); have Sz43 := Sz41.trans (hbwJ.mono Sz41.size); have y0z43 := y0z41.trans (hbwJ.mono y0z41.size); have y1z43 := y1z41.trans (hbwJ.mono y1z41.size); have Gz0 : Below wJ.heap.size wJ wJ := Below.refl _ _) | (refine wpList_load_row_w rfl 25 _ rfl w.heap.size rfl _ _ _ _ (Kx0.out _ (by first | assumption | exact (by assumption : Below _ w1 _).alloc (Below.size (by assumption)) _)) Try.underlying25 rfl (size_LAlg _ _) ?_) | (refine wpList_load_row_w rfl 25 _ rfl (w.heap.size + 1) rfl _ _ _ _ (Kx1.out _ (by first | assumption | exact (by assumption : Below _ w1 _).alloc (Below.size (by assumption)) _)) Try.underlying25 rfl (size_LAlg _ _) ?_) | (refine wpList_load_row_w rfl 28 _ rfl gS0 rfl _ _ _ _ (KS.out _ (by assumption)) Try.underlying28 rfl (size_Alg _ _) ?_) | (refine wpList_load_row_w rfl 28 _ rfl b0 rfl _ _ _ _ (KX0.out _ (by assumption)) Try.underlying28 rfl (size_Alg _ _) ?_) | (refine wpList_load_row_w rfl 28 _ rfl b1 rfl _ _ _ _ (KX1.out _ (by assumption)) Try.underlying28 rfl (size_Alg _ _) ?_) | (refine wpList_load_row_w rfl 28 _ rfl gG0 rfl _ _ _ _ (KG.out _ (by assumption)) Try.underlying28 rfl (size_Alg _ _) ?_))
  have HG0 := Lib.hid (G0g.below hbwJ)
  clear G0g
  clear hbwJ
  refine (eqAlgebra_R _ _ _ _ VL0 VT0 _ (HG0.out.below Gz0).rd (HS0.out.below Sz43) TI0.out.sm).mono ?_
  rintro e c0w ⟨rfl, hbc0⟩
  have z44 := z43.trans (hbc0.mono z43.size)
  have Sz44 := Sz43.trans (hbc0.mono Sz43.size)
  have y0z44 := y0z43.trans (hbc0.mono y0z43.size)
  have y1z44 := y1z43.trans (hbc0.mono y1z43.size)
  have Gz44 := Gz0.trans (hbc0.mono Gz0.size)
  have n45 := hbc0.size
  clear z43 Sz43 y0z43 y1z43 Gz0 hbc0
  go_wp2_with (first | go_skip | (refine wpList_load_row_w rfl 25 _ rfl w.heap.size rfl _ _ _ _ (Kx0.out _ (by first | assumption | exact (by assumption : Below _ w1 _).alloc (Below.size (by assumption)) _)) Try.underlying25 rfl (size_LAlg _ _) ?_) | (refine wpList_load_row_w rfl 25 _ rfl (w.heap.size + 1) rfl _ _ _ _ (Kx1.out _ (by first | assumption | exact (by assumption : Below _ w1 _).alloc (Below.size (by assumption)) _)) Try.underlying25 rfl (size_LAlg _ _) ?_) | (refine wpList_load_row_w rfl 28 _ rfl gS0 rfl _ _ _ _ (KS.out _ (by assumption)) Try.underlying28 rfl (size_Alg _ _) ?_) | (refine wpList_load_row_w rfl 28 _ rfl b0 rfl _ _ _ _ (KX0.out _ (by assumption)) Try.underlying28 rfl (size_Alg _ _) ?_) | (refine wpList_load_row_w rfl 28 _ rfl b1 rfl _ _ _ _ (KX1.out _ (by assumption)) Try.underlying28 rfl (size_Alg _ _) ?_) | (refine wpList_load_row_w rfl 28 _ rfl gG0 rfl _ _ _ _ (KG.out _ (by assumption)) Try.underlying28 rfl (size_Alg _ _) ?_))
  obtain ⟨c0, c1⟩ := bxL_cells (Kx0.out _ z44)
  obtain ⟨d0, d1⟩ := bx_cells (KX0.out _ y0z44)
  go_wp2
  go_region_with (first
    | (go_at_call 17; refine (toAlgebra_G _ _ _ _ L0 T0 _ (HR0.out.below z44.drew) (HT0.out.below z44.drew) Sm0.out).mono ?_; rintro e e0w ⟨e0a, e0n, e0c, e0b, e0m, e0d, rfl, ge0, hbe0⟩; have z46 := z44.drew.trans (hbe0.mono z44.drew.size); have Sz46 := Sz44.drew.trans (hbe0.mono Sz44.drew.size); have y0z46 := y0z44.drew.trans (hbe0.mono y0z44.drew.size); have y1z46 := y1z44.drew.trans (hbe0.mono y1z44.drew.size); have Gz46 := Gz44.drew.trans (hbe0.mono Gz44.drew.size); obtain ⟨e0, e1⟩ := bx_cells (KX0.out _ y0z46))
    | (go_at_call 19; refine (eqAlgebra_R _ _ _ _ L0 T0 _ (GX0.out.below y0z46).rd ge0.rd Sm0.out).mono ?_; rintro e f0w ⟨rfl, hbf0⟩; have z47 := z46.trans (hbf0.mono z46.size); have Sz47 := Sz46.trans (hbf0.mono Sz46.size); have y0z47 := y0z46.trans (hbf0.mono y0z46.size); have y1z47 := y1z46.trans (hbf0.mono y1z46.size); have Gz47 := Gz46.trans (hbf0.mono Gz46.size)))
  all_goals
    clear c0 c1 d0 d1 e0 e1 ge0 hbe0 hbf0 z44 Sz44 y0z44 y1z44 Gz44 z46 Sz46 y0z46 y1z46 Gz46
    obtain ⟨c0, c1⟩ := bxL_cells (Kx1.out _ z47)
    obtain ⟨d0, d1⟩ := bx_cells (KX1.out _ y1z47)
    go_wp2
    go_region_with (first
      | (go_at_call 17; refine (toAlgebra_G _ _ _ _ L1 T1 _ (HR1.out.below z47.drew) (HT1.out.below z47.drew) Sm1.out).mono ?_; rintro e e1w ⟨e1a, e1n, e1c, e1b, e1m, e1d, rfl, ge1, hbe1⟩; have z48 := z47.drew.trans (hbe1.mono z47.drew.size); have Sz48 := Sz47.drew.trans (hbe1.mono Sz47.drew.size); have y0z48 := y0z47.drew.trans (hbe1.mono y0z47.drew.size); have y1z48 := y1z47.drew.trans (hbe1.mono y1z47.drew.size); have Gz48 := Gz47.drew.trans (hbe1.mono Gz47.drew.size); obtain ⟨e0, e1⟩ := bx_cells (KX1.out _ y1z48))
      | (go_at_call 19; refine (eqAlgebra_R _ _ _ _ L1 T1 _ (GX1.out.below y1z48).rd ge1.rd Sm1.out).mono ?_; rintro e f1w ⟨rfl, hbf1⟩; have z49 := z48.trans (hbf1.mono z48.size); have Sz49 := Sz48.trans (hbf1.mono Sz48.size); have y0z49 := y0z48.trans (hbf1.mono y0z48.size); have y1z49 := y1z48.trans (hbf1.mono y1z48.size); have Gz49 := Gz48.trans (hbf1.mono Gz48.size)))
    all_goals
      clear c0 c1 d0 d1 e0 e1 ge1 hbe1 hbf1 z47 Sz47 y0z47 y1z47 Gz47 z48 Sz48 y0z48 y1z48 Gz48
      go_wp2_with (first | go_skip | (refine wpList_load_row_w rfl 25 _ rfl w.heap.size rfl _ _ _ _ (Kx0.out _ (by first | assumption | exact (by assumption : Below _ w1 _).alloc (Below.size (by assumption)) _)) Try.underlying25 rfl (size_LAlg _ _) ?_) | (refine wpList_load_row_w rfl 25 _ rfl (w.heap.size + 1) rfl _ _ _ _ (Kx1.out _ (by first | assumption | exact (by assumption : Below _ w1 _).alloc (Below.size (by assumption)) _)) Try.underlying25 rfl (size_LAlg _ _) ?_) | (refine wpList_load_row_w rfl 28 _ rfl gS0 rfl _ _ _ _ (KS.out _ (by assumption)) Try.underlying28 rfl (size_Alg _ _) ?_) | (refine wpList_load_row_w rfl 28 _ rfl b0 rfl _ _ _ _ (KX0.out _ (by assumption)) Try.underlying28 rfl (size_Alg _ _) ?_) | (refine wpList_load_row_w rfl 28 _ rfl b1 rfl _ _ _ _ (KX1.out _ (by assumption)) Try.underlying28 rfl (size_Alg _ _) ?_) | (refine wpList_load_row_w rfl 28 _ rfl gG0 rfl _ _ _ _ (KG.out _ (by assumption)) Try.underlying28 rfl (size_Alg _ _) ?_))
      have nhi0 := y0z49.size
      refine (markAlgebra_G wSb.heap.size x0w.heap.size _ _ _ _ _ _ L0 T0 (1) _ (GX0.out.below y0z49) (by omega) Sm0.out (by omega) (by omega)).mono ?_
      rintro e k0w ⟨rfl, _, mk0⟩
      have z50 := z49.trans (mk0.below (by omega) (by have := z49.size; omega))
      have Sz50 := Sz49.trans (mk0.below (by omega) (by have := Sz49.size; omega))
      replace GX1 := Lib.hid ((GX1.out.below y1z49).mid mk0 (by omega))
      have hxq := (mk0.block b1 (lt_of_block (KX1.out _ y1z49)) (.inr (by omega))).trans (KX1.out _ y1z49)
      replace KX1 := Lib.hid (show ∀ wz, Below k0w.heap.size k0w wz → wz.heap[b1]? = some (.cells #[.slice x1a x1n x1c, .slice x1b x1m x1d] 28 (0, 0)) from fun wz h => (h.block _ (lt_of_block hxq)).trans hxq)
      clear hxq
      have y1z50 : Below k0w.heap.size k0w k0w := Below.refl _ _
      replace HG0 := Lib.hid ((HG0.out.below Gz49).mid mk0 (by omega))
      have hxq := (mk0.block gG0 (lt_of_block (KG.out _ Gz49)) (.inr (by omega))).trans (KG.out _ Gz49)
      replace KG := Lib.hid (show ∀ wz, Below k0w.heap.size k0w wz → wz.heap[gG0]? = some (.cells #[.slice G0a G0n G0c, .slice G0b G0m G0d] 28 (0, 0)) from fun wz h => (h.block _ (lt_of_block hxq)).trans hxq)
      clear hxq
      have Gz50 : Below k0w.heap.size k0w k0w := Below.refl _ _
      have n51 := mk0.size
      clear z49 Sz49 y0z49 y1z49 Gz49 mk0
      go_wp2_with (first | go_skip | (refine wpList_load_row_w rfl 25 _ rfl w.heap.size rfl _ _ _ _ (Kx0.out _ (by first | assumption | exact (by assumption : Below _ w1 _).alloc (Below.size (by assumption)) _)) Try.underlying25 rfl (size_LAlg _ _) ?_) | (refine wpList_load_row_w rfl 25 _ rfl (w.heap.size + 1) rfl _ _ _ _ (Kx1.out _ (by first | assumption | exact (by assumption : Below _ w1 _).alloc (Below.size (by assumption)) _)) Try.underlying25 rfl (size_LAlg _ _) ?_) | (refine wpList_load_row_w rfl 28 _ rfl gS0 rfl _ _ _ _ (KS.out _ (by assumption)) Try.underlying28 rfl (size_Alg _ _) ?_) | (refine wpList_load_row_w rfl 28 _ rfl b1 rfl _ _ _ _ (KX1.out _ (by assumption)) Try.underlying28 rfl (size_Alg _ _) ?_) | (refine wpList_load_row_w rfl 28 _ rfl gG0 rfl _ _ _ _ (KG.out _ (by assumption)) Try.underlying28 rfl (size_Alg _ _) ?_))
      have nhi1 := y1z50.size
      refine (markAlgebra_G X0w.heap.size x1w.heap.size _ _ _ _ _ _ L1 T1 (1 + wtA L0 T0) _ (GX1.out.below y1z50) (by omega) Sm1.out (by omega) (by omega)).mono ?_
      rintro e k1w ⟨rfl, _, mk1⟩
      have z52 := z50.trans (mk1.below (by omega) (by have := z50.size; omega))
      have Sz52 := Sz50.trans (mk1.below (by omega) (by have := Sz50.size; omega))
      replace HG0 := Lib.hid ((HG0.out.below Gz50).mid mk1 (by omega))
      have hxq := (mk1.block gG0 (lt_of_block (KG.out _ Gz50)) (.inr (by omega))).trans (KG.out _ Gz50)
      replace KG := Lib.hid (show ∀ wz, Below k1w.heap.size k1w wz → wz.heap[gG0]? = some (.cells #[.slice G0a G0n G0c, .slice G0b G0m G0d] 28 (0, 0)) from fun wz h => (h.block _ (lt_of_block hxq)).trans hxq)
      clear hxq
      have Gz52 : Below k1w.heap.size k1w k1w := Below.refl _ _
      have n53 := mk1.size
      clear z50 Sz50 y1z50 Gz50 mk1
      have hkx : ¬ 1 + wtA L0 T0 + wtA L1 T1 < 0 := by omega
      go_wp2_with (first | go_skip | (refine wpList_load_row_w rfl 25 _ rfl w.heap.size rfl _ _ _ _ (Kx0.out _ (by first | assumption | exact (by assumption : Below _ w1 _).alloc (Below.size (by assumption)) _)) Try.underlying25 rfl (size_LAlg _ _) ?_) | (refine wpList_load_row_w rfl 25 _ rfl (w.heap.size + 1) rfl _ _ _ _ (Kx1.out _ (by first | assumption | exact (by assumption : Below _ w1 _).alloc (Below.size (by assumption)) _)) Try.underlying25 rfl (size_LAlg _ _) ?_) | (refine wpList_load_row_w rfl 28 _ rfl gS0 rfl _ _ _ _ (KS.out _ (by assumption)) Try.underlying28 rfl (size_Alg _ _) ?_) | (refine wpList_load_row_w rfl 28 _ rfl gG0 rfl _ _ _ _ (KG.out _ (by assumption)) Try.underlying28 rfl (size_Alg _ _) ?_))
      refine (eqAlgebra_R _ _ _ _ VL0 VT0 _ (HG0.out.below Gz52).rd (HS0.out.below Sz52) TI0.out.sm).mono ?_
      rintro e d0w ⟨rfl, hbd0⟩
      have z54 := z52.trans (hbd0.mono z52.size)
      have Sz54 := Sz52.trans (hbd0.mono Sz52.size)
      have Gz54 := Gz52.trans (hbd0.mono Gz52.size)
      have n55 := hbd0.size
      clear z52 Sz52 Gz52 hbd0
      go_wp2_with (first | go_skip | (refine wpList_load_row_w rfl 25 _ rfl w.heap.size rfl _ _ _ _ (Kx0.out _ (by first | assumption | exact (by assumption : Below _ w1 _).alloc (Below.size (by assumption)) _)) Try.underlying25 rfl (size_LAlg _ _) ?_) | (refine wpList_load_row_w rfl 25 _ rfl (w.heap.size + 1) rfl _ _ _ _ (Kx1.out _ (by first | assumption | exact (by assumption : Below _ w1 _).alloc (Below.size (by assumption)) _)) Try.underlying25 rfl (size_LAlg _ _) ?_) | (refine wpList_load_row_w rfl 28 _ rfl gS0 rfl _ _ _ _ (KS.out _ (by assumption)) Try.underlying28 rfl (size_Alg _ _) ?_) | (refine wpList_load_row_w rfl 28 _ rfl gG0 rfl _ _ _ _ (KG.out _ (by assumption)) Try.underlying28 rfl (size_Alg _ _) ?_))
      obtain ⟨vl0, vu0⟩ := wtA_le TI0.out.sm
      have nhg := Gz54.size
      refine (markAlgebra_G X1w.heap.size wI.heap.size _ _ _ _ _ _ VL0 VT0 (1) _ (HG0.out.below Gz54) (by omega) TI0.out.sm (by omega) (by omega)).mono ?_
      rintro e l0w ⟨rfl, MG0, ml0⟩
      have z56 := z54.trans (ml0.below (by omega) (by have := z54.size; omega))
      have Sz56 := Sz54.trans (ml0.below (by omega) (by have := Sz54.size; omega))
      have hxq := (ml0.block gG0 (lt_of_block (KG.out _ Gz54)) (.inr (by omega))).trans (KG.out _ Gz54)
      replace KG := Lib.hid (show ∀ wz, Below l0w.heap.size l0w wz → wz.heap[gG0]? = some (.cells #[.slice G0a G0n G0c, .slice G0b G0m G0d] 28 (0, 0)) from fun wz h => (h.block _ (lt_of_block hxq)).trans hxq)
      clear hxq
      replace MG0 := Lib.hid MG0
      have Gz56 : Below l0w.heap.size l0w l0w := Below.refl _ _
      clear z54 Sz54 Gz54 ml0
      have hq0 : ¬ 1 + wtA VL0 VT0 < 0 := by omega
      have hqq : (1 + wtA VL0 VT0 != 1 + wtA VL0 VT0) = false := by simp
      go_wp2_with (first | go_skip | (refine wpList_load_row_w rfl 25 _ rfl w.heap.size rfl _ _ _ _ (Kx0.out _ (by first | assumption | exact (by assumption : Below _ w1 _).alloc (Below.size (by assumption)) _)) Try.underlying25 rfl (size_LAlg _ _) ?_) | (refine wpList_load_row_w rfl 25 _ rfl (w.heap.size + 1) rfl _ _ _ _ (Kx1.out _ (by first | assumption | exact (by assumption : Below _ w1 _).alloc (Below.size (by assumption)) _)) Try.underlying25 rfl (size_LAlg _ _) ?_) | (refine wpList_load_row_w rfl 28 _ rfl gS0 rfl _ _ _ _ (KS.out _ (by assumption)) Try.underlying28 rfl (size_Alg _ _) ?_) | (refine wpList_load_row_w rfl 28 _ rfl gG0 rfl _ _ _ _ (KG.out _ (by assumption)) Try.underlying28 rfl (size_Alg _ _) ?_))
      refine (heldAlgebra_G _ _ _ _ _ _ VL0 VT0 (1) _ (MG0.out.below Gz56) TI0.out (by omega) (by omega)).mono ?_
      rintro e p0w ⟨rfl, hbp0⟩
      have z57 := z56.trans (hbp0.mono z56.size)
      have Sz57 := Sz56.trans (hbp0.mono Sz56.size)
      have Gz57 := Gz56.trans (hbp0.mono Gz56.size)
      have n58 := hbp0.size
      clear z56 Sz56 Gz56 hbp0
      go_wp2_with (first | go_skip | (refine wpList_load_row_w rfl 25 _ rfl w.heap.size rfl _ _ _ _ (Kx0.out _ (by first | assumption | exact (by assumption : Below _ w1 _).alloc (Below.size (by assumption)) _)) Try.underlying25 rfl (size_LAlg _ _) ?_) | (refine wpList_load_row_w rfl 25 _ rfl (w.heap.size + 1) rfl _ _ _ _ (Kx1.out _ (by first | assumption | exact (by assumption : Below _ w1 _).alloc (Below.size (by assumption)) _)) Try.underlying25 rfl (size_LAlg _ _) ?_) | (refine wpList_load_row_w rfl 28 _ rfl gS0 rfl _ _ _ _ (KS.out _ (by assumption)) Try.underlying28 rfl (size_Alg _ _) ?_) | (refine wpList_load_row_w rfl 28 _ rfl gG0 rfl _ _ _ _ (KG.out _ (by assumption)) Try.underlying28 rfl (size_Alg _ _) ?_))
      refine wp_region_any (by kernel_rfl) ?_
      refine any_of_C (C := fun wz => Below w1.heap.size w1 wz) _ _ _ _ ?_
      refine anyC_take (i := 0) (v := .agg #[.slice a0 L0.length ca0, .slice b0 T0.length cb0]) rfl (by kernel_rfl) (by kernel_rfl) (by kernel_rfl) (fun _ _ _ h => h) (.inl ⟨rfl, fun wz hz => runs_load (C := fun wz => Below w1.heap.size w1 wz) 25 _ rfl w.heap.size rfl _ _ _ _ (fun w hw => Kx0.out _ hw) Try.underlying25 rfl (size_LAlg _ _) wz hz⟩) ?_
      refine anyC_take (i := 2) (v := .agg #[.slice a1 L1.length ca1, .slice b1 T1.length cb1]) rfl (by kernel_rfl) (by kernel_rfl) (by kernel_rfl) (fun _ _ _ h => h) (.inl ⟨rfl, fun wz hz => runs_load (C := fun wz => Below w1.heap.size w1 wz) 25 _ rfl (w.heap.size + 1) rfl _ _ _ _ (fun w hw => Kx1.out _ hw) Try.underlying25 rfl (size_LAlg _ _) wz hz⟩) ?_
      have z59 := z57.trans (show Below _ p0w (p0w.drewN 1) from Dr.below ⟨1, rfl⟩ _)
      have Sz59 := Sz57.trans (show Below _ p0w (p0w.drewN 1) from Dr.below ⟨1, rfl⟩ _)
      have Gz59 := Gz57.trans (show Below _ p0w (p0w.drewN 1) from Dr.below ⟨1, rfl⟩ _)
      clear z57 Sz57 Gz57
      refine anyC_call (i := 1) (o := _) (f := 17) (args := #[.agg #[.slice a0 L0.length ca0, .slice b0 T0.length cb0]]) rfl (by kernel_rfl) rfl (by apply runs_call1 (he := enters_toA_StackAlgebras) <;> rfl) z59 ?_
      refine (toAlgebra_G _ _ _ _ L0 T0 _ (HR0.out.below z59) (HT0.out.below z59) Sm0.out).mono ?_
      rintro e o0w ⟨o0a, o0n, o0c, o0b, o0m, o0d, rfl, go0, hbo0⟩
      have z60 := z59.trans (hbo0.mono z59.size)
      have Sz60 := Sz59.trans (hbo0.mono Sz59.size)
      have Gz60 := Gz59.trans (hbo0.mono Gz59.size)
      have n61 := hbo0.size
      clear hbo0
      refine ⟨_, rfl, ?_⟩
      refine anyC_call (i := 3) (o := _) (f := 17) (args := #[.agg #[.slice a1 L1.length ca1, .slice b1 T1.length cb1]]) rfl (by kernel_rfl) rfl (by apply runs_call1 (he := enters_toA_StackAlgebras) <;> rfl) z60 ?_
      refine (toAlgebra_G _ _ _ _ L1 T1 _ (HR1.out.below z60) (HT1.out.below z60) Sm1.out).mono ?_
      rintro e o1w ⟨o1a, o1n, o1c, o1b, o1m, o1d, rfl, go1, hbo1⟩
      have z62 := z60.trans (hbo1.mono z60.size)
      have Sz62 := Sz60.trans (hbo1.mono Sz60.size)
      have Gz62 := Gz60.trans (hbo1.mono Gz60.size)
      have n63 := hbo1.size
      replace go0 := go0.below hbo1
      clear hbo1
      refine ⟨_, rfl, ?_⟩
      refine anyC_call (i := 4) (o := _) (f := 28) (args := #[.agg #[.slice o0a o0n o0c, .slice o0b o0m o0d], .agg #[.slice o1a o1n o1c, .slice o1b o1m o1d]]) rfl (by kernel_rfl) rfl (by apply runs_call2 (he := enters_im_StackAlgebras) <;> rfl) z62 ?_
      refine (HI.out _ _ _ _ _ _ _ _ _ _ _ _ _ go0.rd go1.rd).mono ?_
      rintro e wH ⟨H0a, H0n, H0c, H0b, H0m, H0d, rfl, H0g, hbH⟩
      have z64 := z62.trans (hbH.mono z62.size)
      have Sz64 := Sz62.trans (hbH.mono Sz62.size)
      have Gz64 := Gz62.trans (hbH.mono Gz62.size)
      have n65 := hbH.size
      clear hbH go0 go1
      refine ⟨_, rfl, ?_⟩
      refine anyC_take (i := 5) (v := .tuple #[.agg #[.slice H0a H0n H0c, .slice H0b H0m H0d], .bool V1]) rfl (by kernel_rfl) (by kernel_rfl) (by kernel_rfl) (fun _ _ _ h => h) (.inl ⟨rfl, fun wz hz => by apply runs_move <;> rfl⟩) ?_
      refine anyC_take (i := 6) (v := .agg #[.slice H0a H0n H0c, .slice H0b H0m H0d]) rfl (by kernel_rfl) (by kernel_rfl) (by kernel_rfl) (fun _ _ _ h => h) (.inl ⟨rfl, fun wz hz => by apply runs_extract <;> rfl⟩) ?_
      refine anyC_take (i := 7) (v := .bool V1) rfl (by kernel_rfl) (by kernel_rfl) (by kernel_rfl) (fun _ _ _ h => h) (.inl ⟨rfl, fun wz hz => by apply runs_extract <;> rfl⟩) ?_
      refine anyC_take (i := 10) (v := .bool V1) rfl (by kernel_rfl) (by kernel_rfl) (by kernel_rfl) (fun _ _ _ h => h) (.inl ⟨rfl, fun wz hz => by apply runs_assign <;> rfl⟩) ?_
      refine anyC_law (i := 8) rfl (by kernel_rfl) z64 ?_
      go_wp2_with fail
      refine anyC_law (i := 9) rfl (by kernel_rfl) (z64.alloc z64.size _) ?_
      refine wpList_store_row rfl 28 _ _ rfl wH.heap.size #[.slice H0a H0n H0c, .slice H0b H0m H0d] rfl rfl _ _ (heap_alloc_new wH (.cells #[.slice none 0 0, .slice none 0 0] 28)) (size_Alg _ _) rfl (one_sl2 _ _ _ _ _ _) ?_
      rw [World.setRow_alloc_new]
      obtain ⟨gH0, hgH0⟩ : ∃ g, g = wH.heap.size := ⟨_, rfl⟩
      obtain ⟨wHb, hwHb⟩ : ∃ x, x = wH.alloc (.cells #[.slice H0a H0n H0c, .slice H0b H0m H0d] 28) := ⟨_, rfl⟩
      rw [← hwHb, ← hgH0]
      have hbwHb : Below wH.heap.size wH wHb := (by rw [hwHb]
      exact (Below.refl _ _).alloc (Nat.le_refl _) _)
      have hxgH0 : wHb.heap[gH0]? = some (.cells #[.slice H0a H0n H0c, .slice H0b H0m H0d] 28 (0, 0)) := (by rw [hwHb, hgH0]
      exact heap_alloc_new wH _)
      have ngH0 : wH.heap.size ≤ gH0 := Nat.le_of_eq hgH0.symm
      have mgH0 : gH0 < wHb.heap.size := lt_of_block hxgH0
      have KH := Lib.hid (show ∀ wz, Below wHb.heap.size wHb wz → wz.heap[gH0]? = some (.cells #[.slice H0a H0n H0c, .slice H0b H0m H0d] 28 (0, 0)) from fun wz h => (h.block _ (lt_of_block hxgH0)).trans hxgH0)
      clear hwHb hgH0 hxgH0
      have z66 := z64.trans (hbwHb.mono z64.size)
      have Sz66 := Sz64.trans (hbwHb.mono Sz64.size)
      have Gz66 := Gz64.trans (hbwHb.mono Gz64.size)
      have Hz0 : Below wHb.heap.size wHb wHb := Below.refl _ _
      unfold wpList
      refine anyC_done (by kernel_rfl) z66 ?_ _
      simp only [List.getElem_toArray, List.getElem_cons_zero, List.getElem_cons_succ, Act.put, List.setIfInBounds_toArray, List.set_cons_succ, List.set_cons_zero]
      have HH0 := Lib.hid (H0g.below hbwHb)
      clear H0g
      clear hbwHb
      go_wp2_with (first | go_skip | (refine wpList_load_row_w rfl 25 _ rfl w.heap.size rfl _ _ _ _ (Kx0.out _ (by first | assumption | exact (by assumption : Below _ w1 _).alloc (Below.size (by assumption)) _)) Try.underlying25 rfl (size_LAlg _ _) ?_) | (refine wpList_load_row_w rfl 25 _ rfl (w.heap.size + 1) rfl _ _ _ _ (Kx1.out _ (by first | assumption | exact (by assumption : Below _ w1 _).alloc (Below.size (by assumption)) _)) Try.underlying25 rfl (size_LAlg _ _) ?_) | (refine wpList_load_row_w rfl 28 _ rfl gS0 rfl _ _ _ _ (KS.out _ (by assumption)) Try.underlying28 rfl (size_Alg _ _) ?_) | (refine wpList_load_row_w rfl 28 _ rfl gG0 rfl _ _ _ _ (KG.out _ (by assumption)) Try.underlying28 rfl (size_Alg _ _) ?_) | (refine wpList_load_row_w rfl 28 _ rfl gH0 rfl _ _ _ _ (KH.out _ (by assumption)) Try.underlying28 rfl (size_Alg _ _) ?_))
      refine (eqAlgebra_R _ _ _ _ VL0 VT0 _ (HH0.out.below Hz0).rd (HS0.out.below Sz66) TI0.out.sm).mono ?_
      rintro e r0w ⟨rfl, hbr0⟩
      have z67 := z66.trans (hbr0.mono z66.size)
      have Sz67 := Sz66.trans (hbr0.mono Sz66.size)
      have Gz67 := Gz66.trans (hbr0.mono Gz66.size)
      have Hz67 := Hz0.trans (hbr0.mono Hz0.size)
      have n68 := hbr0.size
      clear z66 Sz66 Gz66 Hz0 hbr0
      go_wp2_with (first | go_skip | (refine wpList_load_row_w rfl 25 _ rfl w.heap.size rfl _ _ _ _ (Kx0.out _ (by first | assumption | exact (by assumption : Below _ w1 _).alloc (Below.size (by assumption)) _)) Try.underlying25 rfl (size_LAlg _ _) ?_) | (refine wpList_load_row_w rfl 25 _ rfl (w.heap.size + 1) rfl _ _ _ _ (Kx1.out _ (by first | assumption | exact (by assumption : Below _ w1 _).alloc (Below.size (by assumption)) _)) Try.underlying25 rfl (size_LAlg _ _) ?_) | (refine wpList_load_row_w rfl 28 _ rfl gS0 rfl _ _ _ _ (KS.out _ (by assumption)) Try.underlying28 rfl (size_Alg _ _) ?_) | (refine wpList_load_row_w rfl 28 _ rfl gG0 rfl _ _ _ _ (KG.out _ (by assumption)) Try.underlying28 rfl (size_Alg _ _) ?_) | (refine wpList_load_row_w rfl 28 _ rfl gH0 rfl _ _ _ _ (KH.out _ (by assumption)) Try.underlying28 rfl (size_Alg _ _) ?_))
      go_wp2_with (first | go_skip | (refine wpList_load_row_w rfl 25 _ rfl w.heap.size rfl _ _ _ _ (Kx0.out _ (by first | assumption | exact (by assumption : Below _ w1 _).alloc (Below.size (by assumption)) _)) Try.underlying25 rfl (size_LAlg _ _) ?_) | (refine wpList_load_row_w rfl 25 _ rfl (w.heap.size + 1) rfl _ _ _ _ (Kx1.out _ (by first | assumption | exact (by assumption : Below _ w1 _).alloc (Below.size (by assumption)) _)) Try.underlying25 rfl (size_LAlg _ _) ?_) | (refine wpList_load_row_w rfl 28 _ rfl gS0 rfl _ _ _ _ (KS.out _ (by assumption)) Try.underlying28 rfl (size_Alg _ _) ?_) | (refine wpList_load_row_w rfl 28 _ rfl gG0 rfl _ _ _ _ (KG.out _ (by assumption)) Try.underlying28 rfl (size_Alg _ _) ?_))
      refine (heldAlgebra_G _ _ _ _ _ _ VL0 VT0 (1) _ (MG0.out.below Gz67) TI0.out (by omega) (by omega)).mono ?_
      rintro e u0w ⟨rfl, hbu0⟩
      have z69 := z67.trans (hbu0.mono z67.size)
      have Sz69 := Sz67.trans (hbu0.mono Sz67.size)
      have Gz69 := Gz67.trans (hbu0.mono Gz67.size)
      have Hz69 := Hz67.trans (hbu0.mono Hz67.size)
      have n70 := hbu0.size
      clear z67 Sz67 Gz67 Hz67 hbu0
      go_wp2
      go_ret
      exact ⟨rfl, hB.trans (z69.mono hB.size)⟩
end Go.Proofs.Ytmapofenghjinaa
