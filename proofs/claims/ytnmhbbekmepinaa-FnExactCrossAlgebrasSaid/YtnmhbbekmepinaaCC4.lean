import Derived.Test.YtnmhbbekmepinaaCC3
import Derived.Test.YtnmhbbekmepinaaP2
import Derived.Test.YtnmhbbekmepinaaPY
import Derived.Test.YtnmhbbekmepinaaD3
import Derived.Test.YtnmhbbekmepinaaL6
import Derived.Deep.DeepCutAuto
namespace Go.Proofs.Ytnmhbbekmepinaa
open Go.RowKit
theorem enters_toA_CrossAlgebras : Enters 18 := enters_of Try.func18 (by kernel_rfl) rfl
theorem enters_sp_CrossAlgebras : Enters 17 := enters_of Try.func17 (by kernel_rfl) rfl
theorem enters_im_CrossAlgebras : Enters 19 := enters_of Try.func19 (by kernel_rfl) rfl
set_option maxRecDepth 100000 in
set_option maxHeartbeats 8000000 in
/-- the law -/
theorem lawCrossAlgebras (a0 b0 : Option Addr) (ca0 cb0 : Nat) (L0 : List Int) (T0 : List (List Int)) (a1 b1 : Option Addr) (ca1 cb1 : Nat) (L1 : List Int) (T1 : List (List Int)) (w : World) (hr0 : Rd w a0 L0) (ht0 : RdT w b0 T0) (hL0 : L0.length ≤ maxLen) (hn0 : T0.length ≤ maxLen) (hm0 : ∀ j : Nat, j < T0.length → (rowAt T0 j).length ≤ maxLen) (hr1 : Rd w a1 L1) (ht1 : RdT w b1 T1) (hL1 : L1.length ≤ maxLen) (hn1 : T1.length ≤ maxLen) (hm1 : ∀ j : Nat, j < T1.length → (rowAt T1 j).length ≤ maxLen) :
    Calls Try.prog 3 #[.agg #[.slice a0 L0.length ca0, .slice b0 T0.length cb0], .agg #[.slice a1 L1.length ca1, .slice b1 T1.length cb1]] w fun e w' => e = .returned (.bool true) ∧ Below w.heap.size w w' := by
  unfold maxLen at *
  have HM0 := Lib.hid (show ∀ j : Nat, j < T0.length → ((rowAt T0 j).length : Int) ≤ 9223372036854775807 from fun j hj => by have := hm0 j hj; omega)
  have hLL0 : (L0.length : Int) ≤ 9223372036854775807 := by omega
  have hnn0 : (T0.length : Int) ≤ 9223372036854775807 := by omega
  have HM1 := Lib.hid (show ∀ j : Nat, j < T1.length → ((rowAt T1 j).length : Int) ≤ 9223372036854775807 from fun j hj => by have := hm1 j hj; omega)
  have hLL1 : (L1.length : Int) ≤ 9223372036854775807 := by omega
  have hnn1 : (T1.length : Int) ≤ 9223372036854775807 := by omega
  obtain ⟨w1, hw1⟩ : ∃ w1, w1 = ((w.alloc (.cells #[.slice a0 L0.length ca0, .slice b0 T0.length cb0] 25)).alloc (.cells #[.slice a1 L1.length ca1, .slice b1 T1.length cb1] 25)) := ⟨_, rfl⟩
  have hB : Below w.heap.size w w1 := by rw [hw1]; exact (((Below.refl _ _).alloc (Nat.le_refl _) _).alloc (by simp; try omega) _)
  have hx0 : w1.heap[w.heap.size]? = some (.cells #[.slice a0 L0.length ca0, .slice b0 T0.length cb0] 25 (0, 0)) := by rw [hw1, Below.heap_alloc _ _ _ (by simp)]; exact heap_alloc_new w _
  have Kx0 := Lib.hid (show ∀ wz, Below w1.heap.size w1 wz → wz.heap[w.heap.size]? = some (.cells #[.slice a0 L0.length ca0, .slice b0 T0.length cb0] 25 (0, 0)) from fun wz h => (h.block _ (lt_of_block hx0)).trans hx0)
  have HR0 := Lib.hid (hr0.below hB)
  have HT0 := Lib.hid (ht0.below hB)
  have hx1 : w1.heap[(w.heap.size + 1)]? = some (.cells #[.slice a1 L1.length ca1, .slice b1 T1.length cb1] 25 (0, 0)) := by rw [hw1]; exact heap_alloc2_new _ _ _
  have Kx1 := Lib.hid (show ∀ wz, Below w1.heap.size w1 wz → wz.heap[(w.heap.size + 1)]? = some (.cells #[.slice a1 L1.length ca1, .slice b1 T1.length cb1] 25 (0, 0)) from fun wz h => (h.block _ (lt_of_block hx1)).trans hx1)
  have HR1 := Lib.hid (hr1.below hB)
  have HT1 := Lib.hid (ht1.below hB)
  have z0 : Below w1.heap.size w1 w1 := Below.refl _ _
  have TI0 := Lib.hid (ca_ti L0 T0 L1 T1 : Ti (caL L0 T0 L1 T1) (caT L0 T0 L1 T1))
  obtain ⟨VL0, hVL0⟩ : ∃ V, V = caL L0 T0 L1 T1 := ⟨_, rfl⟩
  obtain ⟨VT0, hVT0⟩ : ∃ V, V = caT L0 T0 L1 T1 := ⟨_, rfl⟩
  rw [← hVL0, ← hVT0] at TI0
  obtain ⟨V1, hV1⟩ : ∃ V, V = caOk L0 T0 L1 T1 := ⟨_, rfl⟩
  have hne1 : (V1 != V1) = false := by simp
  have HS := Lib.hid (show ∀ (a0 : Option Addr) (n0 c0 : Nat) (b0 : Option Addr) (m0 d0 : Nat) (a1 : Option Addr) (n1 c1 : Nat) (b1 : Option Addr) (m1 d1 : Nat) (w : World), RA w (.slice a0 n0 c0) (.slice b0 m0 d0) L0 T0 → RA w (.slice a1 n1 c1) (.slice b1 m1 d1) L1 T1 → Calls Try.prog 17 #[.agg #[.slice a0 n0 c0, .slice b0 m0 d0], .agg #[.slice a1 n1 c1, .slice b1 m1 d1]] w (RetSAb VL0 VT0 V1 w) from fun a0 n0 c0 b0 m0 d0 a1 n1 c1 b1 m1 d1 w h0 h1 => by obtain ⟨xa0, xc0, xb0, xd0, e0, f0, r0, t0⟩ := h0; obtain ⟨xa1, xc1, xb1, xd1, e1, f1, r1, t1⟩ := h1; rw [e0, f0, e1, f1, hVL0, hVT0, hV1]; exact specCrossAlgebras_any xa0 xb0 xc0 xd0 L0 T0 xa1 xb1 xc1 xd1 L1 T1 w r0 t0 r1 t1 )
  have HI := Lib.hid (show ∀ (a0 : Option Addr) (n0 c0 : Nat) (b0 : Option Addr) (m0 d0 : Nat) (a1 : Option Addr) (n1 c1 : Nat) (b1 : Option Addr) (m1 d1 : Nat) (w : World), RA w (.slice a0 n0 c0) (.slice b0 m0 d0) L0 T0 → RA w (.slice a1 n1 c1) (.slice b1 m1 d1) L1 T1 → Calls Try.prog 19 #[.agg #[.slice a0 n0 c0, .slice b0 m0 d0], .agg #[.slice a1 n1 c1, .slice b1 m1 d1]] w (RetGAb VL0 VT0 V1 w) from fun a0 n0 c0 b0 m0 d0 a1 n1 c1 b1 m1 d1 w h0 h1 => by obtain ⟨xa0, xc0, xb0, xd0, e0, f0, r0, t0⟩ := h0; obtain ⟨xa1, xc1, xb1, xd1, e1, f1, r1, t1⟩ := h1; rw [e0, f0, e1, f1, hVL0, hVT0, hV1]; exact implCrossAlgebras_any xa0 xb0 xc0 xd0 L0 T0 xa1 xb1 xc1 xd1 L1 T1 w r0 t0 r1 t1 )
  clear hVL0 hVT0 hV1 hm0 ht0 hx0 hm1 ht1 hx1 hr0 hr1
  go_enter Try.func3, Try.ntmps3
  go_wp2_with (first | (rw [← hw1]; clear hw1) | (refine wpList_load_row_w rfl 25 _ rfl w.heap.size rfl _ _ _ _ (Kx0.out _ (by first | assumption | exact (by assumption : Below _ w1 _).alloc (Below.size (by assumption)) _)) Try.underlying25 rfl (size_LAlg _ _) ?_) | (refine wpList_load_row_w rfl 25 _ rfl (w.heap.size + 1) rfl _ _ _ _ (Kx1.out _ (by first | assumption | exact (by assumption : Below _ w1 _).alloc (Below.size (by assumption)) _)) Try.underlying25 rfl (size_LAlg _ _) ?_))
  refine (szAlgebra_any _ _ _ _ L0 T0 1048576 _ (HT0.out.below z0) (by omega) (by omega) hLL0 HM0.out hnn0).mono ?_
  rintro e s0w ⟨⟨v0, rfl, p0, q0, r0⟩, hbs0⟩
  have z21 := z0.trans (hbs0.mono z0.size)
  have n22 := hbs0.size
  clear z0 hbs0
  by_cases hv0 : v0 < 0
  · go_wp2
    go_ret
    exact ⟨rfl, hB.trans (z21.mono hB.size)⟩
  obtain ⟨s1, s2, s3⟩ := r0 (by omega)
  have Sm0 := Lib.hid (show Sm L0 T0 from ⟨by omega, by omega, fun j hj => by have := s3 j hj; omega⟩)
  obtain ⟨wl0, wu0⟩ := wtA_le Sm0.out
  clear s1 s2 s3 r0
  go_wp2_with (first | go_skip | (refine wpList_load_row_w rfl 25 _ rfl w.heap.size rfl _ _ _ _ (Kx0.out _ (by first | assumption | exact (by assumption : Below _ w1 _).alloc (Below.size (by assumption)) _)) Try.underlying25 rfl (size_LAlg _ _) ?_) | (refine wpList_load_row_w rfl 25 _ rfl (w.heap.size + 1) rfl _ _ _ _ (Kx1.out _ (by first | assumption | exact (by assumption : Below _ w1 _).alloc (Below.size (by assumption)) _)) Try.underlying25 rfl (size_LAlg _ _) ?_))
  refine (szAlgebra_any _ _ _ _ L1 T1 v0 _ (HT1.out.below z21) (by omega) (by omega) hLL1 HM1.out hnn1).mono ?_
  rintro e s1w ⟨⟨v1, rfl, p1, q1, r1⟩, hbs1⟩
  have z23 := z21.trans (hbs1.mono z21.size)
  have n24 := hbs1.size
  clear z21 hbs1
  by_cases hv1 : v1 < 0
  · go_wp2
    go_ret
    exact ⟨rfl, hB.trans (z23.mono hB.size)⟩
  obtain ⟨s1, s2, s3⟩ := r1 (by omega)
  have Sm1 := Lib.hid (show Sm L1 T1 from ⟨by omega, by omega, fun j hj => by have := s3 j hj; omega⟩)
  obtain ⟨wl1, wu1⟩ := wtA_le Sm1.out
  clear s1 s2 s3 r1
  go_wp2_with (first | go_skip | (refine wpList_load_row_w rfl 25 _ rfl w.heap.size rfl _ _ _ _ (Kx0.out _ (by first | assumption | exact (by assumption : Below _ w1 _).alloc (Below.size (by assumption)) _)) Try.underlying25 rfl (size_LAlg _ _) ?_) | (refine wpList_load_row_w rfl 25 _ rfl (w.heap.size + 1) rfl _ _ _ _ (Kx1.out _ (by first | assumption | exact (by assumption : Below _ w1 _).alloc (Below.size (by assumption)) _)) Try.underlying25 rfl (size_LAlg _ _) ?_))
  go_cut [6, 7] (fun sg sb wx => ∃ (ra : Option Addr) (rn rc : Nat) (rb : Option Addr) (rm rd g : Nat), sb = .bool V1 ∧ sg = .pointer (some ⟨g, 0, none⟩) ∧ wx.heap[g]? = some (.cells #[.slice ra rn rc, .slice rb rm rd] 27 (0, 0)) ∧ w1.heap.size ≤ g ∧ RA wx (.slice ra rn rc) (.slice rb rm rd) VL0 VT0 ∧ Below w1.heap.size w1 wx)
  case first =>
    refine wp_region_any (by kernel_rfl) ?_
    refine any_of_C (C := fun wz => Below w1.heap.size w1 wz) _ _ _ _ ?_
    refine anyC_take (i := 0) (v := .agg #[.slice a0 L0.length ca0, .slice b0 T0.length cb0]) rfl (by kernel_rfl) (by kernel_rfl) (by kernel_rfl) (fun _ _ _ h => h) (.inl ⟨rfl, fun wz hz => runs_load (C := fun wz => Below w1.heap.size w1 wz) 25 _ rfl w.heap.size rfl _ _ _ _ (fun w hw => Kx0.out _ hw) Try.underlying25 rfl (size_LAlg _ _) wz hz⟩) ?_
    refine anyC_take (i := 2) (v := .agg #[.slice a1 L1.length ca1, .slice b1 T1.length cb1]) rfl (by kernel_rfl) (by kernel_rfl) (by kernel_rfl) (fun _ _ _ h => h) (.inl ⟨rfl, fun wz hz => runs_load (C := fun wz => Below w1.heap.size w1 wz) 25 _ rfl (w.heap.size + 1) rfl _ _ _ _ (fun w hw => Kx1.out _ hw) Try.underlying25 rfl (size_LAlg _ _) wz hz⟩) ?_
    obtain ⟨wd, hwd⟩ : ∃ x : World, x = s1w.drewN 1 := ⟨_, rfl⟩
    change wpAnyC _ _ _ _ _ _ _ _ (s1w.drewN 1)
    rw [← hwd]
    have z25 := z23.trans (show Below _ s1w wd from by rw [hwd]; exact Dr.below ⟨1, rfl⟩ _)
    clear hwd
    clear z23
    try simp only [List.getElem_toArray, List.getElem_cons_zero, List.getElem_cons_succ, Act.put, List.setIfInBounds_toArray, List.set_cons_succ, List.set_cons_zero]
    refine anyC_two (i := 1) (j := 8) (f := 18) (args := #[.agg #[.slice a0 L0.length ca0, .slice b0 T0.length cb0]]) rfl rfl (by kernel_rfl) rfl (by apply runs_call1 (he := enters_toA_CrossAlgebras) <;> rfl) z25 ?_ ?_
    · skip
      refine (toAlgebra_G _ _ _ _ L0 T0 _ (HR0.out.below z25) (HT0.out.below z25) Sm0.out).mono ?_
      rintro e m0w ⟨m0a, m0n, m0c, m0b, m0m, m0d, rfl, gm0, hbm0⟩
      refine ⟨_, rfl, ?_⟩
      try simp only [List.getElem_toArray, List.getElem_cons_zero, List.getElem_cons_succ, Act.put, List.setIfInBounds_toArray, List.set_cons_succ, List.set_cons_zero]
      have z26 := z25.trans (hbm0.mono z25.size)
      clear z25
      refine anyC_two (i := 3) (j := 8) (f := 18) (args := #[.agg #[.slice a1 L1.length ca1, .slice b1 T1.length cb1]]) rfl rfl (by kernel_rfl) rfl (by apply runs_call1 (he := enters_toA_CrossAlgebras) <;> rfl) z26 ?_ ?_
      · skip
        refine (toAlgebra_G _ _ _ _ L1 T1 _ (HR1.out.below z26) (HT1.out.below z26) Sm1.out).mono ?_
        rintro e m1w ⟨m1a, m1n, m1c, m1b, m1m, m1d, rfl, gm1, hbm1⟩
        refine ⟨_, rfl, ?_⟩
        try simp only [List.getElem_toArray, List.getElem_cons_zero, List.getElem_cons_succ, Act.put, List.setIfInBounds_toArray, List.set_cons_succ, List.set_cons_zero]
        have z27 := z26.trans (hbm1.mono z26.size)
        clear z26
        replace gm0 := gm0.below hbm1
        refine anyC_two (i := 4) (j := 8) (f := 17) (args := #[.agg #[.slice m0a m0n m0c, .slice m0b m0m m0d], .agg #[.slice m1a m1n m1c, .slice m1b m1m m1d]]) rfl rfl (by kernel_rfl) rfl (by apply runs_call2 (he := enters_sp_CrossAlgebras) <;> rfl) z27 ?_ ?_
        · skip
          refine (HS.out _ _ _ _ _ _ _ _ _ _ _ _ _ gm0.rd gm1.rd).mono ?_
          rintro e rw ⟨ra, rn, rc, rb, rm, rd, rfl, gr, hbr⟩
          refine ⟨_, rfl, ?_⟩
          try simp only [List.getElem_toArray, List.getElem_cons_zero, List.getElem_cons_succ, Act.put, List.setIfInBounds_toArray, List.set_cons_succ, List.set_cons_zero]
          have z28 := z27.trans (hbr.mono z27.size)
          clear z27
          replace gm0 := gm0.below hbr
          replace gm1 := gm1.below hbr
          refine anyC_take (i := 5) (v := .tuple #[.agg #[.slice ra rn rc, .slice rb rm rd], .bool V1]) rfl (by kernel_rfl) (by kernel_rfl) (by kernel_rfl) (fun _ _ _ h => h) (.inl ⟨rfl, fun wz hz => by apply runs_move1 <;> rfl⟩) ?_
          try simp only [List.getElem_toArray, List.getElem_cons_zero, List.getElem_cons_succ, Act.put, List.setIfInBounds_toArray, List.set_cons_succ, List.set_cons_zero]
          refine anyC_take (i := 6) (v := .agg #[.slice ra rn rc, .slice rb rm rd]) rfl (by kernel_rfl) (by kernel_rfl) (by kernel_rfl) (fun _ _ _ h => h) (.inl ⟨rfl, fun wz hz => by apply runs_extract <;> rfl⟩) ?_
          try simp only [List.getElem_toArray, List.getElem_cons_zero, List.getElem_cons_succ, Act.put, List.setIfInBounds_toArray, List.set_cons_succ, List.set_cons_zero]
          refine anyC_take (i := 7) (v := .bool V1) rfl (by kernel_rfl) (by kernel_rfl) (by kernel_rfl) (fun _ _ _ h => h) (.inl ⟨rfl, fun wz hz => by apply runs_extract <;> rfl⟩) ?_
          try simp only [List.getElem_toArray, List.getElem_cons_zero, List.getElem_cons_succ, Act.put, List.setIfInBounds_toArray, List.set_cons_succ, List.set_cons_zero]
          refine anyC_law (i := 8) rfl (by kernel_rfl) z28 ?_
          go_wp2_with fail
          have hzg0 := heap_alloc_new (rw) (.cells #[.slice none 0 0, .slice none 0 0] 27)
          have qA : Below (rw).heap.size (rw) ((rw).alloc (.cells #[.slice none 0 0, .slice none 0 0] 27)) := (Below.refl _ _).alloc (Nat.le_refl _) _
          obtain ⟨g, hg⟩ : ∃ g : Nat, g = (rw).heap.size := ⟨_, rfl⟩
          obtain ⟨wA, hwA⟩ : ∃ x : World, x = (rw).alloc (.cells #[.slice none 0 0, .slice none 0 0] 27) := ⟨_, rfl⟩
          rw [← hg, ← hwA] at hzg0
          rw [← hwA] at qA
          have hzg := hzg0
          have lg : w1.heap.size ≤ g := by rw [hg]; exact z28.size
          have z29 := z28.trans (qA.mono z28.size)
          first | (rw [← hwA, ← hg]) | (simp only [← hwA, ← hg]) | skip
          try replace gm0 := gm0.below qA
          try replace gm1 := gm1.below qA
          try replace gr := gr.below qA
          have lge : (rw).heap.size ≤ g := Nat.le_of_eq hg.symm
          clear hzg0 hg hwA qA z28
          refine anyC_law (i := 9) rfl (by kernel_rfl) z29 ?_
          refine wpList_store_row rfl 27 _ _ rfl g #[.slice ra rn rc, .slice rb rm rd] rfl rfl _ _ hzg (size_Alg _ _) rfl (one_sl2 _ _ _ _ _ _) ?_
          unfold wpList
          have z30 := below_setRow' z29 (show w1.heap.size ≤ g by first | exact lg | omega) #[.slice ra rn rc, .slice rb rm rd]
          have hra := (gr.other hzg (by decide) (by decide) (fun k hk => setRow_other _ g k #[.slice ra rn rc, .slice rb rm rd] hk)).ra
          refine anyC_law (i := 10) rfl (by kernel_rfl) z30 ?_
          go_wp2_with fail
          refine anyC_done (by kernel_rfl) z30 ?_ _
          try simp only [List.getElem_toArray, List.getElem_cons_zero, List.getElem_cons_succ, Act.put, List.setIfInBounds_toArray, List.set_cons_succ, List.set_cons_zero]
          go_wp2_with fail
          go_meet
          exact ⟨ra, rn, rc, rb, rm, rd, g, rfl, rfl, setRow_heap _ _ _ _ _ _ hzg, lg, hra, z30⟩
        · skip
          go_wp2_with fail
          have hzg0 := heap_alloc_new (m1w) (.cells #[.slice none 0 0, .slice none 0 0] 27)
          have qA : Below (m1w).heap.size (m1w) ((m1w).alloc (.cells #[.slice none 0 0, .slice none 0 0] 27)) := (Below.refl _ _).alloc (Nat.le_refl _) _
          obtain ⟨g, hg⟩ : ∃ g : Nat, g = (m1w).heap.size := ⟨_, rfl⟩
          obtain ⟨wA, hwA⟩ : ∃ x : World, x = (m1w).alloc (.cells #[.slice none 0 0, .slice none 0 0] 27) := ⟨_, rfl⟩
          rw [← hg, ← hwA] at hzg0
          rw [← hwA] at qA
          have hzg := hzg0
          have lg : w1.heap.size ≤ g := by rw [hg]; exact z27.size
          have z31 := z27.trans (qA.mono z27.size)
          first | (rw [← hwA, ← hg]) | (simp only [← hwA, ← hg]) | skip
          try replace gm0 := gm0.below qA
          try replace gm1 := gm1.below qA
          try replace gr := gr.below qA
          have lge : (m1w).heap.size ≤ g := Nat.le_of_eq hg.symm
          clear hzg0 hg hwA qA z27
          try simp only [List.getElem_toArray, List.getElem_cons_zero, List.getElem_cons_succ, Act.put, List.setIfInBounds_toArray, List.set_cons_succ, List.set_cons_zero]
          refine anyC_call (i := 4) (o := _) (f := 17) (args := #[.agg #[.slice m0a m0n m0c, .slice m0b m0m m0d], .agg #[.slice m1a m1n m1c, .slice m1b m1m m1d]]) rfl (by kernel_rfl) rfl (by apply runs_call2 (he := enters_sp_CrossAlgebras) <;> rfl) z31 ?_
          refine (HS.out _ _ _ _ _ _ _ _ _ _ _ _ _ gm0.rd gm1.rd).mono ?_
          rintro e rw ⟨ra, rn, rc, rb, rm, rd, rfl, gr, hbr⟩
          refine ⟨_, rfl, ?_⟩
          try simp only [List.getElem_toArray, List.getElem_cons_zero, List.getElem_cons_succ, Act.put, List.setIfInBounds_toArray, List.set_cons_succ, List.set_cons_zero]
          have z32 := z31.trans (hbr.mono z31.size)
          clear z31
          replace gm0 := gm0.below hbr
          replace gm1 := gm1.below hbr
          have ltg := lt_of_block hzg
          replace hzg := (hbr.block _ (lt_of_block hzg)).trans hzg
          refine anyC_take (i := 5) (v := .tuple #[.agg #[.slice ra rn rc, .slice rb rm rd], .bool V1]) rfl (by kernel_rfl) (by kernel_rfl) (by kernel_rfl) (fun _ _ _ h => h) (.inl ⟨rfl, fun wz hz => by apply runs_move1 <;> rfl⟩) ?_
          try simp only [List.getElem_toArray, List.getElem_cons_zero, List.getElem_cons_succ, Act.put, List.setIfInBounds_toArray, List.set_cons_succ, List.set_cons_zero]
          refine anyC_take (i := 6) (v := .agg #[.slice ra rn rc, .slice rb rm rd]) rfl (by kernel_rfl) (by kernel_rfl) (by kernel_rfl) (fun _ _ _ h => h) (.inl ⟨rfl, fun wz hz => by apply runs_extract <;> rfl⟩) ?_
          try simp only [List.getElem_toArray, List.getElem_cons_zero, List.getElem_cons_succ, Act.put, List.setIfInBounds_toArray, List.set_cons_succ, List.set_cons_zero]
          refine anyC_take (i := 7) (v := .bool V1) rfl (by kernel_rfl) (by kernel_rfl) (by kernel_rfl) (fun _ _ _ h => h) (.inl ⟨rfl, fun wz hz => by apply runs_extract <;> rfl⟩) ?_
          try simp only [List.getElem_toArray, List.getElem_cons_zero, List.getElem_cons_succ, Act.put, List.setIfInBounds_toArray, List.set_cons_succ, List.set_cons_zero]
          refine anyC_law (i := 9) rfl (by kernel_rfl) z32 ?_
          refine wpList_store_row rfl 27 _ _ rfl g #[.slice ra rn rc, .slice rb rm rd] rfl rfl _ _ hzg (size_Alg _ _) rfl (one_sl2 _ _ _ _ _ _) ?_
          unfold wpList
          have z33 := below_setRow' z32 (show w1.heap.size ≤ g by first | exact lg | omega) #[.slice ra rn rc, .slice rb rm rd]
          have hra := (gr.other hzg (by decide) (by decide) (fun k hk => setRow_other _ g k #[.slice ra rn rc, .slice rb rm rd] hk)).ra
          refine anyC_law (i := 10) rfl (by kernel_rfl) z33 ?_
          go_wp2_with fail
          refine anyC_done (by kernel_rfl) z33 ?_ _
          try simp only [List.getElem_toArray, List.getElem_cons_zero, List.getElem_cons_succ, Act.put, List.setIfInBounds_toArray, List.set_cons_succ, List.set_cons_zero]
          go_wp2_with fail
          go_meet
          exact ⟨ra, rn, rc, rb, rm, rd, g, rfl, rfl, setRow_heap _ _ _ _ _ _ hzg, lg, hra, z33⟩
      · skip
        go_wp2_with fail
        have hzg0 := heap_alloc_new (m0w) (.cells #[.slice none 0 0, .slice none 0 0] 27)
        have qA : Below (m0w).heap.size (m0w) ((m0w).alloc (.cells #[.slice none 0 0, .slice none 0 0] 27)) := (Below.refl _ _).alloc (Nat.le_refl _) _
        obtain ⟨g, hg⟩ : ∃ g : Nat, g = (m0w).heap.size := ⟨_, rfl⟩
        obtain ⟨wA, hwA⟩ : ∃ x : World, x = (m0w).alloc (.cells #[.slice none 0 0, .slice none 0 0] 27) := ⟨_, rfl⟩
        rw [← hg, ← hwA] at hzg0
        rw [← hwA] at qA
        have hzg := hzg0
        have lg : w1.heap.size ≤ g := by rw [hg]; exact z26.size
        have z34 := z26.trans (qA.mono z26.size)
        first | (rw [← hwA, ← hg]) | (simp only [← hwA, ← hg]) | skip
        try replace gm0 := gm0.below qA
        try replace gm1 := gm1.below qA
        try replace gr := gr.below qA
        have lge : (m0w).heap.size ≤ g := Nat.le_of_eq hg.symm
        clear hzg0 hg hwA qA z26
        try simp only [List.getElem_toArray, List.getElem_cons_zero, List.getElem_cons_succ, Act.put, List.setIfInBounds_toArray, List.set_cons_succ, List.set_cons_zero]
        refine anyC_call (i := 3) (o := _) (f := 18) (args := #[.agg #[.slice a1 L1.length ca1, .slice b1 T1.length cb1]]) rfl (by kernel_rfl) rfl (by apply runs_call1 (he := enters_toA_CrossAlgebras) <;> rfl) z34 ?_
        refine (toAlgebra_G _ _ _ _ L1 T1 _ (HR1.out.below z34) (HT1.out.below z34) Sm1.out).mono ?_
        rintro e m1w ⟨m1a, m1n, m1c, m1b, m1m, m1d, rfl, gm1, hbm1⟩
        refine ⟨_, rfl, ?_⟩
        try simp only [List.getElem_toArray, List.getElem_cons_zero, List.getElem_cons_succ, Act.put, List.setIfInBounds_toArray, List.set_cons_succ, List.set_cons_zero]
        have z35 := z34.trans (hbm1.mono z34.size)
        clear z34
        replace gm0 := gm0.below hbm1
        have ltg := lt_of_block hzg
        replace hzg := (hbm1.block _ (lt_of_block hzg)).trans hzg
        refine anyC_call (i := 4) (o := _) (f := 17) (args := #[.agg #[.slice m0a m0n m0c, .slice m0b m0m m0d], .agg #[.slice m1a m1n m1c, .slice m1b m1m m1d]]) rfl (by kernel_rfl) rfl (by apply runs_call2 (he := enters_sp_CrossAlgebras) <;> rfl) z35 ?_
        refine (HS.out _ _ _ _ _ _ _ _ _ _ _ _ _ gm0.rd gm1.rd).mono ?_
        rintro e rw ⟨ra, rn, rc, rb, rm, rd, rfl, gr, hbr⟩
        refine ⟨_, rfl, ?_⟩
        try simp only [List.getElem_toArray, List.getElem_cons_zero, List.getElem_cons_succ, Act.put, List.setIfInBounds_toArray, List.set_cons_succ, List.set_cons_zero]
        have z36 := z35.trans (hbr.mono z35.size)
        clear z35
        replace gm0 := gm0.below hbr
        replace gm1 := gm1.below hbr
        have ltg := lt_of_block hzg
        replace hzg := (hbr.block _ (lt_of_block hzg)).trans hzg
        refine anyC_take (i := 5) (v := .tuple #[.agg #[.slice ra rn rc, .slice rb rm rd], .bool V1]) rfl (by kernel_rfl) (by kernel_rfl) (by kernel_rfl) (fun _ _ _ h => h) (.inl ⟨rfl, fun wz hz => by apply runs_move1 <;> rfl⟩) ?_
        try simp only [List.getElem_toArray, List.getElem_cons_zero, List.getElem_cons_succ, Act.put, List.setIfInBounds_toArray, List.set_cons_succ, List.set_cons_zero]
        refine anyC_take (i := 6) (v := .agg #[.slice ra rn rc, .slice rb rm rd]) rfl (by kernel_rfl) (by kernel_rfl) (by kernel_rfl) (fun _ _ _ h => h) (.inl ⟨rfl, fun wz hz => by apply runs_extract <;> rfl⟩) ?_
        try simp only [List.getElem_toArray, List.getElem_cons_zero, List.getElem_cons_succ, Act.put, List.setIfInBounds_toArray, List.set_cons_succ, List.set_cons_zero]
        refine anyC_take (i := 7) (v := .bool V1) rfl (by kernel_rfl) (by kernel_rfl) (by kernel_rfl) (fun _ _ _ h => h) (.inl ⟨rfl, fun wz hz => by apply runs_extract <;> rfl⟩) ?_
        try simp only [List.getElem_toArray, List.getElem_cons_zero, List.getElem_cons_succ, Act.put, List.setIfInBounds_toArray, List.set_cons_succ, List.set_cons_zero]
        refine anyC_law (i := 9) rfl (by kernel_rfl) z36 ?_
        refine wpList_store_row rfl 27 _ _ rfl g #[.slice ra rn rc, .slice rb rm rd] rfl rfl _ _ hzg (size_Alg _ _) rfl (one_sl2 _ _ _ _ _ _) ?_
        unfold wpList
        have z37 := below_setRow' z36 (show w1.heap.size ≤ g by first | exact lg | omega) #[.slice ra rn rc, .slice rb rm rd]
        have hra := (gr.other hzg (by decide) (by decide) (fun k hk => setRow_other _ g k #[.slice ra rn rc, .slice rb rm rd] hk)).ra
        refine anyC_law (i := 10) rfl (by kernel_rfl) z37 ?_
        go_wp2_with fail
        refine anyC_done (by kernel_rfl) z37 ?_ _
        try simp only [List.getElem_toArray, List.getElem_cons_zero, List.getElem_cons_succ, Act.put, List.setIfInBounds_toArray, List.set_cons_succ, List.set_cons_zero]
        go_wp2_with fail
        go_meet
        exact ⟨ra, rn, rc, rb, rm, rd, g, rfl, rfl, setRow_heap _ _ _ _ _ _ hzg, lg, hra, z37⟩
    · skip
      go_wp2_with fail
      have hzg0 := heap_alloc_new (wd) (.cells #[.slice none 0 0, .slice none 0 0] 27)
      have qA : Below (wd).heap.size (wd) ((wd).alloc (.cells #[.slice none 0 0, .slice none 0 0] 27)) := (Below.refl _ _).alloc (Nat.le_refl _) _
      obtain ⟨g, hg⟩ : ∃ g : Nat, g = (wd).heap.size := ⟨_, rfl⟩
      obtain ⟨wA, hwA⟩ : ∃ x : World, x = (wd).alloc (.cells #[.slice none 0 0, .slice none 0 0] 27) := ⟨_, rfl⟩
      rw [← hg, ← hwA] at hzg0
      rw [← hwA] at qA
      have hzg := hzg0
      have lg : w1.heap.size ≤ g := by rw [hg]; exact z25.size
      have z38 := z25.trans (qA.mono z25.size)
      first | (rw [← hwA, ← hg]) | (simp only [← hwA, ← hg]) | skip
      try replace gm0 := gm0.below qA
      try replace gm1 := gm1.below qA
      try replace gr := gr.below qA
      have lge : (wd).heap.size ≤ g := Nat.le_of_eq hg.symm
      clear hzg0 hg hwA qA z25
      try simp only [List.getElem_toArray, List.getElem_cons_zero, List.getElem_cons_succ, Act.put, List.setIfInBounds_toArray, List.set_cons_succ, List.set_cons_zero]
      refine anyC_call (i := 1) (o := _) (f := 18) (args := #[.agg #[.slice a0 L0.length ca0, .slice b0 T0.length cb0]]) rfl (by kernel_rfl) rfl (by apply runs_call1 (he := enters_toA_CrossAlgebras) <;> rfl) z38 ?_
      refine (toAlgebra_G _ _ _ _ L0 T0 _ (HR0.out.below z38) (HT0.out.below z38) Sm0.out).mono ?_
      rintro e m0w ⟨m0a, m0n, m0c, m0b, m0m, m0d, rfl, gm0, hbm0⟩
      refine ⟨_, rfl, ?_⟩
      try simp only [List.getElem_toArray, List.getElem_cons_zero, List.getElem_cons_succ, Act.put, List.setIfInBounds_toArray, List.set_cons_succ, List.set_cons_zero]
      have z39 := z38.trans (hbm0.mono z38.size)
      clear z38
      have ltg := lt_of_block hzg
      replace hzg := (hbm0.block _ (lt_of_block hzg)).trans hzg
      refine anyC_call (i := 3) (o := _) (f := 18) (args := #[.agg #[.slice a1 L1.length ca1, .slice b1 T1.length cb1]]) rfl (by kernel_rfl) rfl (by apply runs_call1 (he := enters_toA_CrossAlgebras) <;> rfl) z39 ?_
      refine (toAlgebra_G _ _ _ _ L1 T1 _ (HR1.out.below z39) (HT1.out.below z39) Sm1.out).mono ?_
      rintro e m1w ⟨m1a, m1n, m1c, m1b, m1m, m1d, rfl, gm1, hbm1⟩
      refine ⟨_, rfl, ?_⟩
      try simp only [List.getElem_toArray, List.getElem_cons_zero, List.getElem_cons_succ, Act.put, List.setIfInBounds_toArray, List.set_cons_succ, List.set_cons_zero]
      have z40 := z39.trans (hbm1.mono z39.size)
      clear z39
      replace gm0 := gm0.below hbm1
      have ltg := lt_of_block hzg
      replace hzg := (hbm1.block _ (lt_of_block hzg)).trans hzg
      refine anyC_call (i := 4) (o := _) (f := 17) (args := #[.agg #[.slice m0a m0n m0c, .slice m0b m0m m0d], .agg #[.slice m1a m1n m1c, .slice m1b m1m m1d]]) rfl (by kernel_rfl) rfl (by apply runs_call2 (he := enters_sp_CrossAlgebras) <;> rfl) z40 ?_
      refine (HS.out _ _ _ _ _ _ _ _ _ _ _ _ _ gm0.rd gm1.rd).mono ?_
      rintro e rw ⟨ra, rn, rc, rb, rm, rd, rfl, gr, hbr⟩
      refine ⟨_, rfl, ?_⟩
      try simp only [List.getElem_toArray, List.getElem_cons_zero, List.getElem_cons_succ, Act.put, List.setIfInBounds_toArray, List.set_cons_succ, List.set_cons_zero]
      have z41 := z40.trans (hbr.mono z40.size)
      clear z40
      replace gm0 := gm0.below hbr
      replace gm1 := gm1.below hbr
      have ltg := lt_of_block hzg
      replace hzg := (hbr.block _ (lt_of_block hzg)).trans hzg
      refine anyC_take (i := 5) (v := .tuple #[.agg #[.slice ra rn rc, .slice rb rm rd], .bool V1]) rfl (by kernel_rfl) (by kernel_rfl) (by kernel_rfl) (fun _ _ _ h => h) (.inl ⟨rfl, fun wz hz => by apply runs_move1 <;> rfl⟩) ?_
      try simp only [List.getElem_toArray, List.getElem_cons_zero, List.getElem_cons_succ, Act.put, List.setIfInBounds_toArray, List.set_cons_succ, List.set_cons_zero]
      refine anyC_take (i := 6) (v := .agg #[.slice ra rn rc, .slice rb rm rd]) rfl (by kernel_rfl) (by kernel_rfl) (by kernel_rfl) (fun _ _ _ h => h) (.inl ⟨rfl, fun wz hz => by apply runs_extract <;> rfl⟩) ?_
      try simp only [List.getElem_toArray, List.getElem_cons_zero, List.getElem_cons_succ, Act.put, List.setIfInBounds_toArray, List.set_cons_succ, List.set_cons_zero]
      refine anyC_take (i := 7) (v := .bool V1) rfl (by kernel_rfl) (by kernel_rfl) (by kernel_rfl) (fun _ _ _ h => h) (.inl ⟨rfl, fun wz hz => by apply runs_extract <;> rfl⟩) ?_
      try simp only [List.getElem_toArray, List.getElem_cons_zero, List.getElem_cons_succ, Act.put, List.setIfInBounds_toArray, List.set_cons_succ, List.set_cons_zero]
      refine anyC_law (i := 9) rfl (by kernel_rfl) z41 ?_
      refine wpList_store_row rfl 27 _ _ rfl g #[.slice ra rn rc, .slice rb rm rd] rfl rfl _ _ hzg (size_Alg _ _) rfl (one_sl2 _ _ _ _ _ _) ?_
      unfold wpList
      have z42 := below_setRow' z41 (show w1.heap.size ≤ g by first | exact lg | omega) #[.slice ra rn rc, .slice rb rm rd]
      have hra := (gr.other hzg (by decide) (by decide) (fun k hk => setRow_other _ g k #[.slice ra rn rc, .slice rb rm rd] hk)).ra
      refine anyC_law (i := 10) rfl (by kernel_rfl) z42 ?_
      go_wp2_with fail
      refine anyC_done (by kernel_rfl) z42 ?_ _
      try simp only [List.getElem_toArray, List.getElem_cons_zero, List.getElem_cons_succ, Act.put, List.setIfInBounds_toArray, List.set_cons_succ, List.set_cons_zero]
      go_wp2_with fail
      go_meet
      exact ⟨ra, rn, rc, rb, rm, rd, g, rfl, rfl, setRow_heap _ _ _ _ _ _ hzg, lg, hra, z42⟩
  case rest =>
  obtain ⟨wSb, hwc⟩ : ∃ x : World, x = wc := ⟨_, rfl⟩
  rw [← hwc] at hcut ⊢
  clear hwc
  obtain ⟨S0a, S0n, S0c, S0b, S0m, S0d, gS0, rfl, rfl, hxg, lgS, hra, zcS⟩ := hcut
  clear z23
  have KS := Lib.hid (show ∀ wz, Below wSb.heap.size wSb wz → wz.heap[gS0]? = some (.cells #[.slice S0a S0n S0c, .slice S0b S0m S0d] 27 (0, 0)) from fun wz h => (h.block _ (lt_of_block hxg)).trans hxg)
  have mgS : gS0 < wSb.heap.size := lt_of_block hxg
  have HS0 := Lib.hid hra
  clear hxg hra
  have Sz0 : Below wSb.heap.size wSb wSb := Below.refl _ _
  have n43 := zcS.size
  go_wp2_with (first | go_skip | (refine wpList_load_row_w rfl 25 _ rfl w.heap.size rfl _ _ _ _ (Kx0.out _ (by first | assumption | exact (by assumption : Below _ w1 _).alloc (Below.size (by assumption)) _)) Try.underlying25 rfl (size_LAlg _ _) ?_) | (refine wpList_load_row_w rfl 25 _ rfl (w.heap.size + 1) rfl _ _ _ _ (Kx1.out _ (by first | assumption | exact (by assumption : Below _ w1 _).alloc (Below.size (by assumption)) _)) Try.underlying25 rfl (size_LAlg _ _) ?_) | (refine wpList_load_row_w rfl 27 _ rfl gS0 rfl _ _ _ _ (KS.out _ (by assumption)) Try.underlying27 rfl (size_Alg _ _) ?_))
  have nlo0 : w1.heap.size ≤ wSb.heap.size := zcS.size
  refine (toAlgebra_G _ _ _ _ L0 T0 _ (HR0.out.below zcS) (HT0.out.below zcS) Sm0.out).mono ?_
  rintro e x0w ⟨x0a, x0n, x0c, x0b, x0m, x0d, rfl, gx0, hbx0⟩
  have z44 := zcS.trans (hbx0.mono zcS.size)
  have Sz44 := Sz0.trans (hbx0.mono Sz0.size)
  have n45 := hbx0.size
  clear hbx0
  go_wp2_with (first | go_skip | (refine wpList_load_row_w rfl 25 _ rfl w.heap.size rfl _ _ _ _ (Kx0.out _ (by first | assumption | exact (by assumption : Below _ w1 _).alloc (Below.size (by assumption)) _)) Try.underlying25 rfl (size_LAlg _ _) ?_) | (refine wpList_load_row_w rfl 25 _ rfl (w.heap.size + 1) rfl _ _ _ _ (Kx1.out _ (by first | assumption | exact (by assumption : Below _ w1 _).alloc (Below.size (by assumption)) _)) Try.underlying25 rfl (size_LAlg _ _) ?_) | (refine wpList_load_row_w rfl 27 _ rfl gS0 rfl _ _ _ _ (KS.out _ (by assumption)) Try.underlying27 rfl (size_Alg _ _) ?_) | (refine wpList_load_row_w rfl 27 _ rfl bx0 rfl _ _ _ _ (KX0.out _ (by assumption)) Try.underlying27 rfl (size_Alg _ _) ?_))
  obtain ⟨bx0, hbx0⟩ : ∃ g, g = x0w.heap.size := ⟨_, rfl⟩
  obtain ⟨X0w, hX0w⟩ : ∃ x, x = x0w.alloc (.cells #[.slice x0a x0n x0c, .slice x0b x0m x0d] 27) := ⟨_, rfl⟩
  rw [← hX0w, ← hbx0]
  have hbX0w : Below x0w.heap.size x0w X0w := (by rw [hX0w]; exact (Below.refl _ _).alloc (Nat.le_refl _) _)
  have hxbx0 : X0w.heap[bx0]? = some (.cells #[.slice x0a x0n x0c, .slice x0b x0m x0d] 27 (0, 0)) := (by rw [hX0w, hbx0]; exact heap_alloc_new x0w _)
  have nbx0 : x0w.heap.size ≤ bx0 := Nat.le_of_eq hbx0.symm
  have mbx0 : bx0 < X0w.heap.size := lt_of_block hxbx0
  have KX0 := Lib.hid (show ∀ wz, Below X0w.heap.size X0w wz → wz.heap[bx0]? = some (.cells #[.slice x0a x0n x0c, .slice x0b x0m x0d] 27 (0, 0)) from fun wz h => (h.block _ (lt_of_block hxbx0)).trans hxbx0)
  clear hX0w hbx0 hxbx0
  have GX0 := Lib.hid (gx0.below hbX0w)
  clear gx0
  have z46 := z44.trans (hbX0w.mono z44.size)
  have Sz46 := Sz44.trans (hbX0w.mono Sz44.size)
  have n47 := hbX0w.size
  clear z44 Sz44 hbX0w
  have y0z0 : Below X0w.heap.size X0w X0w := Below.refl _ _
  go_wp2_with (first | go_skip | (refine wpList_load_row_w rfl 25 _ rfl w.heap.size rfl _ _ _ _ (Kx0.out _ (by first | assumption | exact (by assumption : Below _ w1 _).alloc (Below.size (by assumption)) _)) Try.underlying25 rfl (size_LAlg _ _) ?_) | (refine wpList_load_row_w rfl 25 _ rfl (w.heap.size + 1) rfl _ _ _ _ (Kx1.out _ (by first | assumption | exact (by assumption : Below _ w1 _).alloc (Below.size (by assumption)) _)) Try.underlying25 rfl (size_LAlg _ _) ?_) | (refine wpList_load_row_w rfl 27 _ rfl gS0 rfl _ _ _ _ (KS.out _ (by assumption)) Try.underlying27 rfl (size_Alg _ _) ?_) | (refine wpList_load_row_w rfl 27 _ rfl bx0 rfl _ _ _ _ (KX0.out _ (by assumption)) Try.underlying27 rfl (size_Alg _ _) ?_))
  have nlo1 : w1.heap.size ≤ X0w.heap.size := z46.size
  refine (toAlgebra_G _ _ _ _ L1 T1 _ (HR1.out.below z46) (HT1.out.below z46) Sm1.out).mono ?_
  rintro e x1w ⟨x1a, x1n, x1c, x1b, x1m, x1d, rfl, gx1, hbx1⟩
  have z48 := z46.trans (hbx1.mono z46.size)
  have Sz48 := Sz46.trans (hbx1.mono Sz46.size)
  have y0z48 := y0z0.trans (hbx1.mono y0z0.size)
  have n49 := hbx1.size
  clear hbx1
  go_wp2_with (first | go_skip | (obtain ⟨bx1, hbx1⟩ : ∃ g, g = x1w.heap.size := ⟨_, rfl⟩; obtain ⟨X1w, hX1w⟩ : ∃ x, x = x1w.alloc (.cells #[.slice x1a x1n x1c, .slice x1b x1m x1d] 27) := ⟨_, rfl⟩; rw [← hX1w, ← hbx1]; have hbX1w : Below x1w.heap.size x1w X1w := (by rw [hX1w]; exact (Below.refl _ _).alloc (Nat.le_refl _) _); have hxbx1 : X1w.heap[bx1]? = some (.cells #[.slice x1a x1n x1c, .slice x1b x1m x1d] 27 (0, 0)) := (by rw [hX1w, hbx1]; exact heap_alloc_new x1w _); have nbx1 : x1w.heap.size ≤ bx1 := Nat.le_of_eq hbx1.symm; have mbx1 : bx1 < X1w.heap.size := lt_of_block hxbx1; have KX1 := Lib.hid (show ∀ wz, Below X1w.heap.size X1w wz → wz.heap[bx1]? = some (.cells #[.slice x1a x1n x1c, .slice x1b x1m x1d] 27 (0, 0)) from fun wz h => (h.block _ (lt_of_block hxbx1)).trans hxbx1); clear hX1w hbx1 hxbx1; have GX1 := Lib.hid (gx1.below hbX1w); clear gx1; have z50 := z48.trans (hbX1w.mono z48.size); have Sz50 := Sz48.trans (hbX1w.mono Sz48.size); have y0z50 := y0z48.trans (hbX1w.mono y0z48.size); have n51 := hbX1w.size; clear z48 Sz48 y0z48 hbX1w; have y1z0 : Below X1w.heap.size X1w X1w := Below.refl _ _) | (refine wpList_load_row_w rfl 25 _ rfl w.heap.size rfl _ _ _ _ (Kx0.out _ (by first | assumption | exact (by assumption : Below _ w1 _).alloc (Below.size (by assumption)) _)) Try.underlying25 rfl (size_LAlg _ _) ?_) | (refine wpList_load_row_w rfl 25 _ rfl (w.heap.size + 1) rfl _ _ _ _ (Kx1.out _ (by first | assumption | exact (by assumption : Below _ w1 _).alloc (Below.size (by assumption)) _)) Try.underlying25 rfl (size_LAlg _ _) ?_) | (refine wpList_load_row_w rfl 27 _ rfl gS0 rfl _ _ _ _ (KS.out _ (by assumption)) Try.underlying27 rfl (size_Alg _ _) ?_) | (refine wpList_load_row_w rfl 27 _ rfl bx0 rfl _ _ _ _ (KX0.out _ (by assumption)) Try.underlying27 rfl (size_Alg _ _) ?_) | (refine wpList_load_row_w rfl 27 _ rfl bx1 rfl _ _ _ _ (KX1.out _ (by assumption)) Try.underlying27 rfl (size_Alg _ _) ?_))
  have nlg : w1.heap.size ≤ X1w.heap.size := z50.size
  refine (HI.out _ _ _ _ _ _ _ _ _ _ _ _ _ (GX0.out.below y0z50).rd (GX1.out.below y1z0).rd).mono ?_
  rintro e wI ⟨G0a, G0n, G0c, G0b, G0m, G0d, rfl, G0g, hbG⟩
  have z52 := z50.trans (hbG.mono z50.size)
  have Sz52 := Sz50.trans (hbG.mono Sz50.size)
  have y0z52 := y0z50.trans (hbG.mono y0z50.size)
  have y1z52 := y1z0.trans (hbG.mono y1z0.size)
  have n53 := hbG.size
  clear hbG
  go_wp2_with (first | go_skip | (refine wpList_store_row rfl 27 _ _ rfl wI.heap.size #[.slice G0a G0n G0c, .slice G0b G0m G0d] rfl rfl _ _ (heap_alloc_new wI (.cells #[.slice none 0 0, .slice none 0 0] 27)) (size_Alg _ _) rfl (one_sl2 _ _ _ _ _ _) ?_; rw [World.setRow_alloc_new]; obtain ⟨gG0, hgG0⟩ : ∃ g, g = wI.heap.size := ⟨_, rfl⟩; obtain ⟨wJ, hwJ⟩ : ∃ x, x = wI.alloc (.cells #[.slice G0a G0n G0c, .slice G0b G0m G0d] 27) := ⟨_, rfl⟩; rw [← hwJ, ← hgG0]; have hbwJ : Below wI.heap.size wI wJ := (by rw [hwJ]; exact (Below.refl _ _).alloc (Nat.le_refl _) _); have hxgG0 : wJ.heap[gG0]? = some (.cells #[.slice G0a G0n G0c, .slice G0b G0m G0d] 27 (0, 0)) := (by rw [hwJ, hgG0]; exact heap_alloc_new wI _); have ngG0 : wI.heap.size ≤ gG0 := Nat.le_of_eq hgG0.symm; have mgG0 : gG0 < wJ.heap.size := lt_of_block hxgG0; have KG := Lib.hid (show ∀ wz, Below wJ.heap.size wJ wz → wz.heap[gG0]? = some (.cells #[.slice G0a G0n G0c, .slice G0b G0m G0d] 27 (0, 0)) from fun wz h => (h.block _ (lt_of_block hxgG0)).trans hxgG0); clear hwJ hgG0 hxgG0; have z54 := z52.trans (hbwJ.mono z52.size); have Sz54 := Sz52.trans (hbwJ.mono Sz52.size); have y0z54 := y0z52.trans (hbwJ.mono y0z52.size); have y1z54 := y1z52.trans (hbwJ.mono y1z52.size); have Gz0 : Below wJ.heap.size wJ wJ := Below.refl _ _) | (refine wpList_load_row_w rfl 25 _ rfl w.heap.size rfl _ _ _ _ (Kx0.out _ (by first | assumption | exact (by assumption : Below _ w1 _).alloc (Below.size (by assumption)) _)) Try.underlying25 rfl (size_LAlg _ _) ?_) | (refine wpList_load_row_w rfl 25 _ rfl (w.heap.size + 1) rfl _ _ _ _ (Kx1.out _ (by first | assumption | exact (by assumption : Below _ w1 _).alloc (Below.size (by assumption)) _)) Try.underlying25 rfl (size_LAlg _ _) ?_) | (refine wpList_load_row_w rfl 27 _ rfl gS0 rfl _ _ _ _ (KS.out _ (by assumption)) Try.underlying27 rfl (size_Alg _ _) ?_) | (refine wpList_load_row_w rfl 27 _ rfl bx0 rfl _ _ _ _ (KX0.out _ (by assumption)) Try.underlying27 rfl (size_Alg _ _) ?_) | (refine wpList_load_row_w rfl 27 _ rfl bx1 rfl _ _ _ _ (KX1.out _ (by assumption)) Try.underlying27 rfl (size_Alg _ _) ?_) | (refine wpList_load_row_w rfl 27 _ rfl gG0 rfl _ _ _ _ (KG.out _ (by assumption)) Try.underlying27 rfl (size_Alg _ _) ?_))
  have HG0 := Lib.hid (G0g.below hbwJ)
  clear G0g
  clear hbwJ
  refine (eqAlgebra_R _ _ _ _ VL0 VT0 _ (HG0.out.below Gz0).rd (HS0.out.below Sz54) TI0.out.sm).mono ?_
  rintro e c0w ⟨rfl, hbc0⟩
  have z55 := z54.trans (hbc0.mono z54.size)
  have Sz55 := Sz54.trans (hbc0.mono Sz54.size)
  have y0z55 := y0z54.trans (hbc0.mono y0z54.size)
  have y1z55 := y1z54.trans (hbc0.mono y1z54.size)
  have Gz55 := Gz0.trans (hbc0.mono Gz0.size)
  have n56 := hbc0.size
  clear z54 Sz54 y0z54 y1z54 Gz0 hbc0
  go_wp2_with (first | go_skip | (refine wpList_load_row_w rfl 25 _ rfl w.heap.size rfl _ _ _ _ (Kx0.out _ (by first | assumption | exact (by assumption : Below _ w1 _).alloc (Below.size (by assumption)) _)) Try.underlying25 rfl (size_LAlg _ _) ?_) | (refine wpList_load_row_w rfl 25 _ rfl (w.heap.size + 1) rfl _ _ _ _ (Kx1.out _ (by first | assumption | exact (by assumption : Below _ w1 _).alloc (Below.size (by assumption)) _)) Try.underlying25 rfl (size_LAlg _ _) ?_) | (refine wpList_load_row_w rfl 27 _ rfl gS0 rfl _ _ _ _ (KS.out _ (by assumption)) Try.underlying27 rfl (size_Alg _ _) ?_) | (refine wpList_load_row_w rfl 27 _ rfl bx0 rfl _ _ _ _ (KX0.out _ (by assumption)) Try.underlying27 rfl (size_Alg _ _) ?_) | (refine wpList_load_row_w rfl 27 _ rfl bx1 rfl _ _ _ _ (KX1.out _ (by assumption)) Try.underlying27 rfl (size_Alg _ _) ?_) | (refine wpList_load_row_w rfl 27 _ rfl gG0 rfl _ _ _ _ (KG.out _ (by assumption)) Try.underlying27 rfl (size_Alg _ _) ?_))
  obtain ⟨c0, c1⟩ := bxL_cells (Kx0.out _ z55)
  obtain ⟨d0, d1⟩ := bx_cells (KX0.out _ y0z55)
  go_wp2
  go_region_with (first
    | (go_at_call 18; refine (toAlgebra_G _ _ _ _ L0 T0 _ (HR0.out.below z55.drew) (HT0.out.below z55.drew) Sm0.out).mono ?_; rintro e e0w ⟨e0a, e0n, e0c, e0b, e0m, e0d, rfl, ge0, hbe0⟩; have z57 := z55.drew.trans (hbe0.mono z55.drew.size); have Sz57 := Sz55.drew.trans (hbe0.mono Sz55.drew.size); have y0z57 := y0z55.drew.trans (hbe0.mono y0z55.drew.size); have y1z57 := y1z55.drew.trans (hbe0.mono y1z55.drew.size); have Gz57 := Gz55.drew.trans (hbe0.mono Gz55.drew.size); obtain ⟨e0, e1⟩ := bx_cells (KX0.out _ y0z57))
    | (go_at_call 20; refine (eqAlgebra_R _ _ _ _ L0 T0 _ (GX0.out.below y0z57).rd ge0.rd Sm0.out).mono ?_; rintro e f0w ⟨rfl, hbf0⟩; have z58 := z57.trans (hbf0.mono z57.size); have Sz58 := Sz57.trans (hbf0.mono Sz57.size); have y0z58 := y0z57.trans (hbf0.mono y0z57.size); have y1z58 := y1z57.trans (hbf0.mono y1z57.size); have Gz58 := Gz57.trans (hbf0.mono Gz57.size)))
  all_goals
    clear c0 c1 d0 d1 e0 e1 ge0 hbe0 hbf0 z55 Sz55 y0z55 y1z55 Gz55 z57 Sz57 y0z57 y1z57 Gz57
    have nf0 := Gz58.size
    obtain ⟨c0, c1⟩ := bxL_cells (Kx1.out _ z58)
    obtain ⟨d0, d1⟩ := bx_cells (KX1.out _ y1z58)
    go_wp2
    go_region_with (first
      | (go_at_call 18; refine (toAlgebra_G _ _ _ _ L1 T1 _ (HR1.out.below z58.drew) (HT1.out.below z58.drew) Sm1.out).mono ?_; rintro e e1w ⟨e1a, e1n, e1c, e1b, e1m, e1d, rfl, ge1, hbe1⟩; have z59 := z58.drew.trans (hbe1.mono z58.drew.size); have Sz59 := Sz58.drew.trans (hbe1.mono Sz58.drew.size); have y0z59 := y0z58.drew.trans (hbe1.mono y0z58.drew.size); have y1z59 := y1z58.drew.trans (hbe1.mono y1z58.drew.size); have Gz59 := Gz58.drew.trans (hbe1.mono Gz58.drew.size); obtain ⟨e0, e1⟩ := bx_cells (KX1.out _ y1z59))
      | (go_at_call 20; refine (eqAlgebra_R _ _ _ _ L1 T1 _ (GX1.out.below y1z59).rd ge1.rd Sm1.out).mono ?_; rintro e f1w ⟨rfl, hbf1⟩; have z60 := z59.trans (hbf1.mono z59.size); have Sz60 := Sz59.trans (hbf1.mono Sz59.size); have y0z60 := y0z59.trans (hbf1.mono y0z59.size); have y1z60 := y1z59.trans (hbf1.mono y1z59.size); have Gz60 := Gz59.trans (hbf1.mono Gz59.size)))
    all_goals
      clear c0 c1 d0 d1 e0 e1 ge1 hbe1 hbf1 z58 Sz58 y0z58 y1z58 Gz58 z59 Sz59 y0z59 y1z59 Gz59
      have nf1 := Gz60.size
      go_wp2_with (first | go_skip | (refine wpList_load_row_w rfl 25 _ rfl w.heap.size rfl _ _ _ _ (Kx0.out _ (by first | assumption | exact (by assumption : Below _ w1 _).alloc (Below.size (by assumption)) _)) Try.underlying25 rfl (size_LAlg _ _) ?_) | (refine wpList_load_row_w rfl 25 _ rfl (w.heap.size + 1) rfl _ _ _ _ (Kx1.out _ (by first | assumption | exact (by assumption : Below _ w1 _).alloc (Below.size (by assumption)) _)) Try.underlying25 rfl (size_LAlg _ _) ?_) | (refine wpList_load_row_w rfl 27 _ rfl gS0 rfl _ _ _ _ (KS.out _ (by assumption)) Try.underlying27 rfl (size_Alg _ _) ?_) | (refine wpList_load_row_w rfl 27 _ rfl bx0 rfl _ _ _ _ (KX0.out _ (by assumption)) Try.underlying27 rfl (size_Alg _ _) ?_) | (refine wpList_load_row_w rfl 27 _ rfl bx1 rfl _ _ _ _ (KX1.out _ (by assumption)) Try.underlying27 rfl (size_Alg _ _) ?_) | (refine wpList_load_row_w rfl 27 _ rfl gG0 rfl _ _ _ _ (KG.out _ (by assumption)) Try.underlying27 rfl (size_Alg _ _) ?_))
      have nhi0 := y0z60.size
      refine (markAlgebra_G wSb.heap.size x0w.heap.size _ _ _ _ _ _ L0 T0 (1) _ (GX0.out.below y0z60) (by omega) Sm0.out (by omega) (by omega)).mono ?_
      rintro e k0w ⟨rfl, _, mk0⟩
      have z61 := z60.trans (mk0.below (by omega) (by have := z60.size; omega))
      have Sz61 := Sz60.trans (mk0.below (by omega) (by have := Sz60.size; omega))
      replace GX1 := Lib.hid ((GX1.out.below y1z60).mid mk0 (by omega))
      have hxq := (mk0.block bx1 (lt_of_block (KX1.out _ y1z60)) (.inr (by omega))).trans (KX1.out _ y1z60)
      replace KX1 := Lib.hid (show ∀ wz, Below k0w.heap.size k0w wz → wz.heap[bx1]? = some (.cells #[.slice x1a x1n x1c, .slice x1b x1m x1d] 27 (0, 0)) from fun wz h => (h.block _ (lt_of_block hxq)).trans hxq)
      clear hxq
      have y1z61 : Below k0w.heap.size k0w k0w := Below.refl _ _
      replace HG0 := Lib.hid ((HG0.out.below Gz60).mid mk0 (by omega))
      have hxq := (mk0.block gG0 (lt_of_block (KG.out _ Gz60)) (.inr (by omega))).trans (KG.out _ Gz60)
      replace KG := Lib.hid (show ∀ wz, Below k0w.heap.size k0w wz → wz.heap[gG0]? = some (.cells #[.slice G0a G0n G0c, .slice G0b G0m G0d] 27 (0, 0)) from fun wz h => (h.block _ (lt_of_block hxq)).trans hxq)
      clear hxq
      have Gz61 : Below k0w.heap.size k0w k0w := Below.refl _ _
      have n62 := mk0.size
      clear z60 Sz60 y0z60 y1z60 Gz60 mk0
      go_wp2_with (first | go_skip | (refine wpList_load_row_w rfl 25 _ rfl w.heap.size rfl _ _ _ _ (Kx0.out _ (by first | assumption | exact (by assumption : Below _ w1 _).alloc (Below.size (by assumption)) _)) Try.underlying25 rfl (size_LAlg _ _) ?_) | (refine wpList_load_row_w rfl 25 _ rfl (w.heap.size + 1) rfl _ _ _ _ (Kx1.out _ (by first | assumption | exact (by assumption : Below _ w1 _).alloc (Below.size (by assumption)) _)) Try.underlying25 rfl (size_LAlg _ _) ?_) | (refine wpList_load_row_w rfl 27 _ rfl gS0 rfl _ _ _ _ (KS.out _ (by assumption)) Try.underlying27 rfl (size_Alg _ _) ?_) | (refine wpList_load_row_w rfl 27 _ rfl bx1 rfl _ _ _ _ (KX1.out _ (by assumption)) Try.underlying27 rfl (size_Alg _ _) ?_) | (refine wpList_load_row_w rfl 27 _ rfl gG0 rfl _ _ _ _ (KG.out _ (by assumption)) Try.underlying27 rfl (size_Alg _ _) ?_))
      have nhi1 := y1z61.size
      refine (markAlgebra_G X0w.heap.size x1w.heap.size _ _ _ _ _ _ L1 T1 (1 + wtA L0 T0) _ (GX1.out.below y1z61) (by omega) Sm1.out (by omega) (by omega)).mono ?_
      rintro e k1w ⟨rfl, _, mk1⟩
      have z63 := z61.trans (mk1.below (by omega) (by have := z61.size; omega))
      have Sz63 := Sz61.trans (mk1.below (by omega) (by have := Sz61.size; omega))
      replace HG0 := Lib.hid ((HG0.out.below Gz61).mid mk1 (by omega))
      have hxq := (mk1.block gG0 (lt_of_block (KG.out _ Gz61)) (.inr (by omega))).trans (KG.out _ Gz61)
      replace KG := Lib.hid (show ∀ wz, Below k1w.heap.size k1w wz → wz.heap[gG0]? = some (.cells #[.slice G0a G0n G0c, .slice G0b G0m G0d] 27 (0, 0)) from fun wz h => (h.block _ (lt_of_block hxq)).trans hxq)
      clear hxq
      have Gz63 : Below k1w.heap.size k1w k1w := Below.refl _ _
      have n64 := mk1.size
      clear z61 Sz61 y1z61 Gz61 mk1
      have hkx : ¬ 1 + wtA L0 T0 + wtA L1 T1 < 0 := by omega
      have hkb : decide (1 + wtA L0 T0 + wtA L1 T1 < 0) = false := decide_eq_false hkx
      go_wp2_with (first | go_skip | (refine wpList_load_row_w rfl 25 _ rfl w.heap.size rfl _ _ _ _ (Kx0.out _ (by first | assumption | exact (by assumption : Below _ w1 _).alloc (Below.size (by assumption)) _)) Try.underlying25 rfl (size_LAlg _ _) ?_) | (refine wpList_load_row_w rfl 25 _ rfl (w.heap.size + 1) rfl _ _ _ _ (Kx1.out _ (by first | assumption | exact (by assumption : Below _ w1 _).alloc (Below.size (by assumption)) _)) Try.underlying25 rfl (size_LAlg _ _) ?_) | (refine wpList_load_row_w rfl 27 _ rfl gS0 rfl _ _ _ _ (KS.out _ (by assumption)) Try.underlying27 rfl (size_Alg _ _) ?_) | (refine wpList_load_row_w rfl 27 _ rfl gG0 rfl _ _ _ _ (KG.out _ (by assumption)) Try.underlying27 rfl (size_Alg _ _) ?_))
      refine (eqAlgebra_R _ _ _ _ VL0 VT0 _ (HG0.out.below Gz63).rd (HS0.out.below Sz63) TI0.out.sm).mono ?_
      rintro e d0w ⟨rfl, hbd0⟩
      have z65 := z63.trans (hbd0.mono z63.size)
      have Sz65 := Sz63.trans (hbd0.mono Sz63.size)
      have Gz65 := Gz63.trans (hbd0.mono Gz63.size)
      have n66 := hbd0.size
      clear z63 Sz63 Gz63 hbd0
      go_wp2_with (first | go_skip | (refine wpList_load_row_w rfl 25 _ rfl w.heap.size rfl _ _ _ _ (Kx0.out _ (by first | assumption | exact (by assumption : Below _ w1 _).alloc (Below.size (by assumption)) _)) Try.underlying25 rfl (size_LAlg _ _) ?_) | (refine wpList_load_row_w rfl 25 _ rfl (w.heap.size + 1) rfl _ _ _ _ (Kx1.out _ (by first | assumption | exact (by assumption : Below _ w1 _).alloc (Below.size (by assumption)) _)) Try.underlying25 rfl (size_LAlg _ _) ?_) | (refine wpList_load_row_w rfl 27 _ rfl gS0 rfl _ _ _ _ (KS.out _ (by assumption)) Try.underlying27 rfl (size_Alg _ _) ?_) | (refine wpList_load_row_w rfl 27 _ rfl gG0 rfl _ _ _ _ (KG.out _ (by assumption)) Try.underlying27 rfl (size_Alg _ _) ?_))
      obtain ⟨vl0, vu0⟩ := wtA_le TI0.out.sm
      have nhg := Gz65.size
      refine (markAlgebra_G X1w.heap.size wI.heap.size _ _ _ _ _ _ VL0 VT0 (1) _ (HG0.out.below Gz65) (by omega) TI0.out.sm (by omega) (by omega)).mono ?_
      rintro e l0w ⟨rfl, MG0, ml0⟩
      have z67 := z65.trans (ml0.below (by omega) (by have := z65.size; omega))
      have Sz67 := Sz65.trans (ml0.below (by omega) (by have := Sz65.size; omega))
      have hxq := (ml0.block gG0 (lt_of_block (KG.out _ Gz65)) (.inr (by omega))).trans (KG.out _ Gz65)
      replace KG := Lib.hid (show ∀ wz, Below l0w.heap.size l0w wz → wz.heap[gG0]? = some (.cells #[.slice G0a G0n G0c, .slice G0b G0m G0d] 27 (0, 0)) from fun wz h => (h.block _ (lt_of_block hxq)).trans hxq)
      clear hxq
      replace MG0 := Lib.hid MG0
      have Gz67 : Below l0w.heap.size l0w l0w := Below.refl _ _
      clear z65 Sz65 Gz65 ml0
      have hq0 : ¬ 1 + wtA VL0 VT0 < 0 := by omega
      have hqb0 : decide (1 + wtA VL0 VT0 < 0) = false := decide_eq_false hq0
      have hqq : (1 + wtA VL0 VT0 != 1 + wtA VL0 VT0) = false := by simp
      go_wp2_with (first | go_skip | (refine wpList_load_row_w rfl 25 _ rfl w.heap.size rfl _ _ _ _ (Kx0.out _ (by first | assumption | exact (by assumption : Below _ w1 _).alloc (Below.size (by assumption)) _)) Try.underlying25 rfl (size_LAlg _ _) ?_) | (refine wpList_load_row_w rfl 25 _ rfl (w.heap.size + 1) rfl _ _ _ _ (Kx1.out _ (by first | assumption | exact (by assumption : Below _ w1 _).alloc (Below.size (by assumption)) _)) Try.underlying25 rfl (size_LAlg _ _) ?_) | (refine wpList_load_row_w rfl 27 _ rfl gS0 rfl _ _ _ _ (KS.out _ (by assumption)) Try.underlying27 rfl (size_Alg _ _) ?_) | (refine wpList_load_row_w rfl 27 _ rfl gG0 rfl _ _ _ _ (KG.out _ (by assumption)) Try.underlying27 rfl (size_Alg _ _) ?_))
      refine (heldAlgebra_G _ _ _ _ _ _ VL0 VT0 (1) _ (MG0.out.below Gz67) TI0.out (by omega) (by omega)).mono ?_
      rintro e p0w ⟨rfl, hbp0⟩
      have z68 := z67.trans (hbp0.mono z67.size)
      have Sz68 := Sz67.trans (hbp0.mono Sz67.size)
      have Gz68 := Gz67.trans (hbp0.mono Gz67.size)
      have n69 := hbp0.size
      clear z67 Sz67 Gz67 hbp0
      go_wp2_with (first | go_skip | (refine wpList_load_row_w rfl 25 _ rfl w.heap.size rfl _ _ _ _ (Kx0.out _ (by first | assumption | exact (by assumption : Below _ w1 _).alloc (Below.size (by assumption)) _)) Try.underlying25 rfl (size_LAlg _ _) ?_) | (refine wpList_load_row_w rfl 25 _ rfl (w.heap.size + 1) rfl _ _ _ _ (Kx1.out _ (by first | assumption | exact (by assumption : Below _ w1 _).alloc (Below.size (by assumption)) _)) Try.underlying25 rfl (size_LAlg _ _) ?_) | (refine wpList_load_row_w rfl 27 _ rfl gS0 rfl _ _ _ _ (KS.out _ (by assumption)) Try.underlying27 rfl (size_Alg _ _) ?_) | (refine wpList_load_row_w rfl 27 _ rfl gG0 rfl _ _ _ _ (KG.out _ (by assumption)) Try.underlying27 rfl (size_Alg _ _) ?_))
      go_cut [15, 16] (fun sg sb wx => ∃ (ra : Option Addr) (rn rc : Nat) (rb : Option Addr) (rm rd g : Nat), sb = .bool V1 ∧ sg = .pointer (some ⟨g, 0, none⟩) ∧ wx.heap[g]? = some (.cells #[.slice ra rn rc, .slice rb rm rd] 27 (0, 0)) ∧ w1.heap.size ≤ g ∧ RA wx (.slice ra rn rc) (.slice rb rm rd) VL0 VT0 ∧ Below w1.heap.size w1 wx ∧ Below wSb.heap.size wSb wx ∧ Below l0w.heap.size l0w wx)
      case first =>
        refine wp_region_any (by kernel_rfl) ?_
        refine any_of_C (C := fun wz => Below w1.heap.size w1 wz) _ _ _ _ ?_
        refine anyC_take (i := 0) (v := .agg #[.slice a0 L0.length ca0, .slice b0 T0.length cb0]) rfl (by kernel_rfl) (by kernel_rfl) (by kernel_rfl) (fun _ _ _ h => h) (.inl ⟨rfl, fun wz hz => runs_load (C := fun wz => Below w1.heap.size w1 wz) 25 _ rfl w.heap.size rfl _ _ _ _ (fun w hw => Kx0.out _ hw) Try.underlying25 rfl (size_LAlg _ _) wz hz⟩) ?_
        refine anyC_take (i := 2) (v := .agg #[.slice a1 L1.length ca1, .slice b1 T1.length cb1]) rfl (by kernel_rfl) (by kernel_rfl) (by kernel_rfl) (fun _ _ _ h => h) (.inl ⟨rfl, fun wz hz => runs_load (C := fun wz => Below w1.heap.size w1 wz) 25 _ rfl (w.heap.size + 1) rfl _ _ _ _ (fun w hw => Kx1.out _ hw) Try.underlying25 rfl (size_LAlg _ _) wz hz⟩) ?_
        obtain ⟨wd, hwd⟩ : ∃ x : World, x = p0w.drewN 1 := ⟨_, rfl⟩
        change wpAnyC _ _ _ _ _ _ _ _ (p0w.drewN 1)
        rw [← hwd]
        have z70 := z68.trans (show Below _ p0w wd from by rw [hwd]; exact Dr.below ⟨1, rfl⟩ _)
        have Sz70 := Sz68.trans (show Below _ p0w wd from by rw [hwd]; exact Dr.below ⟨1, rfl⟩ _)
        have Gz70 := Gz68.trans (show Below _ p0w wd from by rw [hwd]; exact Dr.below ⟨1, rfl⟩ _)
        clear hwd
        clear z68 Sz68 Gz68
        try simp only [List.getElem_toArray, List.getElem_cons_zero, List.getElem_cons_succ, Act.put, List.setIfInBounds_toArray, List.set_cons_succ, List.set_cons_zero]
        refine anyC_two (i := 1) (j := 8) (f := 18) (args := #[.agg #[.slice a0 L0.length ca0, .slice b0 T0.length cb0]]) rfl rfl (by kernel_rfl) rfl (by apply runs_call1 (he := enters_toA_CrossAlgebras) <;> rfl) z70 ?_ ?_
        · skip
          refine (toAlgebra_G _ _ _ _ L0 T0 _ (HR0.out.below z70) (HT0.out.below z70) Sm0.out).mono ?_
          rintro e m0w ⟨m0a, m0n, m0c, m0b, m0m, m0d, rfl, gm0, hbm0⟩
          refine ⟨_, rfl, ?_⟩
          try simp only [List.getElem_toArray, List.getElem_cons_zero, List.getElem_cons_succ, Act.put, List.setIfInBounds_toArray, List.set_cons_succ, List.set_cons_zero]
          have z71 := z70.trans (hbm0.mono z70.size)
          have Sz71 := Sz70.trans (hbm0.mono Sz70.size)
          have Gz71 := Gz70.trans (hbm0.mono Gz70.size)
          clear z70 Sz70 Gz70
          refine anyC_two (i := 3) (j := 8) (f := 18) (args := #[.agg #[.slice a1 L1.length ca1, .slice b1 T1.length cb1]]) rfl rfl (by kernel_rfl) rfl (by apply runs_call1 (he := enters_toA_CrossAlgebras) <;> rfl) z71 ?_ ?_
          · skip
            refine (toAlgebra_G _ _ _ _ L1 T1 _ (HR1.out.below z71) (HT1.out.below z71) Sm1.out).mono ?_
            rintro e m1w ⟨m1a, m1n, m1c, m1b, m1m, m1d, rfl, gm1, hbm1⟩
            refine ⟨_, rfl, ?_⟩
            try simp only [List.getElem_toArray, List.getElem_cons_zero, List.getElem_cons_succ, Act.put, List.setIfInBounds_toArray, List.set_cons_succ, List.set_cons_zero]
            have z72 := z71.trans (hbm1.mono z71.size)
            have Sz72 := Sz71.trans (hbm1.mono Sz71.size)
            have Gz72 := Gz71.trans (hbm1.mono Gz71.size)
            clear z71 Sz71 Gz71
            replace gm0 := gm0.below hbm1
            refine anyC_two (i := 4) (j := 8) (f := 19) (args := #[.agg #[.slice m0a m0n m0c, .slice m0b m0m m0d], .agg #[.slice m1a m1n m1c, .slice m1b m1m m1d]]) rfl rfl (by kernel_rfl) rfl (by apply runs_call2 (he := enters_im_CrossAlgebras) <;> rfl) z72 ?_ ?_
            · skip
              refine (HI.out _ _ _ _ _ _ _ _ _ _ _ _ _ gm0.rd gm1.rd).mono ?_
              rintro e rw ⟨ra, rn, rc, rb, rm, rd, rfl, gr, hbr⟩
              refine ⟨_, rfl, ?_⟩
              try simp only [List.getElem_toArray, List.getElem_cons_zero, List.getElem_cons_succ, Act.put, List.setIfInBounds_toArray, List.set_cons_succ, List.set_cons_zero]
              have z73 := z72.trans (hbr.mono z72.size)
              have Sz73 := Sz72.trans (hbr.mono Sz72.size)
              have Gz73 := Gz72.trans (hbr.mono Gz72.size)
              clear z72 Sz72 Gz72
              replace gm0 := gm0.below hbr
              replace gm1 := gm1.below hbr
              refine anyC_take (i := 5) (v := .tuple #[.agg #[.slice ra rn rc, .slice rb rm rd], .bool V1]) rfl (by kernel_rfl) (by kernel_rfl) (by kernel_rfl) (fun _ _ _ h => h) (.inl ⟨rfl, fun wz hz => by apply runs_move1 <;> rfl⟩) ?_
              try simp only [List.getElem_toArray, List.getElem_cons_zero, List.getElem_cons_succ, Act.put, List.setIfInBounds_toArray, List.set_cons_succ, List.set_cons_zero]
              refine anyC_take (i := 6) (v := .agg #[.slice ra rn rc, .slice rb rm rd]) rfl (by kernel_rfl) (by kernel_rfl) (by kernel_rfl) (fun _ _ _ h => h) (.inl ⟨rfl, fun wz hz => by apply runs_extract <;> rfl⟩) ?_
              try simp only [List.getElem_toArray, List.getElem_cons_zero, List.getElem_cons_succ, Act.put, List.setIfInBounds_toArray, List.set_cons_succ, List.set_cons_zero]
              refine anyC_take (i := 7) (v := .bool V1) rfl (by kernel_rfl) (by kernel_rfl) (by kernel_rfl) (fun _ _ _ h => h) (.inl ⟨rfl, fun wz hz => by apply runs_extract <;> rfl⟩) ?_
              try simp only [List.getElem_toArray, List.getElem_cons_zero, List.getElem_cons_succ, Act.put, List.setIfInBounds_toArray, List.set_cons_succ, List.set_cons_zero]
              refine anyC_law (i := 8) rfl (by kernel_rfl) z73 ?_
              go_wp2_with fail
              have hzg0 := heap_alloc_new (rw) (.cells #[.slice none 0 0, .slice none 0 0] 27)
              have qA : Below (rw).heap.size (rw) ((rw).alloc (.cells #[.slice none 0 0, .slice none 0 0] 27)) := (Below.refl _ _).alloc (Nat.le_refl _) _
              obtain ⟨g, hg⟩ : ∃ g : Nat, g = (rw).heap.size := ⟨_, rfl⟩
              obtain ⟨wA, hwA⟩ : ∃ x : World, x = (rw).alloc (.cells #[.slice none 0 0, .slice none 0 0] 27) := ⟨_, rfl⟩
              rw [← hg, ← hwA] at hzg0
              rw [← hwA] at qA
              have hzg := hzg0
              have lg : w1.heap.size ≤ g := by rw [hg]; exact z73.size
              have lgS : wSb.heap.size ≤ g := by rw [hg]; exact Sz73.size
              have lgG : l0w.heap.size ≤ g := by rw [hg]; exact Gz73.size
              have z74 := z73.trans (qA.mono z73.size)
              have Sz74 := Sz73.trans (qA.mono Sz73.size)
              have Gz74 := Gz73.trans (qA.mono Gz73.size)
              first | (rw [← hwA, ← hg]) | (simp only [← hwA, ← hg]) | skip
              try replace gm0 := gm0.below qA
              try replace gm1 := gm1.below qA
              try replace gr := gr.below qA
              have lge : (rw).heap.size ≤ g := Nat.le_of_eq hg.symm
              clear hzg0 hg hwA qA z73 Sz73 Gz73
              refine anyC_law (i := 9) rfl (by kernel_rfl) z74 ?_
              refine wpList_store_row rfl 27 _ _ rfl g #[.slice ra rn rc, .slice rb rm rd] rfl rfl _ _ hzg (size_Alg _ _) rfl (one_sl2 _ _ _ _ _ _) ?_
              unfold wpList
              have z75 := below_setRow' z74 (show w1.heap.size ≤ g by first | exact lg | omega) #[.slice ra rn rc, .slice rb rm rd]
              have Sz75 := below_setRow' Sz74 (show wSb.heap.size ≤ g by first | exact lg | omega) #[.slice ra rn rc, .slice rb rm rd]
              have Gz75 := below_setRow' Gz74 (show l0w.heap.size ≤ g by first | exact lg | omega) #[.slice ra rn rc, .slice rb rm rd]
              have hra := (gr.keep (fun k k1 k2 _ => setRow_other _ g k #[.slice ra rn rc, .slice rb rm rd] (by omega))).rd
              refine anyC_law (i := 10) rfl (by kernel_rfl) z75 ?_
              go_wp2_with fail
              refine anyC_done (by kernel_rfl) z75 ?_ _
              try simp only [List.getElem_toArray, List.getElem_cons_zero, List.getElem_cons_succ, Act.put, List.setIfInBounds_toArray, List.set_cons_succ, List.set_cons_zero]
              go_wp2_with fail
              go_meet
              exact ⟨ra, rn, rc, rb, rm, rd, g, rfl, rfl, setRow_heap _ _ _ _ _ _ hzg, lg, hra, z75, Sz75, Gz75⟩
            · skip
              go_wp2_with fail
              have hzg0 := heap_alloc_new (m1w) (.cells #[.slice none 0 0, .slice none 0 0] 27)
              have qA : Below (m1w).heap.size (m1w) ((m1w).alloc (.cells #[.slice none 0 0, .slice none 0 0] 27)) := (Below.refl _ _).alloc (Nat.le_refl _) _
              obtain ⟨g, hg⟩ : ∃ g : Nat, g = (m1w).heap.size := ⟨_, rfl⟩
              obtain ⟨wA, hwA⟩ : ∃ x : World, x = (m1w).alloc (.cells #[.slice none 0 0, .slice none 0 0] 27) := ⟨_, rfl⟩
              rw [← hg, ← hwA] at hzg0
              rw [← hwA] at qA
              have hzg := hzg0
              have lg : w1.heap.size ≤ g := by rw [hg]; exact z72.size
              have lgS : wSb.heap.size ≤ g := by rw [hg]; exact Sz72.size
              have lgG : l0w.heap.size ≤ g := by rw [hg]; exact Gz72.size
              have z76 := z72.trans (qA.mono z72.size)
              have Sz76 := Sz72.trans (qA.mono Sz72.size)
              have Gz76 := Gz72.trans (qA.mono Gz72.size)
              first | (rw [← hwA, ← hg]) | (simp only [← hwA, ← hg]) | skip
              try replace gm0 := gm0.below qA
              try replace gm1 := gm1.below qA
              try replace gr := gr.below qA
              have lge : (m1w).heap.size ≤ g := Nat.le_of_eq hg.symm
              clear hzg0 hg hwA qA z72 Sz72 Gz72
              try simp only [List.getElem_toArray, List.getElem_cons_zero, List.getElem_cons_succ, Act.put, List.setIfInBounds_toArray, List.set_cons_succ, List.set_cons_zero]
              refine anyC_call (i := 4) (o := _) (f := 19) (args := #[.agg #[.slice m0a m0n m0c, .slice m0b m0m m0d], .agg #[.slice m1a m1n m1c, .slice m1b m1m m1d]]) rfl (by kernel_rfl) rfl (by apply runs_call2 (he := enters_im_CrossAlgebras) <;> rfl) z76 ?_
              refine (HI.out _ _ _ _ _ _ _ _ _ _ _ _ _ gm0.rd gm1.rd).mono ?_
              rintro e rw ⟨ra, rn, rc, rb, rm, rd, rfl, gr, hbr⟩
              refine ⟨_, rfl, ?_⟩
              try simp only [List.getElem_toArray, List.getElem_cons_zero, List.getElem_cons_succ, Act.put, List.setIfInBounds_toArray, List.set_cons_succ, List.set_cons_zero]
              have z77 := z76.trans (hbr.mono z76.size)
              have Sz77 := Sz76.trans (hbr.mono Sz76.size)
              have Gz77 := Gz76.trans (hbr.mono Gz76.size)
              clear z76 Sz76 Gz76
              replace gm0 := gm0.below hbr
              replace gm1 := gm1.below hbr
              have ltg := lt_of_block hzg
              replace hzg := (hbr.block _ (lt_of_block hzg)).trans hzg
              refine anyC_take (i := 5) (v := .tuple #[.agg #[.slice ra rn rc, .slice rb rm rd], .bool V1]) rfl (by kernel_rfl) (by kernel_rfl) (by kernel_rfl) (fun _ _ _ h => h) (.inl ⟨rfl, fun wz hz => by apply runs_move1 <;> rfl⟩) ?_
              try simp only [List.getElem_toArray, List.getElem_cons_zero, List.getElem_cons_succ, Act.put, List.setIfInBounds_toArray, List.set_cons_succ, List.set_cons_zero]
              refine anyC_take (i := 6) (v := .agg #[.slice ra rn rc, .slice rb rm rd]) rfl (by kernel_rfl) (by kernel_rfl) (by kernel_rfl) (fun _ _ _ h => h) (.inl ⟨rfl, fun wz hz => by apply runs_extract <;> rfl⟩) ?_
              try simp only [List.getElem_toArray, List.getElem_cons_zero, List.getElem_cons_succ, Act.put, List.setIfInBounds_toArray, List.set_cons_succ, List.set_cons_zero]
              refine anyC_take (i := 7) (v := .bool V1) rfl (by kernel_rfl) (by kernel_rfl) (by kernel_rfl) (fun _ _ _ h => h) (.inl ⟨rfl, fun wz hz => by apply runs_extract <;> rfl⟩) ?_
              try simp only [List.getElem_toArray, List.getElem_cons_zero, List.getElem_cons_succ, Act.put, List.setIfInBounds_toArray, List.set_cons_succ, List.set_cons_zero]
              refine anyC_law (i := 9) rfl (by kernel_rfl) z77 ?_
              refine wpList_store_row rfl 27 _ _ rfl g #[.slice ra rn rc, .slice rb rm rd] rfl rfl _ _ hzg (size_Alg _ _) rfl (one_sl2 _ _ _ _ _ _) ?_
              unfold wpList
              have z78 := below_setRow' z77 (show w1.heap.size ≤ g by first | exact lg | omega) #[.slice ra rn rc, .slice rb rm rd]
              have Sz78 := below_setRow' Sz77 (show wSb.heap.size ≤ g by first | exact lg | omega) #[.slice ra rn rc, .slice rb rm rd]
              have Gz78 := below_setRow' Gz77 (show l0w.heap.size ≤ g by first | exact lg | omega) #[.slice ra rn rc, .slice rb rm rd]
              have hra := (gr.keep (fun k k1 k2 _ => setRow_other _ g k #[.slice ra rn rc, .slice rb rm rd] (by omega))).rd
              refine anyC_law (i := 10) rfl (by kernel_rfl) z78 ?_
              go_wp2_with fail
              refine anyC_done (by kernel_rfl) z78 ?_ _
              try simp only [List.getElem_toArray, List.getElem_cons_zero, List.getElem_cons_succ, Act.put, List.setIfInBounds_toArray, List.set_cons_succ, List.set_cons_zero]
              go_wp2_with fail
              go_meet
              exact ⟨ra, rn, rc, rb, rm, rd, g, rfl, rfl, setRow_heap _ _ _ _ _ _ hzg, lg, hra, z78, Sz78, Gz78⟩
          · skip
            go_wp2_with fail
            have hzg0 := heap_alloc_new (m0w) (.cells #[.slice none 0 0, .slice none 0 0] 27)
            have qA : Below (m0w).heap.size (m0w) ((m0w).alloc (.cells #[.slice none 0 0, .slice none 0 0] 27)) := (Below.refl _ _).alloc (Nat.le_refl _) _
            obtain ⟨g, hg⟩ : ∃ g : Nat, g = (m0w).heap.size := ⟨_, rfl⟩
            obtain ⟨wA, hwA⟩ : ∃ x : World, x = (m0w).alloc (.cells #[.slice none 0 0, .slice none 0 0] 27) := ⟨_, rfl⟩
            rw [← hg, ← hwA] at hzg0
            rw [← hwA] at qA
            have hzg := hzg0
            have lg : w1.heap.size ≤ g := by rw [hg]; exact z71.size
            have lgS : wSb.heap.size ≤ g := by rw [hg]; exact Sz71.size
            have lgG : l0w.heap.size ≤ g := by rw [hg]; exact Gz71.size
            have z79 := z71.trans (qA.mono z71.size)
            have Sz79 := Sz71.trans (qA.mono Sz71.size)
            have Gz79 := Gz71.trans (qA.mono Gz71.size)
            first | (rw [← hwA, ← hg]) | (simp only [← hwA, ← hg]) | skip
            try replace gm0 := gm0.below qA
            try replace gm1 := gm1.below qA
            try replace gr := gr.below qA
            have lge : (m0w).heap.size ≤ g := Nat.le_of_eq hg.symm
            clear hzg0 hg hwA qA z71 Sz71 Gz71
            try simp only [List.getElem_toArray, List.getElem_cons_zero, List.getElem_cons_succ, Act.put, List.setIfInBounds_toArray, List.set_cons_succ, List.set_cons_zero]
            refine anyC_call (i := 3) (o := _) (f := 18) (args := #[.agg #[.slice a1 L1.length ca1, .slice b1 T1.length cb1]]) rfl (by kernel_rfl) rfl (by apply runs_call1 (he := enters_toA_CrossAlgebras) <;> rfl) z79 ?_
            refine (toAlgebra_G _ _ _ _ L1 T1 _ (HR1.out.below z79) (HT1.out.below z79) Sm1.out).mono ?_
            rintro e m1w ⟨m1a, m1n, m1c, m1b, m1m, m1d, rfl, gm1, hbm1⟩
            refine ⟨_, rfl, ?_⟩
            try simp only [List.getElem_toArray, List.getElem_cons_zero, List.getElem_cons_succ, Act.put, List.setIfInBounds_toArray, List.set_cons_succ, List.set_cons_zero]
            have z80 := z79.trans (hbm1.mono z79.size)
            have Sz80 := Sz79.trans (hbm1.mono Sz79.size)
            have Gz80 := Gz79.trans (hbm1.mono Gz79.size)
            clear z79 Sz79 Gz79
            replace gm0 := gm0.below hbm1
            have ltg := lt_of_block hzg
            replace hzg := (hbm1.block _ (lt_of_block hzg)).trans hzg
            refine anyC_call (i := 4) (o := _) (f := 19) (args := #[.agg #[.slice m0a m0n m0c, .slice m0b m0m m0d], .agg #[.slice m1a m1n m1c, .slice m1b m1m m1d]]) rfl (by kernel_rfl) rfl (by apply runs_call2 (he := enters_im_CrossAlgebras) <;> rfl) z80 ?_
            refine (HI.out _ _ _ _ _ _ _ _ _ _ _ _ _ gm0.rd gm1.rd).mono ?_
            rintro e rw ⟨ra, rn, rc, rb, rm, rd, rfl, gr, hbr⟩
            refine ⟨_, rfl, ?_⟩
            try simp only [List.getElem_toArray, List.getElem_cons_zero, List.getElem_cons_succ, Act.put, List.setIfInBounds_toArray, List.set_cons_succ, List.set_cons_zero]
            have z81 := z80.trans (hbr.mono z80.size)
            have Sz81 := Sz80.trans (hbr.mono Sz80.size)
            have Gz81 := Gz80.trans (hbr.mono Gz80.size)
            clear z80 Sz80 Gz80
            replace gm0 := gm0.below hbr
            replace gm1 := gm1.below hbr
            have ltg := lt_of_block hzg
            replace hzg := (hbr.block _ (lt_of_block hzg)).trans hzg
            refine anyC_take (i := 5) (v := .tuple #[.agg #[.slice ra rn rc, .slice rb rm rd], .bool V1]) rfl (by kernel_rfl) (by kernel_rfl) (by kernel_rfl) (fun _ _ _ h => h) (.inl ⟨rfl, fun wz hz => by apply runs_move1 <;> rfl⟩) ?_
            try simp only [List.getElem_toArray, List.getElem_cons_zero, List.getElem_cons_succ, Act.put, List.setIfInBounds_toArray, List.set_cons_succ, List.set_cons_zero]
            refine anyC_take (i := 6) (v := .agg #[.slice ra rn rc, .slice rb rm rd]) rfl (by kernel_rfl) (by kernel_rfl) (by kernel_rfl) (fun _ _ _ h => h) (.inl ⟨rfl, fun wz hz => by apply runs_extract <;> rfl⟩) ?_
            try simp only [List.getElem_toArray, List.getElem_cons_zero, List.getElem_cons_succ, Act.put, List.setIfInBounds_toArray, List.set_cons_succ, List.set_cons_zero]
            refine anyC_take (i := 7) (v := .bool V1) rfl (by kernel_rfl) (by kernel_rfl) (by kernel_rfl) (fun _ _ _ h => h) (.inl ⟨rfl, fun wz hz => by apply runs_extract <;> rfl⟩) ?_
            try simp only [List.getElem_toArray, List.getElem_cons_zero, List.getElem_cons_succ, Act.put, List.setIfInBounds_toArray, List.set_cons_succ, List.set_cons_zero]
            refine anyC_law (i := 9) rfl (by kernel_rfl) z81 ?_
            refine wpList_store_row rfl 27 _ _ rfl g #[.slice ra rn rc, .slice rb rm rd] rfl rfl _ _ hzg (size_Alg _ _) rfl (one_sl2 _ _ _ _ _ _) ?_
            unfold wpList
            have z82 := below_setRow' z81 (show w1.heap.size ≤ g by first | exact lg | omega) #[.slice ra rn rc, .slice rb rm rd]
            have Sz82 := below_setRow' Sz81 (show wSb.heap.size ≤ g by first | exact lg | omega) #[.slice ra rn rc, .slice rb rm rd]
            have Gz82 := below_setRow' Gz81 (show l0w.heap.size ≤ g by first | exact lg | omega) #[.slice ra rn rc, .slice rb rm rd]
            have hra := (gr.keep (fun k k1 k2 _ => setRow_other _ g k #[.slice ra rn rc, .slice rb rm rd] (by omega))).rd
            refine anyC_law (i := 10) rfl (by kernel_rfl) z82 ?_
            go_wp2_with fail
            refine anyC_done (by kernel_rfl) z82 ?_ _
            try simp only [List.getElem_toArray, List.getElem_cons_zero, List.getElem_cons_succ, Act.put, List.setIfInBounds_toArray, List.set_cons_succ, List.set_cons_zero]
            go_wp2_with fail
            go_meet
            exact ⟨ra, rn, rc, rb, rm, rd, g, rfl, rfl, setRow_heap _ _ _ _ _ _ hzg, lg, hra, z82, Sz82, Gz82⟩
        · skip
          go_wp2_with fail
          have hzg0 := heap_alloc_new (wd) (.cells #[.slice none 0 0, .slice none 0 0] 27)
          have qA : Below (wd).heap.size (wd) ((wd).alloc (.cells #[.slice none 0 0, .slice none 0 0] 27)) := (Below.refl _ _).alloc (Nat.le_refl _) _
          obtain ⟨g, hg⟩ : ∃ g : Nat, g = (wd).heap.size := ⟨_, rfl⟩
          obtain ⟨wA, hwA⟩ : ∃ x : World, x = (wd).alloc (.cells #[.slice none 0 0, .slice none 0 0] 27) := ⟨_, rfl⟩
          rw [← hg, ← hwA] at hzg0
          rw [← hwA] at qA
          have hzg := hzg0
          have lg : w1.heap.size ≤ g := by rw [hg]; exact z70.size
          have lgS : wSb.heap.size ≤ g := by rw [hg]; exact Sz70.size
          have lgG : l0w.heap.size ≤ g := by rw [hg]; exact Gz70.size
          have z83 := z70.trans (qA.mono z70.size)
          have Sz83 := Sz70.trans (qA.mono Sz70.size)
          have Gz83 := Gz70.trans (qA.mono Gz70.size)
          first | (rw [← hwA, ← hg]) | (simp only [← hwA, ← hg]) | skip
          try replace gm0 := gm0.below qA
          try replace gm1 := gm1.below qA
          try replace gr := gr.below qA
          have lge : (wd).heap.size ≤ g := Nat.le_of_eq hg.symm
          clear hzg0 hg hwA qA z70 Sz70 Gz70
          try simp only [List.getElem_toArray, List.getElem_cons_zero, List.getElem_cons_succ, Act.put, List.setIfInBounds_toArray, List.set_cons_succ, List.set_cons_zero]
          refine anyC_call (i := 1) (o := _) (f := 18) (args := #[.agg #[.slice a0 L0.length ca0, .slice b0 T0.length cb0]]) rfl (by kernel_rfl) rfl (by apply runs_call1 (he := enters_toA_CrossAlgebras) <;> rfl) z83 ?_
          refine (toAlgebra_G _ _ _ _ L0 T0 _ (HR0.out.below z83) (HT0.out.below z83) Sm0.out).mono ?_
          rintro e m0w ⟨m0a, m0n, m0c, m0b, m0m, m0d, rfl, gm0, hbm0⟩
          refine ⟨_, rfl, ?_⟩
          try simp only [List.getElem_toArray, List.getElem_cons_zero, List.getElem_cons_succ, Act.put, List.setIfInBounds_toArray, List.set_cons_succ, List.set_cons_zero]
          have z84 := z83.trans (hbm0.mono z83.size)
          have Sz84 := Sz83.trans (hbm0.mono Sz83.size)
          have Gz84 := Gz83.trans (hbm0.mono Gz83.size)
          clear z83 Sz83 Gz83
          have ltg := lt_of_block hzg
          replace hzg := (hbm0.block _ (lt_of_block hzg)).trans hzg
          refine anyC_call (i := 3) (o := _) (f := 18) (args := #[.agg #[.slice a1 L1.length ca1, .slice b1 T1.length cb1]]) rfl (by kernel_rfl) rfl (by apply runs_call1 (he := enters_toA_CrossAlgebras) <;> rfl) z84 ?_
          refine (toAlgebra_G _ _ _ _ L1 T1 _ (HR1.out.below z84) (HT1.out.below z84) Sm1.out).mono ?_
          rintro e m1w ⟨m1a, m1n, m1c, m1b, m1m, m1d, rfl, gm1, hbm1⟩
          refine ⟨_, rfl, ?_⟩
          try simp only [List.getElem_toArray, List.getElem_cons_zero, List.getElem_cons_succ, Act.put, List.setIfInBounds_toArray, List.set_cons_succ, List.set_cons_zero]
          have z85 := z84.trans (hbm1.mono z84.size)
          have Sz85 := Sz84.trans (hbm1.mono Sz84.size)
          have Gz85 := Gz84.trans (hbm1.mono Gz84.size)
          clear z84 Sz84 Gz84
          replace gm0 := gm0.below hbm1
          have ltg := lt_of_block hzg
          replace hzg := (hbm1.block _ (lt_of_block hzg)).trans hzg
          refine anyC_call (i := 4) (o := _) (f := 19) (args := #[.agg #[.slice m0a m0n m0c, .slice m0b m0m m0d], .agg #[.slice m1a m1n m1c, .slice m1b m1m m1d]]) rfl (by kernel_rfl) rfl (by apply runs_call2 (he := enters_im_CrossAlgebras) <;> rfl) z85 ?_
          refine (HI.out _ _ _ _ _ _ _ _ _ _ _ _ _ gm0.rd gm1.rd).mono ?_
          rintro e rw ⟨ra, rn, rc, rb, rm, rd, rfl, gr, hbr⟩
          refine ⟨_, rfl, ?_⟩
          try simp only [List.getElem_toArray, List.getElem_cons_zero, List.getElem_cons_succ, Act.put, List.setIfInBounds_toArray, List.set_cons_succ, List.set_cons_zero]
          have z86 := z85.trans (hbr.mono z85.size)
          have Sz86 := Sz85.trans (hbr.mono Sz85.size)
          have Gz86 := Gz85.trans (hbr.mono Gz85.size)
          clear z85 Sz85 Gz85
          replace gm0 := gm0.below hbr
          replace gm1 := gm1.below hbr
          have ltg := lt_of_block hzg
          replace hzg := (hbr.block _ (lt_of_block hzg)).trans hzg
          refine anyC_take (i := 5) (v := .tuple #[.agg #[.slice ra rn rc, .slice rb rm rd], .bool V1]) rfl (by kernel_rfl) (by kernel_rfl) (by kernel_rfl) (fun _ _ _ h => h) (.inl ⟨rfl, fun wz hz => by apply runs_move1 <;> rfl⟩) ?_
          try simp only [List.getElem_toArray, List.getElem_cons_zero, List.getElem_cons_succ, Act.put, List.setIfInBounds_toArray, List.set_cons_succ, List.set_cons_zero]
          refine anyC_take (i := 6) (v := .agg #[.slice ra rn rc, .slice rb rm rd]) rfl (by kernel_rfl) (by kernel_rfl) (by kernel_rfl) (fun _ _ _ h => h) (.inl ⟨rfl, fun wz hz => by apply runs_extract <;> rfl⟩) ?_
          try simp only [List.getElem_toArray, List.getElem_cons_zero, List.getElem_cons_succ, Act.put, List.setIfInBounds_toArray, List.set_cons_succ, List.set_cons_zero]
          refine anyC_take (i := 7) (v := .bool V1) rfl (by kernel_rfl) (by kernel_rfl) (by kernel_rfl) (fun _ _ _ h => h) (.inl ⟨rfl, fun wz hz => by apply runs_extract <;> rfl⟩) ?_
          try simp only [List.getElem_toArray, List.getElem_cons_zero, List.getElem_cons_succ, Act.put, List.setIfInBounds_toArray, List.set_cons_succ, List.set_cons_zero]
          refine anyC_law (i := 9) rfl (by kernel_rfl) z86 ?_
          refine wpList_store_row rfl 27 _ _ rfl g #[.slice ra rn rc, .slice rb rm rd] rfl rfl _ _ hzg (size_Alg _ _) rfl (one_sl2 _ _ _ _ _ _) ?_
          unfold wpList
          have z87 := below_setRow' z86 (show w1.heap.size ≤ g by first | exact lg | omega) #[.slice ra rn rc, .slice rb rm rd]
          have Sz87 := below_setRow' Sz86 (show wSb.heap.size ≤ g by first | exact lg | omega) #[.slice ra rn rc, .slice rb rm rd]
          have Gz87 := below_setRow' Gz86 (show l0w.heap.size ≤ g by first | exact lg | omega) #[.slice ra rn rc, .slice rb rm rd]
          have hra := (gr.keep (fun k k1 k2 _ => setRow_other _ g k #[.slice ra rn rc, .slice rb rm rd] (by omega))).rd
          refine anyC_law (i := 10) rfl (by kernel_rfl) z87 ?_
          go_wp2_with fail
          refine anyC_done (by kernel_rfl) z87 ?_ _
          try simp only [List.getElem_toArray, List.getElem_cons_zero, List.getElem_cons_succ, Act.put, List.setIfInBounds_toArray, List.set_cons_succ, List.set_cons_zero]
          go_wp2_with fail
          go_meet
          exact ⟨ra, rn, rc, rb, rm, rd, g, rfl, rfl, setRow_heap _ _ _ _ _ _ hzg, lg, hra, z87, Sz87, Gz87⟩
      case rest =>
      obtain ⟨wHb, hwc⟩ : ∃ x : World, x = wc := ⟨_, rfl⟩
      rw [← hwc] at hcut ⊢
      clear hwc
      obtain ⟨H0a, H0n, H0c, H0b, H0m, H0d, gH0, rfl, rfl, hxg, lgH, hra, zcH, SzcH, GzcH⟩ := hcut
      clear z68 Sz68 Gz68
      have KH := Lib.hid (show ∀ wz, Below wHb.heap.size wHb wz → wz.heap[gH0]? = some (.cells #[.slice H0a H0n H0c, .slice H0b H0m H0d] 27 (0, 0)) from fun wz h => (h.block _ (lt_of_block hxg)).trans hxg)
      have mgH : gH0 < wHb.heap.size := lt_of_block hxg
      have HH0 := Lib.hid hra
      clear hxg hra
      have Hz0 : Below wHb.heap.size wHb wHb := Below.refl _ _
      have n88 := zcH.size
      go_wp2_with (first | go_skip | (refine wpList_load_row_w rfl 25 _ rfl w.heap.size rfl _ _ _ _ (Kx0.out _ (by first | assumption | exact (by assumption : Below _ w1 _).alloc (Below.size (by assumption)) _)) Try.underlying25 rfl (size_LAlg _ _) ?_) | (refine wpList_load_row_w rfl 25 _ rfl (w.heap.size + 1) rfl _ _ _ _ (Kx1.out _ (by first | assumption | exact (by assumption : Below _ w1 _).alloc (Below.size (by assumption)) _)) Try.underlying25 rfl (size_LAlg _ _) ?_) | (refine wpList_load_row_w rfl 27 _ rfl gS0 rfl _ _ _ _ (KS.out _ (by assumption)) Try.underlying27 rfl (size_Alg _ _) ?_) | (refine wpList_load_row_w rfl 27 _ rfl gG0 rfl _ _ _ _ (KG.out _ (by assumption)) Try.underlying27 rfl (size_Alg _ _) ?_) | (refine wpList_load_row_w rfl 27 _ rfl gH0 rfl _ _ _ _ (KH.out _ (by assumption)) Try.underlying27 rfl (size_Alg _ _) ?_))
      refine (eqAlgebra_R _ _ _ _ VL0 VT0 _ (HH0.out.below Hz0) (HS0.out.below SzcH) TI0.out.sm).mono ?_
      rintro e r0w ⟨rfl, hbr0⟩
      have z89 := zcH.trans (hbr0.mono zcH.size)
      have Sz89 := SzcH.trans (hbr0.mono SzcH.size)
      have Gz89 := GzcH.trans (hbr0.mono GzcH.size)
      have Hz89 := Hz0.trans (hbr0.mono Hz0.size)
      have n90 := hbr0.size
      clear zcH SzcH GzcH Hz0 hbr0
      go_wp2_with (first | go_skip | (refine wpList_load_row_w rfl 25 _ rfl w.heap.size rfl _ _ _ _ (Kx0.out _ (by first | assumption | exact (by assumption : Below _ w1 _).alloc (Below.size (by assumption)) _)) Try.underlying25 rfl (size_LAlg _ _) ?_) | (refine wpList_load_row_w rfl 25 _ rfl (w.heap.size + 1) rfl _ _ _ _ (Kx1.out _ (by first | assumption | exact (by assumption : Below _ w1 _).alloc (Below.size (by assumption)) _)) Try.underlying25 rfl (size_LAlg _ _) ?_) | (refine wpList_load_row_w rfl 27 _ rfl gS0 rfl _ _ _ _ (KS.out _ (by assumption)) Try.underlying27 rfl (size_Alg _ _) ?_) | (refine wpList_load_row_w rfl 27 _ rfl gG0 rfl _ _ _ _ (KG.out _ (by assumption)) Try.underlying27 rfl (size_Alg _ _) ?_) | (refine wpList_load_row_w rfl 27 _ rfl gH0 rfl _ _ _ _ (KH.out _ (by assumption)) Try.underlying27 rfl (size_Alg _ _) ?_))
      go_wp2_with (first | go_skip | (refine wpList_load_row_w rfl 25 _ rfl w.heap.size rfl _ _ _ _ (Kx0.out _ (by first | assumption | exact (by assumption : Below _ w1 _).alloc (Below.size (by assumption)) _)) Try.underlying25 rfl (size_LAlg _ _) ?_) | (refine wpList_load_row_w rfl 25 _ rfl (w.heap.size + 1) rfl _ _ _ _ (Kx1.out _ (by first | assumption | exact (by assumption : Below _ w1 _).alloc (Below.size (by assumption)) _)) Try.underlying25 rfl (size_LAlg _ _) ?_) | (refine wpList_load_row_w rfl 27 _ rfl gS0 rfl _ _ _ _ (KS.out _ (by assumption)) Try.underlying27 rfl (size_Alg _ _) ?_) | (refine wpList_load_row_w rfl 27 _ rfl gG0 rfl _ _ _ _ (KG.out _ (by assumption)) Try.underlying27 rfl (size_Alg _ _) ?_))
      refine (heldAlgebra_G _ _ _ _ _ _ VL0 VT0 (1) _ (MG0.out.below Gz89) TI0.out (by omega) (by omega)).mono ?_
      rintro e u0w ⟨rfl, hbu0⟩
      have z91 := z89.trans (hbu0.mono z89.size)
      have Sz91 := Sz89.trans (hbu0.mono Sz89.size)
      have Gz91 := Gz89.trans (hbu0.mono Gz89.size)
      have Hz91 := Hz89.trans (hbu0.mono Hz89.size)
      have n92 := hbu0.size
      clear z89 Sz89 Gz89 Hz89 hbu0
      go_wp2
      go_ret
      exact ⟨rfl, hB.trans (z91.mono hB.size)⟩
end Go.Proofs.Ytnmhbbekmepinaa
