import Derived.Test.YtjcambkjcagcoaaQU5
import Derived.Test.YtjcambkjcagcoaaL6
namespace Go.Proofs.Ytjcambkjcagcoaa
open Go.RowKit

/-- marked, and so in each world that agrees on these blocks -/
def MTk (lo hi : Nat) (w : World) (t : Value) (T : List (List Int)) (k : Int) : Prop := ∀ w2 : World, (∀ i, lo ≤ i → i < hi → i < w.heap.size → w2.heap[i]? = w.heap[i]?) → MT w2 t T k
def MAk (lo hi : Nat) (w : World) (s t : Value) (L : List Int) (T : List (List Int)) (k : Int) : Prop := ∀ w2 : World, (∀ i, lo ≤ i → i < hi → i < w.heap.size → w2.heap[i]? = w.heap[i]?) → MA w2 s t L T k
section
variable {lo hi : Nat} {w w' : World} {s t : Value} {L : List Int} {T : List (List Int)} {k : Int}
theorem MAk.ma (h : MAk lo hi w s t L T k) : MA w s t L T k := h w fun _ _ _ _ => rfl
theorem MAk.below (h : MAk lo hi w s t L T k) (hb : Below w.heap.size w w') : MAk lo hi w' s t L T k := fun w2 hk => h w2 fun i a b c => (hk i a b (Nat.lt_of_lt_of_le c hb.size)).trans (hb.block i c)
theorem MAk.mid (h : MAk lo hi w s t L T k) {a b : Nat} (hm : Mid a b w w') (hd : hi ≤ a ∨ b ≤ lo) : MAk lo hi w' s t L T k := fun w2 hk => h w2 fun i i0 i1 c => (hk i i0 i1 (Nat.lt_of_lt_of_le c hm.size)).trans (hm.block i c (by omega))
end
theorem markIntSS_K (lo hi : Nat) (t : Value) (T : List (List Int)) (k : Int) (w : World) (h : GT lo hi w t T) (hn : T.length ≤ 1048576) (hm : ∀ j : Nat, j < T.length → (rowAt T j).length ≤ 1048576) (k0 : 0 ≤ k) (k1 : k ≤ 1125899906842624) :
    Calls Try.prog 76 #[t, .int .i64 k] w fun e w' => e = .returned (.int .i64 (k + cum T T.length)) ∧ MTk lo hi w' t T k ∧ Mid lo hi w w' := by
  rcases h with ⟨rfl, rfl⟩ | ⟨B, R, rfl, h5, h6, h8⟩
  · refine (markIntSS_nil k w).mono fun e w' ⟨he, hw⟩ => ⟨?_, fun _ _ => .inl ⟨rfl, rfl⟩, by rw [← hw]; exact Mid.refl _ _ _⟩
    rw [he]; simp [cum]
  · refine (markIntSS_is lo B R T k w h8 hi h6 k0 k1 hn hm).mono fun e w' ⟨he, hr, hmid⟩ => ⟨he, fun w2 hk => .inr ⟨B, R, rfl, ?_, fun i hi => ?_⟩, hmid.wide (by have := h8.lo; omega) (Nat.le_refl _)⟩
    · have ht := (hmid.block B h8.lt (.inl (by omega))).trans h8.top
      exact (hk B h8.lo h5 (lt_of_block ht)).trans ht
    · exact (hk (R i) (by have := h8.up i hi; have := h8.lo; omega) (h6 i hi) (hr i hi).lt).trans (hr i hi)
set_option maxRecDepth 100000 in
set_option maxHeartbeats 1000000 in
theorem markAlgebra_K (lo hi : Nat) (a : Option Addr) (n c : Nat) (b : Option Addr) (m d : Nat) (L : List Int) (T : List (List Int)) (k : Int) (w : World) (h : GA lo hi w (.slice a n c) (.slice b m d) L T) (hhi : hi ≤ w.heap.size) (hs : Sm L T) (k0 : 0 ≤ k) (k1 : k ≤ 1125899905794048) :
    Calls Try.prog 23 #[.agg #[.slice a n c, .slice b m d], .int .i64 k] w fun e w' => e = .returned (.int .i64 (k + wtA L T)) ∧ MAk lo hi w' (.slice a n c) (.slice b m d) L T k ∧ Mid lo hi w w' := by
  obtain ⟨w1, hw1⟩ : ∃ w1, w1 = w.alloc (.cells #[.slice a n c, .slice b m d] 26) := ⟨_, rfl⟩
  have hB : Below w.heap.size w w1 := by rw [hw1]; exact (Below.refl _ _).alloc (Nat.le_refl _) _
  have hx : w1.heap[w.heap.size]? = some (.cells #[.slice a n c, .slice b m d] 26 (0, 0)) := by rw [hw1]; exact heap_alloc_new w _
  obtain ⟨c0, c1⟩ := bx_cells hx
  obtain ⟨l1, h1, l2, h2, e1, e2, e3, e4, e5, gs, gt⟩ := h
  have gs1 := Lib.hid (gs.below hB)
  have gt1 := Lib.hid (gt.below hB)
  have M3 := Lib.hid hs.2.2
  have hL := hs.1
  have hT := hs.2.1
  clear gs gt hs
  go_enter Try.func23, Try.ntmps23
  go_wp2_with (rw [← hw1]; clear hw1)
  refine (markIntS_G l1 h1 _ L k w1 gs1.out hL k0 (by omega)).mono ?_
  rintro e w2 ⟨rfl, ms2, m2⟩
  have hx2 := (m2.block _ (lt_of_block hx) (.inr (by omega))).trans hx
  have gt2 := Lib.hid (gt1.out.mid m2 e5.symm)
  obtain ⟨d0, d1⟩ := bx_cells hx2
  go_wp2_with fail
  refine (markIntSS_K l2 h2 _ T _ w2 gt2.out hT M3.out (by omega) (by omega)).mono ?_
  rintro e w3 ⟨rfl, mt3, m3⟩
  have MT3 := Lib.hid mt3
  have MS2 := Lib.hid ms2
  clear mt3 ms2
  go_wp2
  go_ret
  have hs1 := hB.size
  have hs2 := m2.size
  have hs3 := m3.size
  refine ⟨by unfold wtA; rw [Int.add_assoc]; rfl, fun wq hk => ⟨MS2.out.keep fun g hg => ?_, MT3.out wq fun i a b c => hk i (by omega) (by omega) c⟩, m3.os.trans (m2.os.trans hB.os), m3.tape.trans (m2.tape.trans hB.tape), m3.output.trans (m2.output.trans hB.output), by omega, fun i hi2 hne => ?_⟩
  · have hq := gs1.out.2.2 g hg
    have hq2 := World.ownsRow.lt gs1.out.2.1 g hg
    exact (hk g (by omega) (by omega) (by omega)).trans (m3.block g (by omega) (by omega))
  · exact (m3.block i (by omega) (by omega)).trans ((m2.block i (by omega) (by omega)).trans (hB.block i hi2))
theorem cum_le6 (T : List (List Int)) (hm : ∀ j : Nat, j < T.length → (rowAt T j).length ≤ 6) : ∀ j : Nat, j ≤ T.length → 0 ≤ cum T j ∧ cum T j ≤ j * 6
  | 0, _ => by simp [cum]
  | j + 1, h => by
    have h1 := cum_le6 T hm j (by omega)
    have h2 := hm j (by omega)
    simp only [cum]
    omega
theorem wtA_ti {L : List Int} {T : List (List Int)} (h : Ti L T) : 0 ≤ wtA L T ∧ wtA L T ≤ 42 := by
  have h1 := cum_le6 T h.2.2 T.length (Nat.le_refl _)
  have := h.1; have := h.2.1
  unfold wtA
  omega
set_option maxRecDepth 100000 in
set_option maxHeartbeats 8000000 in
/-- the law -/
theorem lawQuotientOf (a0 b0 : Option Addr) (ca0 cb0 : Nat) (L0 : List Int) (T0 : List (List Int)) (a1 : Int) (w : World) (hr0 : Rd w a0 L0) (ht0 : RdT w b0 T0) (hL0 : L0.length ≤ maxLen) (hn0 : T0.length ≤ maxLen) (hm0 : ∀ j : Nat, j < T0.length → (rowAt T0 j).length ≤ maxLen) :
    Calls Try.prog 4 #[.agg #[.slice a0 L0.length ca0, .slice b0 T0.length cb0], .int .i64 a1] w fun e w' => e = .returned (.bool true) ∧ Below w.heap.size w w' := by
  unfold maxLen at *
  have HM0 := Lib.hid (show ∀ j : Nat, j < T0.length → ((rowAt T0 j).length : Int) ≤ 9223372036854775807 from fun j hj => by have := hm0 j hj; omega)
  have hLL0 : (L0.length : Int) ≤ 9223372036854775807 := by omega
  have hnn0 : (T0.length : Int) ≤ 9223372036854775807 := by omega
  obtain ⟨w1, hw1⟩ : ∃ w1, w1 = (w.alloc (.cells #[.slice a0 L0.length ca0, .slice b0 T0.length cb0] 35)) := ⟨_, rfl⟩
  have hB : Below w.heap.size w w1 := by rw [hw1]; exact ((Below.refl _ _).alloc (Nat.le_refl _) _)
  have hx0 : w1.heap[w.heap.size]? = some (.cells #[.slice a0 L0.length ca0, .slice b0 T0.length cb0] 35 (0, 0)) := by rw [hw1]; exact heap_alloc_new w _
  have Kx0 := Lib.hid (show ∀ wz, Below w1.heap.size w1 wz → wz.heap[w.heap.size]? = some (.cells #[.slice a0 L0.length ca0, .slice b0 T0.length cb0] 35 (0, 0)) from fun wz h => (h.block _ (lt_of_block hx0)).trans hx0)
  have HR0 := Lib.hid (hr0.below hB)
  have HT0 := Lib.hid (ht0.below hB)
  have z0 : Below w1.heap.size w1 w1 := Below.refl _ _
  have TI0 := Lib.hid (qu_ti L0 T0 a1 : Ti (quL L0 T0 a1) (quTb L0 T0 a1))
  obtain ⟨VL0, hVL0⟩ : ∃ V, V = quL L0 T0 a1 := ⟨_, rfl⟩
  obtain ⟨VT0, hVT0⟩ : ∃ V, V = quTb L0 T0 a1 := ⟨_, rfl⟩
  rw [← hVL0, ← hVT0] at TI0
  have TI1 : (quTo L0 T0 a1).length ≤ 1024 := (by have := quTo_len L0 T0 a1; omega)
  obtain ⟨V1, hV1⟩ : ∃ V, V = quTo L0 T0 a1 := ⟨_, rfl⟩
  rw [← hV1] at TI1
  obtain ⟨V2, hV2⟩ : ∃ V, V = afB L0 T0 a1 := ⟨_, rfl⟩
  have hne2 : (V2 != V2) = false := by simp
  have HS := Lib.hid (show ∀ (a0 : Option Addr) (n0 c0 : Nat) (b0 : Option Addr) (m0 d0 : Nat)  (w : World), RA w (.slice a0 n0 c0) (.slice b0 m0 d0) L0 T0 →  Calls Try.prog 18 #[.agg #[.slice a0 n0 c0, .slice b0 m0 d0], .int .i64 a1] w (RetSAsb VL0 VT0 V1 V2 w) from fun a0 n0 c0 b0 m0 d0  w h0 => by obtain ⟨xa0, xc0, xb0, xd0, e0, f0, r0, t0⟩ := h0; rw [e0, f0, hVL0, hVT0, hV1, hV2]; exact specQuotientOf_any xa0 xb0 xc0 xd0 L0 T0 a1 w r0 t0 )
  have HI := Lib.hid (show ∀ (a0 : Option Addr) (n0 c0 : Nat) (b0 : Option Addr) (m0 d0 : Nat)  (w : World), RA w (.slice a0 n0 c0) (.slice b0 m0 d0) L0 T0 →  Calls Try.prog 20 #[.agg #[.slice a0 n0 c0, .slice b0 m0 d0], .int .i64 a1] w (RetGAsb VL0 VT0 V1 V2 w) from fun a0 n0 c0 b0 m0 d0  w h0 => by obtain ⟨xa0, xc0, xb0, xd0, e0, f0, r0, t0⟩ := h0; rw [e0, f0, hVL0, hVT0, hV1, hV2]; exact implQuotientOf_any xa0 xb0 xc0 xd0 L0 T0 a1 w r0 t0 )
  clear hVL0 hVT0 hV1 hV2 hm0 ht0 hx0 hr0
  go_enter Try.func4, Try.ntmps4
  go_wp2_with (first | (rw [← hw1]; clear hw1) | (refine wpList_load_row_w rfl 35 _ rfl w.heap.size rfl _ _ _ _ (Kx0.out _ (by first | assumption | exact (by assumption : Below _ w1 _).alloc (Below.size (by assumption)) _)) Try.underlying35 rfl (size_LAlg _ _) ?_))
  refine (szAlgebra_any _ _ _ _ L0 T0 1048576 _ (HT0.out.below z0) (by omega) (by omega) hLL0 HM0.out hnn0).mono ?_
  rintro e s0w ⟨⟨v0, rfl, p0, q0, r0⟩, hbs0⟩
  have z21 := z0.trans (hbs0.mono z0.size)
  have n22 := hbs0.size
  clear z0 hbs0
  by_cases hv0 : v0 < 0
  · go_wp2
    go_ret
    exact ⟨rfl, hB.trans (z21.mono hB.size)⟩
  obtain ⟨s1, s2, s3⟩ := r0 (by omega)
  have Sm0 := Lib.hid (show Sm L0 T0 from ⟨by omega, by omega, fun j hj => by have := s3 j hj; omega⟩)
  obtain ⟨wl0, wu0⟩ := wtA_le Sm0.out
  clear s1 s2 s3 r0
  go_wp2_with (first | go_skip | (refine wpList_load_row_w rfl 35 _ rfl w.heap.size rfl _ _ _ _ (Kx0.out _ (by first | assumption | exact (by assumption : Below _ w1 _).alloc (Below.size (by assumption)) _)) Try.underlying35 rfl (size_LAlg _ _) ?_))
  refine (toAlgebra_G _ _ _ _ L0 T0 _ (HR0.out.below z21) (HT0.out.below z21) Sm0.out).mono ?_
  rintro e m0w ⟨m0a, m0n, m0c, m0b, m0m, m0d, rfl, gm0, hbm0⟩
  have z23 := z21.trans (hbm0.mono z21.size)
  have n24 := hbm0.size
  clear hbm0
  go_wp2_with (first | go_skip | (refine wpList_load_row_w rfl 35 _ rfl w.heap.size rfl _ _ _ _ (Kx0.out _ (by first | assumption | exact (by assumption : Below _ w1 _).alloc (Below.size (by assumption)) _)) Try.underlying35 rfl (size_LAlg _ _) ?_))
  refine (HS.out _ _ _ _ _ _ _ gm0.rd).mono ?_
  rintro e wS ⟨S0a, S0n, S0c, S0b, S0m, S0d, S1a, S1n, S1c, rfl, S0g, S1g, hbS⟩
  have z25 := z23.trans (hbS.mono z23.size)
  have n26 := hbS.size
  clear hbS gm0
  go_wp2_with (first | go_skip | (refine wpList_store_row rfl 26 _ _ rfl wS.heap.size #[.slice S0a S0n S0c, .slice S0b S0m S0d] rfl rfl _ _ (heap_alloc_new wS (.cells #[.slice none 0 0, .slice none 0 0] 26)) (size_Alg _ _) rfl (one_sl2 _ _ _ _ _ _) ?_; rw [World.setRow_alloc_new]; obtain ⟨gS0, hgS0⟩ : ∃ g, g = wS.heap.size := ⟨_, rfl⟩; obtain ⟨wSb, hwSb⟩ : ∃ x, x = wS.alloc (.cells #[.slice S0a S0n S0c, .slice S0b S0m S0d] 26) := ⟨_, rfl⟩; rw [← hwSb, ← hgS0]; have hbwSb : Below wS.heap.size wS wSb := (by rw [hwSb]; exact (Below.refl _ _).alloc (Nat.le_refl _) _); have hxgS0 : wSb.heap[gS0]? = some (.cells #[.slice S0a S0n S0c, .slice S0b S0m S0d] 26 (0, 0)) := (by rw [hwSb, hgS0]; exact heap_alloc_new wS _); have ngS0 : wS.heap.size ≤ gS0 := Nat.le_of_eq hgS0.symm; have mgS0 : gS0 < wSb.heap.size := lt_of_block hxgS0; have KS := Lib.hid (show ∀ wz, Below wSb.heap.size wSb wz → wz.heap[gS0]? = some (.cells #[.slice S0a S0n S0c, .slice S0b S0m S0d] 26 (0, 0)) from fun wz h => (h.block _ (lt_of_block hxgS0)).trans hxgS0); clear hwSb hgS0 hxgS0; have z27 := z25.trans (hbwSb.mono z25.size); have Sz0 : Below wSb.heap.size wSb wSb := Below.refl _ _) | (refine wpList_load_row_w rfl 35 _ rfl w.heap.size rfl _ _ _ _ (Kx0.out _ (by first | assumption | exact (by assumption : Below _ w1 _).alloc (Below.size (by assumption)) _)) Try.underlying35 rfl (size_LAlg _ _) ?_) | (refine wpList_load_row_w rfl 26 _ rfl gS0 rfl _ _ _ _ (KS.out _ (by assumption)) Try.underlying26 rfl (size_Alg _ _) ?_))
  have HS0 := Lib.hid (S0g.ra.below hbwSb)
  clear S0g
  have HS1 := Lib.hid (S1g.below hbwSb)
  clear S1g
  clear hbwSb
  have nlo0 : w1.heap.size ≤ wSb.heap.size := z27.size
  refine (toAlgebra_G _ _ _ _ L0 T0 _ (HR0.out.below z27) (HT0.out.below z27) Sm0.out).mono ?_
  rintro e x0w ⟨x0a, x0n, x0c, x0b, x0m, x0d, rfl, gx0, hbx0⟩
  have z28 := z27.trans (hbx0.mono z27.size)
  have Sz28 := Sz0.trans (hbx0.mono Sz0.size)
  have n29 := hbx0.size
  clear hbx0
  go_wp2_with (first | go_skip | (obtain ⟨bx0, hbx0⟩ : ∃ g, g = x0w.heap.size := ⟨_, rfl⟩; obtain ⟨X0w, hX0w⟩ : ∃ x, x = x0w.alloc (.cells #[.slice x0a x0n x0c, .slice x0b x0m x0d] 26) := ⟨_, rfl⟩; rw [← hX0w, ← hbx0]; have hbX0w : Below x0w.heap.size x0w X0w := (by rw [hX0w]; exact (Below.refl _ _).alloc (Nat.le_refl _) _); have hxbx0 : X0w.heap[bx0]? = some (.cells #[.slice x0a x0n x0c, .slice x0b x0m x0d] 26 (0, 0)) := (by rw [hX0w, hbx0]; exact heap_alloc_new x0w _); have nbx0 : x0w.heap.size ≤ bx0 := Nat.le_of_eq hbx0.symm; have mbx0 : bx0 < X0w.heap.size := lt_of_block hxbx0; have KX0 := Lib.hid (show ∀ wz, Below X0w.heap.size X0w wz → wz.heap[bx0]? = some (.cells #[.slice x0a x0n x0c, .slice x0b x0m x0d] 26 (0, 0)) from fun wz h => (h.block _ (lt_of_block hxbx0)).trans hxbx0); clear hX0w hbx0 hxbx0; have GX0 := Lib.hid (gx0.below hbX0w); clear gx0; have z30 := z28.trans (hbX0w.mono z28.size); have Sz30 := Sz28.trans (hbX0w.mono Sz28.size); have n31 := hbX0w.size; clear z28 Sz28 hbX0w; have y0z0 : Below X0w.heap.size X0w X0w := Below.refl _ _) | (refine wpList_load_row_w rfl 35 _ rfl w.heap.size rfl _ _ _ _ (Kx0.out _ (by first | assumption | exact (by assumption : Below _ w1 _).alloc (Below.size (by assumption)) _)) Try.underlying35 rfl (size_LAlg _ _) ?_) | (refine wpList_load_row_w rfl 26 _ rfl gS0 rfl _ _ _ _ (KS.out _ (by assumption)) Try.underlying26 rfl (size_Alg _ _) ?_) | (refine wpList_load_row_w rfl 26 _ rfl bx0 rfl _ _ _ _ (KX0.out _ (by assumption)) Try.underlying26 rfl (size_Alg _ _) ?_))
  have nlg : w1.heap.size ≤ X0w.heap.size := z30.size
  refine (HI.out _ _ _ _ _ _ _ (GX0.out.below y0z0).rd).mono ?_
  rintro e wI ⟨G0a, G0n, G0c, G0b, G0m, G0d, G1a, G1n, G1c, Gz, rfl, G0g, G1g, Gl, Gh, hbG⟩
  have z32 := z30.trans (hbG.mono z30.size)
  have Sz32 := Sz30.trans (hbG.mono Sz30.size)
  have y0z32 := y0z0.trans (hbG.mono y0z0.size)
  have n33 := hbG.size
  clear hbG
  go_wp2_with (first | go_skip | (refine wpList_store_row rfl 26 _ _ rfl wI.heap.size #[.slice G0a G0n G0c, .slice G0b G0m G0d] rfl rfl _ _ (heap_alloc_new wI (.cells #[.slice none 0 0, .slice none 0 0] 26)) (size_Alg _ _) rfl (one_sl2 _ _ _ _ _ _) ?_; rw [World.setRow_alloc_new]; obtain ⟨gG0, hgG0⟩ : ∃ g, g = wI.heap.size := ⟨_, rfl⟩; obtain ⟨wJ, hwJ⟩ : ∃ x, x = wI.alloc (.cells #[.slice G0a G0n G0c, .slice G0b G0m G0d] 26) := ⟨_, rfl⟩; rw [← hwJ, ← hgG0]; have hbwJ : Below wI.heap.size wI wJ := (by rw [hwJ]; exact (Below.refl _ _).alloc (Nat.le_refl _) _); have hxgG0 : wJ.heap[gG0]? = some (.cells #[.slice G0a G0n G0c, .slice G0b G0m G0d] 26 (0, 0)) := (by rw [hwJ, hgG0]; exact heap_alloc_new wI _); have ngG0 : wI.heap.size ≤ gG0 := Nat.le_of_eq hgG0.symm; have mgG0 : gG0 < wJ.heap.size := lt_of_block hxgG0; have KG := Lib.hid (show ∀ wz, Below wJ.heap.size wJ wz → wz.heap[gG0]? = some (.cells #[.slice G0a G0n G0c, .slice G0b G0m G0d] 26 (0, 0)) from fun wz h => (h.block _ (lt_of_block hxgG0)).trans hxgG0); clear hwJ hgG0 hxgG0; have z34 := z32.trans (hbwJ.mono z32.size); have Sz34 := Sz32.trans (hbwJ.mono Sz32.size); have y0z34 := y0z32.trans (hbwJ.mono y0z32.size); have Gz0 : Below wJ.heap.size wJ wJ := Below.refl _ _) | (refine wpList_load_row_w rfl 35 _ rfl w.heap.size rfl _ _ _ _ (Kx0.out _ (by first | assumption | exact (by assumption : Below _ w1 _).alloc (Below.size (by assumption)) _)) Try.underlying35 rfl (size_LAlg _ _) ?_) | (refine wpList_load_row_w rfl 26 _ rfl gS0 rfl _ _ _ _ (KS.out _ (by assumption)) Try.underlying26 rfl (size_Alg _ _) ?_) | (refine wpList_load_row_w rfl 26 _ rfl bx0 rfl _ _ _ _ (KX0.out _ (by assumption)) Try.underlying26 rfl (size_Alg _ _) ?_) | (refine wpList_load_row_w rfl 26 _ rfl gG0 rfl _ _ _ _ (KG.out _ (by assumption)) Try.underlying26 rfl (size_Alg _ _) ?_))
  have HG0 := Lib.hid (G0g.below hbwJ)
  clear G0g
  have HG1 := Lib.hid (G1g.below hbwJ)
  clear G1g
  clear hbwJ
  refine (eqAlgebra_R _ _ _ _ VL0 VT0 _ (HG0.out.below Gz0).rd (HS0.out.below Sz34) TI0.out.sm).mono ?_
  rintro e c0w ⟨rfl, hbc0⟩
  have z35 := z34.trans (hbc0.mono z34.size)
  have Sz35 := Sz34.trans (hbc0.mono Sz34.size)
  have y0z35 := y0z34.trans (hbc0.mono y0z34.size)
  have Gz35 := Gz0.trans (hbc0.mono Gz0.size)
  have n36 := hbc0.size
  clear z34 Sz34 y0z34 Gz0 hbc0
  go_wp2_with (first | go_skip | (refine wpList_load_row_w rfl 35 _ rfl w.heap.size rfl _ _ _ _ (Kx0.out _ (by first | assumption | exact (by assumption : Below _ w1 _).alloc (Below.size (by assumption)) _)) Try.underlying35 rfl (size_LAlg _ _) ?_) | (refine wpList_load_row_w rfl 26 _ rfl gS0 rfl _ _ _ _ (KS.out _ (by assumption)) Try.underlying26 rfl (size_Alg _ _) ?_) | (refine wpList_load_row_w rfl 26 _ rfl bx0 rfl _ _ _ _ (KX0.out _ (by assumption)) Try.underlying26 rfl (size_Alg _ _) ?_) | (refine wpList_load_row_w rfl 26 _ rfl gG0 rfl _ _ _ _ (KG.out _ (by assumption)) Try.underlying26 rfl (size_Alg _ _) ?_))
  refine (eqIntS_R _ _ V1 _ (HG1.out.below Gz35).rd (HS1.out.below Sz35) (by omega)).mono ?_
  rintro e c1w ⟨rfl, hbc1⟩
  have z37 := z35.trans (hbc1.mono z35.size)
  have Sz37 := Sz35.trans (hbc1.mono Sz35.size)
  have y0z37 := y0z35.trans (hbc1.mono y0z35.size)
  have Gz37 := Gz35.trans (hbc1.mono Gz35.size)
  have n38 := hbc1.size
  clear z35 Sz35 y0z35 Gz35 hbc1
  go_wp2_with (first | go_skip | (refine wpList_load_row_w rfl 35 _ rfl w.heap.size rfl _ _ _ _ (Kx0.out _ (by first | assumption | exact (by assumption : Below _ w1 _).alloc (Below.size (by assumption)) _)) Try.underlying35 rfl (size_LAlg _ _) ?_) | (refine wpList_load_row_w rfl 26 _ rfl gS0 rfl _ _ _ _ (KS.out _ (by assumption)) Try.underlying26 rfl (size_Alg _ _) ?_) | (refine wpList_load_row_w rfl 26 _ rfl bx0 rfl _ _ _ _ (KX0.out _ (by assumption)) Try.underlying26 rfl (size_Alg _ _) ?_) | (refine wpList_load_row_w rfl 26 _ rfl gG0 rfl _ _ _ _ (KG.out _ (by assumption)) Try.underlying26 rfl (size_Alg _ _) ?_))
  obtain ⟨c0, c1⟩ := bxL_cells (Kx0.out _ z37)
  obtain ⟨d0, d1⟩ := bx_cells (KX0.out _ y0z37)
  go_wp2
  go_region_with (first
    | (go_at_call 19; refine (toAlgebra_G _ _ _ _ L0 T0 _ (HR0.out.below z37.drew) (HT0.out.below z37.drew) Sm0.out).mono ?_; rintro e e0w ⟨e0a, e0n, e0c, e0b, e0m, e0d, rfl, ge0, hbe0⟩; have z39 := z37.drew.trans (hbe0.mono z37.drew.size); have Sz39 := Sz37.drew.trans (hbe0.mono Sz37.drew.size); have y0z39 := y0z37.drew.trans (hbe0.mono y0z37.drew.size); have Gz39 := Gz37.drew.trans (hbe0.mono Gz37.drew.size); obtain ⟨e0, e1⟩ := bx_cells (KX0.out _ y0z39))
    | (go_at_call 21; refine (eqAlgebra_R _ _ _ _ L0 T0 _ (GX0.out.below y0z39).rd ge0.rd Sm0.out).mono ?_; rintro e f0w ⟨rfl, hbf0⟩; have z40 := z39.trans (hbf0.mono z39.size); have Sz40 := Sz39.trans (hbf0.mono Sz39.size); have y0z40 := y0z39.trans (hbf0.mono y0z39.size); have Gz40 := Gz39.trans (hbf0.mono Gz39.size)))
  all_goals
    clear c0 c1 d0 d1 e0 e1 ge0 hbe0 hbf0 z37 Sz37 y0z37 Gz37 z39 Sz39 y0z39 Gz39
    have nf0 := Gz40.size
    go_wp2_with (first | go_skip | (refine wpList_load_row_w rfl 35 _ rfl w.heap.size rfl _ _ _ _ (Kx0.out _ (by first | assumption | exact (by assumption : Below _ w1 _).alloc (Below.size (by assumption)) _)) Try.underlying35 rfl (size_LAlg _ _) ?_) | (refine wpList_load_row_w rfl 26 _ rfl gS0 rfl _ _ _ _ (KS.out _ (by assumption)) Try.underlying26 rfl (size_Alg _ _) ?_) | (refine wpList_load_row_w rfl 26 _ rfl bx0 rfl _ _ _ _ (KX0.out _ (by assumption)) Try.underlying26 rfl (size_Alg _ _) ?_) | (refine wpList_load_row_w rfl 26 _ rfl gG0 rfl _ _ _ _ (KG.out _ (by assumption)) Try.underlying26 rfl (size_Alg _ _) ?_))
    have nhi0 := y0z40.size
    refine (markAlgebra_G wSb.heap.size x0w.heap.size _ _ _ _ _ _ L0 T0 (1) _ (GX0.out.below y0z40) (by omega) Sm0.out (by omega) (by omega)).mono ?_
    rintro e k0w ⟨rfl, _, mk0⟩
    have z41 := z40.trans (mk0.below (by omega) (by have := z40.size; omega))
    have Sz41 := Sz40.trans (mk0.below (by omega) (by have := Sz40.size; omega))
    replace HG0 := Lib.hid ((HG0.out.below Gz40).mid mk0 (by omega))
    replace HG1 := Lib.hid ((HG1.out.below Gz40).mid mk0 (by omega))
    have hxq := (mk0.block gG0 (lt_of_block (KG.out _ Gz40)) (.inr (by omega))).trans (KG.out _ Gz40)
    replace KG := Lib.hid (show ∀ wz, Below k0w.heap.size k0w wz → wz.heap[gG0]? = some (.cells #[.slice G0a G0n G0c, .slice G0b G0m G0d] 26 (0, 0)) from fun wz h => (h.block _ (lt_of_block hxq)).trans hxq)
    clear hxq
    have Gz41 : Below k0w.heap.size k0w k0w := Below.refl _ _
    have n42 := mk0.size
    clear z40 Sz40 y0z40 Gz40 mk0
    have hkx : ¬ 1 + wtA L0 T0 < 0 := by omega
    have hkb : decide (1 + wtA L0 T0 < 0) = false := decide_eq_false hkx
    go_wp2_with (first | go_skip | (refine wpList_load_row_w rfl 35 _ rfl w.heap.size rfl _ _ _ _ (Kx0.out _ (by first | assumption | exact (by assumption : Below _ w1 _).alloc (Below.size (by assumption)) _)) Try.underlying35 rfl (size_LAlg _ _) ?_) | (refine wpList_load_row_w rfl 26 _ rfl gS0 rfl _ _ _ _ (KS.out _ (by assumption)) Try.underlying26 rfl (size_Alg _ _) ?_) | (refine wpList_load_row_w rfl 26 _ rfl gG0 rfl _ _ _ _ (KG.out _ (by assumption)) Try.underlying26 rfl (size_Alg _ _) ?_))
    refine (eqAlgebra_R _ _ _ _ VL0 VT0 _ (HG0.out.below Gz41).rd (HS0.out.below Sz41) TI0.out.sm).mono ?_
    rintro e d0w ⟨rfl, hbd0⟩
    have z43 := z41.trans (hbd0.mono z41.size)
    have Sz43 := Sz41.trans (hbd0.mono Sz41.size)
    have Gz43 := Gz41.trans (hbd0.mono Gz41.size)
    have n44 := hbd0.size
    clear z41 Sz41 Gz41 hbd0
    go_wp2_with (first | go_skip | (refine wpList_load_row_w rfl 35 _ rfl w.heap.size rfl _ _ _ _ (Kx0.out _ (by first | assumption | exact (by assumption : Below _ w1 _).alloc (Below.size (by assumption)) _)) Try.underlying35 rfl (size_LAlg _ _) ?_) | (refine wpList_load_row_w rfl 26 _ rfl gS0 rfl _ _ _ _ (KS.out _ (by assumption)) Try.underlying26 rfl (size_Alg _ _) ?_) | (refine wpList_load_row_w rfl 26 _ rfl gG0 rfl _ _ _ _ (KG.out _ (by assumption)) Try.underlying26 rfl (size_Alg _ _) ?_))
    refine (eqIntS_R _ _ V1 _ (HG1.out.below Gz43).rd (HS1.out.below Sz43) (by omega)).mono ?_
    rintro e d1w ⟨rfl, hbd1⟩
    have z45 := z43.trans (hbd1.mono z43.size)
    have Sz45 := Sz43.trans (hbd1.mono Sz43.size)
    have Gz45 := Gz43.trans (hbd1.mono Gz43.size)
    have n46 := hbd1.size
    clear z43 Sz43 Gz43 hbd1
    go_wp2_with (first | go_skip | (refine wpList_load_row_w rfl 35 _ rfl w.heap.size rfl _ _ _ _ (Kx0.out _ (by first | assumption | exact (by assumption : Below _ w1 _).alloc (Below.size (by assumption)) _)) Try.underlying35 rfl (size_LAlg _ _) ?_) | (refine wpList_load_row_w rfl 26 _ rfl gS0 rfl _ _ _ _ (KS.out _ (by assumption)) Try.underlying26 rfl (size_Alg _ _) ?_) | (refine wpList_load_row_w rfl 26 _ rfl gG0 rfl _ _ _ _ (KG.out _ (by assumption)) Try.underlying26 rfl (size_Alg _ _) ?_))
    obtain ⟨vl0, vu0⟩ := wtA_ti TI0.out
    have nhg := Gz45.size
    refine (markAlgebra_K _ _ _ _ _ _ _ _ VL0 VT0 (1) _ (HG0.out.below Gz45) (by omega) TI0.out.sm (by omega) (by omega)).mono ?_
    rintro e l0w ⟨rfl, MG0, ml0⟩
    have z47 := z45.trans (ml0.below (by omega) (by have := z45.size; omega))
    have Sz47 := Sz45.trans (ml0.below (by omega) (by have := Sz45.size; omega))
    have hxq := (ml0.block gG0 (lt_of_block (KG.out _ Gz45)) (.inr (by omega))).trans (KG.out _ Gz45)
    replace KG := Lib.hid (show ∀ wz, Below l0w.heap.size l0w wz → wz.heap[gG0]? = some (.cells #[.slice G0a G0n G0c, .slice G0b G0m G0d] 26 (0, 0)) from fun wz h => (h.block _ (lt_of_block hxq)).trans hxq)
    clear hxq
    replace HG1 := Lib.hid ((HG1.out.below Gz45).mid ml0 (by omega))
    replace MG0 := Lib.hid MG0
    have Gz47 : Below l0w.heap.size l0w l0w := Below.refl _ _
    clear z45 Sz45 Gz45 ml0
    go_wp2_with (first | go_skip | (refine wpList_load_row_w rfl 35 _ rfl w.heap.size rfl _ _ _ _ (Kx0.out _ (by first | assumption | exact (by assumption : Below _ w1 _).alloc (Below.size (by assumption)) _)) Try.underlying35 rfl (size_LAlg _ _) ?_) | (refine wpList_load_row_w rfl 26 _ rfl gS0 rfl _ _ _ _ (KS.out _ (by assumption)) Try.underlying26 rfl (size_Alg _ _) ?_) | (refine wpList_load_row_w rfl 26 _ rfl gG0 rfl _ _ _ _ (KG.out _ (by assumption)) Try.underlying26 rfl (size_Alg _ _) ?_))
    refine (markIntS_G _ _ _ V1 (1 + wtA VL0 VT0) _ (HG1.out.below Gz47) (by omega) (by omega) (by omega)).mono ?_
    rintro e l1w ⟨rfl, MG1, ml1⟩
    have z48 := z47.trans (ml1.below (by omega) (by have := z47.size; omega))
    have Sz48 := Sz47.trans (ml1.below (by omega) (by have := Sz47.size; omega))
    have hxq := (ml1.block gG0 (lt_of_block (KG.out _ Gz47)) (.inr (by omega))).trans (KG.out _ Gz47)
    replace KG := Lib.hid (show ∀ wz, Below l1w.heap.size l1w wz → wz.heap[gG0]? = some (.cells #[.slice G0a G0n G0c, .slice G0b G0m G0d] 26 (0, 0)) from fun wz h => (h.block _ (lt_of_block hxq)).trans hxq)
    clear hxq
    replace MG0 := Lib.hid (MG0.out.mid ml1 (by omega))
    replace MG1 := Lib.hid MG1
    have Gz48 : Below l1w.heap.size l1w l1w := Below.refl _ _
    clear z47 Sz47 Gz47 ml1
    have hq0 : ¬ 1 + wtA VL0 VT0 < 0 := by omega
    have hqb0 : decide (1 + wtA VL0 VT0 < 0) = false := decide_eq_false hq0
    have hq1 : ¬ 1 + wtA VL0 VT0 + (V1.length : Int) < 0 := by omega
    have hqb1 : decide (1 + wtA VL0 VT0 + (V1.length : Int) < 0) = false := decide_eq_false hq1
    have hqq : (1 + wtA VL0 VT0 + (V1.length : Int) != 1 + wtA VL0 VT0 + (V1.length : Int)) = false := by simp
    go_wp2_with (first | go_skip | (refine wpList_load_row_w rfl 35 _ rfl w.heap.size rfl _ _ _ _ (Kx0.out _ (by first | assumption | exact (by assumption : Below _ w1 _).alloc (Below.size (by assumption)) _)) Try.underlying35 rfl (size_LAlg _ _) ?_) | (refine wpList_load_row_w rfl 26 _ rfl gS0 rfl _ _ _ _ (KS.out _ (by assumption)) Try.underlying26 rfl (size_Alg _ _) ?_) | (refine wpList_load_row_w rfl 26 _ rfl gG0 rfl _ _ _ _ (KG.out _ (by assumption)) Try.underlying26 rfl (size_Alg _ _) ?_))
    refine (heldAlgebra_G _ _ _ _ _ _ VL0 VT0 (1) _ (MG0.out.below Gz48).ma TI0.out (by omega) (by omega)).mono ?_
    rintro e p0w ⟨rfl, hbp0⟩
    have z49 := z48.trans (hbp0.mono z48.size)
    have Sz49 := Sz48.trans (hbp0.mono Sz48.size)
    have Gz49 := Gz48.trans (hbp0.mono Gz48.size)
    have n50 := hbp0.size
    clear z48 Sz48 Gz48 hbp0
    go_wp2_with (first | go_skip | (refine wpList_load_row_w rfl 35 _ rfl w.heap.size rfl _ _ _ _ (Kx0.out _ (by first | assumption | exact (by assumption : Below _ w1 _).alloc (Below.size (by assumption)) _)) Try.underlying35 rfl (size_LAlg _ _) ?_) | (refine wpList_load_row_w rfl 26 _ rfl gS0 rfl _ _ _ _ (KS.out _ (by assumption)) Try.underlying26 rfl (size_Alg _ _) ?_) | (refine wpList_load_row_w rfl 26 _ rfl gG0 rfl _ _ _ _ (KG.out _ (by assumption)) Try.underlying26 rfl (size_Alg _ _) ?_))
    refine (heldIntS_G _ V1 (1 + wtA VL0 VT0) _ (MG1.out.below Gz49) (by omega) (by omega) (by omega)).mono ?_
    rintro e p1w ⟨rfl, hbp1⟩
    have z51 := z49.trans (hbp1.mono z49.size)
    have Sz51 := Sz49.trans (hbp1.mono Sz49.size)
    have Gz51 := Gz49.trans (hbp1.mono Gz49.size)
    have n52 := hbp1.size
    clear z49 Sz49 Gz49 hbp1
    go_wp2_with (first | go_skip | (refine wpList_load_row_w rfl 35 _ rfl w.heap.size rfl _ _ _ _ (Kx0.out _ (by first | assumption | exact (by assumption : Below _ w1 _).alloc (Below.size (by assumption)) _)) Try.underlying35 rfl (size_LAlg _ _) ?_) | (refine wpList_load_row_w rfl 26 _ rfl gS0 rfl _ _ _ _ (KS.out _ (by assumption)) Try.underlying26 rfl (size_Alg _ _) ?_) | (refine wpList_load_row_w rfl 26 _ rfl gG0 rfl _ _ _ _ (KG.out _ (by assumption)) Try.underlying26 rfl (size_Alg _ _) ?_))
    refine (toAlgebra_G _ _ _ _ L0 T0 _ (HR0.out.below z51) (HT0.out.below z51) Sm0.out).mono ?_
    rintro e o0w ⟨o0a, o0n, o0c, o0b, o0m, o0d, rfl, go0, hbo0⟩
    have z53 := z51.trans (hbo0.mono z51.size)
    have Sz53 := Sz51.trans (hbo0.mono Sz51.size)
    have Gz53 := Gz51.trans (hbo0.mono Gz51.size)
    have n54 := hbo0.size
    clear hbo0
    go_wp2_with (first | go_skip | (refine wpList_load_row_w rfl 35 _ rfl w.heap.size rfl _ _ _ _ (Kx0.out _ (by first | assumption | exact (by assumption : Below _ w1 _).alloc (Below.size (by assumption)) _)) Try.underlying35 rfl (size_LAlg _ _) ?_) | (refine wpList_load_row_w rfl 26 _ rfl gS0 rfl _ _ _ _ (KS.out _ (by assumption)) Try.underlying26 rfl (size_Alg _ _) ?_) | (refine wpList_load_row_w rfl 26 _ rfl gG0 rfl _ _ _ _ (KG.out _ (by assumption)) Try.underlying26 rfl (size_Alg _ _) ?_))
    refine (HI.out _ _ _ _ _ _ _ go0.rd).mono ?_
    rintro e wH ⟨H0a, H0n, H0c, H0b, H0m, H0d, H1a, H1n, H1c, Hz, rfl, H0g, H1g, Hl, Hh, hbH⟩
    have z55 := z53.trans (hbH.mono z53.size)
    have Sz55 := Sz53.trans (hbH.mono Sz53.size)
    have Gz55 := Gz53.trans (hbH.mono Gz53.size)
    have n56 := hbH.size
    clear hbH go0
    go_wp2_with (first | go_skip | (refine wpList_store_row rfl 26 _ _ rfl wH.heap.size #[.slice H0a H0n H0c, .slice H0b H0m H0d] rfl rfl _ _ (heap_alloc_new wH (.cells #[.slice none 0 0, .slice none 0 0] 26)) (size_Alg _ _) rfl (one_sl2 _ _ _ _ _ _) ?_; rw [World.setRow_alloc_new]; obtain ⟨gH0, hgH0⟩ : ∃ g, g = wH.heap.size := ⟨_, rfl⟩; obtain ⟨wHb, hwHb⟩ : ∃ x, x = wH.alloc (.cells #[.slice H0a H0n H0c, .slice H0b H0m H0d] 26) := ⟨_, rfl⟩; rw [← hwHb, ← hgH0]; have hbwHb : Below wH.heap.size wH wHb := (by rw [hwHb]; exact (Below.refl _ _).alloc (Nat.le_refl _) _); have hxgH0 : wHb.heap[gH0]? = some (.cells #[.slice H0a H0n H0c, .slice H0b H0m H0d] 26 (0, 0)) := (by rw [hwHb, hgH0]; exact heap_alloc_new wH _); have ngH0 : wH.heap.size ≤ gH0 := Nat.le_of_eq hgH0.symm; have mgH0 : gH0 < wHb.heap.size := lt_of_block hxgH0; have KH := Lib.hid (show ∀ wz, Below wHb.heap.size wHb wz → wz.heap[gH0]? = some (.cells #[.slice H0a H0n H0c, .slice H0b H0m H0d] 26 (0, 0)) from fun wz h => (h.block _ (lt_of_block hxgH0)).trans hxgH0); clear hwHb hgH0 hxgH0; have z57 := z55.trans (hbwHb.mono z55.size); have Sz57 := Sz55.trans (hbwHb.mono Sz55.size); have Gz57 := Gz55.trans (hbwHb.mono Gz55.size); have Hz0 : Below wHb.heap.size wHb wHb := Below.refl _ _) | (refine wpList_load_row_w rfl 35 _ rfl w.heap.size rfl _ _ _ _ (Kx0.out _ (by first | assumption | exact (by assumption : Below _ w1 _).alloc (Below.size (by assumption)) _)) Try.underlying35 rfl (size_LAlg _ _) ?_) | (refine wpList_load_row_w rfl 26 _ rfl gS0 rfl _ _ _ _ (KS.out _ (by assumption)) Try.underlying26 rfl (size_Alg _ _) ?_) | (refine wpList_load_row_w rfl 26 _ rfl gG0 rfl _ _ _ _ (KG.out _ (by assumption)) Try.underlying26 rfl (size_Alg _ _) ?_) | (refine wpList_load_row_w rfl 26 _ rfl gH0 rfl _ _ _ _ (KH.out _ (by assumption)) Try.underlying26 rfl (size_Alg _ _) ?_))
    have HH0 := Lib.hid (H0g.below hbwHb)
    clear H0g
    have HH1 := Lib.hid (H1g.below hbwHb)
    clear H1g
    clear hbwHb
    refine (eqAlgebra_R _ _ _ _ VL0 VT0 _ (HH0.out.below Hz0).rd (HS0.out.below Sz57) TI0.out.sm).mono ?_
    rintro e r0w ⟨rfl, hbr0⟩
    have z58 := z57.trans (hbr0.mono z57.size)
    have Sz58 := Sz57.trans (hbr0.mono Sz57.size)
    have Gz58 := Gz57.trans (hbr0.mono Gz57.size)
    have Hz58 := Hz0.trans (hbr0.mono Hz0.size)
    have n59 := hbr0.size
    clear z57 Sz57 Gz57 Hz0 hbr0
    go_wp2_with (first | go_skip | (refine wpList_load_row_w rfl 35 _ rfl w.heap.size rfl _ _ _ _ (Kx0.out _ (by first | assumption | exact (by assumption : Below _ w1 _).alloc (Below.size (by assumption)) _)) Try.underlying35 rfl (size_LAlg _ _) ?_) | (refine wpList_load_row_w rfl 26 _ rfl gS0 rfl _ _ _ _ (KS.out _ (by assumption)) Try.underlying26 rfl (size_Alg _ _) ?_) | (refine wpList_load_row_w rfl 26 _ rfl gG0 rfl _ _ _ _ (KG.out _ (by assumption)) Try.underlying26 rfl (size_Alg _ _) ?_) | (refine wpList_load_row_w rfl 26 _ rfl gH0 rfl _ _ _ _ (KH.out _ (by assumption)) Try.underlying26 rfl (size_Alg _ _) ?_))
    refine (eqIntS_R _ _ V1 _ (HH1.out.below Hz58).rd (HS1.out.below Sz58) (by omega)).mono ?_
    rintro e r1w ⟨rfl, hbr1⟩
    have z60 := z58.trans (hbr1.mono z58.size)
    have Sz60 := Sz58.trans (hbr1.mono Sz58.size)
    have Gz60 := Gz58.trans (hbr1.mono Gz58.size)
    have Hz60 := Hz58.trans (hbr1.mono Hz58.size)
    have n61 := hbr1.size
    clear z58 Sz58 Gz58 Hz58 hbr1
    go_wp2_with (first | go_skip | (refine wpList_load_row_w rfl 35 _ rfl w.heap.size rfl _ _ _ _ (Kx0.out _ (by first | assumption | exact (by assumption : Below _ w1 _).alloc (Below.size (by assumption)) _)) Try.underlying35 rfl (size_LAlg _ _) ?_) | (refine wpList_load_row_w rfl 26 _ rfl gS0 rfl _ _ _ _ (KS.out _ (by assumption)) Try.underlying26 rfl (size_Alg _ _) ?_) | (refine wpList_load_row_w rfl 26 _ rfl gG0 rfl _ _ _ _ (KG.out _ (by assumption)) Try.underlying26 rfl (size_Alg _ _) ?_) | (refine wpList_load_row_w rfl 26 _ rfl gH0 rfl _ _ _ _ (KH.out _ (by assumption)) Try.underlying26 rfl (size_Alg _ _) ?_))
    go_wp2_with (first | go_skip | (refine wpList_load_row_w rfl 35 _ rfl w.heap.size rfl _ _ _ _ (Kx0.out _ (by first | assumption | exact (by assumption : Below _ w1 _).alloc (Below.size (by assumption)) _)) Try.underlying35 rfl (size_LAlg _ _) ?_) | (refine wpList_load_row_w rfl 26 _ rfl gS0 rfl _ _ _ _ (KS.out _ (by assumption)) Try.underlying26 rfl (size_Alg _ _) ?_) | (refine wpList_load_row_w rfl 26 _ rfl gG0 rfl _ _ _ _ (KG.out _ (by assumption)) Try.underlying26 rfl (size_Alg _ _) ?_))
    refine (heldAlgebra_G _ _ _ _ _ _ VL0 VT0 (1) _ (MG0.out.below Gz60).ma TI0.out (by omega) (by omega)).mono ?_
    rintro e u0w ⟨rfl, hbu0⟩
    have z62 := z60.trans (hbu0.mono z60.size)
    have Sz62 := Sz60.trans (hbu0.mono Sz60.size)
    have Gz62 := Gz60.trans (hbu0.mono Gz60.size)
    have Hz62 := Hz60.trans (hbu0.mono Hz60.size)
    have n63 := hbu0.size
    clear z60 Sz60 Gz60 Hz60 hbu0
    go_wp2_with (first | go_skip | (refine wpList_load_row_w rfl 35 _ rfl w.heap.size rfl _ _ _ _ (Kx0.out _ (by first | assumption | exact (by assumption : Below _ w1 _).alloc (Below.size (by assumption)) _)) Try.underlying35 rfl (size_LAlg _ _) ?_) | (refine wpList_load_row_w rfl 26 _ rfl gS0 rfl _ _ _ _ (KS.out _ (by assumption)) Try.underlying26 rfl (size_Alg _ _) ?_) | (refine wpList_load_row_w rfl 26 _ rfl gG0 rfl _ _ _ _ (KG.out _ (by assumption)) Try.underlying26 rfl (size_Alg _ _) ?_))
    refine (heldIntS_G _ V1 (1 + wtA VL0 VT0) _ (MG1.out.below Gz62) (by omega) (by omega) (by omega)).mono ?_
    rintro e u1w ⟨rfl, hbu1⟩
    have z64 := z62.trans (hbu1.mono z62.size)
    have Sz64 := Sz62.trans (hbu1.mono Sz62.size)
    have Gz64 := Gz62.trans (hbu1.mono Gz62.size)
    have Hz64 := Hz62.trans (hbu1.mono Hz62.size)
    have n65 := hbu1.size
    clear z62 Sz62 Gz62 Hz62 hbu1
    go_wp2
    go_ret
    exact ⟨rfl, hB.trans (z64.mono hB.size)⟩
end Go.Proofs.Ytjcambkjcagcoaa
