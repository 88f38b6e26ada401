import Derived.Test.YtjcambkjcagcoaaKM8
import Derived.Test.YtjcambkjcagcoaaL6
namespace Go.Proofs.Ytjcambkjcagcoaa
open Go.RowKit

theorem own_apart8 {B C : Nat} {w w1 : World} {v1 v2 : Value} {L1 L2 : List Int} (h1 : ∀ k, v1.ownBlock = some k → B ≤ k ∧ k < C) (h2 : Own C w v2 L2) (o1 : Own B w v1 L1) (hg : w.grownBy w1 v2.ownBlock) : Own B w1 v1 L1 :=
  World.ownsRow.kept o1 hg (by
    cases h : v1.ownBlock with
    | none => exact .inl rfl
    | some q =>
      right
      intro e
      have a := h1 q h
      have b := World.ownsRow.lt h2 q e.symm
      omega)
set_option maxRecDepth 100000 in
set_option maxHeartbeats 4000000 in
/-- the law -/
theorem lawGreatestFilters (a b : Option Addr) (ca cb : Nat) (L : List Int) (T : List (List Int))  (w : World) (hr : Rd w a L) (hT : RdT w b T) (hL : L.length ≤ maxLen) (hn : T.length ≤ maxLen) (hm : ∀ j : Nat, j < T.length → (rowAt T j).length ≤ maxLen) :
    Calls Try.prog 6 #[.agg #[.slice a L.length ca, .slice b T.length cb]] w fun e w' => e = .returned (.bool true) ∧ Below w.heap.size w w' := by
  unfold maxLen at hL hn hm
  have HM := Lib.hid (show ∀ j : Nat, j < T.length → ((rowAt T j).length : Int) ≤ 9223372036854775807 from fun j hj => by have := hm j hj; omega)
  have hL2 : (L.length : Int) ≤ 9223372036854775807 := by omega
  have hn2 : (T.length : Int) ≤ 9223372036854775807 := by omega
  obtain ⟨V, hV⟩ : ∃ V, V = algV L T (grs L T) := ⟨_, rfl⟩
  have hlen : V.length ≤ 64 := by rw [hV]; exact (algV_len fun h => filt_64 (alg_lat h) _)
  have HS := Lib.hid (show ∀ (a b : Option Addr) (ca cb : Nat) (w : World), Rd w a L → RdT w b T → Calls Try.prog 33 #[.agg #[.slice a L.length ca, .slice b T.length cb]] w (RetSl w.heap.size V w) from fun a b ca cb w h1 h2 => by rw [hV]; exact specGreatestFilters_any a b ca cb L T  w h1 h2)
  have HI := Lib.hid (show ∀ (a b : Option Addr) (ca cb : Nat) (w : World), Rd w a L → RdT w b T → Calls Try.prog 34 #[.agg #[.slice a L.length ca, .slice b T.length cb]] w (RetSl w.heap.size V w) from fun a b ca cb w h1 h2 => by rw [hV]; exact implGreatestFilters_any a b ca cb L T  w h1 h2)
  obtain ⟨w1, hw1⟩ : ∃ w1, w1 = w.alloc (.cells #[.slice a L.length ca, .slice b T.length cb] 35) := ⟨_, rfl⟩
  have hB : Below w.heap.size w w1 := by rw [hw1]; exact (Below.refl _ _).alloc (Nat.le_refl _) _
  have hx : w1.heap[w.heap.size]? = some (.cells #[.slice a L.length ca, .slice b T.length cb] 35 (0, 0)) := by rw [hw1]; exact heap_alloc_new w _
  have Kx := Lib.hid (show ∀ wz, Below w1.heap.size w1 wz → wz.heap[w.heap.size]? = some (.cells #[.slice a L.length ca, .slice b T.length cb] 35 (0, 0)) from fun wz h => (h.block _ (lt_of_block hx)).trans hx)
  have HR := Lib.hid (hr.below hB)
  have HT := Lib.hid (hT.below hB)
  have z0 : Below w1.heap.size w1 w1 := Below.refl _ _
  clear hm hV hr hT hx
  go_enter Try.func6, Try.ntmps6
  go_wp2_with (first | (rw [← hw1]; clear hw1) | (refine wpList_load_row_w rfl 35 _ rfl w.heap.size rfl _ _ _ _ (Kx.out _ (by assumption)) Try.underlying35 rfl (size_LAlg _ _) ?_))
  refine (szAlgebra_any _ _ _ _ L T 1048576 _ HT.out (by omega) (by omega) hL2 HM.out hn2).mono ?_
  rintro e w9 ⟨⟨v, rfl, v1, v2, v3⟩, hb1⟩
  by_cases hv : v < 0
  · go_wp2
    go_ret
    exact ⟨rfl, hB.trans (hb1.mono hB.size)⟩
  · obtain ⟨s1, s2, s3⟩ := v3 (by omega)
    have S1 : L.length ≤ 1048576 := by omega
    have S2 : T.length ≤ 1048576 := by omega
    have S3 := Lib.hid (show ∀ j : Nat, j < T.length → (rowAt T j).length ≤ 1048576 from fun j hj => by have := s3 j hj; omega)
    clear s3 v3
    go_wp2_with (refine wpList_load_row_w rfl 35 _ rfl w.heap.size rfl _ _ _ _ (Kx.out _ (by assumption)) Try.underlying35 rfl (size_LAlg _ _) ?_)
    refine (toAlgebra_any _ _ _ _ L T _ (HR.out.below hb1) (HT.out.below hb1) S1 S2 S3.out).mono ?_
    rintro e w2 ⟨bu2, B2, R2, rfl, _, _, row2, own2, hb2⟩
    have z2 : Below w1.heap.size w1 w2 := hb1.trans (hb2.mono hb1.size)
    clear hb1 hb2 z0
    go_wp2_with (refine wpList_load_row_w rfl 35 _ rfl w.heap.size rfl _ _ _ _ (Kx.out _ (by assumption)) Try.underlying35 rfl (size_LAlg _ _) ?_)
    refine (HS.out _ _ _ _ _ row2.rd own2.rd).mono ?_
    rintro e w3 ⟨a3, c3, rfl, o3, hb3⟩
    have z3 : Below w1.heap.size w1 w3 := z2.trans (hb3.mono z2.size)
    have l3 := World.ownsRow.lt (Own.from o3 z2.size)
    replace o3 := o3.from z2.size
    clear z2 hb3 row2 own2
    go_wp2_with (refine wpList_load_row_w rfl 35 _ rfl w.heap.size rfl _ _ _ _ (Kx.out _ (by assumption)) Try.underlying35 rfl (size_LAlg _ _) ?_)
    refine (toAlgebra_any _ _ _ _ L T _ (HR.out.below z3) (HT.out.below z3) S1 S2 S3.out).mono ?_
    rintro e w4 ⟨bu4, B4, R4, rfl, hbu, hbB, row4, own4, hb4⟩
    have z4 : Below w1.heap.size w1 w4 := z3.trans (hb4.mono z3.size)
    have o4 := o3.below hb4
    have hs3 := z3.size
    have hs34 := hb4.size
    have hR4 := Lib.hid (show ∀ j, j < T.length → R4 j < w4.heap.size from fun j hj => (own4.row j hj).lt)
    have hbu4 := row4.lt
    clear z3 hb4 o3
    go_wp2_with (refine wpList_load_row_w rfl 35 _ rfl w.heap.size rfl _ _ _ _ (Kx.out _ (by assumption)) Try.underlying35 rfl (size_LAlg _ _) ?_)
    obtain ⟨bx, hbx⟩ : ∃ bx, bx = w4.heap.size := ⟨_, rfl⟩
    obtain ⟨w5, hw5⟩ : ∃ w5, w5 = w4.alloc (.cells #[.slice (some ⟨bu4, 0, none⟩) L.length L.length, .slice (some ⟨B4, 0, none⟩) T.length T.length] 26) := ⟨_, rfl⟩
    rw [← hw5, ← hbx]
    have q5 : Below w4.heap.size w4 w5 := by rw [hw5]; exact (Below.refl _ _).alloc (Nat.le_refl _) _
    have hx5 : w5.heap[bx]? = some (.cells #[.slice (some ⟨bu4, 0, none⟩) L.length L.length, .slice (some ⟨B4, 0, none⟩) T.length T.length] 26 (0, 0)) := by rw [hw5, hbx]; exact heap_alloc_new w4 _
    have KX := Lib.hid (show ∀ wz, Below w5.heap.size w5 wz → wz.heap[bx]? = some (.cells #[.slice (some ⟨bu4, 0, none⟩) L.length L.length, .slice (some ⟨B4, 0, none⟩) T.length T.length] 26 (0, 0)) from fun wz h => (h.block _ (lt_of_block hx5)).trans hx5)
    have z5 : Below w1.heap.size w1 w5 := z4.trans (q5.mono z4.size)
    have row5 := Lib.hid (row4.below q5 row4.lt)
    have own5 := Lib.hid (own4.below q5)
    have o5 := o4.below q5
    have hs45 := q5.size
    have y5 : Below w5.heap.size w5 w5 := Below.refl _ _
    clear z4 q5 row4 own4 hw5 hbx hx5 o4
    refine (HI.out _ _ _ _ _ row5.out.rd own5.out.rd).mono ?_
    rintro e w6 ⟨a6, c6, rfl, g6, hb6⟩
    have z6 : Below w1.heap.size w1 w6 := z5.trans (hb6.mono z5.size)
    have y6 : Below w5.heap.size w5 w6 := hb6
    have o6 := o5.below hb6
    clear z5 hb6 o5 y5
    go_wp2_with (first | (refine wpList_load_row_w rfl 35 _ rfl w.heap.size rfl _ _ _ _ (Kx.out _ (by assumption)) Try.underlying35 rfl (size_LAlg _ _) ?_) | (refine wpList_load_row_w rfl 26 _ rfl bx rfl _ _ _ _ (KX.out _ (by assumption)) Try.underlying26 rfl (size_Alg _ _) ?_))
    refine (eqIntS_same _ _ _ _ V _ g6.rd o6.rd (by omega)).mono ?_
    rintro e w7 ⟨rfl, hd7⟩
    have z7 := z6.trans (hd7.below w1.heap.size)
    have y7 := y6.trans (hd7.below w5.heap.size)
    have o7 := o6.below (hd7.below _)
    have g7 := g6.below (hd7.below _)
    clear z6 y6 o6 g6 hd7
    have od := o7.below (show Below w7.heap.size w7 w7.drew from (Below.refl _ _).drew)
    have gd := g7.below (show Below w7.heap.size w7 w7.drew from (Below.refl _ _).drew)
    obtain ⟨c0, c1⟩ := bxL_cells (Kx.out _ z7)
    obtain ⟨d0, d1⟩ := bx_cells (KX.out _ y7)
    go_wp2
    go_region_with (first
      | (go_at_call 19; refine (toAlgebra_any _ _ _ _ L T _ (HR.out.below z7.drew) (HT.out.below z7.drew) S1 S2 S3.out).mono ?_; rintro e w8 ⟨bu8, B8, R8, rfl, _, _, row8, own8, hb8⟩; have z8 := z7.drew.trans (hb8.mono z7.drew.size); have y8 := y7.drew.trans (hb8.mono y7.drew.size); have o8 := od.below hb8; have g8 := gd.below hb8; obtain ⟨e0, e1⟩ := bx_cells (KX.out _ y8))
      | (go_at_call 21; refine (eqAlgebra_same _ _ _ _ _ _ _ _ L T _ (row5.out.below y8 row5.out.lt).rd row8.rd (own5.out.below y8).rd own8.rd (by omega) (fun j hj => Nat.le_trans (S3.out j hj) (by decide)) (by omega)).mono ?_; rintro e w10 ⟨rfl, hb10⟩; have z10 := z8.trans (hb10.mono z8.size); have y10 := y8.trans (hb10.mono y8.size); have o10 := o8.below hb10; have g10 := g8.below hb10))
    all_goals
      clear z7 y7 z8 y8 o7 g7 od gd o8 g8 c0 c1 d0 d1 e0 e1 row8 own8 hb8 hb10
      go_wp2_with (refine wpList_load_row_w rfl 26 _ rfl bx rfl _ _ _ _ (KX.out _ (by assumption)) Try.underlying26 rfl (size_Alg _ _) ?_)
      refine (markAlgebra_any bu4 _ B4 R4 L T 1 _ (row5.out.below y10 row5.out.lt) hbB (own5.out.below y10) w4.heap.size hR4.out hbu4 (by omega) (by omega) S1 S2 S3.out).mono ?_
      rintro e w11 ⟨⟨k, rfl, hk⟩, m11⟩
      have hs10 := y10.size
      have z11 : Below w1.heap.size w1 w11 := z10.trans (m11.below (by omega) (by have := z10.size; omega))
      have o11 := o10.mid m11 (fun q hq => .inl (by have := (l3 q hq).2; omega))
      have g11 := g10.mid m11 (fun q hq => .inr (by have := (World.ownsRow.lt g10 q hq).1; omega))
      clear z10 y10 o10 g10 m11
      go_wp2_with fail
      refine (eqIntS_same _ _ _ _ V _ g11.rd o11.rd (by omega)).mono ?_
      rintro e w12 ⟨rfl, hd12⟩
      have z12 := z11.trans (hd12.below w1.heap.size)
      have o12 := o11.below (hd12.below _)
      have g12 := g11.below (hd12.below _)
      clear z11 o11 g11 hd12
      go_wp2_with fail
      refine (markIntS_any _ _ V 1 _ g12 (by omega) (by omega) (by omega)).mono ?_
      rintro e w13 ⟨rfl, p13, hg13⟩
      have o13 := own_apart8 (C := w5.heap.size) (fun q hq => ⟨(l3 q hq).1, by have := (l3 q hq).2; omega⟩) g12 o12 hg13
      have z13 : Below w1.heap.size w1 w13 := z12.grown hg13 z12.size (fun q hq => by have := (World.ownsRow.lt g12 q hq).1; omega)
      have r13 : Rd w13 a6 (markL 1 V.length) := Own.rd (B := w5.heap.size) (cap := c6) (by rw [markL_len]; exact p13)
      clear z12 o12 g12 hg13 p13
      go_wp2_with fail
      refine (heldIntS_any _ _ _ _ _ r13 (by omega) (by omega) (by omega)).mono ?_
      rintro e w14 ⟨rfl, rfl⟩
      have hne : ((1 : Int) + (V.length : Int) != 1 + (V.length : Int)) = false := by simp
      go_wp2_with (refine wpList_load_row_w rfl 35 _ rfl w.heap.size rfl _ _ _ _ (Kx.out _ (by assumption)) Try.underlying35 rfl (size_LAlg _ _) ?_)
      refine (toAlgebra_any _ _ _ _ L T _ (HR.out.below z13) (HT.out.below z13) S1 S2 S3.out).mono ?_
      rintro e w15 ⟨bu15, B15, R15, rfl, _, _, row15, own15, hb15⟩
      have z15 := z13.trans (hb15.mono z13.size)
      have o15 := o13.below hb15
      have r15 := r13.below hb15
      clear z13 o13 r13 hb15
      go_wp2_with fail
      refine (HI.out _ _ _ _ _ row15.rd own15.rd).mono ?_
      rintro e w16 ⟨a16, c16, rfl, h16, hb16⟩
      have z16 := z15.trans (hb16.mono z15.size)
      have o16 := o15.below hb16
      have r16 := r15.below hb16
      clear z15 o15 r15 hb16 row15 own15
      go_wp2_with fail
      refine (eqIntS_same _ _ _ _ V _ h16.rd o16.rd (by omega)).mono ?_
      rintro e w17 ⟨rfl, hd17⟩
      have z17 := z16.trans (hd17.below w1.heap.size)
      have r17 := hd17.rd r16
      clear z16 o16 r16 h16 hd17
      go_wp2_with fail
      refine (heldIntS_any _ _ _ _ _ r17 (by omega) (by omega) (by omega)).mono ?_
      rintro e w18 ⟨rfl, rfl⟩
      go_wp2
      go_ret
      exact ⟨rfl, hB.trans (z17.mono hB.size)⟩
end Go.Proofs.Ytjcambkjcagcoaa
