import Derived.Test.YtnmhbbekmepinaaSS4
namespace Go.Proofs.Ytnmhbbekmepinaa
open Go.RowKit
set_option linter.unusedVariables false

/-- a list and a Boolean are handed back -/
def RetSsb (L : List Int) (V : Bool) (w : World) (e : Ending) (w' : World) : Prop := ∃ (a : Option Addr) (n c : Nat), e = .returned (.tuple #[.slice a n c, .bool V]) ∧ RS w' (.slice a n c) L ∧ Below w.heap.size w w'
def RetGsb (L : List Int) (V : Bool) (w : World) (e : Ending) (w' : World) : Prop := ∃ (a : Option Addr) (n c : Nat), e = .returned (.tuple #[.slice a n c, .bool V]) ∧ GS w.heap.size w'.heap.size w' (.slice a n c) L ∧ Below w.heap.size w w'
set_option maxRecDepth 100000 in
set_option maxHeartbeats 4000000 in
theorem implSizesOf_no (a b : Option Addr) (ca cb : Nat) (L : List Int) (T : List (List Int)) (w : World) (hr : Rd w a L) (hT : RdT w b T) (h : algB L T = false) : Calls Try.prog 45 #[.agg #[.slice a L.length ca, .slice b T.length cb]] w (RetGsb (sqL L T) (sqB L T) w) := by
  obtain ⟨w1, hw1⟩ : ∃ w1, w1 = w.alloc (.cells #[.slice a L.length ca, .slice b T.length cb] 27) := ⟨_, rfl⟩
  have hB : Below w.heap.size w w1 := by rw [hw1]; exact (Below.refl _ _).alloc (Nat.le_refl _) _
  have hx : w1.heap[w.heap.size]? = some (.cells #[.slice a L.length ca, .slice b T.length cb] 27 (0, 0)) := by rw [hw1]; exact heap_alloc_new w _
  have Kx := Lib.hid (show ∀ wz, Below w1.heap.size w1 wz → wz.heap[w.heap.size]? = some (.cells #[.slice a L.length ca, .slice b T.length cb] 27 (0, 0)) from fun wz h => (h.block _ (lt_of_block hx)).trans hx)
  have KR := Lib.hid (show ∀ wz, Below w1.heap.size w1 wz → Rd wz a L from fun wz h => (hr.below hB).below h)
  have KT := Lib.hid (show ∀ wz, Below w1.heap.size w1 wz → RdT wz b T from fun wz h => (hT.below hB).below h)
  have z1 : Below w1.heap.size w1 w1 := Below.refl _ _
  clear hr hT hx
  have HA := Lib.hid h
  have HV := Lib.hid (sq_na h)
  clear h
  go_enter Try.func45, Try.ntmps45
  go_wp2_with (first
    | go_skip
    | (rw [← hw1]; clear hw1)
    | (refine wpList_load_row_w rfl 27 _ rfl w.heap.size rfl _ _ _ _ (Kx.out _ (by assumption)) Try.underlying27 rfl (size_Alg _ _) ?_)
    | (go_at_call_of 76 (Value.agg #[.slice a L.length ca, .slice b T.length cb]); refine (readAlgebra_no a b ca cb L T _ (KR.out _ z1) (KT.out _ z1) HA.out).mono ?_; rintro e w2 ⟨rfl, hw2⟩; have z2 : Below w1.heap.size w1 w2 := z1.trans (hw2.mono z1.size); clear hw2)
    | (refine wpList_store_row rfl 87 _ _ rfl w2.heap.size (zeroAlg) rfl rfl _ _ (heap_alloc_new w2 (.cells zeroAlg 87)) size_zeroAlg rfl one_zeroAlg ?_; rw [World.setRow_alloc_new]; obtain ⟨g4, hg4⟩ : ∃ bl, bl = w2.heap.size := ⟨_, rfl⟩; obtain ⟨w3, hw3⟩ : ∃ x, x = w2.alloc (.cells (zeroAlg) 87) := ⟨_, rfl⟩; rw [← hw3, ← hg4]; have qw3 : Below w2.heap.size w2 w3 := (by rw [hw3]; exact (Below.refl _ _).alloc (Nat.le_refl _) _); have lg4 : w2.heap.size ≤ g4 := Nat.le_of_eq hg4.symm; have z3 : Below w1.heap.size w1 w3 := z2.trans (qw3.mono z2.size); clear hw3 hg4 z2))
  go_ret2
  rw [HV.out.1, HV.out.2]
  have hb := hB.trans (z3.mono hB.size)
  exact ⟨none, 0, 0, rfl, GS.zero _ _ _, hb⟩
set_option maxRecDepth 100000 in
set_option maxHeartbeats 8000000 in
theorem implSizesOf_ne (a b : Option Addr) (ca cb : Nat) (L : List Int) (T : List (List Int)) (w : World) (hr : Rd w a L) (hT : RdT w b T) (h : algB L T = true) (hq : skA (szI L T) ≠ (L, T)) : Calls Try.prog 45 #[.agg #[.slice a L.length ca, .slice b T.length cb]] w (RetGsb (sqL L T) (sqB L T) w) := by
  obtain ⟨w1, hw1⟩ : ∃ w1, w1 = w.alloc (.cells #[.slice a L.length ca, .slice b T.length cb] 27) := ⟨_, rfl⟩
  have hB : Below w.heap.size w w1 := by rw [hw1]; exact (Below.refl _ _).alloc (Nat.le_refl _) _
  have hx : w1.heap[w.heap.size]? = some (.cells #[.slice a L.length ca, .slice b T.length cb] 27 (0, 0)) := by rw [hw1]; exact heap_alloc_new w _
  have Kx := Lib.hid (show ∀ wz, Below w1.heap.size w1 wz → wz.heap[w.heap.size]? = some (.cells #[.slice a L.length ca, .slice b T.length cb] 27 (0, 0)) from fun wz h => (h.block _ (lt_of_block hx)).trans hx)
  have KR := Lib.hid (show ∀ wz, Below w1.heap.size w1 wz → Rd wz a L from fun wz h => (hr.below hB).below h)
  have KT := Lib.hid (show ∀ wz, Below w1.heap.size w1 wz → RdT wz b T from fun wz h => (hT.below hB).below h)
  have z1 : Below w1.heap.size w1 w1 := Below.refl _ _
  clear hr hT hx
  have HA := Lib.hid h
  have HV := Lib.hid (sq_no hq)
  obtain ⟨hs5, _⟩ := szI_ok h
  have hsl := szI_len h
  obtain ⟨f1, _, _⟩ := fixF_ok h
  have hf6 := filtTo_len (fixQ T) (num L)
  have hl6 := (lat_len (alg_lat h)).2
  have hfv : ∀ k : Int, 0 ≤ k → k < (filtTo (fixQ T) (num L)).length → 0 ≤ nth (filtTo (fixQ T) (num L)) k ∧ nth (filtTo (fixQ T) (num L)) k ≤ 6 := fun k k0 k1 => by have := fixF_in k0 k1; omega
  have HK := Lib.hid (skF _ hs5)
  have hki := (sk_yes hs5)
  have HFX := Lib.hid (show ∀ (w : World), Rd w a L → RdT w b T → Calls Try.prog 53 #[.agg #[.slice a L.length ca, .slice b T.length cb]] w (RetSl w.heap.size (filtTo (fixQ T) (num L)) w) from fun w h1 h2 => by have := implFixedOf_any a b ca cb L T w h1 h2; unfold algI at this; rw [h, if_pos rfl] at this; exact this)
  have HGP := Lib.hid (show ∀ (w : World) (a : Option Addr) (c : Nat), Rd w a (filtTo (fixQ T) (num L)) → Calls Try.prog 114 #[.slice a (filtTo (fixQ T) (num L)).length c] w (RetSl w.heap.size (szI L T) w) from fun w a c h1 => gapsOf_any a c _ w h1 (by omega) (by omega) hfv)
  have HST := Lib.hid (show ∀ (w : World) (a : Option Addr) (c : Nat), Rd w a (szI L T) → (szI L T).length ≤ c → Calls Try.prog 41 #[.slice a (szI L T).length c] w (RetGAb (skA (szI L T)).1 (skA (szI L T)).2 true w) from fun w a c h1 h2 => by have := implStackOfSums_any a c (szI L T) w h1 (by omega) h2; rw [hki.1, hki.2, hs5] at this; exact this)
  obtain ⟨FX, hFX⟩ : ∃ F, F = filtTo (fixQ T) (num L) := ⟨_, rfl⟩
  obtain ⟨S, hS⟩ : ∃ S, S = szI L T := ⟨_, rfl⟩
  rw [← hFX] at HFX HGP
  rw [← hS] at HGP HST HK hsl
  have HSV := Lib.hid (show sqB L T = false ∧ sqL L T = [] from HV.out)
  have HNE := Lib.hid (fun w : World => run_neq_algebra h HK.out.alg w (v := false) (decide_eq_false (by rw [hS]; exact hq)))
  have hne := HNE.out
  simp only [Bool.not_false] at hne
  clear h hq HV hs5 f1 hf6 hfv hki hFX hS HNE
  go_enter Try.func45, Try.ntmps45
  go_wp2_with (first
    | go_skip
    | (rw [← hw1]; clear hw1)
    | (refine wpList_load_row_w rfl 27 _ rfl w.heap.size rfl _ _ _ _ (Kx.out _ (by assumption)) Try.underlying27 rfl (size_Alg _ _) ?_)
    | (go_at_call_of 76 (Value.agg #[.slice a L.length ca, .slice b T.length cb]); refine (readAlgebra_yes a b ca cb L T _ (KR.out _ z1) (KT.out _ z1) HA.out).mono ?_; rintro e w2 ⟨rfl, hw2⟩; have z2 : Below w1.heap.size w1 w2 := z1.trans (hw2.mono z1.size); clear hw2)
    | (refine wpList_store_row rfl 87 _ _ rfl w2.heap.size (algOf L T) rfl rfl _ _ (heap_alloc_new w2 (.cells zeroAlg 87)) (size_alg _ _ _ _ _ _) rfl (one_alg _ _ _ _ _ _) ?_; rw [World.setRow_alloc_new]; obtain ⟨g4, hg4⟩ : ∃ bl, bl = w2.heap.size := ⟨_, rfl⟩; obtain ⟨w3, hw3⟩ : ∃ x, x = w2.alloc (.cells (algOf L T) 87) := ⟨_, rfl⟩; rw [← hw3, ← hg4]; have hAg4 : AlgAt w3 g4 L T := (by rw [hw3, hg4]; exact AlgAt.new w2 L T); have ltg4 := hAg4.lt; have qw3 : Below w2.heap.size w2 w3 := (by rw [hw3]; exact (Below.refl _ _).alloc (Nat.le_refl _) _); have lg4 : w2.heap.size ≤ g4 := Nat.le_of_eq hg4.symm; have z3 : Below w1.heap.size w1 w3 := z2.trans (qw3.mono z2.size); have K4 := Lib.hid (show ∀ wz, Below w3.heap.size w3 wz → AlgAt wz g4 L T from fun wz hz => hAg4.below hz hAg4.lt); have y3 : Below w3.heap.size w3 w3 := Below.refl _ _; clear hAg4 qw3 hw3 hg4 z2)
    | (go_at_call 53; refine (HFX.out _ (KR.out _ z3) (KT.out _ z3)).mono ?_; rintro e w4 ⟨fa, fc, rfl, fown, hb4⟩; have z4 := z3.trans (hb4.mono z3.size); have y4 := y3.trans (hb4.mono y3.size); clear hb4 z3 y3)
    | (go_at_call 114; refine (HGP.out _ _ _ fown.rd).mono ?_; rintro e w5 ⟨sa, sc, rfl, sown, hb5⟩; have z5 := z4.trans (hb5.mono z4.size); have y5 := y4.trans (hb5.mono y4.size); have n45 := y4.size; have SO := Lib.hid sown; have scap := ownCapS sown; have n14 := z4.size; clear hb5 fown sown z4)
    | (go_at_call 41; refine (HST.out _ _ _ SO.out.rd scap).mono ?_; rintro e w6 ⟨ra, rn, rc, rb, rm, rd, rfl, hga6, hb6⟩; obtain ⟨rfl, rfl, rr6, rt6⟩ := ra_partsS hga6.rd; have z6 := z5.trans (hb6.mono z5.size); have y6 := y5.trans (hb6.mono y5.size); have x6 : Below w5.heap.size w5 w6 := hb6; have R6 := Lib.hid rr6; have T6 := Lib.hid rt6; clear hb6 hga6 rr6 rt6 z5)
    | (refine wpList_store_row rfl 27 _ _ rfl w6.heap.size #[.slice ra (skA S).1.length rc, .slice rb (skA S).2.length rd] rfl rfl _ _ (heap_alloc_new w6 (.cells #[.slice none 0 0, .slice none 0 0] 27)) (size_Alg _ _) rfl (one_sl2 _ _ _ _ _ _) ?_; rw [World.setRow_alloc_new]; obtain ⟨g7, hg7⟩ : ∃ g : Nat, g = w6.heap.size := ⟨_, rfl⟩; obtain ⟨w7, hw7⟩ : ∃ x : World, x = w6.alloc (.cells #[.slice ra (skA S).1.length rc, .slice rb (skA S).2.length rd] 27) := ⟨_, rfl⟩; rw [← hw7, ← hg7]; have qw7 : Below w6.heap.size w6 w7 := (by rw [hw7]; exact (Below.refl _ _).alloc (Nat.le_refl _) _); have hxg7 : w7.heap[g7]? = some (.cells #[.slice ra (skA S).1.length rc, .slice rb (skA S).2.length rd] 27 (0, 0)) := (by rw [hw7, hg7]; exact heap_alloc_new w6 _); have K7 := Lib.hid (show ∀ wz, Below w7.heap.size w7 wz → wz.heap[g7]? = some (.cells #[.slice ra (skA S).1.length rc, .slice rb (skA S).2.length rd] 27 (0, 0)) from fun wz h => (h.block _ (lt_of_block hxg7)).trans hxg7); have z7 : Below w1.heap.size w1 w7 := z6.trans (qw7.mono z6.size); have y7 := y6.trans (qw7.mono y6.size); have x7 := x6.trans (qw7.mono x6.size); replace R6 := Lib.hid (R6.out.below qw7); replace T6 := Lib.hid (T6.out.below qw7); clear z6 y6 x6 hw7 hg7 hxg7)
    | (refine wpList_load_row_w rfl 27 _ rfl g7 rfl _ _ _ _ (K7.out _ (Below.refl _ _)) Try.underlying27 rfl (size_Alg _ _) ?_)
    | (go_at_call 76; refine (readAlgebra_yes ra rb rc rd (skA S).1 (skA S).2 _ R6.out T6.out HK.out.alg).mono ?_; rintro e w8 ⟨rfl, h8⟩; have z8 : Below w1.heap.size w1 w8 := z7.trans (h8.mono z7.size); have y8 := y7.trans (h8.mono y7.size); have x8 := x7.trans (h8.mono x7.size); clear h8 z7 y7 x7)
    | (refine wpList_store_row rfl 87 _ _ rfl w8.heap.size (algOf (skA S).1 (skA S).2) rfl rfl _ _ (heap_alloc_new w8 (.cells zeroAlg 87)) (size_alg _ _ _ _ _ _) rfl (one_alg _ _ _ _ _ _) ?_; rw [World.setRow_alloc_new]; obtain ⟨g9, hg9⟩ : ∃ bl, bl = w8.heap.size := ⟨_, rfl⟩; obtain ⟨w9, hw9⟩ : ∃ x, x = w8.alloc (.cells (algOf (skA S).1 (skA S).2) 87) := ⟨_, rfl⟩; rw [← hw9, ← hg9]; have hAg9 : AlgAt w9 g9 (skA S).1 (skA S).2 := (by rw [hw9, hg9]; exact AlgAt.new w8 (skA S).1 (skA S).2); have ltg9 := hAg9.lt; have qw9 : Below w8.heap.size w8 w9 := (by rw [hw9]; exact (Below.refl _ _).alloc (Nat.le_refl _) _); have lg9 : w8.heap.size ≤ g9 := Nat.le_of_eq hg9.symm; have z9 : Below w1.heap.size w1 w9 := z8.trans (qw9.mono z8.size); have y9 := y8.trans (qw9.mono y8.size); have x9 := x8.trans (qw9.mono x8.size); have a4 : w9.heap[g4]? = some (.cells (algOf L T) 87 (0, 0)) := K4.out _ y9; have a9 : w9.heap[g9]? = some (.cells (algOf (skA S).1 (skA S).2) 87 (0, 0)) := hAg9; clear y8 x8 hAg9 hw9 hg9 z8)
    | (refine wpList_load_row_w rfl 87 _ rfl g9 rfl _ _ _ _ a9 Try.underlying87 rfl (size_alg _ _ _ _ _ _) ?_)
    | (refine wpList_load_row_w rfl 87 _ rfl g4 rfl _ _ _ _ a4 Try.underlying87 rfl (size_alg _ _ _ _ _ _) ?_))
  go_ret2
  rw [HSV.out.1, HSV.out.2]
  have hb := hB.trans (z9.mono hB.size)
  exact ⟨none, 0, 0, rfl, GS.zero _ _ _, hb⟩
set_option maxRecDepth 100000 in
set_option maxHeartbeats 8000000 in
theorem implSizesOf_yes (a b : Option Addr) (ca cb : Nat) (L : List Int) (T : List (List Int)) (w : World) (hr : Rd w a L) (hT : RdT w b T) (h : algB L T = true) (hq : skA (szI L T) = (L, T)) : Calls Try.prog 45 #[.agg #[.slice a L.length ca, .slice b T.length cb]] w (RetGsb (sqL L T) (sqB L T) w) := by
  obtain ⟨w1, hw1⟩ : ∃ w1, w1 = w.alloc (.cells #[.slice a L.length ca, .slice b T.length cb] 27) := ⟨_, rfl⟩
  have hB : Below w.heap.size w w1 := by rw [hw1]; exact (Below.refl _ _).alloc (Nat.le_refl _) _
  have hx : w1.heap[w.heap.size]? = some (.cells #[.slice a L.length ca, .slice b T.length cb] 27 (0, 0)) := by rw [hw1]; exact heap_alloc_new w _
  have Kx := Lib.hid (show ∀ wz, Below w1.heap.size w1 wz → wz.heap[w.heap.size]? = some (.cells #[.slice a L.length ca, .slice b T.length cb] 27 (0, 0)) from fun wz h => (h.block _ (lt_of_block hx)).trans hx)
  have KR := Lib.hid (show ∀ wz, Below w1.heap.size w1 wz → Rd wz a L from fun wz h => (hr.below hB).below h)
  have KT := Lib.hid (show ∀ wz, Below w1.heap.size w1 wz → RdT wz b T from fun wz h => (hT.below hB).below h)
  have z1 : Below w1.heap.size w1 w1 := Below.refl _ _
  clear hr hT hx
  have HA := Lib.hid h
  have HV := Lib.hid (sq_yes h hq)
  obtain ⟨hs5, _⟩ := szI_ok h
  have hsl := szI_len h
  obtain ⟨f1, _, _⟩ := fixF_ok h
  have hf6 := filtTo_len (fixQ T) (num L)
  have hl6 := (lat_len (alg_lat h)).2
  have hfv : ∀ k : Int, 0 ≤ k → k < (filtTo (fixQ T) (num L)).length → 0 ≤ nth (filtTo (fixQ T) (num L)) k ∧ nth (filtTo (fixQ T) (num L)) k ≤ 6 := fun k k0 k1 => by have := fixF_in k0 k1; omega
  have HK := Lib.hid (skF _ hs5)
  have hki := (sk_yes hs5)
  have HFX := Lib.hid (show ∀ (w : World), Rd w a L → RdT w b T → Calls Try.prog 53 #[.agg #[.slice a L.length ca, .slice b T.length cb]] w (RetSl w.heap.size (filtTo (fixQ T) (num L)) w) from fun w h1 h2 => by have := implFixedOf_any a b ca cb L T w h1 h2; unfold algI at this; rw [h, if_pos rfl] at this; exact this)
  have HGP := Lib.hid (show ∀ (w : World) (a : Option Addr) (c : Nat), Rd w a (filtTo (fixQ T) (num L)) → Calls Try.prog 114 #[.slice a (filtTo (fixQ T) (num L)).length c] w (RetSl w.heap.size (szI L T) w) from fun w a c h1 => gapsOf_any a c _ w h1 (by omega) (by omega) hfv)
  have HST := Lib.hid (show ∀ (w : World) (a : Option Addr) (c : Nat), Rd w a (szI L T) → (szI L T).length ≤ c → Calls Try.prog 41 #[.slice a (szI L T).length c] w (RetGAb (skA (szI L T)).1 (skA (szI L T)).2 true w) from fun w a c h1 h2 => by have := implStackOfSums_any a c (szI L T) w h1 (by omega) h2; rw [hki.1, hki.2, hs5] at this; exact this)
  obtain ⟨FX, hFX⟩ : ∃ F, F = filtTo (fixQ T) (num L) := ⟨_, rfl⟩
  obtain ⟨S, hS⟩ : ∃ S, S = szI L T := ⟨_, rfl⟩
  rw [← hFX] at HFX HGP
  rw [← hS] at HGP HST HK hsl
  have HSV := Lib.hid (show sqB L T = true ∧ sqL L T = S from by rw [hS]; exact HV.out)
  have HNE := Lib.hid (fun w : World => run_neq_algebra h HK.out.alg w (v := true) (decide_eq_true (by rw [hS]; exact hq)))
  have hne := HNE.out
  simp only [Bool.not_true] at hne
  clear h hq HV hs5 f1 hf6 hfv hki hFX hS HNE
  go_enter Try.func45, Try.ntmps45
  go_wp2_with (first
    | go_skip
    | (rw [← hw1]; clear hw1)
    | (refine wpList_load_row_w rfl 27 _ rfl w.heap.size rfl _ _ _ _ (Kx.out _ (by assumption)) Try.underlying27 rfl (size_Alg _ _) ?_)
    | (go_at_call_of 76 (Value.agg #[.slice a L.length ca, .slice b T.length cb]); refine (readAlgebra_yes a b ca cb L T _ (KR.out _ z1) (KT.out _ z1) HA.out).mono ?_; rintro e w2 ⟨rfl, hw2⟩; have z2 : Below w1.heap.size w1 w2 := z1.trans (hw2.mono z1.size); clear hw2)
    | (refine wpList_store_row rfl 87 _ _ rfl w2.heap.size (algOf L T) rfl rfl _ _ (heap_alloc_new w2 (.cells zeroAlg 87)) (size_alg _ _ _ _ _ _) rfl (one_alg _ _ _ _ _ _) ?_; rw [World.setRow_alloc_new]; obtain ⟨g4, hg4⟩ : ∃ bl, bl = w2.heap.size := ⟨_, rfl⟩; obtain ⟨w3, hw3⟩ : ∃ x, x = w2.alloc (.cells (algOf L T) 87) := ⟨_, rfl⟩; rw [← hw3, ← hg4]; have hAg4 : AlgAt w3 g4 L T := (by rw [hw3, hg4]; exact AlgAt.new w2 L T); have ltg4 := hAg4.lt; have qw3 : Below w2.heap.size w2 w3 := (by rw [hw3]; exact (Below.refl _ _).alloc (Nat.le_refl _) _); have lg4 : w2.heap.size ≤ g4 := Nat.le_of_eq hg4.symm; have z3 : Below w1.heap.size w1 w3 := z2.trans (qw3.mono z2.size); have K4 := Lib.hid (show ∀ wz, Below w3.heap.size w3 wz → AlgAt wz g4 L T from fun wz hz => hAg4.below hz hAg4.lt); have y3 : Below w3.heap.size w3 w3 := Below.refl _ _; clear hAg4 qw3 hw3 hg4 z2)
    | (go_at_call 53; refine (HFX.out _ (KR.out _ z3) (KT.out _ z3)).mono ?_; rintro e w4 ⟨fa, fc, rfl, fown, hb4⟩; have z4 := z3.trans (hb4.mono z3.size); have y4 := y3.trans (hb4.mono y3.size); clear hb4 z3 y3)
    | (go_at_call 114; refine (HGP.out _ _ _ fown.rd).mono ?_; rintro e w5 ⟨sa, sc, rfl, sown, hb5⟩; have z5 := z4.trans (hb5.mono z4.size); have y5 := y4.trans (hb5.mono y4.size); have n45 := y4.size; have SO := Lib.hid sown; have scap := ownCapS sown; have n14 := z4.size; clear hb5 fown sown z4)
    | (go_at_call 41; refine (HST.out _ _ _ SO.out.rd scap).mono ?_; rintro e w6 ⟨ra, rn, rc, rb, rm, rd, rfl, hga6, hb6⟩; obtain ⟨rfl, rfl, rr6, rt6⟩ := ra_partsS hga6.rd; have z6 := z5.trans (hb6.mono z5.size); have y6 := y5.trans (hb6.mono y5.size); have x6 : Below w5.heap.size w5 w6 := hb6; have R6 := Lib.hid rr6; have T6 := Lib.hid rt6; clear hb6 hga6 rr6 rt6 z5)
    | (refine wpList_store_row rfl 27 _ _ rfl w6.heap.size #[.slice ra (skA S).1.length rc, .slice rb (skA S).2.length rd] rfl rfl _ _ (heap_alloc_new w6 (.cells #[.slice none 0 0, .slice none 0 0] 27)) (size_Alg _ _) rfl (one_sl2 _ _ _ _ _ _) ?_; rw [World.setRow_alloc_new]; obtain ⟨g7, hg7⟩ : ∃ g : Nat, g = w6.heap.size := ⟨_, rfl⟩; obtain ⟨w7, hw7⟩ : ∃ x : World, x = w6.alloc (.cells #[.slice ra (skA S).1.length rc, .slice rb (skA S).2.length rd] 27) := ⟨_, rfl⟩; rw [← hw7, ← hg7]; have qw7 : Below w6.heap.size w6 w7 := (by rw [hw7]; exact (Below.refl _ _).alloc (Nat.le_refl _) _); have hxg7 : w7.heap[g7]? = some (.cells #[.slice ra (skA S).1.length rc, .slice rb (skA S).2.length rd] 27 (0, 0)) := (by rw [hw7, hg7]; exact heap_alloc_new w6 _); have K7 := Lib.hid (show ∀ wz, Below w7.heap.size w7 wz → wz.heap[g7]? = some (.cells #[.slice ra (skA S).1.length rc, .slice rb (skA S).2.length rd] 27 (0, 0)) from fun wz h => (h.block _ (lt_of_block hxg7)).trans hxg7); have z7 : Below w1.heap.size w1 w7 := z6.trans (qw7.mono z6.size); have y7 := y6.trans (qw7.mono y6.size); have x7 := x6.trans (qw7.mono x6.size); replace R6 := Lib.hid (R6.out.below qw7); replace T6 := Lib.hid (T6.out.below qw7); clear z6 y6 x6 hw7 hg7 hxg7)
    | (refine wpList_load_row_w rfl 27 _ rfl g7 rfl _ _ _ _ (K7.out _ (Below.refl _ _)) Try.underlying27 rfl (size_Alg _ _) ?_)
    | (go_at_call 76; refine (readAlgebra_yes ra rb rc rd (skA S).1 (skA S).2 _ R6.out T6.out HK.out.alg).mono ?_; rintro e w8 ⟨rfl, h8⟩; have z8 : Below w1.heap.size w1 w8 := z7.trans (h8.mono z7.size); have y8 := y7.trans (h8.mono y7.size); have x8 := x7.trans (h8.mono x7.size); clear h8 z7 y7 x7)
    | (refine wpList_store_row rfl 87 _ _ rfl w8.heap.size (algOf (skA S).1 (skA S).2) rfl rfl _ _ (heap_alloc_new w8 (.cells zeroAlg 87)) (size_alg _ _ _ _ _ _) rfl (one_alg _ _ _ _ _ _) ?_; rw [World.setRow_alloc_new]; obtain ⟨g9, hg9⟩ : ∃ bl, bl = w8.heap.size := ⟨_, rfl⟩; obtain ⟨w9, hw9⟩ : ∃ x, x = w8.alloc (.cells (algOf (skA S).1 (skA S).2) 87) := ⟨_, rfl⟩; rw [← hw9, ← hg9]; have hAg9 : AlgAt w9 g9 (skA S).1 (skA S).2 := (by rw [hw9, hg9]; exact AlgAt.new w8 (skA S).1 (skA S).2); have ltg9 := hAg9.lt; have qw9 : Below w8.heap.size w8 w9 := (by rw [hw9]; exact (Below.refl _ _).alloc (Nat.le_refl _) _); have lg9 : w8.heap.size ≤ g9 := Nat.le_of_eq hg9.symm; have z9 : Below w1.heap.size w1 w9 := z8.trans (qw9.mono z8.size); have y9 := y8.trans (qw9.mono y8.size); have x9 := x8.trans (qw9.mono x8.size); have a4 : w9.heap[g4]? = some (.cells (algOf L T) 87 (0, 0)) := K4.out _ y9; have a9 : w9.heap[g9]? = some (.cells (algOf (skA S).1 (skA S).2) 87 (0, 0)) := hAg9; clear y8 x8 hAg9 hw9 hg9 z8)
    | (refine wpList_load_row_w rfl 87 _ rfl g9 rfl _ _ _ _ a9 Try.underlying87 rfl (size_alg _ _ _ _ _ _) ?_)
    | (refine wpList_load_row_w rfl 87 _ rfl g4 rfl _ _ _ _ a4 Try.underlying87 rfl (size_alg _ _ _ _ _ _) ?_))
  go_ret2
  rw [HSV.out.1, HSV.out.2]
  have hb := hB.trans (z9.mono hB.size)
  have s9 := hb.size
  have s1 := hB.size
  have hg := GS.of (SO.out.below x9)
  exact ⟨sa, _, sc, rfl, (hg.wide (by omega) (Nat.le_refl _)), hb⟩
/-- impl.SizesOf -/
theorem implSizesOf_any (a b : Option Addr) (ca cb : Nat) (L : List Int) (T : List (List Int)) (w : World) (hr : Rd w a L) (hT : RdT w b T) : Calls Try.prog 45 #[.agg #[.slice a L.length ca, .slice b T.length cb]] w (RetGsb (sqL L T) (sqB L T) w) := by
  cases h : algB L T with
  | false => exact implSizesOf_no a b ca cb L T w hr hT h
  | true =>
    by_cases hq : skA (szI L T) = (L, T)
    · exact implSizesOf_yes a b ca cb L T w hr hT h hq
    · exact implSizesOf_ne a b ca cb L T w hr hT h hq
end Go.Proofs.Ytnmhbbekmepinaa
