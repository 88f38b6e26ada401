import Derived.Test.YtnmhbbekmepinaaSS9
import Derived.Test.YtnmhbbekmepinaaSL0
namespace Go.Proofs.Ytnmhbbekmepinaa
open Go.RowKit
set_option linter.unusedVariables false

theorem take_nextT (V : List Int) {i : Int} (i0 : 0 ≤ i) (h : i < V.length) : V.take (i + 1).toNat = V.take i.toNat ++ [nth V i] := by
  have h' : i.toNat < V.length := by omega
  rw [show (i + 1).toNat = i.toNat + 1 by omega, List.take_succ_eq_append_getElem h']
  unfold nth; simp [List.getD, h']
theorem totL_app (A : List Int) (x : Int) : totL (A ++ [x]) = totL A + x := by
  induction A with
  | nil => show x + totL [] = totL [] + x; show x + 0 = 0 + x; omega
  | cons y A ih => show y + totL (A ++ [x]) = y + totL A + x; rw [ih]; omega
theorem totL_rng {S : List Int} (h3 : S.length ≤ 3) (h : ∀ i : Int, 0 ≤ i → i < S.length → -1 ≤ nth S i ∧ nth S i ≤ 6) : ∀ k : Nat, k ≤ S.length → -(k : Int) ≤ totL (S.take k) ∧ totL (S.take k) ≤ 6 * k
  | 0, _ => by rw [List.take_zero]; exact ⟨by decide, by decide⟩
  | k + 1, hk => by
    have ih := totL_rng h3 h k (by omega)
    have ht := take_nextT S (i := (k : Int)) (by omega) (by omega)
    have := h k (by omega) (by omega)
    rw [show ((k : Int) + 1).toNat = k + 1 by omega, Int.toNat_natCast] at ht
    rw [ht, totL_app]
    omega
set_option maxHeartbeats 1000000 in
/-- laws.total -/
theorem lawTotal_any (a : Option Addr) (c : Nat) (S : List Int) (w : World) (hr : Rd w a S) (h3 : S.length ≤ 3) (hel : ∀ i : Int, 0 ≤ i → i < S.length → -1 ≤ nth S i ∧ nth S i ≤ 6) :
    Calls Try.prog 52 #[.slice a S.length c] w fun e w' => e = .returned (.int .i64 (totL S)) ∧ w = w' := by
  have HT := Lib.hid (totL_rng h3 hel)
  have HN := Lib.hid (fun (k : Int) (k0 : 0 ≤ k) (k1 : k < S.length) => by
    have := take_nextT S k0 k1
    exact (show totL (S.take (k + 1).toNat) = totL (S.take k.toNat) + nth S k by rw [this, totL_app]))
  have HE := Lib.hid hel
  clear hel
  go_enter Try.func52, Try.ntmps52
  go_wp2
  go_loopw [3, 4] (fun tv kv wr => ∃ k : Int, 0 ≤ k ∧ k ≤ S.length ∧ kv = .int .i64 k ∧ tv = .int .i64 (totL (S.take k.toNat)) ∧ w = wr) (fun _ kv _ => (10 - intOf kv).toNat)
  case atStart => exact ⟨0, by omega, by omega, rfl, rfl, rfl⟩
  case round =>
    obtain ⟨k, k0, k1, rfl, rfl, rfl⟩ := hrel
    by_cases hk : k < S.length
    · obtain ⟨sb, so, rfl, hc⟩ := hr (by intro e; rw [e] at hk; simp at hk; omega)
      have d0 := hc.at k k0 hk
      have hx := HE.out k k0 hk
      have ht := HT.out k.toNat (by omega)
      have hn := Lib.hid (HN.out k k0 hk)
      obtain ⟨x, hxe⟩ : ∃ x, x = nth S k := ⟨_, rfl⟩
      obtain ⟨t, hte⟩ : ∃ t, t = totL (S.take k.toNat) := ⟨_, rfl⟩
      rw [← hxe] at d0 hx hn
      rw [← hte] at ht hn ⊢
      have kw : IntKind.i64.wrap (t + x) = t + x := IntWalk.i64_in _ (by omega)
      have kk : IntKind.i64.wrap (k + 1) = k + 1 := IntWalk.i64_in _ (by omega)
      clear hxe hte hc
      go_wp2
      go_roundw
      case rel => exact ⟨k + 1, by omega, by omega, rfl, by rw [hn.out], by trivial⟩
      case measure => simp [intOf]; omega
    · have e : k = S.length := by omega
      subst e
      have he : S.take ((S.length : Int)).toNat = S := by rw [Int.toNat_natCast]; exact List.take_length
      rw [he]
      go_wp2
      go_ret
      exact ⟨rfl, rfl⟩
/-- a stack of sums is told by its sizes -/
theorem sq_sk {S : List Int} (h : szB 5 S = true) : algB (skL S) (skT S) = true ∧ sqL (skL S) (skT S) = S ∧ sqB (skL S) (skT S) = true ∧ hpB ⟨#[100, 105, 118, 105, 115, 105, 98, 108, 101]⟩ (skL S) (skT S) = true ∧ ((skL S).length : Int) = totL S + 1 ∧ (filtTo (fixQ (skT S)) (num (skL S))).length = S.length + 1 := by
  have f := skF S h
  rw [(sk_yes h).1, (sk_yes h).2]
  have e : skA (szI (skA S).1 (skA S).2) = ((skA S).1, (skA S).2) := by rw [f.back]
  have q := sq_yes f.alg e
  refine ⟨f.alg, by rw [q.2, f.back], q.1, ?_, f.len, f.fix⟩
  rw [hp_1 (by decide +kernel) (by decide +kernel) f.alg]
  exact f.div
set_option maxRecDepth 100000 in
set_option maxHeartbeats 8000000 in
/-- laws.FnStackOfSums -/
theorem lawPStackOfSums (a0 : Option Addr) (len0 cap0 : Nat) (w : World) (hy : RdY w a0 len0 w.heap.size) (hc : len0 ≤ cap0) (hm : len0 ≤ maxLen) :
    Calls Try.prog 9 #[.slice a0 len0 cap0] w fun e w' => e = .returned (.bool true) ∧ Below w.heap.size w w' := by
  by_cases hbig : 1048576 < len0
  · have hbig2 : (1048576 : Int) < len0 := by omega
    go_enter Try.func9, Try.ntmps9
    go_wp2
    go_ret
    exact ⟨rfl, Below.refl _ _⟩
  · have hs : len0 ≤ 1048576 := by omega
    have hs2 : ¬ (1048576 : Int) < len0 := by omega
    go_enter Try.func9, Try.ntmps9
    go_wp2_with fail
    refine (drawStackOfSums_any a0 len0 cap0 w hy hc hs).mono ?_
    rintro e wd ⟨S, sa, sc, rfl, hSr, hScap, hS3, hSel, hbd⟩
    have KS := Lib.hid (show ∀ wz, Below wd.heap.size wd wz → Rd wz sa S from fun wz hz => hSr.rd.below hz)
    have HEL := Lib.hid hSel
    have zd : Below wd.heap.size wd wd := Below.refl _ _
    have _ := hm
    clear hs hs2 hbig hy hm hc hSr hSel
    have hti := sk_ti S
    obtain ⟨VL, hVLe⟩ : ∃ V, V = skL S := ⟨_, rfl⟩
    obtain ⟨VT, hVTe⟩ : ∃ V, V = skT S := ⟨_, rfl⟩
    obtain ⟨V, hVe⟩ : ∃ V, V = szB 5 S := ⟨_, rfl⟩
    have HI := Lib.hid (show ∀ (w : World), Rd w sa S → Calls Try.prog 41 #[.slice sa S.length sc] w (RetR VL VT V w) from fun w h1 => by rw [hVLe, hVTe, hVe]; exact (implStackOfSums_any sa sc S w h1 (by omega) hScap).mono fun _ _ h => h.r)
    have HP := Lib.hid (show ∀ (w : World), Rd w sa S → Calls Try.prog 39 #[.slice sa S.length sc] w (RetR VL VT V w) from fun w h1 => by rw [hVLe, hVTe, hVe]; exact (specStackOfSums_any sa sc S w h1 (by omega)).mono fun _ _ h => h.r)
    rw [← hVLe, ← hVTe] at hti
    have hVL : VL.length ≤ 1073741824 := by have := hti.1; omega
    have hVT : VT.length ≤ 1073741824 := by have := hti.2.1; omega
    have HVR := Lib.hid (show ∀ j : Nat, j < VT.length → (rowAt VT j).length ≤ 1073741824 from fun j hj => by have := hti.2.2 j hj; omega)
    have hv6 := hti.1
    clear hti
    cases hok : szB 5 S with
    | false =>
      rw [hok] at hVe
      subst hVe
      clear hVLe hVTe hok
      go_wp2_with (first
        | go_skip
        | (go_at_call 41; refine (HI.out _ (KS.out _ zd)).mono ?_; rintro e w2 ⟨fa, fca, fb, fcb, rfl, fr, ft, hb2⟩; have z2 := zd.trans (hb2.mono zd.size); have FR := Lib.hid (show Rd w2 fa VL ∧ RdT w2 fb VT from ⟨fr, ft⟩); clear hb2 fr ft)
        | (refine wpList_store_row rfl 27 _ _ rfl w2.heap.size #[.slice fa VL.length fca, .slice fb VT.length fcb] rfl rfl _ _ (heap_alloc_new w2 (.cells #[.slice none 0 0, .slice none 0 0] 27)) (size_Alg _ _) rfl (one_sl2 _ _ _ _ _ _) ?_; rw [World.setRow_alloc_new]; obtain ⟨g4, hg4⟩ : ∃ g : Nat, g = w2.heap.size := ⟨_, rfl⟩; obtain ⟨w4, hw4⟩ : ∃ x : World, x = w2.alloc (.cells #[.slice fa VL.length fca, .slice fb VT.length fcb] 27) := ⟨_, rfl⟩; rw [← hw4, ← hg4]; have qw4 : Below w2.heap.size w2 w4 := (by rw [hw4]; exact (Below.refl _ _).alloc (Nat.le_refl _) _); have hxg4 : w4.heap[g4]? = some (.cells #[.slice fa VL.length fca, .slice fb VT.length fcb] 27 (0, 0)) := (by rw [hw4, hg4]; exact heap_alloc_new w2 _); have K4 := Lib.hid (show ∀ wz, Below w4.heap.size w4 wz → wz.heap[g4]? = some (.cells #[.slice fa VL.length fca, .slice fb VT.length fcb] 27 (0, 0)) from fun wz h => (h.block _ (lt_of_block hxg4)).trans hxg4); have z4 : Below wd.heap.size wd w4 := z2.trans (qw4.mono z2.size); replace FR := Lib.hid (show Rd w4 fa VL ∧ RdT w4 fb VT from ⟨FR.out.1.below qw4, FR.out.2.below qw4⟩); clear qw4 hw4 hg4 hxg4)
        | (go_at_call 39; refine (HP.out _ (KS.out _ z4)).mono ?_; rintro e w5 ⟨ga, gca, gb, gcb, rfl, gr, gt, hb5⟩; have z5 := z4.trans (hb5.mono z4.size); have y5 : Below w4.heap.size w4 w5 := hb5; have GR := Lib.hid (show Rd w5 ga VL ∧ RdT w5 gb VT from ⟨gr, gt⟩); clear hb5 gr gt)
        | (refine wpList_store_row rfl 27 _ _ rfl w5.heap.size #[.slice ga VL.length gca, .slice gb VT.length gcb] rfl rfl _ _ (heap_alloc_new w5 (.cells #[.slice none 0 0, .slice none 0 0] 27)) (size_Alg _ _) rfl (one_sl2 _ _ _ _ _ _) ?_; rw [World.setRow_alloc_new]; obtain ⟨g6, hg6⟩ : ∃ g : Nat, g = w5.heap.size := ⟨_, rfl⟩; obtain ⟨w6, hw6⟩ : ∃ x : World, x = w5.alloc (.cells #[.slice ga VL.length gca, .slice gb VT.length gcb] 27) := ⟨_, rfl⟩; rw [← hw6, ← hg6]; have qw6 : Below w5.heap.size w5 w6 := (by rw [hw6]; exact (Below.refl _ _).alloc (Nat.le_refl _) _); have hxg6 : w6.heap[g6]? = some (.cells #[.slice ga VL.length gca, .slice gb VT.length gcb] 27 (0, 0)) := (by rw [hw6, hg6]; exact heap_alloc_new w5 _); have K6b := Lib.hid (show ∀ wz, Below w6.heap.size w6 wz → wz.heap[g6]? = some (.cells #[.slice ga VL.length gca, .slice gb VT.length gcb] 27 (0, 0)) from fun wz h => (h.block _ (lt_of_block hxg6)).trans hxg6); have z6d : Below wd.heap.size wd w6 := z5.trans (qw6.mono z5.size); have y6 := y5.trans (qw6.mono y5.size); have K4b := Lib.hid (show ∀ wz, Below w6.heap.size w6 wz → wz.heap[g4]? = some (.cells #[.slice fa VL.length fca, .slice fb VT.length fcb] 27 (0, 0)) from fun wz hz => K4.out _ (y6.trans (hz.mono y6.size))); have HQ4 := Lib.hid (show ∀ wz, Below w6.heap.size w6 wz → Rd wz fa VL ∧ RdT wz fb VT from fun wz hz => ⟨FR.out.1.below (y6.trans (hz.mono y6.size)), FR.out.2.below (y6.trans (hz.mono y6.size))⟩); have HQ6 := Lib.hid (show ∀ wz, Below w6.heap.size w6 wz → Rd wz ga VL ∧ RdT wz gb VT from fun wz hz => ⟨(GR.out.1.below qw6).below hz, (GR.out.2.below qw6).below hz⟩); have z6 : Below w6.heap.size w6 w6 := Below.refl _ _; clear qw6 hw6 hg6 hxg6)
        | (refine wpList_load_row_w rfl 27 _ rfl g4 rfl _ _ _ _ (K4b.out _ (by first | exact z6 | assumption)) Try.underlying27 rfl (size_Alg _ _) ?_)
        | (refine wpList_load_row_w rfl 27 _ rfl g6 rfl _ _ _ _ (K6b.out _ (by first | exact z6 | assumption)) Try.underlying27 rfl (size_Alg _ _) ?_)
        | (go_at_call 48; refine (equalAlgebra_same _ _ _ _ _ _ _ _ VL VT _ (HQ4.out _ z6).1 (HQ6.out _ z6).1 (HQ4.out _ z6).2 (HQ6.out _ z6).2 hVL HVR.out hVT).mono ?_; rintro e wz ⟨rfl, hb⟩; replace z6 := z6.trans (hb.mono z6.size); clear hb))
      go_ret
      exact ⟨rfl, hbd.trans ((z6d.trans (z6.mono z6d.size)).mono hbd.size)⟩
    | true =>
      obtain ⟨ha, e1, e2, e3, e4, e5⟩ := sq_sk hok
      rw [← hVLe, ← hVTe] at ha e1 e2 e3 e5
      rw [← hVLe] at e4
      rw [hok] at hVe
      subst hVe
      have HSZ := Lib.hid (show ∀ (a b : Option Addr) (ca cb : Nat) (w : World), Rd w a VL → RdT w b VT → Calls Try.prog 45 #[.agg #[.slice a VL.length ca, .slice b VT.length cb]] w (RetGsb S true w) from fun a b ca cb w h1 h2 => by have := implSizesOf_any a b ca cb VL VT w h1 h2; rw [e1, e2] at this; exact this)
      have C1 := Lib.hid (show ∀ (a b : Option Addr) (ca cb : Nat) (w : World), Rd w a VL → RdT w b VT → Calls Try.prog 50 #[.agg #[.slice a VL.length ca, .slice b VT.length cb]] w fun e w' => e = .returned (.bool true) ∧ Below w.heap.size w w' from fun a b ca cb w h1 h2 => ret_to (implValidAlgebra_any _ _ _ _ VL VT w h1 h2) (congrArg Value.bool ha))
      have C2 := Lib.hid (show ∀ (a b : Option Addr) (ca cb : Nat) (w : World), Rd w a VL → RdT w b VT → Calls Try.prog 51 #[.string ⟨#[100, 105, 118, 105, 115, 105, 98, 108, 101]⟩, .agg #[.slice a VL.length ca, .slice b VT.length cb]] w fun e w' => e = .returned (.bool true) ∧ Below w.heap.size w w' from fun a b ca cb w h1 h2 => ret_to (implHasProperty_any _ _ _ _ _ VL VT w h1 h2) (congrArg Value.bool e3))
      obtain ⟨FX, hFX⟩ : ∃ F, F = filtTo (fixQ VT) (num VL) := ⟨_, rfl⟩
      have C3 := Lib.hid (show ∀ (a b : Option Addr) (ca cb : Nat) (w : World), Rd w a VL → RdT w b VT → Calls Try.prog 53 #[.agg #[.slice a VL.length ca, .slice b VT.length cb]] w (RetSl w.heap.size FX w) from fun a b ca cb w h1 h2 => by have := implFixedOf_any a b ca cb VL VT w h1 h2; unfold algI at this; rw [ha, if_pos rfl, ← hFX] at this; exact this)
      rw [← hFX] at e5
      obtain ⟨tv, htv⟩ : ∃ t : Int, t = totL S := ⟨_, rfl⟩
      have C4 := Lib.hid (show ∀ (w : World), Rd w sa S → Calls Try.prog 52 #[.slice sa S.length sc] w fun e w' => e = .returned (.int .i64 tv) ∧ w = w' from fun w h => by rw [htv]; exact lawTotal_any sa sc S w h hS3 HEL.out)
      rw [← htv] at e4
      have kq : IntKind.i64.wrap (tv + 1) = tv + 1 := IntWalk.i64_in _ (by omega)
      have hq1 : ((VL.length : Int) == tv + 1) = true := by rw [beq_iff_eq]; exact e4
      have kf : IntKind.i64.wrap ((S.length : Int) + 1) = (S.length : Int) + 1 := IntWalk.i64_in _ (by omega)
      have hq2 : ((FX.length : Int) == (S.length : Int) + 1) = true := by rw [beq_iff_eq]; omega
      have hS7 : S.length ≤ 1073741824 := by omega
      clear hVLe hVTe hok ha e1 e2 e3 e4 e5 hFX htv
      go_wp2_with (first
        | go_skip
        | (go_at_call 41; refine (HI.out _ (KS.out _ zd)).mono ?_; rintro e w2 ⟨fa, fca, fb, fcb, rfl, fr, ft, hb2⟩; have z2 := zd.trans (hb2.mono zd.size); have FR := Lib.hid (show Rd w2 fa VL ∧ RdT w2 fb VT from ⟨fr, ft⟩); clear hb2 fr ft)
        | (refine wpList_store_row rfl 27 _ _ rfl w2.heap.size #[.slice fa VL.length fca, .slice fb VT.length fcb] rfl rfl _ _ (heap_alloc_new w2 (.cells #[.slice none 0 0, .slice none 0 0] 27)) (size_Alg _ _) rfl (one_sl2 _ _ _ _ _ _) ?_; rw [World.setRow_alloc_new]; obtain ⟨g4, hg4⟩ : ∃ g : Nat, g = w2.heap.size := ⟨_, rfl⟩; obtain ⟨w4, hw4⟩ : ∃ x : World, x = w2.alloc (.cells #[.slice fa VL.length fca, .slice fb VT.length fcb] 27) := ⟨_, rfl⟩; rw [← hw4, ← hg4]; have qw4 : Below w2.heap.size w2 w4 := (by rw [hw4]; exact (Below.refl _ _).alloc (Nat.le_refl _) _); have hxg4 : w4.heap[g4]? = some (.cells #[.slice fa VL.length fca, .slice fb VT.length fcb] 27 (0, 0)) := (by rw [hw4, hg4]; exact heap_alloc_new w2 _); have K4 := Lib.hid (show ∀ wz, Below w4.heap.size w4 wz → wz.heap[g4]? = some (.cells #[.slice fa VL.length fca, .slice fb VT.length fcb] 27 (0, 0)) from fun wz h => (h.block _ (lt_of_block hxg4)).trans hxg4); have z4 : Below wd.heap.size wd w4 := z2.trans (qw4.mono z2.size); replace FR := Lib.hid (show Rd w4 fa VL ∧ RdT w4 fb VT from ⟨FR.out.1.below qw4, FR.out.2.below qw4⟩); clear qw4 hw4 hg4 hxg4)
        | (go_at_call 39; refine (HP.out _ (KS.out _ z4)).mono ?_; rintro e w5 ⟨ga, gca, gb, gcb, rfl, gr, gt, hb5⟩; have z5 := z4.trans (hb5.mono z4.size); have y5 : Below w4.heap.size w4 w5 := hb5; have GR := Lib.hid (show Rd w5 ga VL ∧ RdT w5 gb VT from ⟨gr, gt⟩); clear hb5 gr gt)
        | (refine wpList_store_row rfl 27 _ _ rfl w5.heap.size #[.slice ga VL.length gca, .slice gb VT.length gcb] rfl rfl _ _ (heap_alloc_new w5 (.cells #[.slice none 0 0, .slice none 0 0] 27)) (size_Alg _ _) rfl (one_sl2 _ _ _ _ _ _) ?_; rw [World.setRow_alloc_new]; obtain ⟨g6, hg6⟩ : ∃ g : Nat, g = w5.heap.size := ⟨_, rfl⟩; obtain ⟨w6, hw6⟩ : ∃ x : World, x = w5.alloc (.cells #[.slice ga VL.length gca, .slice gb VT.length gcb] 27) := ⟨_, rfl⟩; rw [← hw6, ← hg6]; have qw6 : Below w5.heap.size w5 w6 := (by rw [hw6]; exact (Below.refl _ _).alloc (Nat.le_refl _) _); have hxg6 : w6.heap[g6]? = some (.cells #[.slice ga VL.length gca, .slice gb VT.length gcb] 27 (0, 0)) := (by rw [hw6, hg6]; exact heap_alloc_new w5 _); have K6b := Lib.hid (show ∀ wz, Below w6.heap.size w6 wz → wz.heap[g6]? = some (.cells #[.slice ga VL.length gca, .slice gb VT.length gcb] 27 (0, 0)) from fun wz h => (h.block _ (lt_of_block hxg6)).trans hxg6); have z6d : Below wd.heap.size wd w6 := z5.trans (qw6.mono z5.size); have y6 := y5.trans (qw6.mono y5.size); have K4b := Lib.hid (show ∀ wz, Below w6.heap.size w6 wz → wz.heap[g4]? = some (.cells #[.slice fa VL.length fca, .slice fb VT.length fcb] 27 (0, 0)) from fun wz hz => K4.out _ (y6.trans (hz.mono y6.size))); have HQ4 := Lib.hid (show ∀ wz, Below w6.heap.size w6 wz → Rd wz fa VL ∧ RdT wz fb VT from fun wz hz => ⟨FR.out.1.below (y6.trans (hz.mono y6.size)), FR.out.2.below (y6.trans (hz.mono y6.size))⟩); have HQ6 := Lib.hid (show ∀ wz, Below w6.heap.size w6 wz → Rd wz ga VL ∧ RdT wz gb VT from fun wz hz => ⟨(GR.out.1.below qw6).below hz, (GR.out.2.below qw6).below hz⟩); have z6 : Below w6.heap.size w6 w6 := Below.refl _ _; clear qw6 hw6 hg6 hxg6)
        | (refine wpList_load_row_w rfl 27 _ rfl g4 rfl _ _ _ _ (K4b.out _ (by first | exact z6 | assumption)) Try.underlying27 rfl (size_Alg _ _) ?_)
        | (refine wpList_load_row_w rfl 27 _ rfl g6 rfl _ _ _ _ (K6b.out _ (by first | exact z6 | assumption)) Try.underlying27 rfl (size_Alg _ _) ?_)
        | (go_at_call 48; refine (equalAlgebra_same _ _ _ _ _ _ _ _ VL VT _ (HQ4.out _ z6).1 (HQ6.out _ z6).1 (HQ4.out _ z6).2 (HQ6.out _ z6).2 hVL HVR.out hVT).mono ?_; rintro e wz ⟨rfl, hb⟩; replace z6 := z6.trans (hb.mono z6.size); clear hb)
        | (go_at_call 45; refine (HSZ.out _ _ _ _ _ (HQ4.out _ z6).1 (HQ4.out _ z6).2).mono ?_; rintro e w9 ⟨ba, bn, bc, rfl, hgs, hb9⟩; obtain ⟨⟨ba', bc', eb⟩, ho, _⟩ := hgs; injection eb with eb1 eb2 eb3; subst eb1; subst eb2; subst eb3; have z9 := z6.trans (hb9.mono z6.size); have BR := Lib.hid ho.rd; have Z6 := Lib.hid z6d; have Z9 := Lib.hid z9; clear ho hb9 z6d))
      have KB := Lib.hid (show ∀ wz, Below w9.heap.size w9 wz → Rd wz ba S from fun wz hz => BR.out.below hz)
      have KSS := Lib.hid (show ∀ wz, Below w9.heap.size w9 wz → Rd wz sa S from fun wz hz => KS.out _ (Z6.out.trans ((Z9.out.trans (hz.mono Z9.out.size)).mono Z6.out.size)))
      have KR := Lib.hid (show ∀ wz, Below w9.heap.size w9 wz → Rd wz fa VL from fun wz hz => (HQ4.out _ (Z9.out.trans (hz.mono Z9.out.size))).1)
      have KT := Lib.hid (show ∀ wz, Below w9.heap.size w9 wz → RdT wz fb VT from fun wz hz => (HQ4.out _ (Z9.out.trans (hz.mono Z9.out.size))).2)
      have K0 := Lib.hid (show ∀ wz, Below w9.heap.size w9 wz → wz.cell? ⟨g4, 0, none⟩ = some (.slice fa VL.length fca) from fun wz hz => (bx_cells (K4b.out _ (Z9.out.trans (hz.mono Z9.out.size)))).1)
      have K1 := Lib.hid (show ∀ wz, Below w9.heap.size w9 wz → wz.cell? ⟨g4, 1, none⟩ = some (.slice fb VT.length fcb) from fun wz hz => (bx_cells (K4b.out _ (Z9.out.trans (hz.mono Z9.out.size)))).2)
      have FIN := Lib.hid (show ∀ wz, Below w9.heap.size w9 wz → Below w.heap.size w wz from fun wz hz => hbd.trans ((Z6.out.trans ((Z9.out.trans (hz.mono Z9.out.size)).mono Z6.out.size)).mono hbd.size))
      have z : Below w9.heap.size w9 w9 := Below.refl _ _
      clear z9 z6 hbd
      have e0 := K0.out _ z
      have e1 := K1.out _ z
      first
      | (go_region_held3 (fun w' => w'.cell? ⟨g4, 0, none⟩ = some (.slice fa VL.length fca) ∧ w'.cell? ⟨g4, 1, none⟩ = some (.slice fb VT.length fcb))
          (first | go_keep | exact ⟨e0, e1⟩)
          (first
            | go_skip
            | (go_simp; go_at_call 49; refine (dr_toZ (equalInts_same ba sa _ _ S _ (KB.out _ (by first | exact z | exact z.drew | exact z.drew.drew | exact z.drew.drew.drew)) (KSS.out _ (by first | exact z | exact z.drew | exact z.drew.drew | exact z.drew.drew.drew)) hS7)).mono ?_; rintro e wz ⟨rfl, hb⟩; replace z := (show Below w9.heap.size w9 wz from by first | exact z.trans (hb.mono z.size) | exact z.drew.trans (hb.mono z.drew.size) | exact z.drew.drew.trans (hb.mono z.drew.drew.size) | exact z.drew.drew.drew.trans (hb.mono z.drew.drew.drew.size)); have e0 := K0.out _ z; have e1 := K1.out _ z)
            | (go_simp; go_at_call 50; refine (C1.out _ _ _ _ _ (KR.out _ (by first | exact z | exact z.drew | exact z.drew.drew | exact z.drew.drew.drew)) (KT.out _ (by first | exact z | exact z.drew | exact z.drew.drew | exact z.drew.drew.drew))).mono ?_; rintro e wz ⟨rfl, hb⟩; replace z := (show Below w9.heap.size w9 wz from by first | exact z.trans (hb.mono z.size) | exact z.drew.trans (hb.mono z.drew.size) | exact z.drew.drew.trans (hb.mono z.drew.drew.size) | exact z.drew.drew.drew.trans (hb.mono z.drew.drew.drew.size)); have e0 := K0.out _ z; have e1 := K1.out _ z)
            | (go_simp; go_at_call 51; refine (C2.out _ _ _ _ _ (KR.out _ (by first | exact z | exact z.drew | exact z.drew.drew | exact z.drew.drew.drew)) (KT.out _ (by first | exact z | exact z.drew | exact z.drew.drew | exact z.drew.drew.drew))).mono ?_; rintro e wz ⟨rfl, hb⟩; replace z := (show Below w9.heap.size w9 wz from by first | exact z.trans (hb.mono z.size) | exact z.drew.trans (hb.mono z.drew.size) | exact z.drew.drew.trans (hb.mono z.drew.drew.size) | exact z.drew.drew.drew.trans (hb.mono z.drew.drew.drew.size)); have e0 := K0.out _ z; have e1 := K1.out _ z)
            | (go_simp; go_at_call 52; refine (C4.out _ (KSS.out _ (by first | exact z | exact z.drew | exact z.drew.drew | exact z.drew.drew.drew))).mono ?_; rintro e wz ⟨rfl, rfl⟩)
            | (go_simp; go_at_call 53; refine (C3.out _ _ _ _ _ (KR.out _ (by first | exact z | exact z.drew | exact z.drew.drew | exact z.drew.drew.drew)) (KT.out _ (by first | exact z | exact z.drew | exact z.drew.drew | exact z.drew.drew.drew))).mono ?_; rintro e wz ⟨xa, xc, rfl, xo, hb⟩; replace z := (show Below w9.heap.size w9 wz from by first | exact z.trans (hb.mono z.size) | exact z.drew.trans (hb.mono z.drew.size) | exact z.drew.drew.trans (hb.mono z.drew.drew.size) | exact z.drew.drew.drew.trans (hb.mono z.drew.drew.drew.size)); have e0 := K0.out _ z; have e1 := K1.out _ z)))
      | fail
      all_goals
        go_wp2
        go_ret
        exact ⟨by first | rfl | exact ret_bool (by simp), FIN.out _ (by first | exact z | exact z.drew | exact z.drew.drew | exact z.drew.drew.drew)⟩
end Go.Proofs.Ytnmhbbekmepinaa
