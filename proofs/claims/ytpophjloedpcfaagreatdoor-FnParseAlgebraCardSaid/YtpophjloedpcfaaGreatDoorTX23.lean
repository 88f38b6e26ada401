import Derived.Test.YtpophjloedpcfaaGreatDoorSL0
import Derived.Test.YtpophjloedpcfaaGreatDoorTX18
import Derived.Test.YtpophjloedpcfaaGreatDoorTX16
import Derived.Test.YtpophjloedpcfaaGreatDoorTX4
import Derived.Test.YtpophjloedpcfaaGreatDoorTD5
namespace Go.Proofs.YtpophjloedpcfaaGreatDoor
open Go.RowKit

theorem at_size {L : List Int} {T : List (List Int)} (h : algB L T = true) : (atI L T).size ≤ 1000 := by
  have t6 := tab_len6 h
  have h1 : (ltxN L L.length).size ≤ 3 * L.length := ltxN_size _ fun j hj => (up_lt (alg_lat h) (by omega) (by omega)).2
  have h2 := tbN_size6 (fun j hj => row_len6 h hj) (fun x y x0 x1 y0 y1 => row_el h x0 x1 y0 y1) T.length (by omega)
  unfold atI
  rw [h]
  simp only [if_true, ba_app_size]
  have e : (ByteArray.mk #[58]).size = 1 := rfl
  omega
set_option maxRecDepth 100000 in
set_option maxHeartbeats 2000000 in
/-- laws.FnAlgebraText -/
theorem lawPAlgebraText (a0 : Option Addr) (len0 cap0 : Nat) (w : World) (hG : GV w) (hy : RdY w a0 len0 w.heap.size) (hc : len0 ≤ cap0) (hm : len0 ≤ maxLen) :
    Calls Tryz.prog 3 #[.slice a0 len0 cap0] w fun e w' => e = .returned (.bool true) ∧ Below w.heap.size w w' := by
  by_cases hbig : 1048576 < len0
  · have hbig2 : (1048576 : Int) < len0 := by omega
    go_enter Tryz.func3, Tryz.ntmps3
    go_wp2
    go_ret
    exact ⟨rfl, Below.refl _ _⟩
  · have hs : len0 ≤ 1048576 := by omega
    have hs2 : ¬ (1048576 : Int) < len0 := by omega
    go_enter Tryz.func3, Tryz.ntmps3
    go_wp2_with fail
    refine (drawAlgebraText_any a0 len0 cap0 w hy hc hs).mono ?_
    rintro e w1 ⟨L, T, a, ca, b, cb, rfl, hP, hr, hT, hb⟩
    have _ := hm
    clear hs hs2 hbig hy hm hc
    obtain ⟨l1, l7, t6, r6⟩ := someP_len hP
    have hM : (L.length : Int) ≤ 9223372036854775807 := by omega
    obtain ⟨g, hg⟩ : ∃ g, g = w1.heap.size := ⟨_, rfl⟩
    obtain ⟨w2, hw2⟩ : ∃ w2, w2 = w1.alloc (.cells #[.slice a L.length ca, .slice b T.length cb] 26) := ⟨_, rfl⟩
    have hB : Below w.heap.size w w2 := by rw [hw2]; exact hb.alloc hb.size _
    have hB2 : Below w1.heap.size w1 w2 := by rw [hw2]; exact (Below.refl _ _).alloc (Nat.le_refl _) _
    have hx2 : w2.heap[g]? = some (.cells #[.slice a L.length ca, .slice b T.length cb] 26 (0, 0)) := by rw [hw2, hg]; exact heap_alloc_new w1 _
    have KX := Lib.hid (show ∀ wz, Below w2.heap.size w2 wz → wz.heap[g]? = some (.cells #[.slice a L.length ca, .slice b T.length cb] 26 (0, 0)) from fun wz h => (h.block _ (lt_of_block hx2)).trans hx2)
    have K0 := Lib.hid (show ∀ wz, Below w2.heap.size w2 wz → wz.cell? ⟨g, 0, none⟩ = some (.slice a L.length ca) from fun wz h => (bx_cells (KX.out _ h)).1)
    have K1 := Lib.hid (show ∀ wz, Below w2.heap.size w2 wz → wz.cell? ⟨g, 1, none⟩ = some (.slice b T.length cb) from fun wz h => (bx_cells (KX.out _ h)).2)
    have KR := Lib.hid (show ∀ wz, Below w2.heap.size w2 wz → Rd wz a L from fun wz h => (hr.below hB2).below h)
    have KT := Lib.hid (show ∀ wz, Below w2.heap.size w2 wz → RdT wz b T from fun wz h => (hT.below hB2).below h)
    have FIN := Lib.hid (show ∀ wz, Below w2.heap.size w2 wz → Below w.heap.size w wz from fun wz h => hB.trans (h.mono hB.size))
    have z : Below w2.heap.size w2 w2 := Below.refl _ _
    have HP := Lib.hid hP
    have HV := Lib.hid (show ∀ wz, Below w2.heap.size w2 wz → GV wz from fun wz h => (hG.below hB).below h)
    clear hP hr hT hb hB hB2 hx2 r6 hG
    have c0 := K0.out _ z
    have c1 := K1.out _ z
    obtain ⟨s, hs⟩ : ∃ s, s = atI L T := ⟨_, rfl⟩
    cases ha : algB L T with
    | false =>
      go_wp2_with (first
        | go_skip
        | (refine wpList_store_row rfl 26 _ _ rfl w1.heap.size #[.slice a L.length ca, .slice b T.length cb] rfl rfl _ _ (heap_alloc_new w1 (.cells #[.slice none 0 0, .slice none 0 0] 26)) (size_Alg _ _) rfl (one_sl2 _ _ _ _ _ _) ?_; rw [World.setRow_alloc_new]; rw [← hw2, ← hg]; clear hw2 hg)
        | (refine wpList_store_row rfl 26 _ _ rfl w1.heap.size #[.slice a L.length ca, .slice (some ⟨B, off, none⟩) T.length cb] rfl rfl _ _ (heap_alloc_new w1 (.cells #[.slice none 0 0, .slice none 0 0] 26)) (size_Alg _ _) rfl (one_sl2 _ _ _ _ _ _) ?_; rw [World.setRow_alloc_new]; rw [← hw2, ← hg]; clear hw2 hg)
        | (refine wpList_load_row_w rfl 26 _ rfl g rfl _ _ _ _ (KX.out _ z) Tryz.underlying26 rfl (size_Alg _ _) ?_)
        | (go_at_call 9; refine (implAlgebraText_any _ _ _ _ L T _ (KR.out _ z) (KT.out _ z)).mono ?_; rintro e wz ⟨rfl, hb⟩; replace z := z.trans (hb.mono z.size); (try clear c0 c1); have c0 := K0.out _ z; have c1 := K1.out _ z; (try replace q1 := Q1.out _ z); (try replace q2 := Q2.out _ z))
        | (go_at_call 10; refine (specAlgebraText_any _ _ _ _ L T _ (KR.out _ z) (KT.out _ z)).mono ?_; rintro e wz ⟨rfl, hb⟩; replace z := z.trans (hb.mono z.size); (try clear c0 c1); have c0 := K0.out _ z; have c1 := K1.out _ z; (try replace q1 := Q1.out _ z); (try replace q2 := Q2.out _ z))
        | (go_at_call 11; refine (implValidAlgebra_any _ _ _ _ L T _ (KR.out _ z) (KT.out _ z)).mono ?_; rintro e wz ⟨rfl, hb⟩; replace z := z.trans (hb.mono z.size); (try clear c0 c1); have c0 := K0.out _ z; have c1 := K1.out _ z; (try replace q1 := Q1.out _ z); (try replace q2 := Q2.out _ z)))
      first
        | (go_ret; exact ⟨rfl, FIN.out _ z⟩)
        | skip
    | true =>
      go_wp2_with (first
        | go_skip
        | (refine wpList_store_row rfl 26 _ _ rfl w1.heap.size #[.slice a L.length ca, .slice b T.length cb] rfl rfl _ _ (heap_alloc_new w1 (.cells #[.slice none 0 0, .slice none 0 0] 26)) (size_Alg _ _) rfl (one_sl2 _ _ _ _ _ _) ?_; rw [World.setRow_alloc_new]; rw [← hw2, ← hg]; clear hw2 hg)
        | (refine wpList_store_row rfl 26 _ _ rfl w1.heap.size #[.slice a L.length ca, .slice (some ⟨B, off, none⟩) T.length cb] rfl rfl _ _ (heap_alloc_new w1 (.cells #[.slice none 0 0, .slice none 0 0] 26)) (size_Alg _ _) rfl (one_sl2 _ _ _ _ _ _) ?_; rw [World.setRow_alloc_new]; rw [← hw2, ← hg]; clear hw2 hg)
        | (refine wpList_load_row_w rfl 26 _ rfl g rfl _ _ _ _ (KX.out _ z) Tryz.underlying26 rfl (size_Alg _ _) ?_)
        | (go_at_call 9; refine (implAlgebraText_any _ _ _ _ L T _ (KR.out _ z) (KT.out _ z)).mono ?_; rintro e wz ⟨rfl, hb⟩; replace z := z.trans (hb.mono z.size); (try clear c0 c1); have c0 := K0.out _ z; have c1 := K1.out _ z; (try replace q1 := Q1.out _ z); (try replace q2 := Q2.out _ z))
        | (go_at_call 10; refine (specAlgebraText_any _ _ _ _ L T _ (KR.out _ z) (KT.out _ z)).mono ?_; rintro e wz ⟨rfl, hb⟩; replace z := z.trans (hb.mono z.size); (try clear c0 c1); have c0 := K0.out _ z; have c1 := K1.out _ z; (try replace q1 := Q1.out _ z); (try replace q2 := Q2.out _ z))
        | (go_at_call 11; refine (implValidAlgebra_any _ _ _ _ L T _ (KR.out _ z) (KT.out _ z)).mono ?_; rintro e wz ⟨rfl, hb⟩; replace z := z.trans (hb.mono z.size); (try clear c0 c1); have c0 := K0.out _ z; have c1 := K1.out _ z; (try replace q1 := Q1.out _ z); (try replace q2 := Q2.out _ z)))
      have HC := Lib.hid (show ∀ w : World, GV w → Calls Tryz.prog 12 #[.string (atI L T)] w (RetGAbW L T true w) from fun w hg => by
        obtain ⟨e1, e2, e3⟩ := pP_yes (pO_yes ha rfl)
        have := implParseAlgebra_any (atI L T) w hg (by have := at_size ha; omega)
        rwa [e1, e2, e3] at this)
      refine (HC.out _ (HV.out _ z)).mono ?_
      rintro e wq ⟨xa, n5, xca, xb, m5, xcb, rfl, hGA, hb5⟩
      obtain ⟨_, _, _, _, e1, e2, r1, t1⟩ := hGA.rd
      cases e1
      cases e2
      replace z := z.trans (hb5.mono z.size)
      obtain ⟨g5, hg5⟩ : ∃ g5, g5 = wq.heap.size := ⟨_, rfl⟩
      obtain ⟨w5, hw5⟩ : ∃ w5, w5 = wq.alloc (.cells #[.slice xa L.length xca, .slice xb T.length xcb] 26) := ⟨_, rfl⟩
      have hB5 : Below wq.heap.size wq w5 := by rw [hw5]; exact (Below.refl _ _).alloc (Nat.le_refl _) _
      have hx5 : w5.heap[g5]? = some (.cells #[.slice xa L.length xca, .slice xb T.length xcb] 26 (0, 0)) := by rw [hw5, hg5]; exact heap_alloc_new wq _
      have z5 := z.trans (hB5.mono z.size)
      have R5 := Lib.hid (r1.below hB5)
      have T5 := Lib.hid (t1.below hB5)
      clear r1 t1 hGA hB5 hb5 c0 c1
      go_wp2_with (first
        | go_skip
        | (refine wpList_store_row rfl 26 _ _ rfl wq.heap.size #[.slice xa L.length xca, .slice xb T.length xcb] rfl rfl _ _ (heap_alloc_new wq (.cells #[.slice none 0 0, .slice none 0 0] 26)) (size_Alg _ _) rfl (one_sl2 _ _ _ _ _ _) ?_; rw [World.setRow_alloc_new]; rw [← hw5, ← hg5]; clear hw5 hg5)
        | (refine wpList_load_row_w rfl 26 _ rfl g5 rfl _ _ _ _ hx5 Tryz.underlying26 rfl (size_Alg _ _) ?_)
        | (refine wpList_load_row_w rfl 26 _ rfl g rfl _ _ _ _ (KX.out _ z5) Tryz.underlying26 rfl (size_Alg _ _) ?_)
        | (go_at_call 13; refine (equalAlgebra_same _ _ _ _ _ _ _ _ L T _ R5.out (KR.out _ z5) T5.out (KT.out _ z5) (by omega) (fun j hj => by have := row_len6 ha hj; omega) (by omega)).mono ?_; rintro e w6 ⟨rfl, hb6⟩))
      go_ret
      exact ⟨rfl, FIN.out _ (z5.trans (hb6.mono z5.size))⟩
end Go.Proofs.YtpophjloedpcfaaGreatDoor

namespace Go.Proofs.YtpophjloedpcfaaGreatDoor
open Go.RowKit
set_option linter.unusedVariables false
set_option maxRecDepth 100000 in
set_option maxHeartbeats 400000 in
/-- spec.DrawParseAlgebra -/
theorem drawParseAlgebra_any (a : Option Addr) (n cap : Nat) (w : World) (hy : RdY w a n w.heap.size) (hc : n ≤ cap) (hm : n ≤ 1048576) :
    Calls Tryz.prog 14 #[.slice a n cap] w (RetDrS w) := by
  go_enter Tryz.func14, Tryz.ntmps14
  go_wp2_with fail
  refine (newReader_any a n cap w hy hc hm).mono ?_
  rintro e w0 ⟨rfl, hb0, hr⟩
  obtain ⟨g, hg⟩ : ∃ g, g = w.heap.size := ⟨_, rfl⟩
  rw [← hg] at hr ⊢
  have gle : w.heap.size ≤ g := by omega
  clear hg
  go_wp2_with fail
  refine (goodAlgebra_any g g 0 w0 hr (by omega)).mono ?_
  rintro e w1 ⟨L, T, va, vca, vb, vcb, rfl, hG, ho, hT, hg1, hr1⟩
  have hRY := ry_of ho
  have hTY := ty_of hT
  have ha := hG.alg
  have hz := at_size ha
  obtain ⟨X, hX⟩ : ∃ X, X = atI L T := ⟨_, rfl⟩
  have HT := Lib.hid (specAlgebraText_any va vb vca vcb L T w1 hRY.rd hTY.rd)
  rw [← hX] at HT hz
  clear hX hRY hTY ho hT hG ha
  go_wp2_with fail
  refine HT.out.mono ?_
  rintro e w3 ⟨rfl, hb3⟩
  have hg3 := grown_trans hg1 (grown_of_below (row := some g) hb3)
  have hr3 := hr1.below hb3
  go_wp2_with fail
  refine (pick_any g g _ 3 w3 hr3 (by omega) (by omega) (by omega)).mono ?_
  rintro e w4 ⟨k, rfl, k0, kk1, hg4', hr4⟩
  have hg4 := grown_trans hg3 hg4'
  by_cases e0 : k = 0
  · subst e0
    go_wp2_with fail
    refine (mutate_any g g _ X w4 hr4 (by omega) hz).mono ?_
    rintro e w5 ⟨s, rfl, hs, hg5', hr5⟩
    have hg5 := grown_trans hg4 hg5'
    go_wp2
    go_ret
    exact ⟨s, rfl, hs, hb0.trans (grown_below hg5 (by omega) hb0.size)⟩
  · have f0 : (k == 0) = false := by rw [beq_eq_false_iff_ne]; exact e0
    go_wp2
    go_ret
    exact ⟨X, rfl, by omega, hb0.trans (grown_below hg4 (by omega) hb0.size)⟩
end Go.Proofs.YtpophjloedpcfaaGreatDoor

namespace Go.Proofs.YtpophjloedpcfaaGreatDoor
open Go.RowKit

set_option maxRecDepth 100000 in
set_option maxHeartbeats 2000000 in
/-- laws.FnParseAlgebra -/
theorem lawPParseAlgebra (a0 : Option Addr) (len0 cap0 : Nat) (w : World) (hG : GV w) (hy : RdY w a0 len0 w.heap.size) (hc : len0 ≤ cap0) (hm : len0 ≤ maxLen) :
    Calls Tryz.prog 4 #[.slice a0 len0 cap0] w fun e w' => e = .returned (.bool true) ∧ Below w.heap.size w w' := by
  by_cases hbig : 1048576 < len0
  · have hbig2 : (1048576 : Int) < len0 := by omega
    go_enter Tryz.func4, Tryz.ntmps4
    go_wp2
    go_ret
    exact ⟨rfl, Below.refl _ _⟩
  · have hs : len0 ≤ 1048576 := by omega
    have hs2 : ¬ (1048576 : Int) < len0 := by omega
    go_enter Tryz.func4, Tryz.ntmps4
    go_wp2_with fail
    refine (drawParseAlgebra_any a0 len0 cap0 w hy hc hs).mono ?_
    rintro e w1 ⟨s, rfl, hss, hb⟩
    have _ := hm
    clear hs hs2 hbig hy hm hc
    obtain ⟨VL, VT, V, e1, e2, e3, hV, hm, l6, t6⟩ : ∃ VL VT V, pL s = VL ∧ pT s = VT ∧ pB s = V ∧ (V = true → algB VL VT = true ∧ atI VL VT = s) ∧ (∀ j : Nat, j < VT.length → (rowAt VT j).length ≤ 1073741824) ∧ VL.length ≤ 1073741824 ∧ VT.length ≤ 1073741824 := by
      refine ⟨_, _, _, rfl, rfl, rfl, ?_⟩
      cases h : pO s with
      | none =>
        obtain ⟨e1, e2, e3⟩ := pP_no h
        rw [e1, e2, e3]
        exact ⟨fun h => (by cases h), fun j hj => (by simp at hj), by simp, by simp⟩
      | some p =>
        obtain ⟨e1, e2, e3⟩ := pP_yes (L := p.1) (T := p.2) h
        obtain ⟨ha, hx⟩ := pO_some h
        rw [e1, e2, e3]
        have t6 := tab_len6 ha
        exact ⟨fun _ => ⟨ha, hx⟩, fun j hj => by have := row_len6 ha hj; omega, by omega, by omega⟩
    have HC := Lib.hid (show ∀ w : World, GV w → Calls Tryz.prog 12 #[.string s] w (RetGAbW VL VT V w) from fun w hg => by
      have := implParseAlgebra_any s w hg (by omega)
      rwa [e1, e2, e3] at this)
    have HS := Lib.hid (show ∀ w : World, Calls Tryz.prog 15 #[.string s] w (RetSAb VL VT V w) from fun w => by
      have := specParseAlgebra_any s w (by omega)
      rwa [e1, e2, e3] at this)
    clear e1 e2 e3
    have hG1 := hG.below hb
    clear hG
    go_wp2_with fail
    refine (HC.out _ hG1).mono ?_
    rintro e wq ⟨a4, n4, ca4, b4, m4, cb4, rfl, hGA, hq⟩
    obtain ⟨_, _, _, _, e1, e2, r4, t4⟩ := hGA.rd
    cases e1
    cases e2
    obtain ⟨g4, hg4⟩ : ∃ g, g = wq.heap.size := ⟨_, rfl⟩
    obtain ⟨w4, hw4⟩ : ∃ x, x = wq.alloc (.cells #[.slice a4 VL.length ca4, .slice b4 VT.length cb4] 26) := ⟨_, rfl⟩
    have bg4 : Below wq.heap.size wq w4 := by rw [hw4]; exact (Below.refl _ _).alloc (Nat.le_refl _) _
    have xg4 : w4.heap[g4]? = some (.cells #[.slice a4 VL.length ca4, .slice b4 VT.length cb4] 26 (0, 0)) := by rw [hw4, hg4]; exact heap_alloc_new wq _
    have r4' := r4.below bg4
    have t4' := t4.below bg4
    have q4 := hb.trans ((hq.trans (bg4.mono hq.size)).mono hb.size)
    clear r4 t4 hGA hq hb hG1 bg4
    go_wp2_with (first | go_skip | (refine wpList_store_row rfl 26 _ _ rfl wq.heap.size #[.slice a4 VL.length ca4, .slice b4 VT.length cb4] rfl rfl _ _ (heap_alloc_new wq (.cells #[.slice none 0 0, .slice none 0 0] 26)) (size_Alg _ _) rfl (one_sl2 _ _ _ _ _ _) ?_; rw [World.setRow_alloc_new]; rw [← hw4, ← hg4]; clear hw4 hg4))
    refine (HS.out _).mono ?_
    rintro e ws ⟨a6, n6, ca6, b6, m6, cb6, rfl, hOA, hq6⟩
    obtain ⟨_, _, _, _, e1, e2, r6, s6⟩ := hOA.ra
    cases e1
    cases e2
    obtain ⟨g6, hg6⟩ : ∃ g, g = ws.heap.size := ⟨_, rfl⟩
    obtain ⟨w6, hw6⟩ : ∃ x, x = ws.alloc (.cells #[.slice a6 VL.length ca6, .slice b6 VT.length cb6] 26) := ⟨_, rfl⟩
    have bg6 : Below ws.heap.size ws w6 := by rw [hw6]; exact (Below.refl _ _).alloc (Nat.le_refl _) _
    have xg6 : w6.heap[g6]? = some (.cells #[.slice a6 VL.length ca6, .slice b6 VT.length cb6] 26 (0, 0)) := by rw [hw6, hg6]; exact heap_alloc_new ws _
    have bb := hq6.trans (bg6.mono hq6.size)
    have K4 := Lib.hid (show ∀ wz, Below w6.heap.size w6 wz → wz.heap[g4]? = some (.cells #[.slice a4 VL.length ca4, .slice b4 VT.length cb4] 26 (0, 0)) from fun wz h => ((bb.trans (h.mono bb.size)).block _ (lt_of_block xg4)).trans xg4)
    have K6 := Lib.hid (show ∀ wz, Below w6.heap.size w6 wz → wz.heap[g6]? = some (.cells #[.slice a6 VL.length ca6, .slice b6 VT.length cb6] 26 (0, 0)) from fun wz h => (h.block _ (lt_of_block xg6)).trans xg6)
    have R4 := Lib.hid (show ∀ wz, Below w6.heap.size w6 wz → Rd wz a4 VL ∧ RdT wz b4 VT from fun wz h => ⟨(r4'.below bb).below h, (t4'.below bb).below h⟩)
    have R6 := Lib.hid (show ∀ wz, Below w6.heap.size w6 wz → Rd wz a6 VL ∧ RdT wz b6 VT from fun wz h => ⟨(r6.below bg6).below h, (s6.below bg6).below h⟩)
    have FIN := Lib.hid (show ∀ wz, Below w6.heap.size w6 wz → Below w.heap.size w wz from fun wz h => q4.trans ((bb.trans (h.mono bb.size)).mono q4.size))
    have z : Below w6.heap.size w6 w6 := Below.refl _ _
    have HM := Lib.hid hm
    clear r6 s6 hOA hq6 bg6 bb r4' t4' xg4 xg6 q4 hm
    cases V with
    | false =>
      go_wp2_with (first
        | go_skip
        | (refine wpList_store_row rfl 26 _ _ rfl ws.heap.size #[.slice a6 VL.length ca6, .slice b6 VT.length cb6] rfl rfl _ _ (heap_alloc_new ws (.cells #[.slice none 0 0, .slice none 0 0] 26)) (size_Alg _ _) rfl (one_sl2 _ _ _ _ _ _) ?_; rw [World.setRow_alloc_new]; rw [← hw6, ← hg6]; clear hw6 hg6)
        | (refine wpList_load_row_w rfl 26 _ rfl g4 rfl _ _ _ _ (K4.out _ z) Tryz.underlying26 rfl (size_Alg _ _) ?_)
        | (refine wpList_load_row_w rfl 26 _ rfl g6 rfl _ _ _ _ (K6.out _ z) Tryz.underlying26 rfl (size_Alg _ _) ?_)
        | (go_at_call 13; refine (equalAlgebra_same _ _ _ _ _ _ _ _ VL VT _ (R4.out _ z).1 (R6.out _ z).1 (R4.out _ z).2 (R6.out _ z).2 l6 HM.out t6).mono ?_; rintro e wz ⟨rfl, hz⟩; replace z := z.trans (hz.mono z.size)))
      go_ret
      exact ⟨rfl, FIN.out _ z⟩
    | true =>
      obtain ⟨ha, hx⟩ := hV rfl
      have HA := Lib.hid (show ∀ wz, Below w6.heap.size w6 wz → Calls Tryz.prog 9 #[.agg #[.slice a4 VL.length ca4, .slice b4 VT.length cb4]] wz fun e w' => e = .returned (.string s) ∧ Below wz.heap.size wz w' from fun wz h => by
        have := implAlgebraText_any a4 b4 ca4 cb4 VL VT wz (R4.out _ h).1 (R4.out _ h).2
        rwa [hx] at this)
      have HB := Lib.hid (show ∀ wz, Below w6.heap.size w6 wz → Calls Tryz.prog 11 #[.agg #[.slice a4 VL.length ca4, .slice b4 VT.length cb4]] wz fun e w' => e = .returned (.bool true) ∧ Below wz.heap.size wz w' from fun wz h => by
        have := implValidAlgebra_any a4 b4 ca4 cb4 VL VT wz (R4.out _ h).1 (R4.out _ h).2
        rwa [ha] at this)
      clear ha hx hV
      go_wp2_with (first
        | go_skip
        | (refine wpList_store_row rfl 26 _ _ rfl ws.heap.size #[.slice a6 VL.length ca6, .slice b6 VT.length cb6] rfl rfl _ _ (heap_alloc_new ws (.cells #[.slice none 0 0, .slice none 0 0] 26)) (size_Alg _ _) rfl (one_sl2 _ _ _ _ _ _) ?_; rw [World.setRow_alloc_new]; rw [← hw6, ← hg6]; clear hw6 hg6)
        | (refine wpList_load_row_w rfl 26 _ rfl g4 rfl _ _ _ _ (K4.out _ z) Tryz.underlying26 rfl (size_Alg _ _) ?_)
        | (refine wpList_load_row_w rfl 26 _ rfl g6 rfl _ _ _ _ (K6.out _ z) Tryz.underlying26 rfl (size_Alg _ _) ?_)
        | (go_at_call 13; refine (equalAlgebra_same _ _ _ _ _ _ _ _ VL VT _ (R4.out _ z).1 (R6.out _ z).1 (R4.out _ z).2 (R6.out _ z).2 l6 HM.out t6).mono ?_; rintro e wz ⟨rfl, hz⟩; replace z := z.trans (hz.mono z.size))
        | (go_at_call 9; refine (HA.out _ z).mono ?_; rintro e wz ⟨rfl, hz⟩; replace z := z.trans (hz.mono z.size))
        | (go_at_call 11; refine (HB.out _ z).mono ?_; rintro e wz ⟨rfl, hz⟩; replace z := z.trans (hz.mono z.size)))
      go_ret
      exact ⟨rfl, FIN.out _ z⟩
end Go.Proofs.YtpophjloedpcfaaGreatDoor
