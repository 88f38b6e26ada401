import Derived.Test.YtpophjloedpcfaaGreatDoorSL0
import Derived.Test.YtpophjloedpcfaaGreatDoorTX18
import Derived.Test.YtpophjloedpcfaaGreatDoorTX16
import Derived.Test.YtpophjloedpcfaaGreatDoorTX4
namespace Go.Proofs.YtpophjloedpcfaaGreatDoor
open Go.RowKit

theorem at_size {L : List Int} {T : List (List Int)} (h : algB L T = true) : (atI L T).size ≤ 1000 := by
  have t6 := tab_len6 h
  have h1 : (ltxN L L.length).size ≤ 3 * L.length := ltxN_size _ fun j hj => (up_lt (alg_lat h) (by omega) (by omega)).2
  have h2 := tbN_size6 (fun j hj => row_len6 h hj) (fun x y x0 x1 y0 y1 => row_el h x0 x1 y0 y1) T.length (by omega)
  unfold atI
  rw [h]
  simp only [if_true, ba_app_size]
  have e : (ByteArray.mk #[58]).size = 1 := rfl
  omega
set_option maxRecDepth 100000 in
set_option maxHeartbeats 2000000 in
/-- laws.FnAlgebraText -/
theorem lawPAlgebraText (a0 : Option Addr) (len0 cap0 : Nat) (w : World) (hG : GV w) (hy : RdY w a0 len0 w.heap.size) (hc : len0 ≤ cap0) (hm : len0 ≤ maxLen) :
    Calls Tryz.prog 3 #[.slice a0 len0 cap0] w fun e w' => e = .returned (.bool true) ∧ Below w.heap.size w w' := by
  by_cases hbig : 1048576 < len0
  · have hbig2 : (1048576 : Int) < len0 := by omega
    go_enter Tryz.func3, Tryz.ntmps3
    go_wp2
    go_ret
    exact ⟨rfl, Below.refl _ _⟩
  · have hs : len0 ≤ 1048576 := by omega
    have hs2 : ¬ (1048576 : Int) < len0 := by omega
    go_enter Tryz.func3, Tryz.ntmps3
    go_wp2_with fail
    refine (drawAlgebraText_any a0 len0 cap0 w hy hc hs).mono ?_
    rintro e w1 ⟨L, T, a, ca, b, cb, rfl, hP, hr, hT, hb⟩
    have _ := hm
    clear hs hs2 hbig hy hm hc
    obtain ⟨l1, l7, t6, r6⟩ := someP_len hP
    have hM : (L.length : Int) ≤ 9223372036854775807 := by omega
    obtain ⟨g, hg⟩ : ∃ g, g = w1.heap.size := ⟨_, rfl⟩
    obtain ⟨w2, hw2⟩ : ∃ w2, w2 = w1.alloc (.cells #[.slice a L.length ca, .slice b T.length cb] 26) := ⟨_, rfl⟩
    have hB : Below w.heap.size w w2 := by rw [hw2]; exact hb.alloc hb.size _
    have hB2 : Below w1.heap.size w1 w2 := by rw [hw2]; exact (Below.refl _ _).alloc (Nat.le_refl _) _
    have hx2 : w2.heap[g]? = some (.cells #[.slice a L.length ca, .slice b T.length cb] 26 (0, 0)) := by rw [hw2, hg]; exact heap_alloc_new w1 _
    have KX := Lib.hid (show ∀ wz, Below w2.heap.size w2 wz → wz.heap[g]? = some (.cells #[.slice a L.length ca, .slice b T.length cb] 26 (0, 0)) from fun wz h => (h.block _ (lt_of_block hx2)).trans hx2)
    have K0 := Lib.hid (show ∀ wz, Below w2.heap.size w2 wz → wz.cell? ⟨g, 0, none⟩ = some (.slice a L.length ca) from fun wz h => (bx_cells (KX.out _ h)).1)
    have K1 := Lib.hid (show ∀ wz, Below w2.heap.size w2 wz → wz.cell? ⟨g, 1, none⟩ = some (.slice b T.length cb) from fun wz h => (bx_cells (KX.out _ h)).2)
    have KR := Lib.hid (show ∀ wz, Below w2.heap.size w2 wz → Rd wz a L from fun wz h => (hr.below hB2).below h)
    have KT := Lib.hid (show ∀ wz, Below w2.heap.size w2 wz → RdT wz b T from fun wz h => (hT.below hB2).below h)
    have FIN := Lib.hid (show ∀ wz, Below w2.heap.size w2 wz → Below w.heap.size w wz from fun wz h => hB.trans (h.mono hB.size))
    have z : Below w2.heap.size w2 w2 := Below.refl _ _
    have HP := Lib.hid hP
    have HV := Lib.hid (show ∀ wz, Below w2.heap.size w2 wz → GV wz from fun wz h => (hG.below hB).below h)
    clear hP hr hT hb hB hB2 hx2 r6 hG
    have c0 := K0.out _ z
    have c1 := K1.out _ z
    obtain ⟨s, hs⟩ : ∃ s, s = atI L T := ⟨_, rfl⟩
    cases ha : algB L T with
    | false =>
      go_wp2_with (first
        | go_skip
        | (refine wpList_store_row rfl 26 _ _ rfl w1.heap.size #[.slice a L.length ca, .slice b T.length cb] rfl rfl _ _ (heap_alloc_new w1 (.cells #[.slice none 0 0, .slice none 0 0] 26)) (size_Alg _ _) rfl (one_sl2 _ _ _ _ _ _) ?_; rw [World.setRow_alloc_new]; rw [← hw2, ← hg]; clear hw2 hg)
        | (refine wpList_store_row rfl 26 _ _ rfl w1.heap.size #[.slice a L.length ca, .slice (some ⟨B, off, none⟩) T.length cb] rfl rfl _ _ (heap_alloc_new w1 (.cells #[.slice none 0 0, .slice none 0 0] 26)) (size_Alg _ _) rfl (one_sl2 _ _ _ _ _ _) ?_; rw [World.setRow_alloc_new]; rw [← hw2, ← hg]; clear hw2 hg)
        | (refine wpList_load_row_w rfl 26 _ rfl g rfl _ _ _ _ (KX.out _ z) Tryz.underlying26 rfl (size_Alg _ _) ?_)
        | (go_at_call 9; refine (implAlgebraText_any _ _ _ _ L T _ (KR.out _ z) (KT.out _ z)).mono ?_; rintro e wz ⟨rfl, hb⟩; replace z := z.trans (hb.mono z.size); (try clear c0 c1); have c0 := K0.out _ z; have c1 := K1.out _ z; (try replace q1 := Q1.out _ z); (try replace q2 := Q2.out _ z))
        | (go_at_call 10; refine (specAlgebraText_any _ _ _ _ L T _ (KR.out _ z) (KT.out _ z)).mono ?_; rintro e wz ⟨rfl, hb⟩; replace z := z.trans (hb.mono z.size); (try clear c0 c1); have c0 := K0.out _ z; have c1 := K1.out _ z; (try replace q1 := Q1.out _ z); (try replace q2 := Q2.out _ z))
        | (go_at_call 11; refine (implValidAlgebra_any _ _ _ _ L T _ (KR.out _ z) (KT.out _ z)).mono ?_; rintro e wz ⟨rfl, hb⟩; replace z := z.trans (hb.mono z.size); (try clear c0 c1); have c0 := K0.out _ z; have c1 := K1.out _ z; (try replace q1 := Q1.out _ z); (try replace q2 := Q2.out _ z)))
      first
        | (go_ret; exact ⟨rfl, FIN.out _ z⟩)
        | skip
    | true =>
      go_wp2_with (first
        | go_skip
        | (refine wpList_store_row rfl 26 _ _ rfl w1.heap.size #[.slice a L.length ca, .slice b T.length cb] rfl rfl _ _ (heap_alloc_new w1 (.cells #[.slice none 0 0, .slice none 0 0] 26)) (size_Alg _ _) rfl (one_sl2 _ _ _ _ _ _) ?_; rw [World.setRow_alloc_new]; rw [← hw2, ← hg]; clear hw2 hg)
        | (refine wpList_store_row rfl 26 _ _ rfl w1.heap.size #[.slice a L.length ca, .slice (some ⟨B, off, none⟩) T.length cb] rfl rfl _ _ (heap_alloc_new w1 (.cells #[.slice none 0 0, .slice none 0 0] 26)) (size_Alg _ _) rfl (one_sl2 _ _ _ _ _ _) ?_; rw [World.setRow_alloc_new]; rw [← hw2, ← hg]; clear hw2 hg)
        | (refine wpList_load_row_w rfl 26 _ rfl g rfl _ _ _ _ (KX.out _ z) Tryz.underlying26 rfl (size_Alg _ _) ?_)
        | (go_at_call 9; refine (implAlgebraText_any _ _ _ _ L T _ (KR.out _ z) (KT.out _ z)).mono ?_; rintro e wz ⟨rfl, hb⟩; replace z := z.trans (hb.mono z.size); (try clear c0 c1); have c0 := K0.out _ z; have c1 := K1.out _ z; (try replace q1 := Q1.out _ z); (try replace q2 := Q2.out _ z))
        | (go_at_call 10; refine (specAlgebraText_any _ _ _ _ L T _ (KR.out _ z) (KT.out _ z)).mono ?_; rintro e wz ⟨rfl, hb⟩; replace z := z.trans (hb.mono z.size); (try clear c0 c1); have c0 := K0.out _ z; have c1 := K1.out _ z; (try replace q1 := Q1.out _ z); (try replace q2 := Q2.out _ z))
        | (go_at_call 11; refine (implValidAlgebra_any _ _ _ _ L T _ (KR.out _ z) (KT.out _ z)).mono ?_; rintro e wz ⟨rfl, hb⟩; replace z := z.trans (hb.mono z.size); (try clear c0 c1); have c0 := K0.out _ z; have c1 := K1.out _ z; (try replace q1 := Q1.out _ z); (try replace q2 := Q2.out _ z)))
      have HC := Lib.hid (show ∀ w : World, GV w → Calls Tryz.prog 12 #[.string (atI L T)] w (RetGAbW L T true w) from fun w hg => by
        obtain ⟨e1, e2, e3⟩ := pP_yes (pO_yes ha rfl)
        have := implParseAlgebra_any (atI L T) w hg (by have := at_size ha; omega)
        rwa [e1, e2, e3] at this)
      refine (HC.out _ (HV.out _ z)).mono ?_
      rintro e wq ⟨xa, n5, xca, xb, m5, xcb, rfl, hGA, hb5⟩
      obtain ⟨_, _, _, _, e1, e2, r1, t1⟩ := hGA.rd
      cases e1
      cases e2
      replace z := z.trans (hb5.mono z.size)
      obtain ⟨g5, hg5⟩ : ∃ g5, g5 = wq.heap.size := ⟨_, rfl⟩
      obtain ⟨w5, hw5⟩ : ∃ w5, w5 = wq.alloc (.cells #[.slice xa L.length xca, .slice xb T.length xcb] 26) := ⟨_, rfl⟩
      have hB5 : Below wq.heap.size wq w5 := by rw [hw5]; exact (Below.refl _ _).alloc (Nat.le_refl _) _
      have hx5 : w5.heap[g5]? = some (.cells #[.slice xa L.length xca, .slice xb T.length xcb] 26 (0, 0)) := by rw [hw5, hg5]; exact heap_alloc_new wq _
      have z5 := z.trans (hB5.mono z.size)
      have R5 := Lib.hid (r1.below hB5)
      have T5 := Lib.hid (t1.below hB5)
      clear r1 t1 hGA hB5 hb5 c0 c1
      go_wp2_with (first
        | go_skip
        | (refine wpList_store_row rfl 26 _ _ rfl wq.heap.size #[.slice xa L.length xca, .slice xb T.length xcb] rfl rfl _ _ (heap_alloc_new wq (.cells #[.slice none 0 0, .slice none 0 0] 26)) (size_Alg _ _) rfl (one_sl2 _ _ _ _ _ _) ?_; rw [World.setRow_alloc_new]; rw [← hw5, ← hg5]; clear hw5 hg5)
        | (refine wpList_load_row_w rfl 26 _ rfl g5 rfl _ _ _ _ hx5 Tryz.underlying26 rfl (size_Alg _ _) ?_)
        | (refine wpList_load_row_w rfl 26 _ rfl g rfl _ _ _ _ (KX.out _ z5) Tryz.underlying26 rfl (size_Alg _ _) ?_)
        | (go_at_call 13; refine (equalAlgebra_same _ _ _ _ _ _ _ _ L T _ R5.out (KR.out _ z5) T5.out (KT.out _ z5) (by omega) (fun j hj => by have := row_len6 ha hj; omega) (by omega)).mono ?_; rintro e w6 ⟨rfl, hb6⟩))
      go_ret
      exact ⟨rfl, FIN.out _ (z5.trans (hb6.mono z5.size))⟩
end Go.Proofs.YtpophjloedpcfaaGreatDoor
