import Derived.Test.YtbellklaoecpbaaSL0
namespace Go.Proofs.Ytbellklaoecpbaa
open Go.RowKit

set_option maxRecDepth 100000 in
set_option maxHeartbeats 2000000 in
/-- laws.FnNotOf -/
theorem lawPNotOf (a0 : Option Addr) (len0 cap0 : Nat) (w : World) (hy : RdY w a0 len0 w.heap.size) (hc : len0 ≤ cap0) (hm : len0 ≤ maxLen) :
    Calls Try.prog 5 #[.slice a0 len0 cap0] w fun e w' => e = .returned (.bool true) ∧ Below w.heap.size w w' := by
  by_cases hbig : 1048576 < len0
  · have hbig2 : (1048576 : Int) < len0 := by omega
    go_enter Try.func5, Try.ntmps5
    go_wp2
    go_ret
    exact ⟨rfl, Below.refl _ _⟩
  · have hs : len0 ≤ 1048576 := by omega
    have hs2 : ¬ (1048576 : Int) < len0 := by omega
    go_enter Try.func5, Try.ntmps5
    go_wp2_with fail
    refine (drawNotOf_any a0 len0 cap0 w hy hc hs).mono ?_
    rintro e w1 ⟨L, T, a, ca, b, cb, x, rfl, x0, x1, hP, hr, hT, hb⟩
    have _ := hm
    clear hs hs2 hbig hy hm hc
    obtain ⟨l1, l7, t6, r6⟩ := someP_len hP
    have hM : (L.length : Int) ≤ 9223372036854775807 := by omega
    obtain ⟨g, hg⟩ : ∃ g, g = w1.heap.size := ⟨_, rfl⟩
    obtain ⟨w2, hw2⟩ : ∃ w2, w2 = w1.alloc (.cells #[.slice a L.length ca, .slice b T.length cb] 26) := ⟨_, rfl⟩
    have hB : Below w.heap.size w w2 := by rw [hw2]; exact hb.alloc hb.size _
    have hB2 : Below w1.heap.size w1 w2 := by rw [hw2]; exact (Below.refl _ _).alloc (Nat.le_refl _) _
    have hx2 : w2.heap[g]? = some (.cells #[.slice a L.length ca, .slice b T.length cb] 26 (0, 0)) := by rw [hw2, hg]; exact heap_alloc_new w1 _
    have KX := Lib.hid (show ∀ wz, Below w2.heap.size w2 wz → wz.heap[g]? = some (.cells #[.slice a L.length ca, .slice b T.length cb] 26 (0, 0)) from fun wz h => (h.block _ (lt_of_block hx2)).trans hx2)
    have K0 := Lib.hid (show ∀ wz, Below w2.heap.size w2 wz → wz.cell? ⟨g, 0, none⟩ = some (.slice a L.length ca) from fun wz h => (bx_cells (KX.out _ h)).1)
    have K1 := Lib.hid (show ∀ wz, Below w2.heap.size w2 wz → wz.cell? ⟨g, 1, none⟩ = some (.slice b T.length cb) from fun wz h => (bx_cells (KX.out _ h)).2)
    have KR := Lib.hid (show ∀ wz, Below w2.heap.size w2 wz → Rd wz a L from fun wz h => (hr.below hB2).below h)
    have KT := Lib.hid (show ∀ wz, Below w2.heap.size w2 wz → RdT wz b T from fun wz h => (hT.below hB2).below h)
    have FIN := Lib.hid (show ∀ wz, Below w2.heap.size w2 wz → Below w.heap.size w wz from fun wz h => hB.trans (h.mono hB.size))
    have z : Below w2.heap.size w2 w2 := Below.refl _ _
    have HP := Lib.hid hP
    clear hP hr hT hb hB hB2 hx2 r6
    have c0 := K0.out _ z
    have c1 := K1.out _ z
    cases hA : algIn L T x x with
    | false =>
      have v1 : notI L T x = -1 := by unfold notI; rw [hA]; rfl
      clear hA
      go_wp2_with (first
      | go_skip
      | (refine wpList_store_row rfl 26 _ _ rfl w1.heap.size #[.slice a L.length ca, .slice b T.length cb] rfl rfl _ _ (heap_alloc_new w1 (.cells #[.slice none 0 0, .slice none 0 0] 26)) (size_Alg _ _) rfl (one_sl2 _ _ _ _ _ _) ?_; rw [World.setRow_alloc_new]; rw [← hw2, ← hg]; clear hw2 hg)
      | (refine wpList_store_row rfl 26 _ _ rfl w1.heap.size #[.slice a L.length ca, .slice (some ⟨B, off, none⟩) T.length cb] rfl rfl _ _ (heap_alloc_new w1 (.cells #[.slice none 0 0, .slice none 0 0] 26)) (size_Alg _ _) rfl (one_sl2 _ _ _ _ _ _) ?_; rw [World.setRow_alloc_new]; rw [← hw2, ← hg]; clear hw2 hg)
      | (refine wpList_load_row_w rfl 26 _ rfl g rfl _ _ _ _ (KX.out _ z) Try.underlying26 rfl (size_Alg _ _) ?_)
      | (go_at_call 25; refine (implNotOf_any _ _ _ _ L T x _ (KR.out _ z) (KT.out _ z)).mono ?_; rintro e wz ⟨rfl, hb⟩; replace z := z.trans (hb.mono z.size); (try clear c0 c1); have c0 := K0.out _ z; have c1 := K1.out _ z; (try replace q1 := Q1.out _ z); (try replace q2 := Q2.out _ z))
      | (go_at_call 26; refine (specNotOf_any _ _ _ _ L T x _ (KR.out _ z) (KT.out _ z) hM).mono ?_; rintro e wz ⟨rfl, hb⟩; replace z := z.trans (hb.mono z.size); (try clear c0 c1); have c0 := K0.out _ z; have c1 := K1.out _ z; (try replace q1 := Q1.out _ z); (try replace q2 := Q2.out _ z)))
      go_ret
      exact ⟨rfl, FIN.out _ z⟩
    | true =>
      obtain ⟨ha, x0, x1, _, _⟩ := algIn_parts hA
      have hX : El L x := ⟨x0, x1⟩
      have hl := alg_lat ha
      have h0 := el_0 hl
      obtain ⟨o, ho⟩ : ∃ o, o = imp L T x 0 := ⟨_, rfl⟩
      have eo : El L o := by rw [ho]; exact imp_el ha _ _
      obtain ⟨p, hp⟩ : ∃ p, p = imp L T o 0 := ⟨_, rfl⟩
      have ep : El L p := by rw [hp]; exact imp_el ha _ _
      have v1 : notI L T x = o := by rw [not_el ha hX, ho]
      have v2 : notI L T o = p := by rw [not_el ha eo, hp]
      have v3 : implyI L T x 0 = o := by rw [imply_el ha hX h0, ho]
      have v6 : tv T x o = 0 := by have := imp_ok ha hX h0; rw [← ho] at this; exact bot_of hl (tv_el ha hX eo) this
      have hxp : bl L x p = true := by
        rw [hp, ← imp_iff ha eo h0 hX, tv_comm ha eo hX, v6]; exact bl_refl hl h0
      have v4 : isBelowB L x p = true := by rw [below_el hl hX ep]; exact hxp
      have v5 : notI L T p = o := by
        rw [not_el ha ep]
        have eq := imp_el ha p 0
        refine bl_anti hl eq eo ?_ ?_
        · rw [ho, ← imp_iff ha hX h0 eq]
          have h1 := tv_mono1 ha eq hX ep hxp
          have h2 := imp_ok ha ep h0
          exact bl_trans hl (tv_el ha hX eq) (tv_el ha ep eq) h0 h1 h2
        · rw [← imp_iff ha ep h0 eo, tv_comm ha ep eo, hp]; exact imp_ok ha eo h0
      have o0 : 0 ≤ o := eo.1
      have o1 : o < L.length := eo.2
      have x1' : x < L.length := x1
      have htl : (T.length : Int) = L.length := shape_len (alg_shape ha)
      obtain ⟨B, off, rfl, rb, ro, rc, htab⟩ := tab_of (KT.out _ z) (alg_shape ha) (by unfold num; omega)
      have KTA := Lib.hid (show ∀ wz, Below w2.heap.size w2 wz → TabAt wz B off (num L) L.length rb ro rc T from fun wz h => htab.below h)
      have xT : x < T.length := by omega
      have Q1 := Lib.hid (show ∀ wz, Below w2.heap.size w2 wz → wz.cell? ⟨B, off + x.toNat, none⟩ = some (.slice (some ⟨rb x, ro x, none⟩) L.length (rc x)) from fun wz h => (KTA.out _ h).row x0 x1)
      have Q2 := Lib.hid (show ∀ wz, Below w2.heap.size w2 wz → wz.cell? ⟨rb x, ro x + o.toNat, none⟩ = some (.int .i64 0) from fun wz h => by have := (KTA.out _ h).cell x0 x1 o0 o1; rw [v6] at this; exact this)
      have q1 := Q1.out _ z
      have q2 := Q2.out _ z
      have o2 : ¬ o < 0 := by omega
      clear hA hX hl h0 ho eo hp ep hxp htl htab v6 ha
      go_wp2_with (first
      | go_skip
      | (refine wpList_store_row rfl 26 _ _ rfl w1.heap.size #[.slice a L.length ca, .slice b T.length cb] rfl rfl _ _ (heap_alloc_new w1 (.cells #[.slice none 0 0, .slice none 0 0] 26)) (size_Alg _ _) rfl (one_sl2 _ _ _ _ _ _) ?_; rw [World.setRow_alloc_new]; rw [← hw2, ← hg]; clear hw2 hg)
      | (refine wpList_store_row rfl 26 _ _ rfl w1.heap.size #[.slice a L.length ca, .slice (some ⟨B, off, none⟩) T.length cb] rfl rfl _ _ (heap_alloc_new w1 (.cells #[.slice none 0 0, .slice none 0 0] 26)) (size_Alg _ _) rfl (one_sl2 _ _ _ _ _ _) ?_; rw [World.setRow_alloc_new]; rw [← hw2, ← hg]; clear hw2 hg)
      | (refine wpList_load_row_w rfl 26 _ rfl g rfl _ _ _ _ (KX.out _ z) Try.underlying26 rfl (size_Alg _ _) ?_)
      | (go_at_call 25; refine (implNotOf_any _ _ _ _ L T _ _ (KR.out _ z) (KT.out _ z)).mono ?_; rintro e wz ⟨rfl, hb⟩; replace z := z.trans (hb.mono z.size); (try clear c0 c1); have c0 := K0.out _ z; have c1 := K1.out _ z; (try replace q1 := Q1.out _ z); (try replace q2 := Q2.out _ z))
      | (go_at_call 26; refine (specNotOf_any _ _ _ _ L T x _ (KR.out _ z) (KT.out _ z) hM).mono ?_; rintro e wz ⟨rfl, hb⟩; replace z := z.trans (hb.mono z.size); (try clear c0 c1); have c0 := K0.out _ z; have c1 := K1.out _ z; (try replace q1 := Q1.out _ z); (try replace q2 := Q2.out _ z))
      | (go_at_call 22; refine (implImplyOf_any _ _ _ _ L T _ _ _ (KR.out _ z) (KT.out _ z)).mono ?_; rintro e wz ⟨rfl, hb⟩; replace z := z.trans (hb.mono z.size); (try clear c0 c1); have c0 := K0.out _ z; have c1 := K1.out _ z; (try replace q1 := Q1.out _ z); (try replace q2 := Q2.out _ z))
      | (go_at_call 18; refine (implIsBelow_any _ _ L _ _ _ (KR.out _ z)).mono ?_; rintro e wz ⟨rfl, hb⟩; replace z := z.trans (hb.mono z.size); (try clear c0 c1); have c0 := K0.out _ z; have c1 := K1.out _ z; (try replace q1 := Q1.out _ z); (try replace q2 := Q2.out _ z)))
      go_ret
      exact ⟨rfl, FIN.out _ z⟩
end Go.Proofs.Ytbellklaoecpbaa
