import Derived.Test.YtbegkmbboebeaaaNU3
import Derived.Test.YtbegkmbboebeaaaSL0
import Derived.Test.YtbegkmbboebeaaaH10
import Derived.Test.YtbegkmbboebeaaaP7
import Derived.Test.YtbegkmbboebeaaaM13
import Derived.Test.YtbegkmbboebeaaaB5
namespace Go.Proofs.Ytbegkmbboebeaaa
open Go.RowKit

set_option maxRecDepth 100000 in
set_option maxHeartbeats 2000000 in
/-- laws.FnIsNucleus -/
theorem lawPIsNucleus (a0 : Option Addr) (len0 cap0 : Nat) (w : World) (hy : RdY w a0 len0 w.heap.size) (hc : len0 ≤ cap0) (hm : len0 ≤ maxLen) :
    Calls Try.prog 3 #[.slice a0 len0 cap0] w fun e w' => e = .returned (.bool true) ∧ Below w.heap.size w w' := by
  by_cases hbig : 1048576 < len0
  · have hbig2 : (1048576 : Int) < len0 := by omega
    go_enter Try.func3, Try.ntmps3
    go_wp2
    go_ret
    exact ⟨rfl, Below.refl _ _⟩
  · have hs : len0 ≤ 1048576 := by omega
    have hs2 : ¬ (1048576 : Int) < len0 := by omega
    go_enter Try.func3, Try.ntmps3
    go_wp2_with fail
    refine (drawIsNucleus_any a0 len0 cap0 w hy hc hs).mono ?_
    rintro e w1 ⟨L, T, a, ca, b, cb, t, ta, tc, rfl, ⟨hP, hr, hT, hb⟩, htm, hct, hlt⟩
    have _ := hm
    clear hs hs2 hbig hy hm hc
    obtain ⟨l1, l7, t6, r6⟩ := someP_len hP
    have hM : (L.length : Int) ≤ 9223372036854775807 := by omega
    obtain ⟨g, hg⟩ : ∃ g, g = w1.heap.size := ⟨_, rfl⟩
    obtain ⟨w2, hw2⟩ : ∃ w2, w2 = w1.alloc (.cells #[.slice a L.length ca, .slice b T.length cb] 26) := ⟨_, rfl⟩
    have hB : Below w.heap.size w w2 := by rw [hw2]; exact hb.alloc hb.size _
    have hB2 : Below w1.heap.size w1 w2 := by rw [hw2]; exact (Below.refl _ _).alloc (Nat.le_refl _) _
    have hx2 : w2.heap[g]? = some (.cells #[.slice a L.length ca, .slice b T.length cb] 26 (0, 0)) := by rw [hw2, hg]; exact heap_alloc_new w1 _
    have KX := Lib.hid (show ∀ wz, Below w2.heap.size w2 wz → wz.heap[g]? = some (.cells #[.slice a L.length ca, .slice b T.length cb] 26 (0, 0)) from fun wz h => (h.block _ (lt_of_block hx2)).trans hx2)
    have K0 := Lib.hid (show ∀ wz, Below w2.heap.size w2 wz → wz.cell? ⟨g, 0, none⟩ = some (.slice a L.length ca) from fun wz h => (bx_cells (KX.out _ h)).1)
    have K1 := Lib.hid (show ∀ wz, Below w2.heap.size w2 wz → wz.cell? ⟨g, 1, none⟩ = some (.slice b T.length cb) from fun wz h => (bx_cells (KX.out _ h)).2)
    have KR := Lib.hid (show ∀ wz, Below w2.heap.size w2 wz → Rd wz a L from fun wz h => (hr.below hB2).below h)
    have KT := Lib.hid (show ∀ wz, Below w2.heap.size w2 wz → RdT wz b T from fun wz h => (hT.below hB2).below h)
    have Kt := Lib.hid (show ∀ wz, Below w2.heap.size w2 wz → Rd wz ta t from fun wz h => (htm.below hB2).below h)
    have FIN := Lib.hid (show ∀ wz, Below w2.heap.size w2 wz → Below w.heap.size w wz from fun wz h => hB.trans (h.mono hB.size))
    have z : Below w2.heap.size w2 w2 := Below.refl _ _
    have HP := Lib.hid hP
    clear hP hr hT hb hB hB2 hx2 r6 htm
    have c0 := K0.out _ z
    have c1 := K1.out _ z
    cases hV : asnB L T t with
    | false =>
      go_wp2_with (first
      | go_skip
      | (refine wpList_store_row rfl 26 _ _ rfl w1.heap.size #[.slice a L.length ca, .slice b T.length cb] rfl rfl _ _ (heap_alloc_new w1 (.cells #[.slice none 0 0, .slice none 0 0] 26)) (size_Alg _ _) rfl (one_sl2 _ _ _ _ _ _) ?_; rw [World.setRow_alloc_new]; rw [← hw2, ← hg]; clear hw2 hg)
      | (refine wpList_store_row rfl 26 _ _ rfl w1.heap.size #[.slice a L.length ca, .slice (some ⟨B, off, none⟩) T.length cb] rfl rfl _ _ (heap_alloc_new w1 (.cells #[.slice none 0 0, .slice none 0 0] 26)) (size_Alg _ _) rfl (one_sl2 _ _ _ _ _ _) ?_; rw [World.setRow_alloc_new]; rw [← hw2, ← hg]; clear hw2 hg)
      | (refine wpList_load_row_w rfl 26 _ rfl g rfl _ _ _ _ (KX.out _ z) Try.underlying26 rfl (size_Alg _ _) ?_)
      | (go_at_call 6; refine (implIsNucleus_any _ _ _ _ L T _ _ t _ (KR.out _ z) (KT.out _ z) (Kt.out _ z) (by omega)).mono ?_; rw [hV]; rintro e wz ⟨rfl, hb⟩; replace z := z.trans (hb.mono z.size); (try clear c0 c1); have c0 := K0.out _ z; have c1 := K1.out _ z; (try replace q1 := Q1.out _ z); (try replace q2 := Q2.out _ z))
      | (go_at_call 7; refine (specIsNucleus_any _ _ _ _ L T _ _ t _ (KR.out _ z) (KT.out _ z) (Kt.out _ z) (by omega)).mono ?_; rw [hV]; rintro e wz ⟨rfl, hb⟩; replace z := z.trans (hb.mono z.size); (try clear c0 c1); have c0 := K0.out _ z; have c1 := K1.out _ z; (try replace q1 := Q1.out _ z); (try replace q2 := Q2.out _ z)))
      go_ret
      exact ⟨rfl, FIN.out _ z⟩
    | true =>
      have hAs : algB L T = true ∧ snB L T t = true := by
        have := hV
        unfold asnB at this
        rw [Bool.and_eq_true] at this
        exact this
      obtain ⟨ha, hsn⟩ := hAs
      obtain ⟨hnum, _⟩ := nucT_of hsn
      have htL : (t.length : Int) = num L := hnum
      have hn : num L = (L.length : Int) := rfl
      have HIMP := Lib.hid (fun (x y : Int) (hx : El L x) (hy : El L y) (e : nth t y = y) => nu_imp ha hsn hx hy e)
      have HA := Lib.hid ha
      obtain ⟨n1, n6, _⟩ := latB_parts (alg_lat ha)
      have ht1 : 1 ≤ t.length := by omega
      have ht6 : t.length ≤ 6 := by omega
      obtain ⟨jb, jo, rfl, _⟩ := (Kt.out _ z) (fun e => by rw [e] at ht1; simp at ht1)
      have KJ := Lib.hid (show ∀ wz, Below w2.heap.size w2 wz → Cells wz jb jo t from fun wz hz => by
        obtain ⟨b', o', e, hc⟩ := (Kt.out _ hz) (fun e => by rw [e] at ht1; simp at ht1)
        simp only [Option.some.injEq, Addr.mk.injEq] at e
        rw [e.1, e.2.1]; exact hc)
      have HTL := Lib.hid htL
      clear ha hsn hnum htL hn
      go_wp2_with (first
      | go_skip
      | (refine wpList_store_row rfl 26 _ _ rfl w1.heap.size #[.slice a L.length ca, .slice b T.length cb] rfl rfl _ _ (heap_alloc_new w1 (.cells #[.slice none 0 0, .slice none 0 0] 26)) (size_Alg _ _) rfl (one_sl2 _ _ _ _ _ _) ?_; rw [World.setRow_alloc_new]; rw [← hw2, ← hg]; clear hw2 hg)
      | (refine wpList_store_row rfl 26 _ _ rfl w1.heap.size #[.slice a L.length ca, .slice (some ⟨B, off, none⟩) T.length cb] rfl rfl _ _ (heap_alloc_new w1 (.cells #[.slice none 0 0, .slice none 0 0] 26)) (size_Alg _ _) rfl (one_sl2 _ _ _ _ _ _) ?_; rw [World.setRow_alloc_new]; rw [← hw2, ← hg]; clear hw2 hg)
      | (refine wpList_load_row_w rfl 26 _ rfl g rfl _ _ _ _ (KX.out _ z) Try.underlying26 rfl (size_Alg _ _) ?_)
      | (go_at_call 6; refine (implIsNucleus_any _ _ _ _ L T _ _ t _ (KR.out _ z) (KT.out _ z) (Kt.out _ z) (by omega)).mono ?_; rw [hV]; rintro e wz ⟨rfl, hb⟩; replace z := z.trans (hb.mono z.size); (try clear c0 c1); have c0 := K0.out _ z; have c1 := K1.out _ z; (try replace q1 := Q1.out _ z); (try replace q2 := Q2.out _ z))
      | (go_at_call 7; refine (specIsNucleus_any _ _ _ _ L T _ _ t _ (KR.out _ z) (KT.out _ z) (Kt.out _ z) (by omega)).mono ?_; rw [hV]; rintro e wz ⟨rfl, hb⟩; replace z := z.trans (hb.mono z.size); (try clear c0 c1); have c0 := K0.out _ z; have c1 := K1.out _ z; (try replace q1 := Q1.out _ z); (try replace q2 := Q2.out _ z)))
      clear c0 c1
      go_loopw [6, 7, 8] (fun xv _ _ wr => ∃ x : Int, 0 ≤ x ∧ x ≤ t.length ∧ xv = .int .i64 x ∧ Below w2.heap.size w2 wr) (fun xv _ _ _ => (7 - intOf xv).toNat)
      case atStart => exact ⟨0, by omega, by omega, rfl, z⟩
      case round =>
        clear z
        obtain ⟨x, x0, x1, rfl, z⟩ := hrel
        by_cases hx : x < t.length
        · have hX : El L x := ⟨x0, by have := HTL.out; omega⟩
          have c0 := K0.out _ z
          have c1 := K1.out _ z
          go_wp2
          clear c0 c1
          go_loopw [7, 8] (fun yv _ wr => ∃ y : Int, 0 ≤ y ∧ y ≤ t.length ∧ yv = .int .i64 y ∧ Below w2.heap.size w2 wr) (fun yv _ _ => (7 - intOf yv).toNat)
          case atStart => exact ⟨0, by omega, by omega, rfl, z⟩
          case round =>
            clear z
            obtain ⟨y, y0, y1, rfl, z⟩ := hrel
            by_cases hy : y < t.length
            · have hY : El L y := ⟨y0, by have := HTL.out; omega⟩
              obtain ⟨o, ho⟩ : ∃ o, o = imp L T x y := ⟨_, rfl⟩
              have eo : El L o := by rw [ho]; exact imp_el HA.out _ _
              have v1 : implyI L T x y = o := by rw [imply_el HA.out hX hY, ho]
              have o0 : 0 ≤ o := eo.1
              have o1 : o < t.length := by have := HTL.out; have := eo.2; omega
              have Q1 := Lib.hid (show ∀ wz, Below w2.heap.size w2 wz → wz.cell? ⟨jb, jo + y.toNat, none⟩ = some (.int .i64 (nth t y)) from fun wz hz => (KJ.out _ hz).at y y0 (by unfold num; omega))
              have Q2 := Lib.hid (show ∀ wz, Below w2.heap.size w2 wz → wz.cell? ⟨jb, jo + o.toNat, none⟩ = some (.int .i64 (nth t o)) from fun wz hz => (KJ.out _ hz).at o o0 (by unfold num; omega))
              have q1 := Q1.out _ z
              have q2 := Q2.out _ z
              have c0 := K0.out _ z
              have c1 := K1.out _ z
              by_cases hyy : nth t y = y
              · have hyb : (nth t y == y) = true := by rw [beq_iff_eq]; exact hyy
                have hob : (nth t o != o) = false := by rw [ho, bne, HIMP.out x y hX hY hyy]; simp
                clear hyy ho eo hX hY
                go_wp2_with (first
                | go_skip
                | (refine wpList_store_row rfl 26 _ _ rfl w1.heap.size #[.slice a L.length ca, .slice b T.length cb] rfl rfl _ _ (heap_alloc_new w1 (.cells #[.slice none 0 0, .slice none 0 0] 26)) (size_Alg _ _) rfl (one_sl2 _ _ _ _ _ _) ?_; rw [World.setRow_alloc_new]; rw [← hw2, ← hg]; clear hw2 hg)
                | (refine wpList_store_row rfl 26 _ _ rfl w1.heap.size #[.slice a L.length ca, .slice (some ⟨B, off, none⟩) T.length cb] rfl rfl _ _ (heap_alloc_new w1 (.cells #[.slice none 0 0, .slice none 0 0] 26)) (size_Alg _ _) rfl (one_sl2 _ _ _ _ _ _) ?_; rw [World.setRow_alloc_new]; rw [← hw2, ← hg]; clear hw2 hg)
                | (refine wpList_load_row_w rfl 26 _ rfl g rfl _ _ _ _ (KX.out _ z) Try.underlying26 rfl (size_Alg _ _) ?_)
                | (go_at_call 8; refine (implImplyOf_any _ _ _ _ L T x y _ (KR.out _ z) (KT.out _ z)).mono ?_; rintro e wz ⟨rfl, hb⟩; replace z := z.trans (hb.mono z.size); (try clear c0 c1); have c0 := K0.out _ z; have c1 := K1.out _ z; (try replace q1 := Q1.out _ z); (try replace q2 := Q2.out _ z)))
                go_roundw
                case rel => exact ⟨y + 1, by omega, by omega, rfl, z⟩
                case measure => simp [intOf]; omega
              · have hyb : (nth t y == y) = false := by rw [beq_eq_false_iff_ne]; exact hyy
                clear hyy ho eo hX hY
                go_wp2_with (first
                | go_skip
                | (refine wpList_store_row rfl 26 _ _ rfl w1.heap.size #[.slice a L.length ca, .slice b T.length cb] rfl rfl _ _ (heap_alloc_new w1 (.cells #[.slice none 0 0, .slice none 0 0] 26)) (size_Alg _ _) rfl (one_sl2 _ _ _ _ _ _) ?_; rw [World.setRow_alloc_new]; rw [← hw2, ← hg]; clear hw2 hg)
                | (refine wpList_store_row rfl 26 _ _ rfl w1.heap.size #[.slice a L.length ca, .slice (some ⟨B, off, none⟩) T.length cb] rfl rfl _ _ (heap_alloc_new w1 (.cells #[.slice none 0 0, .slice none 0 0] 26)) (size_Alg _ _) rfl (one_sl2 _ _ _ _ _ _) ?_; rw [World.setRow_alloc_new]; rw [← hw2, ← hg]; clear hw2 hg)
                | (refine wpList_load_row_w rfl 26 _ rfl g rfl _ _ _ _ (KX.out _ z) Try.underlying26 rfl (size_Alg _ _) ?_)
                | (go_at_call 8; refine (implImplyOf_any _ _ _ _ L T x y _ (KR.out _ z) (KT.out _ z)).mono ?_; rintro e wz ⟨rfl, hb⟩; replace z := z.trans (hb.mono z.size); (try clear c0 c1); have c0 := K0.out _ z; have c1 := K1.out _ z; (try replace q1 := Q1.out _ z); (try replace q2 := Q2.out _ z)))
                go_roundw
                case rel => exact ⟨y + 1, by omega, by omega, rfl, z⟩
                case measure => simp [intOf]; omega
            · have c0 := K0.out _ z
              have c1 := K1.out _ z
              go_wp2
              go_roundw
              case rel => exact ⟨x + 1, by omega, by omega, rfl, z⟩
              case measure => simp [intOf]; omega
        · go_wp2
          go_ret
          exact ⟨rfl, FIN.out _ z⟩
end Go.Proofs.Ytbegkmbboebeaaa
