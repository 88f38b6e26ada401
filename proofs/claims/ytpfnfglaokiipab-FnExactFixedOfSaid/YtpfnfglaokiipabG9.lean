import Derived.Test.YtpfnfglaokiipabG8
namespace Go.Proofs.Ytpfnfglaokiipab
open Go.RowKit

theorem in_trans {w1 wr : World} (z : Below w1.heap.size w1 wr) (s : In (Below wr.heap.size wr)) : Below w1.heap.size w1 s.w := z.trans (s.h.mono z.size)
theorem in_same {P : Program} {f : FuncId} {args : Array Value} {w1 : World} {v : Value} {B : Nat} (s : In (Below B w1))
    (h : Calls P f args s.w fun e w'' => e = .returned v ∧ s.w = w'') : Calls P f args s.w fun e w'' => e = .returned v ∧ ∃ s' : In (Below B w1), w'' = s'.w :=
  h.mono fun _ _ h => ⟨h.1, s, h.2.symm⟩
set_option maxRecDepth 100000 in
set_option maxHeartbeats 2000000 in
/-- spec.SharpOf -/
theorem specSharpOf_any (a b : Option Addr) (ca cb : Nat) (L : List Int) (T : List (List Int)) (w : World) (hr : Rd w a L) (hT : RdT w b T) :
    Calls Try.prog 32 #[.agg #[.slice a L.length ca, .slice b T.length cb]] w (RetSl w.heap.size (algI L T (sharpQ L T)) w) := by
  obtain ⟨w1, hw1⟩ : ∃ w1, w1 = w.alloc (.cells #[.slice a L.length ca, .slice b T.length cb] 28) := ⟨_, rfl⟩
  have hB : Below w.heap.size w w1 := by rw [hw1]; exact (Below.refl _ _).alloc (Nat.le_refl _) _
  have hx : w1.heap[w.heap.size]? = some (.cells #[.slice a L.length ca, .slice b T.length cb] 28 (0, 0)) := by rw [hw1]; exact heap_alloc_new w _
  obtain ⟨c0, c1⟩ := bx_cells hx
  have Kx := Lib.hid (show ∀ wz, Below w1.heap.size w1 wz → wz.heap[w.heap.size]? = some (.cells #[.slice a L.length ca, .slice b T.length cb] 28 (0, 0)) from fun wz h => (h.block _ (lt_of_block hx)).trans hx)
  have KR := Lib.hid (show ∀ wz, Below w1.heap.size w1 wz → Rd wz a L from fun wz h => (hr.below hB).below h)
  have KT := Lib.hid (show ∀ wz, Below w1.heap.size w1 wz → RdT wz b T from fun wz h => (hT.below hB).below h)
  have z1 : Below w1.heap.size w1 w1 := Below.refl _ _
  clear hr hT hx
  cases hA : algB L T with
  | false =>
    have hv := Lib.hid (algI_f (p := sharpQ L T) hA)
    go_enter Try.func32, Try.ntmps32
    go_wp2_with (first
    | go_skip
    | (rw [← hw1]; clear hw1)
    | (refine wpList_load_row_w rfl 28 _ rfl w.heap.size rfl _ _ _ _ (Kx.out _ (by assumption)) Try.underlying28 rfl (size_Alg _ _) ?_)
    | (go_at_call 50; refine (ret_below (validAlgebra_any _ _ _ _ L T _ (KR.out _ z1) (KT.out _ z1)) hA).mono ?_; rintro e w2 ⟨rfl, h2⟩))
    go_ret
    rw [hv.out]
    exact ⟨none, 0, rfl, Own.nothing _ _, hB.trans (h2.mono hB.size)⟩
  | true =>
    have hv := Lib.hid (algI_t (p := sharpQ L T) hA)
    obtain ⟨hlat, hsh, _⟩ := algB_parts hA
    obtain ⟨n1, n6⟩ := lat_len hlat
    obtain ⟨_, _, hs⟩ := latB_parts hlat
    obtain ⟨ab, ao, rfl, hcl⟩ := (KR.out _ z1).pos n1
    have HCL := Lib.hid (show ∀ wz, Below w1.heap.size w1 wz → Cells wz ab ao L from fun wz h => hcl.below h (hcl.lt n1))
    have HLAT := Lib.hid hlat
    have k1 : IntKind.i64.wrap ((L.length : Int) - 1) = L.length - 1 := IntWalk.i64_in _ (by have : num L = L.length := rfl; omega)
    have HN := Lib.hid (show num L = L.length from rfl)
    have hlt := shape_len hsh
    have hn1 : num L ≤ L.length := by rw [HN.out]; omega
    have hn2 : (L.length : Int) ≤ num L := by rw [HN.out]; omega
    have hn3 : num L ≤ T.length := by omega
    have HA := Lib.hid hA
    obtain ⟨i0, hi, hz0, hz1, hz2⟩ := info_parts info_int
    clear hA hlat hsh hlt hcl
    go_enter Try.func32, Try.ntmps32
    go_wp2_with (first
    | go_skip
    | (rw [← hw1]; clear hw1)
    | (refine wpList_load_row_w rfl 28 _ rfl w.heap.size rfl _ _ _ _ (Kx.out _ (by assumption)) Try.underlying28 rfl (size_Alg _ _) ?_)
    | (go_at_call 50; refine (ret_below (validAlgebra_any _ _ _ _ L T _ (KR.out _ z1) (KT.out _ z1)) HA.out).mono ?_; rintro e w2 ⟨rfl, h2⟩; have z2 : Below w1.heap.size w1 w2 := h2; clear h2))
    have B2 := hB.trans (z2.mono hB.size)
    have hs1 := hB.size
    go_loopw [3, 4] (fun v c wr => ∃ x : Int, 0 ≤ x ∧ x ≤ num L ∧ c = .int .i64 x ∧ Own w1.heap.size wr v (filtTo (sharpQ L T) x) ∧ Below w1.heap.size w1 wr) (fun _ c _ => (6 - intOf c).toNat)
    case atStart => exact ⟨0, by omega, by omega, rfl, Own.row (L := []) (heap_alloc_new w2 _) z2.size (Nat.zero_le _), z2.alloc z2.size _⟩
    case round =>
      clear B2 z2
      obtain ⟨x, x0, x1, rfl, hown, z3⟩ := hrel
      obtain ⟨e0, e1⟩ := bx_cells (Kx.out _ z3)
      by_cases hx : x < num L
      · obtain ⟨i0', i1'⟩ := imp_lt T x 0 HLAT.out
        have q0 := Lib.hid (show ∀ wz, Below wr.heap.size wr wz → wz.cell? ⟨w.heap.size, 0, none⟩ = some (.slice (some ⟨ab, ao, none⟩) L.length ca) from fun wz hz => by rw [hz.cell (by exact block_lt_of_cell e0)]; exact e0)
        have hxl : x < L.length := by omega
        have hxt : x < T.length := by omega
        have hlen := filtTo_len (sharpQ L T) x
        have hsu := Lib.hid (filtTo_succ (sharpQ L T) x x0)
        have hq := Lib.hid (show sharpQ L T x = (jn L x (imp L T x 0) == (L.length : Int) - 1) from rfl)
        cases hC : jn L x (imp L T x 0) == (L.length : Int) - 1
        all_goals rw [hC] at hq
        case true =>
          have hsu2 := Lib.hid (show filtTo (sharpQ L T) (x + 1) = filtTo (sharpQ L T) x ++ [x] by rw [hsu.out, hq.out]; rfl)
          go_wp2
          refine region_in (Below wr.heap.size wr) (by kernel_rfl) (by kernel_rfl) (Dr.below ⟨1, rfl⟩ _) fun hne => ?_
          have r0 : ∀ s : In (Below wr.heap.size wr), s.w.cell? ⟨w.heap.size, 0, none⟩ = some (.slice (some ⟨ab, ao, none⟩) L.length ca) := fun s => q0.out _ s.h
          repeat (first
            | (go_big_quiet_want; refine quiet_load_row 28 _ rfl w.heap.size rfl _ _ _ _ (fun w' ⟨s, hs⟩ => by rw [hs]; exact Kx.out _ (z3.trans (s.h.mono z3.size))) Try.underlying28 rfl (size_Alg _ _) ?_; simp only [Act.put, List.setIfInBounds_toArray, List.set_cons_succ, List.set_cons_zero]; go_big_quiet_on)
            | go_big_quiet_step ((first | (go_at_call 55; exact in_below _ (Nat.le_refl _) (imply_any _ _ _ _ L T _ _ _ (KR.out _ (in_trans z3 _)) (KT.out _ (in_trans z3 _)) HA.out x0 hx (by omega) (by omega))) | (go_at_call 67; exact in_same _ (join_any _ _ _ L _ _ _ (HCL.out _ (in_trans z3 _)) hs x0 hx i0' i1')))))
          refine wpQuiet_nil ?_
          intro s
          have hw2 := s.h
          obtain ⟨w7, hw2'⟩ : ∃ w7, w7 = s.w := ⟨_, rfl⟩
          rw [← hw2'] at hw2 ⊢
          clear hw2'
          replace hown := hown.below hw2
          replace z3 := z3.trans (hw2.mono z3.size)
          clear e0 e1 q0
          go_wp2_with (at_builtin; refine wpList_append_own _ rfl _ _ 22 rfl w1.heap.size 3 i0 (.int .i64 0) 1 8 Try.underlying22 hi hz0 hz1 hz2 rfl (by decide) _ _ _ rfl (World.ownsRow.alloc hown _) ⟨w7.heap.size, 0, none⟩ 1 1 [.int .i64 x] rfl rfl (cell_one_new _ _ _) (fun x hx => by simp at hx; subst hx; rfl) (by unfold maxLen; omega) (by omega) (by have := z3.size; simp; omega) ?_; intro v' w2 hown1 hgrow _)
          go_roundw
          case rel => exact ⟨x + 1, by omega, by omega, rfl, by unfold Own; rw [hsu2.out, List.map_append, List.length_append]; exact hown1, (z3.alloc z3.size _).grown hgrow (by have := z3.size; simp; omega) (fun q hq => (World.ownsRow.lt hown q hq).1)⟩
          case measure => simp [intOf]; omega
        case false =>
          have hsu2 := Lib.hid (show filtTo (sharpQ L T) (x + 1) = filtTo (sharpQ L T) x by rw [hsu.out, hq.out]; rfl)
          go_wp2
          refine region_in (Below wr.heap.size wr) (by kernel_rfl) (by kernel_rfl) (Dr.below ⟨1, rfl⟩ _) fun hne => ?_
          have r0 : ∀ s : In (Below wr.heap.size wr), s.w.cell? ⟨w.heap.size, 0, none⟩ = some (.slice (some ⟨ab, ao, none⟩) L.length ca) := fun s => q0.out _ s.h
          repeat (first
            | (go_big_quiet_want; refine quiet_load_row 28 _ rfl w.heap.size rfl _ _ _ _ (fun w' ⟨s, hs⟩ => by rw [hs]; exact Kx.out _ (z3.trans (s.h.mono z3.size))) Try.underlying28 rfl (size_Alg _ _) ?_; simp only [Act.put, List.setIfInBounds_toArray, List.set_cons_succ, List.set_cons_zero]; go_big_quiet_on)
            | go_big_quiet_step ((first | (go_at_call 55; exact in_below _ (Nat.le_refl _) (imply_any _ _ _ _ L T _ _ _ (KR.out _ (in_trans z3 _)) (KT.out _ (in_trans z3 _)) HA.out x0 hx (by omega) (by omega))) | (go_at_call 67; exact in_same _ (join_any _ _ _ L _ _ _ (HCL.out _ (in_trans z3 _)) hs x0 hx i0' i1')))))
          refine wpQuiet_nil ?_
          intro s
          have hw2 := s.h
          obtain ⟨w7, hw2'⟩ : ∃ w7, w7 = s.w := ⟨_, rfl⟩
          rw [← hw2'] at hw2 ⊢
          clear hw2'
          replace hown := hown.below hw2
          replace z3 := z3.trans (hw2.mono z3.size)
          clear e0 e1 q0
          go_wp2
          go_roundw
          case rel => exact ⟨x + 1, by omega, by omega, rfl, by rw [hsu2.out]; exact hown, z3⟩
          case measure => simp [intOf]; omega
      · have e : x = num L := by omega
        subst e
        go_wp2
        go_ret
        rw [hv.out]
        exact RetOwn.sl ⟨_, rfl, hown.from hs1, hB.trans (z3.mono hB.size)⟩

end Go.Proofs.Ytpfnfglaokiipab
