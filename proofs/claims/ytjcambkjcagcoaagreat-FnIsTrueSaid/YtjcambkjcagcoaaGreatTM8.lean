import Derived.Test.YtjcambkjcagcoaaGreatTM5
import Derived.Test.YtjcambkjcagcoaaGreatTM4
import Derived.Test.YtjcambkjcagcoaaGreatG6
import Derived.BigQuiet
namespace Go.Proofs.YtjcambkjcagcoaaGreat
open Go.RowKit

set_option maxRecDepth 100000 in
set_option maxHeartbeats 2000000 in
/-- impl.combine -/
theorem combine_any (L : List Int) (T : List (List Int)) (ba : Nat) (s x y : Int) (w : World) (hA : AlgAt w ba L T) (hs : s = 13 ∨ s = 14 ∨ s = 15 ∨ s = 16) (hl : latB L = true) (hx : El L x) (hy : El L y) :
    Calls Tryz.prog 159 #[.pointer (some ⟨ba, 0, none⟩), .int .i64 s, .int .i64 x, .int .i64 y] w fun e w' => e = .returned (.int .i64 (cmI L T s x y)) ∧ Dr w w' := by
  obtain ⟨x0, x1⟩ := hx
  obtain ⟨y0, y1⟩ := hy
  have l6 := (lat_len hl).2
  have x6 : x < 6 := by omega
  have y6 : y < 6 := by omega
  have d0 := hA.m x0 x6 y0 y6
  have d1 := hA.j x0 x6 y0 y6
  have d2 := hA.t x0 x6 y0 y6
  have d3 := hA.i x0 x6 y0 y6
  rw [show tabM L x y = mt L x y from tabT_meet hl x0 x1 y0 y1] at d0
  rw [show tabJ L x y = jn L x y from tabT_join hl x0 x1 y0 y1] at d1
  rw [timG_in x1 y1] at d2
  rw [impG_in x1 y1] at d3
  clear hA
  rcases hs with rfl | rfl | rfl | rfl
  all_goals
    go_enter Tryz.func159, Tryz.ntmps159
    go_wp2
    (try (go_quiet (fail); go_wp2))
    go_ret
    exact ⟨rfl, by first | exact Dr.refl _ | exact ⟨_, rfl⟩⟩
set_option maxRecDepth 100000 in
set_option maxHeartbeats 4000000 in
/-- impl.value -/
theorem value_any (L : List Int) (T : List (List Int)) (ba : Nat) (N : List Int) (nb no cn : Nat) (hN3 : N.length = 3) (h : algB L T = true) (hNe : ∀ i, 0 ≤ i → i < 3 → El L (nth N i)) : ∀ (k : Nat) (t r : List Int) (w : World), tmR k t = some r → AlgAt w ba L T → Rd w (some ⟨nb, no, none⟩) N → Calls Tryz.prog 120 #[.pointer (some ⟨ba, 0, none⟩), tmV k t, .slice (some ⟨nb, no, none⟩) N.length cn] w fun e w' => e = .returned (.int .i64 (vlI L T N k t)) ∧ Below w.heap.size w w' := by
  have l6 : num L ≤ 6 := (lat_len (alg_lat h)).2
  have l6i : (L.length : Int) ≤ 6 := l6
  have nA : 3 ≤ N.length := by omega
  have nB : N.length ≤ 3 := by omega
  have HNN := Lib.hid (show N ≠ [] from fun e => by rw [e] at hN3; cases hN3)
  clear hN3
  have HA := Lib.hid h
  have HNE := Lib.hid hNe
  have HVE := Lib.hid (fun (k : Nat) (t r : List Int) (hh : tmR k t = some r) => vlI_el h hNe k t r hh)
  clear h hNe
  intro k
  induction k with
  | zero => intro t r w h; cases h
  | succ k ih =>
    intro t r w h hal hr
    cases t with
    | nil => cases h
    | cons x t =>
      have HI := Lib.hid ih
      clear ih
      cases h1 : isLf x with
      | true =>
        have HV := Lib.hid (vlI_leaf (L := L) (T := T) (N := N) (k := k) (t := t) h1)
        rw [tmV_leaf h1]
        have hlf : x = 0 ∨ x = 1 ∨ x = 2 ∨ x = 10 ∨ x = 11 := by
          have := leaf_not h1
          simp only [beq_eq_false_iff_ne] at this
          have := num_cases (.inl h1)
          omega
        clear h h1 HI
        rcases hlf with rfl | rfl | rfl | rfl | rfl
        · go_enter Tryz.func120, Tryz.ntmps120
          go_wp2_with fail
          refine upon_of (r' := .ok (.value (.tuple #[.agg #[.nilIface], .bool false])) w) (by kernel_rfl) ?_
          go_wp2_with fail
          refine upon_of (r' := .ok (.value (.tuple #[.agg #[.int .i64 0, .nilIface, .nilIface], .bool false])) w) (by kernel_rfl) ?_
          go_wp2_with fail
          refine upon_of (r' := .ok (.enter 212 #[.agg #[.int .i64 0]]) w) (by kernel_rfl) ?_
          go_wp2_with fail
          refine (leafHead_any 0 _).mono ?_
          rintro e w2 ⟨rfl, h2⟩
          go_wp2_with fail
          refine upon_of (r' := .ok (.enter 212 #[.agg #[.int .i64 0]]) w2) (by kernel_rfl) ?_
          go_wp2_with fail
          refine (leafHead_any 0 _).mono ?_
          rintro e w3 ⟨rfl, h3⟩
          have z3 := h2.trans (h3.mono h2.size)
          have c0 : w3.cell? ⟨nb, no, none⟩ = some (.int .i64 (nth N 0)) := by
            obtain ⟨b', o', e, hc⟩ := (hr.below z3) HNN.out
            simp only [Option.some.injEq, Addr.mk.injEq] at e
            have := hc 0 (by omega)
            rw [← e.1, ← e.2.1] at this
            simpa using this
          go_wp2
          go_ret
          exact ⟨by rw [HV.out]; rfl, z3⟩
        · go_enter Tryz.func120, Tryz.ntmps120
          go_wp2_with fail
          refine upon_of (r' := .ok (.value (.tuple #[.agg #[.nilIface], .bool false])) w) (by kernel_rfl) ?_
          go_wp2_with fail
          refine upon_of (r' := .ok (.value (.tuple #[.agg #[.int .i64 0, .nilIface, .nilIface], .bool false])) w) (by kernel_rfl) ?_
          go_wp2_with fail
          refine upon_of (r' := .ok (.enter 212 #[.agg #[.int .i64 1]]) w) (by kernel_rfl) ?_
          go_wp2_with fail
          refine (leafHead_any 1 _).mono ?_
          rintro e w2 ⟨rfl, h2⟩
          go_wp2_with fail
          refine upon_of (r' := .ok (.enter 212 #[.agg #[.int .i64 1]]) w2) (by kernel_rfl) ?_
          go_wp2_with fail
          refine (leafHead_any 1 _).mono ?_
          rintro e w3 ⟨rfl, h3⟩
          have z3 := h2.trans (h3.mono h2.size)
          have c0 : w3.cell? ⟨nb, no + 1, none⟩ = some (.int .i64 (nth N 1)) := by
            obtain ⟨b', o', e, hc⟩ := (hr.below z3) HNN.out
            simp only [Option.some.injEq, Addr.mk.injEq] at e
            have := hc 1 (by omega)
            rw [← e.1, ← e.2.1] at this
            simpa using this
          go_wp2
          go_ret
          exact ⟨by rw [HV.out]; rfl, z3⟩
        · go_enter Tryz.func120, Tryz.ntmps120
          go_wp2_with fail
          refine upon_of (r' := .ok (.value (.tuple #[.agg #[.nilIface], .bool false])) w) (by kernel_rfl) ?_
          go_wp2_with fail
          refine upon_of (r' := .ok (.value (.tuple #[.agg #[.int .i64 0, .nilIface, .nilIface], .bool false])) w) (by kernel_rfl) ?_
          go_wp2_with fail
          refine upon_of (r' := .ok (.enter 212 #[.agg #[.int .i64 2]]) w) (by kernel_rfl) ?_
          go_wp2_with fail
          refine (leafHead_any 2 _).mono ?_
          rintro e w2 ⟨rfl, h2⟩
          go_wp2_with fail
          refine upon_of (r' := .ok (.enter 212 #[.agg #[.int .i64 2]]) w2) (by kernel_rfl) ?_
          go_wp2_with fail
          refine (leafHead_any 2 _).mono ?_
          rintro e w3 ⟨rfl, h3⟩
          have z3 := h2.trans (h3.mono h2.size)
          have c0 : w3.cell? ⟨nb, no + 2, none⟩ = some (.int .i64 (nth N 2)) := by
            obtain ⟨b', o', e, hc⟩ := (hr.below z3) HNN.out
            simp only [Option.some.injEq, Addr.mk.injEq] at e
            have := hc 2 (by omega)
            rw [← e.1, ← e.2.1] at this
            simpa using this
          go_wp2
          go_ret
          exact ⟨by rw [HV.out]; rfl, z3⟩
        · go_enter Tryz.func120, Tryz.ntmps120
          go_wp2_with fail
          refine upon_of (r' := .ok (.value (.tuple #[.agg #[.nilIface], .bool false])) w) (by kernel_rfl) ?_
          go_wp2_with fail
          refine upon_of (r' := .ok (.value (.tuple #[.agg #[.int .i64 0, .nilIface, .nilIface], .bool false])) w) (by kernel_rfl) ?_
          go_wp2_with fail
          refine upon_of (r' := .ok (.enter 212 #[.agg #[.int .i64 10]]) w) (by kernel_rfl) ?_
          go_wp2_with fail
          refine (leafHead_any 10 _).mono ?_
          rintro e w2 ⟨rfl, h2⟩
          go_wp2
          go_ret
          exact ⟨by rw [HV.out]; rfl, h2⟩
        · go_enter Tryz.func120, Tryz.ntmps120
          go_wp2_with fail
          refine upon_of (r' := .ok (.value (.tuple #[.agg #[.nilIface], .bool false])) w) (by kernel_rfl) ?_
          go_wp2_with fail
          refine upon_of (r' := .ok (.value (.tuple #[.agg #[.int .i64 0, .nilIface, .nilIface], .bool false])) w) (by kernel_rfl) ?_
          go_wp2_with fail
          refine upon_of (r' := .ok (.enter 212 #[.agg #[.int .i64 11]]) w) (by kernel_rfl) ?_
          go_wp2_with fail
          refine (leafHead_any 11 _).mono ?_
          rintro e w2 ⟨rfl, h2⟩
          have hA2 := hal.below h2 hal.lt
          go_wp2_with (first | (refine wpList_load_mid_w rfl 61 _ rfl ba 0 rfl (latOf L) _ hA2.lat Tryz.underlying61 rfl (size_latOf L) ?_) | (go_at_call 101; refine (greatest_any L _ l6i).mono ?_; rintro e w3 ⟨rfl, h3⟩; have z3 := h2.trans (h3.mono h2.size)))
          go_ret
          exact ⟨by rw [HV.out]; rfl, z3⟩
      | false =>
        by_cases h2 : x = 12
        · subst h2
          rw [tmR_opp h1 rfl] at h
          rw [tmV_opp h1 rfl]
          have HV := Lib.hid (vlI_opp (L := L) (T := T) (N := N) (k := k) (t := t) h1 rfl)
          obtain ⟨v0, v1⟩ := HVE.out k t r h
          have HH := Lib.hid h
          obtain ⟨T1, y1, e1⟩ := tmV_if h
          have HT := Lib.hid (show ∀ w : World, AlgAt w ba L T → Rd w (some ⟨nb, no, none⟩) N → Calls Tryz.prog 120 #[.pointer (some ⟨ba, 0, none⟩), .iface T1 y1, .slice (some ⟨nb, no, none⟩) N.length cn] w fun e w' => e = .returned (.int .i64 (vlI L T N k t)) ∧ Below w.heap.size w w' from fun w ha hn => by rw [← e1]; exact HI.out t r w HH.out ha hn)
          rw [e1]
          clear h h1 e1
          go_enter Tryz.func120, Tryz.ntmps120
          go_wp2_with fail
          refine upon_of (r' := .ok (.value (.tuple #[.agg #[.iface T1 y1], .bool true])) w) (by kernel_rfl) ?_
          obtain ⟨g, hg⟩ : ∃ g, g = w.heap.size := ⟨_, rfl⟩
          obtain ⟨wb, hwb⟩ : ∃ wb, wb = w.alloc (.cells #[.iface T1 y1] 144) := ⟨_, rfl⟩
          have hbx : wb.heap[g]? = some (.cells #[.iface T1 y1] 144 (0, 0)) := by rw [hwb, hg]; exact heap_alloc_new w _
          have hB : Below w.heap.size w wb := by rw [hwb]; exact (Below.refl _ _).alloc (Nat.le_refl _) _
          have hgl := lt_of_block hbx
          have Q := Lib.hid (show ∀ wz, Below wb.heap.size wb wz → AlgAt wz ba L T ∧ Rd wz (some ⟨nb, no, none⟩) N from fun wz hz => ⟨(hal.below hB hal.lt).below hz (Nat.lt_of_lt_of_le hal.lt hB.size), (hr.below hB).below hz⟩)
          have k1 : wb.cell? ⟨g, 0, none⟩ = some (.iface T1 y1) := by rw [cell_of_row wb g 0 _ _ _ hbx]; rfl
          go_wp2_with (rw [← hwb, ← hg]; clear hwb hg)
          refine region_in (Below wb.heap.size wb) (by kernel_rfl) (by kernel_rfl) (Dr.below ⟨1, rfl⟩ _) fun hne => ?_
          have r1 : ∀ s : In (Below wb.heap.size wb), s.w.cell? ⟨g, 0, none⟩ = some (.iface T1 y1) := fun s => by rw [s.h.cell (by exact hgl)]; exact k1
          repeat (first
            | (go_big_quiet_want; refine quiet_load_row 63 _ rfl ba rfl _ _ _ _ (fun w' ⟨s, hs⟩ => by rw [hs]; exact (Q.out _ s.h).1) Tryz.underlying63 rfl (size_alg _ _ _ _ _ _) ?_; simp only [Act.put, List.setIfInBounds_toArray, List.set_cons_succ, List.set_cons_zero]; go_big_quiet_on)
            | go_big_quiet_step ((first | (go_at_call 120; exact in_below _ (Nat.le_refl _) (HT.out _ (Q.out _ (In.h _)).1 (Q.out _ (In.h _)).2)) | (go_at_call 81; exact in_below _ (Nat.le_refl _) (not_any L T _ _ HA.out v0 v1)))))
          refine wpQuiet_nil ?_
          intro s
          have hs7 := s.h
          obtain ⟨w7, hw7⟩ : ∃ x : World, x = s.w := ⟨_, rfl⟩
          rw [← hw7] at hs7 ⊢
          clear hw7 r1
          go_wp2
          go_ret
          exact ⟨by rw [HV.out]; rfl, hB.trans (hs7.mono hB.size)⟩
        · cases h3 : isSg x with
          | false => rw [tmR_no h1 h2 h3] at h; cases h
          | true =>
            rw [tmR_sign h1 h2 h3] at h
            cases h4 : tmR k t with
            | none => rw [h4] at h; cases h
            | some q =>
              rw [h4] at h
              have HV := Lib.hid (vlI_sign (L := L) (T := T) (N := N) h1 h2 h4)
              have hsg : x = 13 ∨ x = 14 ∨ x = 15 ∨ x = 16 := by
                have := num_cases (.inr (.inr h3))
                unfold isSg at h3
                rw [Bool.and_eq_true, decide_eq_true_eq, decide_eq_true_eq] at h3
                omega
              have hv1 := HVE.out k t q h4
              have hv2 := HVE.out k q r h
              have HH := Lib.hid h4
              have HQ := Lib.hid h
              rw [tmV_sign h1 h2, h4]
              show Calls Tryz.prog 120 #[.pointer (some ⟨ba, 0, none⟩), .iface 146 (.agg #[.int .i64 x, tmV k t, tmV k q]), .slice (some ⟨nb, no, none⟩) N.length cn] w _
              obtain ⟨T1, y1, e1⟩ := tmV_if h4
              obtain ⟨T2, y2, e2⟩ := tmV_if h
              have HT1 := Lib.hid (show ∀ w : World, AlgAt w ba L T → Rd w (some ⟨nb, no, none⟩) N → Calls Tryz.prog 120 #[.pointer (some ⟨ba, 0, none⟩), .iface T1 y1, .slice (some ⟨nb, no, none⟩) N.length cn] w fun e w' => e = .returned (.int .i64 (vlI L T N k t)) ∧ Below w.heap.size w w' from fun w ha hn => by rw [← e1]; exact HI.out t q w HH.out ha hn)
              have HT2 := Lib.hid (show ∀ w : World, AlgAt w ba L T → Rd w (some ⟨nb, no, none⟩) N → Calls Tryz.prog 120 #[.pointer (some ⟨ba, 0, none⟩), .iface T2 y2, .slice (some ⟨nb, no, none⟩) N.length cn] w fun e w' => e = .returned (.int .i64 (vlI L T N k q)) ∧ Below w.heap.size w w' from fun w ha hn => by rw [← e2]; exact HI.out q r w HQ.out ha hn)
              have HC := Lib.hid (show ∀ w : World, AlgAt w ba L T → Calls Tryz.prog 159 #[.pointer (some ⟨ba, 0, none⟩), .int .i64 x, .int .i64 (vlI L T N k t), .int .i64 (vlI L T N k q)] w fun e w' => e = .returned (.int .i64 (cmI L T x (vlI L T N k t) (vlI L T N k q))) ∧ Below w.heap.size w w' from fun w ha => (combine_any L T ba x _ _ w ha hsg (alg_lat HA.out) hv1 hv2).mono fun _ _ h => ⟨h.1, h.2.below _⟩)
              rw [e1, e2]
              clear h h1 h2 h3 h4 e1 e2 hv1 hv2 hsg
              go_enter Tryz.func120, Tryz.ntmps120
              go_wp2_with fail
              refine upon_of (r' := .ok (.value (.tuple #[.agg #[.nilIface], .bool false])) w) (by kernel_rfl) ?_
              go_wp2_with fail
              refine upon_of (r' := .ok (.value (.tuple #[.agg #[.int .i64 x, .iface T1 y1, .iface T2 y2], .bool true])) w) (by kernel_rfl) ?_
              obtain ⟨g, hg⟩ : ∃ g, g = w.heap.size := ⟨_, rfl⟩
              obtain ⟨wb, hwb⟩ : ∃ wb, wb = w.alloc (.cells #[.int .i64 x, .iface T1 y1, .iface T2 y2] 146) := ⟨_, rfl⟩
              have hbx : wb.heap[g]? = some (.cells #[.int .i64 x, .iface T1 y1, .iface T2 y2] 146 (0, 0)) := by rw [hwb, hg]; exact heap_alloc_new w _
              have hB : Below w.heap.size w wb := by rw [hwb]; exact (Below.refl _ _).alloc (Nat.le_refl _) _
              have hgl := lt_of_block hbx
              have Q := Lib.hid (show ∀ wz, Below wb.heap.size wb wz → AlgAt wz ba L T ∧ Rd wz (some ⟨nb, no, none⟩) N from fun wz hz => ⟨(hal.below hB hal.lt).below hz (Nat.lt_of_lt_of_le hal.lt hB.size), (hr.below hB).below hz⟩)
              have k0 : wb.cell? ⟨g, 0, none⟩ = some (.int .i64 x) := by rw [cell_of_row wb g 0 _ _ _ hbx]; rfl
              have k1 : wb.cell? ⟨g, 1, none⟩ = some (.iface T1 y1) := by rw [cell_of_row wb g 1 _ _ _ hbx]; rfl
              have k2 : wb.cell? ⟨g, 2, none⟩ = some (.iface T2 y2) := by rw [cell_of_row wb g 2 _ _ _ hbx]; rfl
              go_wp2_with (rw [← hwb, ← hg]; clear hwb hg)
              refine region_in (Below wb.heap.size wb) (by kernel_rfl) (by kernel_rfl) (Dr.below ⟨1, rfl⟩ _) fun hne => ?_
              have r0 : ∀ s : In (Below wb.heap.size wb), s.w.cell? ⟨g, 0, none⟩ = some (.int .i64 x) := fun s => by rw [s.h.cell (by exact hgl)]; exact k0
              have r1 : ∀ s : In (Below wb.heap.size wb), s.w.cell? ⟨g, 1, none⟩ = some (.iface T1 y1) := fun s => by rw [s.h.cell (by exact hgl)]; exact k1
              have r2 : ∀ s : In (Below wb.heap.size wb), s.w.cell? ⟨g, 2, none⟩ = some (.iface T2 y2) := fun s => by rw [s.h.cell (by exact hgl)]; exact k2
              repeat (go_big_quiet_step ((first | (go_at_call_of 120 (Value.iface T1 y1); exact in_below _ (Nat.le_refl _) (HT1.out _ (Q.out _ (In.h _)).1 (Q.out _ (In.h _)).2)) | (go_at_call_of 120 (Value.iface T2 y2); exact in_below _ (Nat.le_refl _) (HT2.out _ (Q.out _ (In.h _)).1 (Q.out _ (In.h _)).2)) | (go_at_call 159; exact in_below _ (Nat.le_refl _) (HC.out _ (Q.out _ (In.h _)).1)))))
              refine wpQuiet_nil ?_
              intro s
              have hs7 := s.h
              obtain ⟨w7, hw7⟩ : ∃ x : World, x = s.w := ⟨_, rfl⟩
              rw [← hw7] at hs7 ⊢
              clear hw7 r0 r1 r2
              go_wp2
              go_ret
              exact ⟨by rw [HV.out]; rfl, hB.trans (hs7.mono hB.size)⟩
end Go.Proofs.YtjcambkjcagcoaaGreat
