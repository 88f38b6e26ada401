import Derived.Test.YthjbfdoclifhoaaTM3
import Derived.BigQuiet
import Derived.Deep.RegionWith
import Derived.Test.YthjbfdoclifhoaaI5
import Derived.Test.YthjbfdoclifhoaaTM5
import Derived.Test.YthjbfdoclifhoaaG6
import Derived.Test.YthjbfdoclifhoaaH10
namespace Go.Proofs.Ythjbfdoclifhoaa
open Go.RowKit

theorem num_cases {x : Int} (h : isLf x = true ∨ x = 12 ∨ isSg x = true) : x = 0 ∨ x = 1 ∨ x = 2 ∨ x = 10 ∨ x = 11 ∨ x = 12 ∨ x = 13 ∨ x = 14 ∨ x = 15 ∨ x = 16 := by
  unfold isLf isNm isSg at h
  rw [Bool.or_eq_true, Bool.or_eq_true, Bool.and_eq_true, Bool.and_eq_true, decide_eq_true_eq, decide_eq_true_eq, decide_eq_true_eq, decide_eq_true_eq, beq_iff_eq, beq_iff_eq] at h
  omega
theorem str_add {P : Program} (a b : ByteArray) (w : World) (h : a.size + b.size ≤ 9223372036854775807) : (Op.stringOp .add a b).run P w = .ok (.string (a ++ b)) w := by
  have : ¬ ((9223372036854775807 : Int) < (a.size : Int) + (b.size : Int)) := by omega
  simp [Op.stringOp, this]
theorem upon_of {P : Program} {o : Oper} {a : Act} {K : Act → World → Prop} {Q : Exit → Act → World → Prop} {r r' : _} (h : r = r') (h' : Oper.upon P o a K Q r') : Oper.upon P o a K Q r := h ▸ h'
set_option maxHeartbeats 400000 in
theorem leafHead_any (x : Int) (w : World) : Calls Try.prog 116 #[.agg #[.int .i64 x]] w fun e w' => e = .returned (.int .i64 x) ∧ Below w.heap.size w w' := by
  go_enter Try.func116, Try.ntmps116
  go_wp2
  go_ret
  exact ⟨rfl, by first | exact Below.refl _ _ | exact (Below.refl _ _).alloc (Nat.le_refl _) _⟩
set_option maxHeartbeats 400000 in
theorem oppHead_any (y : Value) (w : World) : Calls Try.prog 114 #[.agg #[y]] w fun e w' => e = .returned (.int .i64 12) ∧ Below w.heap.size w w' := by
  go_enter Try.func114, Try.ntmps114
  go_wp2
  go_ret
  exact ⟨rfl, by first | exact Below.refl _ _ | exact (Below.refl _ _).alloc (Nat.le_refl _) _⟩
set_option maxHeartbeats 400000 in
theorem comHead_any (x : Int) (y z : Value) (w : World) : Calls Try.prog 115 #[.agg #[.int .i64 x, y, z]] w fun e w' => e = .returned (.int .i64 x) ∧ Below w.heap.size w w' := by
  go_enter Try.func115, Try.ntmps115
  go_wp2
  go_ret
  exact ⟨rfl, by first | exact Below.refl _ _ | exact (Below.refl _ _).alloc (Nat.le_refl _) _⟩
theorem tmV_if : ∀ {k : Nat} {t r : List Int}, tmR k t = some r → ∃ T y, tmV k t = .iface T y
  | 0, _, _, h => by cases h
  | _ + 1, [], _, h => by cases h
  | k + 1, x :: t, r, _ => by
    cases h1 : isLf x with
    | true => exact ⟨_, _, tmV_leaf h1⟩
    | false =>
      by_cases h2 : x = 12
      · exact ⟨_, _, tmV_opp h1 h2⟩
      · exact ⟨_, _, tmV_sign h1 h2⟩
/-- the text of numbers -/
def ttI (t : List Int) : ByteArray := if vtB t then txI t.length t else ⟨#[]⟩
theorem vtB_parts {t : List Int} (h : vtB t = true) : t.length ≤ 15 ∧ tmR t.length t = some [] := by
  unfold vtB at h
  rw [Bool.and_eq_true, decide_eq_true_eq, beq_iff_eq] at h
  exact h
end Go.Proofs.Ythjbfdoclifhoaa

namespace Go.Proofs.Ythjbfdoclifhoaa
open Go.RowKit

set_option maxRecDepth 100000 in
set_option maxHeartbeats 2000000 in
/-- impl.combine -/
theorem combine_any (L : List Int) (T : List (List Int)) (ba : Nat) (s x y : Int) (w : World) (hA : AlgAt w ba L T) (hs : s = 13 ∨ s = 14 ∨ s = 15 ∨ s = 16) (hl : latB L = true) (hx : El L x) (hy : El L y) :
    Calls Try.prog 85 #[.pointer (some ⟨ba, 0, none⟩), .int .i64 s, .int .i64 x, .int .i64 y] w fun e w' => e = .returned (.int .i64 (cmI L T s x y)) ∧ Dr w w' := by
  obtain ⟨x0, x1⟩ := hx
  obtain ⟨y0, y1⟩ := hy
  have l6 := (lat_len hl).2
  have x6 : x < 6 := by omega
  have y6 : y < 6 := by omega
  have d0 := hA.m x0 x6 y0 y6
  have d1 := hA.j x0 x6 y0 y6
  have d2 := hA.t x0 x6 y0 y6
  have d3 := hA.i x0 x6 y0 y6
  rw [show tabM L x y = mt L x y from tabT_meet hl x0 x1 y0 y1] at d0
  rw [show tabJ L x y = jn L x y from tabT_join hl x0 x1 y0 y1] at d1
  rw [timG_in x1 y1] at d2
  rw [impG_in x1 y1] at d3
  clear hA
  rcases hs with rfl | rfl | rfl | rfl
  all_goals
    go_enter Try.func85, Try.ntmps85
    go_wp2
    (try (go_quiet (fail); go_wp2))
    go_ret
    exact ⟨rfl, by first | exact Dr.refl _ | exact ⟨_, rfl⟩⟩
set_option maxRecDepth 100000 in
set_option maxHeartbeats 4000000 in
/-- impl.value -/
theorem value_any (L : List Int) (T : List (List Int)) (ba : Nat) (N : List Int) (nb no cn : Nat) (hN3 : N.length = 3) (h : algB L T = true) (hNe : ∀ i, 0 ≤ i → i < 3 → El L (nth N i)) : ∀ (k : Nat) (t r : List Int) (w : World), tmR k t = some r → AlgAt w ba L T → Rd w (some ⟨nb, no, none⟩) N → Calls Try.prog 59 #[.pointer (some ⟨ba, 0, none⟩), tmV k t, .slice (some ⟨nb, no, none⟩) N.length cn] w fun e w' => e = .returned (.int .i64 (vlI L T N k t)) ∧ Below w.heap.size w w' := by
  have l6 : num L ≤ 6 := (lat_len (alg_lat h)).2
  have l6i : (L.length : Int) ≤ 6 := l6
  have nA : 3 ≤ N.length := by omega
  have nB : N.length ≤ 3 := by omega
  have HNN := Lib.hid (show N ≠ [] from fun e => by rw [e] at hN3; cases hN3)
  clear hN3
  have HA := Lib.hid h
  have HNE := Lib.hid hNe
  have HVE := Lib.hid (fun (k : Nat) (t r : List Int) (hh : tmR k t = some r) => vlI_el h hNe k t r hh)
  clear h hNe
  intro k
  induction k with
  | zero => intro t r w h; cases h
  | succ k ih =>
    intro t r w h hal hr
    cases t with
    | nil => cases h
    | cons x t =>
      have HI := Lib.hid ih
      clear ih
      cases h1 : isLf x with
      | true =>
        have HV := Lib.hid (vlI_leaf (L := L) (T := T) (N := N) (k := k) (t := t) h1)
        rw [tmV_leaf h1]
        have hlf : x = 0 ∨ x = 1 ∨ x = 2 ∨ x = 10 ∨ x = 11 := by
          have := leaf_not h1
          simp only [beq_eq_false_iff_ne] at this
          have := num_cases (.inl h1)
          omega
        clear h h1 HI
        rcases hlf with rfl | rfl | rfl | rfl | rfl
        · go_enter Try.func59, Try.ntmps59
          go_wp2_with fail
          refine upon_of (r' := .ok (.value (.tuple #[.agg #[.nilIface], .bool false])) w) (by kernel_rfl) ?_
          go_wp2_with fail
          refine upon_of (r' := .ok (.value (.tuple #[.agg #[.int .i64 0, .nilIface, .nilIface], .bool false])) w) (by kernel_rfl) ?_
          go_wp2_with fail
          refine upon_of (r' := .ok (.enter 116 #[.agg #[.int .i64 0]]) w) (by kernel_rfl) ?_
          go_wp2_with fail
          refine (leafHead_any 0 _).mono ?_
          rintro e w2 ⟨rfl, h2⟩
          go_wp2_with fail
          refine upon_of (r' := .ok (.enter 116 #[.agg #[.int .i64 0]]) w2) (by kernel_rfl) ?_
          go_wp2_with fail
          refine (leafHead_any 0 _).mono ?_
          rintro e w3 ⟨rfl, h3⟩
          have z3 := h2.trans (h3.mono h2.size)
          have c0 : w3.cell? ⟨nb, no, none⟩ = some (.int .i64 (nth N 0)) := by
            obtain ⟨b', o', e, hc⟩ := (hr.below z3) HNN.out
            simp only [Option.some.injEq, Addr.mk.injEq] at e
            have := hc 0 (by omega)
            rw [← e.1, ← e.2.1] at this
            simpa using this
          go_wp2
          go_ret
          exact ⟨by rw [HV.out]; rfl, z3⟩
        · go_enter Try.func59, Try.ntmps59
          go_wp2_with fail
          refine upon_of (r' := .ok (.value (.tuple #[.agg #[.nilIface], .bool false])) w) (by kernel_rfl) ?_
          go_wp2_with fail
          refine upon_of (r' := .ok (.value (.tuple #[.agg #[.int .i64 0, .nilIface, .nilIface], .bool false])) w) (by kernel_rfl) ?_
          go_wp2_with fail
          refine upon_of (r' := .ok (.enter 116 #[.agg #[.int .i64 1]]) w) (by kernel_rfl) ?_
          go_wp2_with fail
          refine (leafHead_any 1 _).mono ?_
          rintro e w2 ⟨rfl, h2⟩
          go_wp2_with fail
          refine upon_of (r' := .ok (.enter 116 #[.agg #[.int .i64 1]]) w2) (by kernel_rfl) ?_
          go_wp2_with fail
          refine (leafHead_any 1 _).mono ?_
          rintro e w3 ⟨rfl, h3⟩
          have z3 := h2.trans (h3.mono h2.size)
          have c0 : w3.cell? ⟨nb, no + 1, none⟩ = some (.int .i64 (nth N 1)) := by
            obtain ⟨b', o', e, hc⟩ := (hr.below z3) HNN.out
            simp only [Option.some.injEq, Addr.mk.injEq] at e
            have := hc 1 (by omega)
            rw [← e.1, ← e.2.1] at this
            simpa using this
          go_wp2
          go_ret
          exact ⟨by rw [HV.out]; rfl, z3⟩
        · go_enter Try.func59, Try.ntmps59
          go_wp2_with fail
          refine upon_of (r' := .ok (.value (.tuple #[.agg #[.nilIface], .bool false])) w) (by kernel_rfl) ?_
          go_wp2_with fail
          refine upon_of (r' := .ok (.value (.tuple #[.agg #[.int .i64 0, .nilIface, .nilIface], .bool false])) w) (by kernel_rfl) ?_
          go_wp2_with fail
          refine upon_of (r' := .ok (.enter 116 #[.agg #[.int .i64 2]]) w) (by kernel_rfl) ?_
          go_wp2_with fail
          refine (leafHead_any 2 _).mono ?_
          rintro e w2 ⟨rfl, h2⟩
          go_wp2_with fail
          refine upon_of (r' := .ok (.enter 116 #[.agg #[.int .i64 2]]) w2) (by kernel_rfl) ?_
          go_wp2_with fail
          refine (leafHead_any 2 _).mono ?_
          rintro e w3 ⟨rfl, h3⟩
          have z3 := h2.trans (h3.mono h2.size)
          have c0 : w3.cell? ⟨nb, no + 2, none⟩ = some (.int .i64 (nth N 2)) := by
            obtain ⟨b', o', e, hc⟩ := (hr.below z3) HNN.out
            simp only [Option.some.injEq, Addr.mk.injEq] at e
            have := hc 2 (by omega)
            rw [← e.1, ← e.2.1] at this
            simpa using this
          go_wp2
          go_ret
          exact ⟨by rw [HV.out]; rfl, z3⟩
        · go_enter Try.func59, Try.ntmps59
          go_wp2_with fail
          refine upon_of (r' := .ok (.value (.tuple #[.agg #[.nilIface], .bool false])) w) (by kernel_rfl) ?_
          go_wp2_with fail
          refine upon_of (r' := .ok (.value (.tuple #[.agg #[.int .i64 0, .nilIface, .nilIface], .bool false])) w) (by kernel_rfl) ?_
          go_wp2_with fail
          refine upon_of (r' := .ok (.enter 116 #[.agg #[.int .i64 10]]) w) (by kernel_rfl) ?_
          go_wp2_with fail
          refine (leafHead_any 10 _).mono ?_
          rintro e w2 ⟨rfl, h2⟩
          go_wp2
          go_ret
          exact ⟨by rw [HV.out]; rfl, h2⟩
        · go_enter Try.func59, Try.ntmps59
          go_wp2_with fail
          refine upon_of (r' := .ok (.value (.tuple #[.agg #[.nilIface], .bool false])) w) (by kernel_rfl) ?_
          go_wp2_with fail
          refine upon_of (r' := .ok (.value (.tuple #[.agg #[.int .i64 0, .nilIface, .nilIface], .bool false])) w) (by kernel_rfl) ?_
          go_wp2_with fail
          refine upon_of (r' := .ok (.enter 116 #[.agg #[.int .i64 11]]) w) (by kernel_rfl) ?_
          go_wp2_with fail
          refine (leafHead_any 11 _).mono ?_
          rintro e w2 ⟨rfl, h2⟩
          have hA2 := hal.below h2 hal.lt
          go_wp2_with (first | (refine wpList_load_mid_w rfl 56 _ rfl ba 0 rfl (latOf L) _ hA2.lat Try.underlying56 rfl (size_latOf L) ?_) | (go_at_call 29; refine (greatest_any L _ l6i).mono ?_; rintro e w3 ⟨rfl, h3⟩; have z3 := h2.trans (h3.mono h2.size)))
          go_ret
          exact ⟨by rw [HV.out]; rfl, z3⟩
      | false =>
        by_cases h2 : x = 12
        · subst h2
          rw [tmR_opp h1 rfl] at h
          rw [tmV_opp h1 rfl]
          have HV := Lib.hid (vlI_opp (L := L) (T := T) (N := N) (k := k) (t := t) h1 rfl)
          obtain ⟨v0, v1⟩ := HVE.out k t r h
          have HH := Lib.hid h
          obtain ⟨T1, y1, e1⟩ := tmV_if h
          have HT := Lib.hid (show ∀ w : World, AlgAt w ba L T → Rd w (some ⟨nb, no, none⟩) N → Calls Try.prog 59 #[.pointer (some ⟨ba, 0, none⟩), .iface T1 y1, .slice (some ⟨nb, no, none⟩) N.length cn] w fun e w' => e = .returned (.int .i64 (vlI L T N k t)) ∧ Below w.heap.size w w' from fun w ha hn => by rw [← e1]; exact HI.out t r w HH.out ha hn)
          rw [e1]
          clear h h1 e1
          go_enter Try.func59, Try.ntmps59
          go_wp2_with fail
          refine upon_of (r' := .ok (.value (.tuple #[.agg #[.iface T1 y1], .bool true])) w) (by kernel_rfl) ?_
          obtain ⟨g, hg⟩ : ∃ g, g = w.heap.size := ⟨_, rfl⟩
          obtain ⟨wb, hwb⟩ : ∃ wb, wb = w.alloc (.cells #[.iface T1 y1] 123) := ⟨_, rfl⟩
          have hbx : wb.heap[g]? = some (.cells #[.iface T1 y1] 123 (0, 0)) := by rw [hwb, hg]; exact heap_alloc_new w _
          have hB : Below w.heap.size w wb := by rw [hwb]; exact (Below.refl _ _).alloc (Nat.le_refl _) _
          have hgl := lt_of_block hbx
          have Q := Lib.hid (show ∀ wz, Below wb.heap.size wb wz → AlgAt wz ba L T ∧ Rd wz (some ⟨nb, no, none⟩) N from fun wz hz => ⟨(hal.below hB hal.lt).below hz (Nat.lt_of_lt_of_le hal.lt hB.size), (hr.below hB).below hz⟩)
          have k1 : wb.cell? ⟨g, 0, none⟩ = some (.iface T1 y1) := by rw [cell_of_row wb g 0 _ _ _ hbx]; rfl
          go_wp2_with (rw [← hwb, ← hg]; clear hwb hg)
          refine region_in (Below wb.heap.size wb) (by kernel_rfl) (by kernel_rfl) (Dr.below ⟨1, rfl⟩ _) fun hne => ?_
          have r1 : ∀ s : In (Below wb.heap.size wb), s.w.cell? ⟨g, 0, none⟩ = some (.iface T1 y1) := fun s => by rw [s.h.cell (by exact hgl)]; exact k1
          repeat (first
            | (go_big_quiet_want; refine quiet_load_row 58 _ rfl ba rfl _ _ _ _ (fun w' ⟨s, hs⟩ => by rw [hs]; exact (Q.out _ s.h).1) Try.underlying58 rfl (size_alg _ _ _ _ _ _) ?_; simp only [Act.put, List.setIfInBounds_toArray, List.set_cons_succ, List.set_cons_zero]; go_big_quiet_on)
            | go_big_quiet_step ((first | (go_at_call 59; exact in_below _ (Nat.le_refl _) (HT.out _ (Q.out _ (In.h _)).1 (Q.out _ (In.h _)).2)) | (go_at_call 63; exact in_below _ (Nat.le_refl _) (not_any L T _ _ HA.out v0 v1)))))
          refine wpQuiet_nil ?_
          intro s
          have hs7 := s.h
          obtain ⟨w7, hw7⟩ : ∃ x : World, x = s.w := ⟨_, rfl⟩
          rw [← hw7] at hs7 ⊢
          clear hw7 r1
          go_wp2
          go_ret
          exact ⟨by rw [HV.out]; rfl, hB.trans (hs7.mono hB.size)⟩
        · cases h3 : isSg x with
          | false => rw [tmR_no h1 h2 h3] at h; cases h
          | true =>
            rw [tmR_sign h1 h2 h3] at h
            cases h4 : tmR k t with
            | none => rw [h4] at h; cases h
            | some q =>
              rw [h4] at h
              have HV := Lib.hid (vlI_sign (L := L) (T := T) (N := N) h1 h2 h4)
              have hsg : x = 13 ∨ x = 14 ∨ x = 15 ∨ x = 16 := by
                have := num_cases (.inr (.inr h3))
                unfold isSg at h3
                rw [Bool.and_eq_true, decide_eq_true_eq, decide_eq_true_eq] at h3
                omega
              have hv1 := HVE.out k t q h4
              have hv2 := HVE.out k q r h
              have HH := Lib.hid h4
              have HQ := Lib.hid h
              rw [tmV_sign h1 h2, h4]
              show Calls Try.prog 59 #[.pointer (some ⟨ba, 0, none⟩), .iface 125 (.agg #[.int .i64 x, tmV k t, tmV k q]), .slice (some ⟨nb, no, none⟩) N.length cn] w _
              obtain ⟨T1, y1, e1⟩ := tmV_if h4
              obtain ⟨T2, y2, e2⟩ := tmV_if h
              have HT1 := Lib.hid (show ∀ w : World, AlgAt w ba L T → Rd w (some ⟨nb, no, none⟩) N → Calls Try.prog 59 #[.pointer (some ⟨ba, 0, none⟩), .iface T1 y1, .slice (some ⟨nb, no, none⟩) N.length cn] w fun e w' => e = .returned (.int .i64 (vlI L T N k t)) ∧ Below w.heap.size w w' from fun w ha hn => by rw [← e1]; exact HI.out t q w HH.out ha hn)
              have HT2 := Lib.hid (show ∀ w : World, AlgAt w ba L T → Rd w (some ⟨nb, no, none⟩) N → Calls Try.prog 59 #[.pointer (some ⟨ba, 0, none⟩), .iface T2 y2, .slice (some ⟨nb, no, none⟩) N.length cn] w fun e w' => e = .returned (.int .i64 (vlI L T N k q)) ∧ Below w.heap.size w w' from fun w ha hn => by rw [← e2]; exact HI.out q r w HQ.out ha hn)
              have HC := Lib.hid (show ∀ w : World, AlgAt w ba L T → Calls Try.prog 85 #[.pointer (some ⟨ba, 0, none⟩), .int .i64 x, .int .i64 (vlI L T N k t), .int .i64 (vlI L T N k q)] w fun e w' => e = .returned (.int .i64 (cmI L T x (vlI L T N k t) (vlI L T N k q))) ∧ Below w.heap.size w w' from fun w ha => (combine_any L T ba x _ _ w ha hsg (alg_lat HA.out) hv1 hv2).mono fun _ _ h => ⟨h.1, h.2.below _⟩)
              rw [e1, e2]
              clear h h1 h2 h3 h4 e1 e2 hv1 hv2 hsg
              go_enter Try.func59, Try.ntmps59
              go_wp2_with fail
              refine upon_of (r' := .ok (.value (.tuple #[.agg #[.nilIface], .bool false])) w) (by kernel_rfl) ?_
              go_wp2_with fail
              refine upon_of (r' := .ok (.value (.tuple #[.agg #[.int .i64 x, .iface T1 y1, .iface T2 y2], .bool true])) w) (by kernel_rfl) ?_
              obtain ⟨g, hg⟩ : ∃ g, g = w.heap.size := ⟨_, rfl⟩
              obtain ⟨wb, hwb⟩ : ∃ wb, wb = w.alloc (.cells #[.int .i64 x, .iface T1 y1, .iface T2 y2] 125) := ⟨_, rfl⟩
              have hbx : wb.heap[g]? = some (.cells #[.int .i64 x, .iface T1 y1, .iface T2 y2] 125 (0, 0)) := by rw [hwb, hg]; exact heap_alloc_new w _
              have hB : Below w.heap.size w wb := by rw [hwb]; exact (Below.refl _ _).alloc (Nat.le_refl _) _
              have hgl := lt_of_block hbx
              have Q := Lib.hid (show ∀ wz, Below wb.heap.size wb wz → AlgAt wz ba L T ∧ Rd wz (some ⟨nb, no, none⟩) N from fun wz hz => ⟨(hal.below hB hal.lt).below hz (Nat.lt_of_lt_of_le hal.lt hB.size), (hr.below hB).below hz⟩)
              have k0 : wb.cell? ⟨g, 0, none⟩ = some (.int .i64 x) := by rw [cell_of_row wb g 0 _ _ _ hbx]; rfl
              have k1 : wb.cell? ⟨g, 1, none⟩ = some (.iface T1 y1) := by rw [cell_of_row wb g 1 _ _ _ hbx]; rfl
              have k2 : wb.cell? ⟨g, 2, none⟩ = some (.iface T2 y2) := by rw [cell_of_row wb g 2 _ _ _ hbx]; rfl
              go_wp2_with (rw [← hwb, ← hg]; clear hwb hg)
              refine region_in (Below wb.heap.size wb) (by kernel_rfl) (by kernel_rfl) (Dr.below ⟨1, rfl⟩ _) fun hne => ?_
              have r0 : ∀ s : In (Below wb.heap.size wb), s.w.cell? ⟨g, 0, none⟩ = some (.int .i64 x) := fun s => by rw [s.h.cell (by exact hgl)]; exact k0
              have r1 : ∀ s : In (Below wb.heap.size wb), s.w.cell? ⟨g, 1, none⟩ = some (.iface T1 y1) := fun s => by rw [s.h.cell (by exact hgl)]; exact k1
              have r2 : ∀ s : In (Below wb.heap.size wb), s.w.cell? ⟨g, 2, none⟩ = some (.iface T2 y2) := fun s => by rw [s.h.cell (by exact hgl)]; exact k2
              repeat (go_big_quiet_step ((first | (go_at_call_of 59 (Value.iface T1 y1); exact in_below _ (Nat.le_refl _) (HT1.out _ (Q.out _ (In.h _)).1 (Q.out _ (In.h _)).2)) | (go_at_call_of 59 (Value.iface T2 y2); exact in_below _ (Nat.le_refl _) (HT2.out _ (Q.out _ (In.h _)).1 (Q.out _ (In.h _)).2)) | (go_at_call 85; exact in_below _ (Nat.le_refl _) (HC.out _ (Q.out _ (In.h _)).1)))))
              refine wpQuiet_nil ?_
              intro s
              have hs7 := s.h
              obtain ⟨w7, hw7⟩ : ∃ x : World, x = s.w := ⟨_, rfl⟩
              rw [← hw7] at hs7 ⊢
              clear hw7 r0 r1 r2
              go_wp2
              go_ret
              exact ⟨by rw [HV.out]; rfl, hB.trans (hs7.mono hB.size)⟩
end Go.Proofs.Ythjbfdoclifhoaa

namespace Go.Proofs.Ythjbfdoclifhoaa
open Go.RowKit

theorem in_transT {w1 wr : World} (z : Below w1.heap.size w1 wr) (s : In (Below wr.heap.size wr)) : Below w1.heap.size w1 s.w := z.trans (s.h.mono z.size)
theorem ret_toT {f : FuncId} {args : Array Value} {w : World} {v v' : Value} {n : Nat} (h : Calls Try.prog f args w fun e w' => e = .returned v ∧ Below n w w') (e : v = v') : Calls Try.prog f args w fun e w' => e = .returned v' ∧ Below n w w' := by rw [← e]; exact h
end Go.Proofs.Ythjbfdoclifhoaa

namespace Go.Proofs.Ythjbfdoclifhoaa
open Go.RowKit
set_option linter.unusedVariables false

def nmR (L N : List Int) (x : Int) : Bool := decide (0 ≤ nth N x) && decide (nth N x ≤ num L - 1)
/-- elements are given to all names -/
def nmB (L N : List Int) : Bool := allI (num N) (nmR L N) && decide ((N.length : Int) = 3)
/-- the value of numbers -/
def vofI (L : List Int) (T : List (List Int)) (t N : List Int) : Int := if algB L T && (vtB t && nmB L N) then vlI L T N t.length t else -1
theorem nmB_parts {L N : List Int} (h : nmB L N = true) : N.length = 3 ∧ ∀ i, 0 ≤ i → i < 3 → El L (nth N i) := by
  unfold nmB at h
  rw [Bool.and_eq_true, decide_eq_true_eq, allI_iff] at h
  refine ⟨by omega, fun i i0 i1 => ?_⟩
  have := h.1 i i0 (by show i < (N.length : Int); omega)
  unfold nmR at this
  rw [Bool.and_eq_true, decide_eq_true_eq, decide_eq_true_eq] at this
  exact ⟨this.1, by omega⟩
theorem rd_some {w : World} {a : Option Addr} {L : List Int} (h : Rd w a L) (hn : L ≠ []) : ∃ b o, a = some ⟨b, o, none⟩ := by
  obtain ⟨b, o, e, _⟩ := h hn
  exact ⟨b, o, e⟩
theorem rdT_some {w : World} {b : Option Addr} {T : List (List Int)} {L : List Int} (h : RdT w b T) (ha : algB L T = true) : ∃ b' o, b = some ⟨b', o, none⟩ := by
  obtain ⟨B, off, e, _⟩ := tab_of h (alg_shape ha) (lat_len (alg_lat ha)).1
  exact ⟨B, off, e⟩
end Go.Proofs.Ythjbfdoclifhoaa

namespace Go.Proofs.Ythjbfdoclifhoaa
open Go.RowKit
set_option linter.unusedVariables false

theorem results_alg_tmp2 {fn : Func} {p u u' : Tmp} (h : fn.results = #[.cell p 58, .tmp u, .tmp u']) (tmps : Array Value) (w : World) (g : Nat) (hp : tmps.getD p undef = .pointer (some ⟨g, 0, none⟩))
    (arr : Array Value) {v v' : Value} (hz : arr.size = 181) (hg : w.heap[g]? = some (.cells arr 58 (0, 0))) (hu : tmps.getD u undef = v) (hu2 : tmps.getD u' undef = v') :
    (results fn tmps).run Try.prog w = .ok (.tuple #[.agg arr, v, v']) w := by
  have hp' : tmps[p]?.getD undef = .pointer (some ⟨g, 0, none⟩) := by simpa using hp
  have hu' : tmps[u]?.getD undef = v := by simpa using hu
  have hu2' : tmps[u']?.getD undef = v' := by simpa using hu2
  have hl := run_loadVar_row (P := Try.prog) w g _ 58 _ _ _ hg Try.underlying58 rfl (by rw [hz]; exact info_alg)
  simp [results, h, hp', hu', hu2', asAddr, hl]
theorem info_node : (Try.prog.info? 76).map (fun i => (i.zero, i.size, i.bytes)) = some (some .nilIface, 1, 16) := by kernel_rfl
theorem run_make_nodes (n : Nat) (hn : n ≤ 1073741824) (w : World) :
    (Instr.makeSlice 70 (.int .i64 n) (.int .i64 n)).run Try.prog w = .ok (.slice (some ⟨w.heap.size, 0, none⟩) n n) (w.alloc (.cells (Array.replicate n Value.nilIface) 76)) := by
  obtain ⟨i0, hi, hz0, hz1, hz2⟩ := info_parts info_node
  have := run_make (P := Try.prog) w 70 76 i0 .nilIface Try.underlying70 hi hz0 .i64 .i64 n n (by omega) (Int.le_refl _) (by rw [hz2]; omega) (by omega)
  rw [this, hz1]
  have e : madeCells #[Value.nilIface] n = Array.replicate n Value.nilIface := by
    apply Array.ext
    · simp [madeCells]
    · intro i h1 h2
      simp [madeCells, Nat.mod_one]
  simp [Value.cells, e]
/-- the terms that are asked, in the caller's cells -/
def TmCells (w : World) (tb : Nat) (Ts : List (List Int)) : Prop := ∀ j : Nat, j < Ts.length → ∃ a c, w.cell? ⟨tb, j, none⟩ = some (.slice a (rowAt Ts j).length c) ∧ Rd w a (rowAt Ts j) ∧ (rowAt Ts j).length ≤ c ∧ (rowAt Ts j).length ≤ 1048576
theorem TmCells.below {w w' : World} {tb : Nat} {Ts : List (List Int)} (h : TmCells w tb Ts) (hb : Below w.heap.size w w') : TmCells w' tb Ts := fun j hj => by
  obtain ⟨a, c, h1, h2, h3, h4⟩ := h j hj
  exact ⟨a, c, by rw [hb.cell (by exact block_lt_of_cell h1)]; exact h1, h2.below hb, h3, h4⟩
/-- the nodes of the first terms, nothing behind them -/
def ndL (Ts : List (List Int)) (k : Nat) : List Value := (Ts.take k).map (fun t => tmV t.length t) ++ List.replicate (Ts.length - k) Value.nilIface
theorem ndL_zero (Ts : List (List Int)) : ndL Ts 0 = List.replicate Ts.length Value.nilIface := by simp [ndL]
theorem ndL_all (Ts : List (List Int)) : ndL Ts Ts.length = Ts.map fun t => tmV t.length t := by simp [ndL]
theorem ndL_len (Ts : List (List Int)) {k : Nat} (h : k ≤ Ts.length) : (ndL Ts k).length = Ts.length := by simp [ndL]; omega
theorem ndL_set (Ts : List (List Int)) {k : Nat} (h : k < Ts.length) : (ndL Ts k).set k (tmV (rowAt Ts k).length (rowAt Ts k)) = ndL Ts (k + 1) := by
  have e : rowAt Ts k = Ts[k] := by unfold rowAt; simp [h]
  unfold ndL
  rw [List.set_append_right (h := by simp; omega), List.take_add_one, List.map_append, List.append_assoc, List.getElem?_eq_getElem h, e]
  congr 1
  rw [show k - (List.map (fun t => tmV t.length t) (List.take k Ts)).length = 0 by simp; omega, show Ts.length - k = (Ts.length - (k + 1)) + 1 by omega, List.replicate_succ]
  rfl
theorem ndL_at (Ts : List (List Int)) {k : Nat} (h : k < Ts.length) : (ndL Ts k)[k]? = some Value.nilIface := by
  unfold ndL
  have e : (List.map (fun t => tmV t.length t) (List.take k Ts)).length = k := by simp; omega
  rw [List.getElem?_append_right (by omega), e, Nat.sub_self, show Ts.length - k = (Ts.length - (k + 1)) + 1 by omega, List.replicate_succ]
  rfl
/-- block b holds nodes -/
def NdAt (w : World) (b : Nat) (V : List Value) : Prop := w.heap[b]? = some (.cells V.toArray 76 (0, 0))
theorem NdAt.lt {w : World} {b : Nat} {V : List Value} (h : NdAt w b V) : b < w.heap.size := lt_of_block h
theorem NdAt.below {w w' : World} {b : Nat} {V : List Value} (h : NdAt w b V) {C : Nat} (hb : Below C w w') (hB : b < C) : NdAt w' b V := by unfold NdAt; rw [hb.block b hB]; exact h
theorem NdAt.cell {w : World} {b : Nat} {V : List Value} (h : NdAt w b V) {k : Nat} {v : Value} (hk : V[k]? = some v) : w.cell? ⟨b, k, none⟩ = some v := by rw [cell_of_row w b k _ _ _ h, List.getElem?_toArray]; exact hk
theorem NdAt.set {w : World} {b : Nat} {V : List Value} (h : NdAt w b V) (k : Nat) (v : Value) : NdAt (w.setCell ⟨b, k, none⟩ v) b (V.set k v) := by
  unfold NdAt
  rw [setCell_eq_setRow w b _ _ _ _ _ h, List.setIfInBounds_toArray]
  exact setRow_heap w b _ _ _ _ h
/-- an algebra and terms are read -/
def RetAT (L : List Int) (T : List (List Int)) (Ts : List (List Int)) (w : World) (e : Ending) (w' : World) : Prop :=
  (algB L T = true ∧ (∀ j : Nat, j < Ts.length → vtB (rowAt Ts j) = true) ∧ ∃ nb, e = .returned (.tuple #[.agg (algOf L T), .slice (some ⟨nb, 0, none⟩) Ts.length Ts.length, .bool true]) ∧ w.heap.size ≤ nb ∧ NdAt w' nb (Ts.map fun t => tmV t.length t) ∧ Below w.heap.size w w') ∨
  (¬ (algB L T = true ∧ ∀ j : Nat, j < Ts.length → vtB (rowAt Ts j) = true) ∧ e = .returned (.tuple #[.agg zeroAlg, .slice none 0 0, .bool false]) ∧ Below w.heap.size w w')
set_option maxRecDepth 100000 in
set_option maxHeartbeats 4000000 in
theorem readAT_no (a b : Option Addr) (ca cb : Nat) (L : List Int) (T : List (List Int)) (tb tc : Nat) (Ts : List (List Int)) (w : World) (hr : Rd w a L) (hT : RdT w b T) (hA : algB L T = false) :
    Calls Try.prog 33 #[.agg #[.slice a L.length ca, .slice b T.length cb], .slice (some ⟨tb, 0, none⟩) Ts.length tc] w (RetAT L T Ts w) := by
  obtain ⟨w1, hw1⟩ : ∃ w1, w1 = ((w.alloc (.cells #[.slice a L.length ca, .slice b T.length cb] 31)).alloc (.cells Try.zeroCells58 58)) := ⟨_, rfl⟩
  have hB1 : Below w.heap.size w w1 := by rw [hw1]; exact ((Below.refl _ _).alloc (Nat.le_refl _) _).alloc (by simp) _
  have hz1 : w1.heap[w.heap.size + 1]? = some (.cells zeroAlg 58 (0, 0)) := by rw [hw1]; exact heap_alloc2_new _ _ _
  have hx1 : w1.heap[w.heap.size]? = some (.cells #[.slice a L.length ca, .slice b T.length cb] 31 (0, 0)) := by rw [hw1, Below.heap_alloc _ _ _ (by simp)]; exact heap_alloc_new w _
  have KX := Lib.hid (show ∀ wz, Below w1.heap.size w1 wz → wz.heap[w.heap.size]? = some (.cells #[.slice a L.length ca, .slice b T.length cb] 31 (0, 0)) from fun wz h => (h.block _ (lt_of_block hx1)).trans hx1)
  have KZ := Lib.hid (show ∀ wz, Below w1.heap.size w1 wz → wz.heap[w.heap.size + 1]? = some (.cells zeroAlg 58 (0, 0)) from fun wz h => (h.block _ (lt_of_block hz1)).trans hz1)
  have KL := Lib.hid (show ∀ wz, Below w1.heap.size w1 wz → Rd wz a L from fun wz h => (hr.below hB1).below h)
  have KT := Lib.hid (show ∀ wz, Below w1.heap.size w1 wz → RdT wz b T from fun wz h => (hT.below hB1).below h)
  have z : Below w1.heap.size w1 w1 := Below.refl _ _
  have ls1 := lt_of_block hz1
  have HA := Lib.hid hA
  clear hr hT hx1 hA
  go_enter Try.func33, Try.ntmps33
  go_wp2_with (first
    | go_skip
    | (rw [← hw1]; clear hw1)
    | (refine wpList_load_row_w rfl 31 _ rfl w.heap.size rfl _ _ _ _ (KX.out _ (by assumption)) Try.underlying31 rfl (size_Alg _ _) ?_)
    | (go_at_call 24; refine (readAlgebra_no a b ca cb L T _ (KL.out _ z) (KT.out _ z) HA.out).mono ?_; rintro e w2 ⟨rfl, h2⟩; replace z := z.trans (h2.mono z.size); clear h2)
    | (refine wpList_store_row rfl 58 _ _ rfl w2.heap.size zeroAlg rfl rfl _ _ (heap_alloc_new w2 (.cells zeroAlg 58)) size_zeroAlg rfl one_zeroAlg ?_; rw [World.setRow_alloc_new]; obtain ⟨bl, hbl⟩ : ∃ bl, bl = w2.heap.size := ⟨_, rfl⟩; obtain ⟨w3, hw3⟩ : ∃ w3, w3 = w2.alloc (.cells zeroAlg 58) := ⟨_, rfl⟩; rw [← hw3, ← hbl]; replace z : Below w1.heap.size w1 w3 := (by rw [hw3]; exact z.alloc z.size _); clear hw3 hbl)
    | (refine wpList_store_row rfl 58 _ _ rfl (w.heap.size + 1) zeroAlg rfl rfl _ _ (KZ.out _ z) size_zeroAlg rfl one_zeroAlg ?_))
  refine bodyPost_ret (v := .tuple #[.agg zeroAlg, .slice none 0 0, .bool false]) (results_alg_tmp2 rfl _ _ (w.heap.size + 1) rfl _ (algA_size _ _ _ _ _ _) (setRow_heap _ _ _ _ _ _ (KZ.out _ z)) rfl rfl) rfl ?_
  exact .inr ⟨fun h => (by rw [HA.out] at h; cases h.1), rfl, below_setRow' (hB1.trans (z.mono hB1.size)) (by omega) _⟩
set_option maxRecDepth 100000 in
set_option maxHeartbeats 8000000 in
theorem readAT_alg (a b : Option Addr) (ca cb : Nat) (L : List Int) (T : List (List Int)) (tb tc : Nat) (Ts : List (List Int)) (w : World) (hr : Rd w a L) (hT : RdT w b T) (ht : TmCells w tb Ts) (hn : Ts.length ≤ 16) (hA : algB L T = true) :
    Calls Try.prog 33 #[.agg #[.slice a L.length ca, .slice b T.length cb], .slice (some ⟨tb, 0, none⟩) Ts.length tc] w (RetAT L T Ts w) := by
  have hmk := run_make_nodes Ts.length (by omega)
  obtain ⟨w1, hw1⟩ : ∃ w1, w1 = ((w.alloc (.cells #[.slice a L.length ca, .slice b T.length cb] 31)).alloc (.cells Try.zeroCells58 58)) := ⟨_, rfl⟩
  have hB1 : Below w.heap.size w w1 := by rw [hw1]; exact ((Below.refl _ _).alloc (Nat.le_refl _) _).alloc (by simp) _
  have hz1 : w1.heap[w.heap.size + 1]? = some (.cells zeroAlg 58 (0, 0)) := by rw [hw1]; exact heap_alloc2_new _ _ _
  have hx1 : w1.heap[w.heap.size]? = some (.cells #[.slice a L.length ca, .slice b T.length cb] 31 (0, 0)) := by rw [hw1, Below.heap_alloc _ _ _ (by simp)]; exact heap_alloc_new w _
  have KX := Lib.hid (show ∀ wz, Below w1.heap.size w1 wz → wz.heap[w.heap.size]? = some (.cells #[.slice a L.length ca, .slice b T.length cb] 31 (0, 0)) from fun wz h => (h.block _ (lt_of_block hx1)).trans hx1)
  have KZ := Lib.hid (show ∀ wz, Below w1.heap.size w1 wz → wz.heap[w.heap.size + 1]? = some (.cells zeroAlg 58 (0, 0)) from fun wz h => (h.block _ (lt_of_block hz1)).trans hz1)
  have KL := Lib.hid (show ∀ wz, Below w1.heap.size w1 wz → Rd wz a L from fun wz h => (hr.below hB1).below h)
  have KT := Lib.hid (show ∀ wz, Below w1.heap.size w1 wz → RdT wz b T from fun wz h => (hT.below hB1).below h)
  have z : Below w1.heap.size w1 w1 := Below.refl _ _
  have ls1 := lt_of_block hz1
  have Kt := Lib.hid (show ∀ wz, Below w1.heap.size w1 wz → TmCells wz tb Ts from fun wz h => (ht.below hB1).below h)
  have HA := Lib.hid hA
  clear hr hT hx1 hA ht
  go_enter Try.func33, Try.ntmps33
  go_wp2_with (first
    | go_skip
    | (rw [← hw1]; clear hw1)
    | (refine wpList_load_row_w rfl 31 _ rfl w.heap.size rfl _ _ _ _ (KX.out _ (by assumption)) Try.underlying31 rfl (size_Alg _ _) ?_)
    | (go_at_call 24; refine (readAlgebra_yes a b ca cb L T _ (KL.out _ z) (KT.out _ z) HA.out).mono ?_; rintro e w2 ⟨rfl, h2⟩; replace z := z.trans (h2.mono z.size); clear h2)
    | (refine wpList_store_row rfl 58 _ _ rfl w2.heap.size (algOf L T) rfl rfl _ _ (heap_alloc_new w2 (.cells zeroAlg 58)) (size_alg _ _ _ _ _ _) rfl (one_alg _ _ _ _ _ _) ?_; rw [World.setRow_alloc_new]; obtain ⟨bl, hbl⟩ : ∃ bl, bl = w2.heap.size := ⟨_, rfl⟩; obtain ⟨w3, hw3⟩ : ∃ w3, w3 = w2.alloc (.cells (algOf L T) 58) := ⟨_, rfl⟩; rw [← hw3, ← hbl]; have hAl : AlgAt w3 bl L T := (by rw [hw3, hbl]; exact AlgAt.new w2 L T); replace z : Below w1.heap.size w1 w3 := (by rw [hw3]; exact z.alloc z.size _); clear hw3 hbl))
  clear hmk
  obtain ⟨bt, hbt⟩ : ∃ bt, bt = w3.heap.size := ⟨_, rfl⟩
  obtain ⟨wo, hwo⟩ : ∃ wo, wo = w3.alloc (.cells (Array.replicate Ts.length Value.nilIface) 76) := ⟨_, rfl⟩
  rw [← hwo, ← hbt]
  have hN : NdAt wo bt (ndL Ts 0) := by rw [hwo, hbt, ndL_zero, ← List.toArray_replicate]; exact heap_alloc_new w3 _
  have hAo : AlgAt wo bl L T := by rw [hwo]; unfold AlgAt; rw [Below.heap_alloc _ _ _ hAl.lt]; exact hAl
  have zo : Below w1.heap.size w1 wo := by rw [hwo]; exact z.alloc z.size _
  have hlt : bl < bt := by rw [hbt]; exact hAl.lt
  have hb1 : w1.heap.size ≤ bt := by rw [hbt]; exact z.size
  clear hwo hbt hAl z
  go_loopw [27, 10, 11] (fun c _ _ wr => ∃ k : Int, 0 ≤ k ∧ k ≤ Ts.length ∧ c = .int .i64 k ∧ NdAt wr bt (ndL Ts k.toNat) ∧ (∀ j : Nat, j < k.toNat → vtB (rowAt Ts j) = true) ∧ AlgAt wr bl L T ∧ Below w1.heap.size w1 wr) (fun c _ _ _ => ((Ts.length : Int) - intOf c).toNat)
  case atStart => exact ⟨0, by omega, by omega, rfl, hN, fun j hj => absurd hj (by simp), hAo, zo⟩
  case round =>
    clear hN hAo zo
    obtain ⟨k, k0, k1, rfl, hN, hv, hAr, z⟩ := hrel
    have HV := Lib.hid hv
    clear hv
    by_cases hk : k < Ts.length
    · have hkn : k.toNat < Ts.length := by omega
      obtain ⟨ta, c, c0, r0, l0, m0⟩ := (Kt.out _ z) k.toNat hkn
      have hset := Lib.hid (ndL_set Ts hkn)
      have hcell := hN.cell (k := k.toNat) (v := Value.nilIface) (ndL_at Ts hkn)
      have hfree := frozen_of_row wr bt k.toNat _ _ hN
      obtain ⟨t, ht⟩ : ∃ t, t = rowAt Ts k.toNat := ⟨_, rfl⟩
      rw [← ht] at c0 r0 l0 m0 hset
      have HT := Lib.hid ht
      have HC := Lib.hid (readTerm_any ta c t wr r0 l0 m0)
      clear ht r0 l0 m0
      go_wp2_with fail
      refine HC.out.mono ?_
      rintro e w5 (⟨hvt, rfl, hd⟩ | ⟨hvt, rfl, hd⟩)
      · have hd' := hd.below wr.heap.size
        have z5 := z.trans (hd'.mono z.size)
        have hN5 := hN.below hd' hN.lt
        have hA5 := hAr.below hd' hAr.lt
        have c5 : w5.cell? ⟨bt, k.toNat, none⟩ = some .nilIface := by rw [hd'.cell (by exact hN.lt)]; exact hcell
        have f5 := frozen_of_row w5 bt k.toNat _ _ hN5
        obtain ⟨T1, y1, e1⟩ := tmV_if (vtB_parts hvt).2
        rw [e1] at hset ⊢
        have HVT := Lib.hid hvt
        clear hvt hd hcell hfree e1 c0
        go_wp2_with go_skip
        go_roundw
        case rel =>
          refine ⟨k + 1, by omega, by omega, rfl, ?_, fun j hj => ?_, ?_, z5.setCell (by exact hb1) _⟩
          · rw [show (k + 1).toNat = k.toNat + 1 by omega, ← hset.out]; exact hN5.set _ _
          · by_cases e : j = k.toNat
            · rw [e, ← HT.out]; exact HVT.out
            · exact HV.out j (by omega)
          · exact (heap_setCell_other w5 _ _ _ (by exact Nat.ne_of_lt hlt)).trans hA5
        case measure => simp [intOf]; omega
      · have z5 := z.trans (hd.below w1.heap.size)
        have HVT := Lib.hid hvt
        have hkz := KZ.out _ z5
        clear hvt hd hcell hfree c0
        go_wp2_with (first
          | go_skip
          | (refine wpList_store_row rfl 58 _ _ rfl (w.heap.size + 1) zeroAlg rfl rfl _ _ hkz size_zeroAlg rfl one_zeroAlg ?_))
        refine bodyPost_ret (v := .tuple #[.agg zeroAlg, .slice none 0 0, .bool false]) (results_alg_tmp2 rfl _ _ (w.heap.size + 1) rfl _ (algA_size _ _ _ _ _ _) (setRow_heap _ _ _ _ _ _ hkz) rfl rfl) rfl ?_
        exact .inr ⟨fun h => (by have := h.2 k.toNat hkn; rw [← HT.out, HVT.out] at this; cases this), rfl, below_setRow' (hB1.trans (z5.mono hB1.size)) (by omega) _⟩
    · have ek : k.toNat = Ts.length := by omega
      rw [ek, ndL_all] at hN
      have hvv := Lib.hid (show ∀ j : Nat, j < Ts.length → vtB (rowAt Ts j) = true from fun j hj => HV.out j (by omega))
      have hkz := KZ.out _ z
      clear ek
      go_wp2_with (first
        | go_skip
        | (refine wpList_load_row_w rfl 58 _ rfl bl rfl _ _ _ _ hAr Try.underlying58 rfl (size_alg _ _ _ _ _ _) ?_)
        | (refine wpList_store_row rfl 58 _ _ rfl (w.heap.size + 1) (algOf L T) rfl rfl _ _ hkz (size_alg _ _ _ _ _ _) rfl (one_alg _ _ _ _ _ _) ?_))
      refine bodyPost_ret (v := .tuple #[.agg (algOf L T), .slice (some ⟨bt, 0, none⟩) Ts.length Ts.length, .bool true]) (results_alg_tmp2 rfl _ _ (w.heap.size + 1) rfl _ (algA_size _ _ _ _ _ _) (setRow_heap _ _ _ _ _ _ hkz) rfl rfl) rfl ?_
      have hs := hB1.size
      refine .inl ⟨HA.out, hvv.out, bt, rfl, by omega, ?_, below_setRow' (hB1.trans (z.mono hB1.size)) (by omega) _⟩
      unfold NdAt
      rw [setRow_other _ _ _ _ (by omega)]
      exact hN
/-- impl.readAlgebraWithTerms -/
theorem readAT_any (a b : Option Addr) (ca cb : Nat) (L : List Int) (T : List (List Int)) (tb tc : Nat) (Ts : List (List Int)) (w : World) (hr : Rd w a L) (hT : RdT w b T) (ht : TmCells w tb Ts) (hn : Ts.length ≤ 16) :
    Calls Try.prog 33 #[.agg #[.slice a L.length ca, .slice b T.length cb], .slice (some ⟨tb, 0, none⟩) Ts.length tc] w (RetAT L T Ts w) := by
  cases h : algB L T with
  | false => exact readAT_no a b ca cb L T tb tc Ts w hr hT h
  | true => exact readAT_alg a b ca cb L T tb tc Ts w hr hT ht hn h
end Go.Proofs.Ythjbfdoclifhoaa

namespace Go.Proofs.Ythjbfdoclifhoaa
open Go.RowKit
set_option linter.unusedVariables false

theorem rowAt_one (t : List Int) : rowAt [t] ((0 : Nat) : Int) = t := rfl
theorem tmCells_one {w : World} {tb : Nat} {at_ : Option Addr} {ct : Nat} {t : List Int} (hc : w.cell? ⟨tb, 0, none⟩ = some (.slice at_ t.length ct)) (hr : Rd w at_ t) (h1 : t.length ≤ ct) (h2 : t.length ≤ 1048576) : TmCells w tb [t] := fun j hj => by
  have : j = 0 := by simp at hj; omega
  subst this
  exact ⟨at_, ct, hc, hr, h1, h2⟩
theorem all_one {t : List Int} : (∀ j : Nat, j < [t].length → vtB (rowAt [t] j) = true) ↔ vtB t = true := by
  refine ⟨fun h => h 0 (by simp), fun h j hj => ?_⟩
  have : j = 0 := by simp at hj; omega
  subst this
  exact h
theorem nmB_has (L N : List Int) : nmB L N = (withB L N && decide (num N = 3)) := by
  unfold nmB withB
  congr 1
  refine allI_congr fun i i0 i1 => ?_
  unfold nmR inE
  congr 1
  have hn : num L = L.length := rfl
  by_cases h : nth N i < (L.length : Int)
  · rw [decide_eq_true h, decide_eq_true (by omega)]
  · rw [decide_eq_false h, decide_eq_false (by omega)]
/-- an algebra and one term are read, by a caller -/
theorem readAT_one (a b : Option Addr) (ca cb : Nat) (L : List Int) (T : List (List Int)) (at_ : Option Addr) (ct : Nat) (t : List Int) (w : World) (hr : Rd w a L) (hT : RdT w b T) (ht : Rd w at_ t) (hct : t.length ≤ ct) (hmt : t.length ≤ 1048576) :
    Calls Try.prog 33 #[.agg #[.slice a L.length ca, .slice b T.length cb], .slice (some ⟨w.heap.size, 0, none⟩) 1 1] (w.alloc (.cells #[.slice at_ t.length ct] 24)) fun e w' =>
      (algB L T = true ∧ vtB t = true ∧ ∃ nb, e = .returned (.tuple #[.agg (algOf L T), .slice (some ⟨nb, 0, none⟩) 1 1, .bool true]) ∧ w.heap.size ≤ nb ∧ NdAt w' nb [tmV t.length t] ∧ Below w.heap.size w w') ∨
      ((algB L T && vtB t) = false ∧ e = .returned (.tuple #[.agg zeroAlg, .slice none 0 0, .bool false]) ∧ Below w.heap.size w w') := by
  have hb : Below w.heap.size w (w.alloc (.cells #[.slice at_ t.length ct] 24)) := (Below.refl _ _).alloc (Nat.le_refl _) _
  have hc : (w.alloc (.cells #[.slice at_ t.length ct] 24)).cell? ⟨w.heap.size, 0, none⟩ = some (.slice at_ t.length ct) := by rw [cell_of_row _ w.heap.size 0 _ _ _ (heap_alloc_new w _)]; rfl
  have hs : w.heap.size ≤ (w.alloc (.cells #[.slice at_ t.length ct] 24)).heap.size := hb.size
  refine (readAT_any a b ca cb L T w.heap.size 1 [t] _ (hr.below hb) (hT.below hb) (tmCells_one hc (ht.below hb) hct hmt) (by simp)).mono fun e w' h => ?_
  rcases h with ⟨h1, h2, nb, he, hn, hN, hbb⟩ | ⟨h1, he, hbb⟩
  · exact .inl ⟨h1, all_one.1 h2, nb, he, Nat.le_trans hs hn, hN, hb.trans (hbb.mono hs)⟩
  · refine .inr ⟨?_, he, hb.trans (hbb.mono hs)⟩
    rw [Bool.eq_false_iff]
    intro h
    rw [Bool.and_eq_true] at h
    exact h1 ⟨h.1, all_one.2 h.2⟩
end Go.Proofs.Ythjbfdoclifhoaa
