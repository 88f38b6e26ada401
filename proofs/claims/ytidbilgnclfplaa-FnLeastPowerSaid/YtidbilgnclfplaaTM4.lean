import Derived.Test.YtidbilgnclfplaaTM3
import Derived.BigQuiet
import Derived.Deep.RegionWith
import Derived.Test.YtidbilgnclfplaaI5
namespace Go.Proofs.Ytidbilgnclfplaa
open Go.RowKit

theorem num_cases {x : Int} (h : isLf x = true ∨ x = 12 ∨ isSg x = true) : x = 0 ∨ x = 1 ∨ x = 2 ∨ x = 10 ∨ x = 11 ∨ x = 12 ∨ x = 13 ∨ x = 14 ∨ x = 15 ∨ x = 16 := by
  unfold isLf isNm isSg at h
  rw [Bool.or_eq_true, Bool.or_eq_true, Bool.and_eq_true, Bool.and_eq_true, decide_eq_true_eq, decide_eq_true_eq, decide_eq_true_eq, decide_eq_true_eq, beq_iff_eq, beq_iff_eq] at h
  omega
theorem str_add {P : Program} (a b : ByteArray) (w : World) (h : a.size + b.size ≤ 9223372036854775807) : (Op.stringOp .add a b).run P w = .ok (.string (a ++ b)) w := by
  have : ¬ ((9223372036854775807 : Int) < (a.size : Int) + (b.size : Int)) := by omega
  simp [Op.stringOp, this]
set_option maxRecDepth 100000 in
set_option maxHeartbeats 2000000 in
/-- impl.letterOf -/
theorem letterOf_any (x : Int) (h : isLf x = true ∨ x = 12 ∨ isSg x = true) (w : World) : Calls Try.prog 104 #[.int .i64 x] w fun e w' => e = .returned (.string (ltB x)) ∧ w = w' := by
  rcases num_cases h with rfl | rfl | rfl | rfl | rfl | rfl | rfl | rfl | rfl | rfl
  all_goals
    go_enter Try.func104, Try.ntmps104
    go_wp2_with (go_at_call 123; refine (isName_any _ _).mono ?_; rintro e w' ⟨rfl, rfl⟩)
    go_ret
    exact ⟨rfl, rfl⟩
theorem upon_of {P : Program} {o : Oper} {a : Act} {K : Act → World → Prop} {Q : Exit → Act → World → Prop} {r r' : _} (h : r = r') (h' : Oper.upon P o a K Q r') : Oper.upon P o a K Q r := h ▸ h'
set_option maxHeartbeats 400000 in
theorem leafHead_any (x : Int) (w : World) : Calls Try.prog 177 #[.agg #[.int .i64 x]] w fun e w' => e = .returned (.int .i64 x) ∧ Below w.heap.size w w' := by
  go_enter Try.func177, Try.ntmps177
  go_wp2
  go_ret
  exact ⟨rfl, by first | exact Below.refl _ _ | exact (Below.refl _ _).alloc (Nat.le_refl _) _⟩
set_option maxHeartbeats 400000 in
theorem oppHead_any (y : Value) (w : World) : Calls Try.prog 175 #[.agg #[y]] w fun e w' => e = .returned (.int .i64 12) ∧ Below w.heap.size w w' := by
  go_enter Try.func175, Try.ntmps175
  go_wp2
  go_ret
  exact ⟨rfl, by first | exact Below.refl _ _ | exact (Below.refl _ _).alloc (Nat.le_refl _) _⟩
set_option maxHeartbeats 400000 in
theorem comHead_any (x : Int) (y z : Value) (w : World) : Calls Try.prog 176 #[.agg #[.int .i64 x, y, z]] w fun e w' => e = .returned (.int .i64 x) ∧ Below w.heap.size w w' := by
  go_enter Try.func176, Try.ntmps176
  go_wp2
  go_ret
  exact ⟨rfl, by first | exact Below.refl _ _ | exact (Below.refl _ _).alloc (Nat.le_refl _) _⟩
theorem tmV_if : ∀ {k : Nat} {t r : List Int}, tmR k t = some r → ∃ T y, tmV k t = .iface T y
  | 0, _, _, h => by cases h
  | _ + 1, [], _, h => by cases h
  | k + 1, x :: t, r, _ => by
    cases h1 : isLf x with
    | true => exact ⟨_, _, tmV_leaf h1⟩
    | false =>
      by_cases h2 : x = 12
      · exact ⟨_, _, tmV_opp h1 h2⟩
      · exact ⟨_, _, tmV_sign h1 h2⟩
set_option maxRecDepth 100000 in
set_option maxHeartbeats 4000000 in
/-- impl.textOf -/
theorem textOf_any : ∀ (k : Nat) (t r : List Int) (w : World), tmR k t = some r → t.length ≤ 15 → Calls Try.prog 78 #[tmV k t] w fun e w' => e = .returned (.string (txI k t)) ∧ Below w.heap.size w w' := by
  intro k
  induction k with
  | zero => intro t r w h; cases h
  | succ k ih =>
    intro t r w h hl
    cases t with
    | nil => cases h
    | cons x t =>
      rw [List.length_cons] at hl
      have HI := Lib.hid ih
      clear ih
      cases h1 : isLf x with
      | true =>
        rw [tmV_leaf h1, txI_leaf h1]
        have HL := Lib.hid (show isLf x = true ∨ x = 12 ∨ isSg x = true from .inl h1)
        clear h h1
        go_enter Try.func78, Try.ntmps78
        go_wp2_with fail
        refine upon_of (r' := .ok (.enter 177 #[.agg #[.int .i64 x]]) w) (by kernel_rfl) ?_
        go_wp2_with fail
        refine (leafHead_any x _).mono ?_
        rintro e w2 ⟨rfl, h2⟩
        go_wp2_with (go_at_call 104; refine (letterOf_any _ HL.out _).mono ?_; rintro e w' ⟨rfl, rfl⟩)
        refine upon_of (r' := .ok (.value (.tuple #[.agg #[.nilIface], .bool false])) w2) (by kernel_rfl) ?_
        go_wp2_with fail
        refine upon_of (r' := .ok (.value (.tuple #[.agg #[.int .i64 0, .nilIface, .nilIface], .bool false])) w2) (by kernel_rfl) ?_
        go_wp2
        go_ret
        exact ⟨rfl, h2⟩
      | false =>
        by_cases h2 : x = 12
        · subst h2
          rw [tmR_opp h1 rfl] at h
          rw [tmV_opp h1 rfl]
          have HV := Lib.hid (txI_opp (k := k) (t := t) h1 rfl)
          have hsz := txI_size k _ _ h
          have HH := Lib.hid h
          obtain ⟨X, hX⟩ : ∃ X, X = txI k t := ⟨_, rfl⟩
          rw [← hX] at hsz HV
          have s1 : ∀ w : World, (Op.stringOp .add (ltB 12) X).run Try.prog w = .ok (.string (ltB 12 ++ X)) w := fun w => str_add _ _ w (by rw [ltB_size]; omega)
          have HX := Lib.hid hX.symm
          have hnd := tmV_if h
          obtain ⟨n, hn⟩ : ∃ n, n = tmV k t := ⟨_, rfl⟩
          rw [← hn] at hnd ⊢
          have HN := Lib.hid hn.symm
          have HT := Lib.hid (show ∀ w : World, Calls Try.prog 78 #[n] w fun e w' => e = .returned (.string X) ∧ Below w.heap.size w w' from fun w => by rw [hn, hX]; exact HI.out t r w HH.out (by omega))
          clear h h1 hsz hX hn
          obtain ⟨T1, y1, rfl⟩ := hnd
          go_enter Try.func78, Try.ntmps78
          go_wp2_with fail
          refine upon_of (r' := .ok (.enter 175 #[.agg #[.iface T1 y1]]) w) (by kernel_rfl) ?_
          go_wp2_with fail
          refine (oppHead_any _ _).mono ?_
          rintro e w2 ⟨rfl, h2⟩
          go_wp2_with (go_at_call 104; refine (letterOf_any 12 (.inr (.inl rfl)) _).mono ?_; rintro e w' ⟨rfl, rfl⟩)
          refine upon_of (r' := .ok (.value (.tuple #[.agg #[.iface T1 y1], .bool true])) w2) (by kernel_rfl) ?_
          go_wp2_with fail
          refine (HT.out _).mono ?_
          rintro e w3 ⟨rfl, h3⟩
          have z3 : Below w.heap.size w w3 := (h2.alloc h2.size _).trans (h3.mono (by have := h2.size; simp; omega))
          go_wp2
          go_ret
          exact ⟨by rw [HV.out]; rfl, z3⟩
        · cases h3 : isSg x with
          | false => rw [tmR_no h1 h2 h3] at h; cases h
          | true =>
            rw [tmR_sign h1 h2 h3] at h
            cases h4 : tmR k t with
            | none => rw [h4] at h; cases h
            | some q =>
              rw [h4] at h
              have HL := Lib.hid (show isLf x = true ∨ x = 12 ∨ isSg x = true from .inr (.inr h3))
              have HV := Lib.hid (txI_sign h1 h2 h4)
              have hszX := txI_size k _ _ h4
              have hszY := txI_size k _ _ h
              have hql := tmR_len h4
              have HH := Lib.hid h4
              have HQ := Lib.hid h
              rw [tmV_sign h1 h2, h4]
              show Calls Try.prog 78 #[.iface 120 (.agg #[.int .i64 x, tmV k t, tmV k q])] w _
              obtain ⟨X, hX⟩ : ∃ X, X = txI k t := ⟨_, rfl⟩
              obtain ⟨Y, hY⟩ : ∃ Y, Y = txI k q := ⟨_, rfl⟩
              rw [← hX, ← hY] at HV
              rw [← hX] at hszX
              rw [← hY] at hszY
              obtain ⟨T1, y1, e1⟩ := tmV_if h4
              obtain ⟨T2, y2, e2⟩ := tmV_if h
              have HT1 := Lib.hid (show ∀ w : World, Calls Try.prog 78 #[.iface T1 y1] w fun e w' => e = .returned (.string X) ∧ Below w.heap.size w w' from fun w => by rw [← e1, hX]; exact HI.out t q w HH.out (by omega))
              have HT2 := Lib.hid (show ∀ w : World, Calls Try.prog 78 #[.iface T2 y2] w fun e w' => e = .returned (.string Y) ∧ Below w.heap.size w w' from fun w => by rw [← e2, hY]; exact HI.out q r w HQ.out (by omega))
              rw [e1, e2]
              obtain ⟨Z, hZ⟩ : ∃ Z, Z = ltB x := ⟨_, rfl⟩
              have zs : Z.size = 1 := by rw [hZ]; exact ltB_size x
              rw [← hZ] at HV
              have s1 : ∀ w : World, (Op.stringOp .add ⟨#[40]⟩ X).run Try.prog w = .ok (.string (⟨#[40]⟩ ++ X)) w := fun w => str_add _ _ w (by show 1 + _ ≤ _; omega)
              have s2 : ∀ w : World, (Op.stringOp .add (⟨#[40]⟩ ++ X) Z).run Try.prog w = .ok (.string (⟨#[40]⟩ ++ X ++ Z)) w := fun w => str_add _ _ w (by rw [size_app, zs]; show 1 + _ + 1 ≤ _; omega)
              have s3 : ∀ w : World, (Op.stringOp .add (⟨#[40]⟩ ++ X ++ Z) Y).run Try.prog w = .ok (.string (⟨#[40]⟩ ++ X ++ Z ++ Y)) w := fun w => str_add _ _ w (by rw [size_app, size_app, zs]; show 1 + _ + 1 + _ ≤ _; omega)
              have s4 : ∀ w : World, (Op.stringOp .add (⟨#[40]⟩ ++ X ++ Z ++ Y) ⟨#[41]⟩).run Try.prog w = .ok (.string (⟨#[40]⟩ ++ X ++ Z ++ Y ++ ⟨#[41]⟩)) w := fun w => str_add _ _ w (by rw [size_app, size_app, size_app, zs]; show 1 + _ + 1 + _ + 1 ≤ _; omega)
              have HZ := Lib.hid hZ.symm
              clear h h1 h2 h3 h4 hszX hszY hql hX hY e1 e2 hZ zs
              go_enter Try.func78, Try.ntmps78
              go_wp2_with fail
              refine upon_of (r' := .ok (.enter 176 #[.agg #[.int .i64 x, .iface T1 y1, .iface T2 y2]]) w) (by kernel_rfl) ?_
              go_wp2_with fail
              refine (comHead_any _ _ _ _).mono ?_
              rintro e w2 ⟨rfl, h2⟩
              go_wp2_with (go_at_call 104; refine (letterOf_any _ HL.out _).mono ?_; rintro e w' ⟨rfl, rfl⟩; rw [HZ.out])
              refine upon_of (r' := .ok (.value (.tuple #[.agg #[.nilIface], .bool false])) w2) (by kernel_rfl) ?_
              go_wp2_with fail
              refine upon_of (r' := .ok (.value (.tuple #[.agg #[.int .i64 x, .iface T1 y1, .iface T2 y2], .bool true])) w2) (by kernel_rfl) ?_
              obtain ⟨g, hg⟩ : ∃ g, g = w2.heap.size := ⟨_, rfl⟩
              obtain ⟨wb, hwb⟩ : ∃ wb, wb = w2.alloc (.cells #[.int .i64 x, .iface T1 y1, .iface T2 y2] 120) := ⟨_, rfl⟩
              have hbx : wb.heap[g]? = some (.cells #[.int .i64 x, .iface T1 y1, .iface T2 y2] 120 (0, 0)) := by rw [hwb, hg]; exact heap_alloc_new w2 _
              have hB : Below w.heap.size w wb := by rw [hwb]; exact h2.alloc h2.size _
              have k1 : wb.cell? ⟨g, 1, none⟩ = some (.iface T1 y1) := by rw [cell_of_row wb g 1 _ _ _ hbx]; rfl
              have k2 : wb.cell? ⟨g, 2, none⟩ = some (.iface T2 y2) := by rw [cell_of_row wb g 2 _ _ _ hbx]; rfl
              have hgl := lt_of_block hbx
              go_wp2_with (rw [← hwb, ← hg]; clear hwb hg)
              refine region_in (Below wb.heap.size wb) (by kernel_rfl) (by kernel_rfl) (Dr.below ⟨1, rfl⟩ _) fun hne => ?_
              have r1 : ∀ s : In (Below wb.heap.size wb), s.w.cell? ⟨g, 1, none⟩ = some (.iface T1 y1) := fun s => by rw [s.h.cell (by exact hgl)]; exact k1
              have r2 : ∀ s : In (Below wb.heap.size wb), s.w.cell? ⟨g, 2, none⟩ = some (.iface T2 y2) := fun s => by rw [s.h.cell (by exact hgl)]; exact k2
              repeat (go_big_quiet_step ((first | (go_at_call_of 78 (Value.iface T1 y1); exact in_below _ (Nat.le_refl _) (HT1.out _)) | (go_at_call_of 78 (Value.iface T2 y2); exact in_below _ (Nat.le_refl _) (HT2.out _)))))
              refine wpQuiet_nil ?_
              intro s
              have hs7 := s.h
              obtain ⟨w7, hw7⟩ : ∃ x : World, x = s.w := ⟨_, rfl⟩
              rw [← hw7] at hs7 ⊢
              clear hw7 r1 r2
              go_wp2
              go_ret
              exact ⟨by rw [HV.out]; rfl, hB.trans (hs7.mono hB.size)⟩
set_option maxRecDepth 100000 in
set_option maxHeartbeats 4000000 in
/-- spec.text -/
theorem specText_any (a : Option Addr) (c : Nat) (t : List Int) (hm : t.length ≤ 15) : ∀ (k i : Nat) (r : List Int) (w : World), Rd w a t → tmR k (t.drop i) = some r → Calls Try.prog 79 #[.slice a t.length c, .int .i64 (i : Int)] w fun e w' => e = .returned (.string (txI k (t.drop i))) ∧ Dr w w' := by
  intro k
  induction k with
  | zero => intro i r w _ h; cases h
  | succ k ih =>
    intro i r w hr h
    have hi : i < t.length := by
      refine Classical.byContradiction fun hc => ?_
      rw [List.drop_eq_nil_of_le (by omega)] at h
      cases h
    obtain ⟨b, off, rfl, hcc⟩ := hr (fun e => by rw [e] at hi; simp at hi)
    have c0 := hcc.at (i : Int) (by omega) (show (i : Int) < num t by unfold num; omega)
    rw [Int.toNat_natCast] at c0
    have hiI : (i : Int) < t.length := by omega
    have hi0 : (0 : Int) ≤ i := by omega
    have hw1 : IntKind.i64.wrap ((i : Int) + 1) = (i : Int) + 1 := IntWalk.i64_in _ (by omega)
    have HR := Lib.hid hr
    have HI := Lib.hid ih
    rw [drop_cons hi] at h ⊢
    obtain ⟨x, hx⟩ : ∃ x, x = nth t i := ⟨_, rfl⟩
    rw [← hx] at h c0 ⊢
    clear hx hcc hr ih
    cases h1 : isLf x with
    | true =>
      have HV := Lib.hid (txI_leaf (k := k) (t := t.drop (i + 1)) h1)
      have hn := num_cases (.inl h1)
      have hlf : x = 0 ∨ x = 1 ∨ x = 2 ∨ x = 10 ∨ x = 11 := by
        have := leaf_not h1
        simp only [beq_eq_false_iff_ne] at this
        omega
      clear h1 h hn
      rcases hlf with rfl | rfl | rfl | rfl | rfl
      all_goals
        go_enter Try.func79, Try.ntmps79
        go_wp2
        (try (go_quiet (fail); go_wp2))
        go_ret
        exact ⟨by rw [HV.out]; rfl, by first | exact Dr.refl _ | exact ⟨_, rfl⟩⟩
    | false =>
      by_cases h2 : x = 12
      · subst h2
        rw [tmR_opp h1 rfl] at h
        have HV := Lib.hid (txI_opp (k := k) (t := t.drop (i + 1)) h1 rfl)
        have HH := Lib.hid h
        have hsz := txI_size k _ _ h
        have hdl : (t.drop (i + 1)).length ≤ 15 := by rw [List.length_drop]; omega
        obtain ⟨X, hX⟩ : ∃ X, X = txI k (t.drop (i + 1)) := ⟨_, rfl⟩
        rw [← hX] at hsz HV
        have s1 : ∀ w : World, (Op.stringOp .add ⟨#[45]⟩ X).run Try.prog w = .ok (.string (⟨#[45]⟩ ++ X)) w := fun w => str_add _ _ w (by show 1 + _ ≤ _; omega)
        have HX := Lib.hid hX.symm
        clear h h1 hsz hdl hX
        go_enter Try.func79, Try.ntmps79
        go_wp2_with fail
        refine (HI.out (i + 1) r _ HR.out HH.out).mono ?_
        rintro e w2 ⟨rfl, hd⟩
        rw [HX.out]
        go_wp2
        go_ret
        exact ⟨by rw [HV.out]; rfl, hd⟩
      · cases h3 : isSg x with
        | false => rw [tmR_no h1 h2 h3] at h; cases h
        | true =>
          rw [tmR_sign h1 h2 h3] at h
          cases h4 : tmR k (t.drop (i + 1)) with
          | none => rw [h4] at h; cases h
          | some q =>
            rw [h4] at h
            have HV := Lib.hid (txI_sign h1 h2 h4)
            have hen := endI_some (k := k + t.length) (t := t) (i := i + 1) (tmR_mono k _ _ _ h4 (by omega))
            have HH := Lib.hid h4
            have HQ := Lib.hid (show tmR k (t.drop (t.length - q.length)) = some r by rw [hen.2.2.2]; exact h)
            have HD := Lib.hid (hen.2.2.2)
            have HE := Lib.hid hen.1
            have hsg : x = 13 ∨ x = 14 ∨ x = 15 ∨ x = 16 := by
              have := num_cases (.inr (.inr h3))
              unfold isSg at h3
              rw [Bool.and_eq_true, decide_eq_true_eq, decide_eq_true_eq] at h3
              omega
            have hszX := txI_size k _ _ h4
            have hszY := txI_size k _ _ h
            have hdl : (t.drop (i + 1)).length ≤ 15 := by rw [List.length_drop]; omega
            have hql := tmR_len h4
            obtain ⟨X, hX⟩ : ∃ X, X = txI k (t.drop (i + 1)) := ⟨_, rfl⟩
            obtain ⟨Y, hY⟩ : ∃ Y, Y = txI k q := ⟨_, rfl⟩
            rw [← hX, ← hY] at HV
            rw [← hX] at hszX
            rw [← hY] at hszY
            have HX := Lib.hid hX.symm
            have HY := Lib.hid hY.symm
            clear h h1 h2 h3 h4 hen hX hY
            rcases hsg with rfl | rfl | rfl | rfl
            · have s1 : ∀ w : World, (Op.stringOp .add ⟨#[40]⟩ X).run Try.prog w = .ok (.string (⟨#[40]⟩ ++ X)) w := fun w => str_add _ _ w (by show 1 + _ ≤ _; omega)
              have s2 : ∀ w : World, (Op.stringOp .add (⟨#[40]⟩ ++ X) ⟨#[38]⟩).run Try.prog w = .ok (.string (⟨#[40]⟩ ++ X ++ ⟨#[38]⟩)) w := fun w => str_add _ _ w (by rw [size_app]; show 1 + _ + 1 ≤ _; omega)
              have s3 : ∀ w : World, (Op.stringOp .add (⟨#[40]⟩ ++ X ++ ⟨#[38]⟩) Y).run Try.prog w = .ok (.string (⟨#[40]⟩ ++ X ++ ⟨#[38]⟩ ++ Y)) w := fun w => str_add _ _ w (by rw [size_app, size_app]; show 1 + _ + 1 + _ ≤ _; omega)
              have s4 : ∀ w : World, (Op.stringOp .add (⟨#[40]⟩ ++ X ++ ⟨#[38]⟩ ++ Y) ⟨#[41]⟩).run Try.prog w = .ok (.string (⟨#[40]⟩ ++ X ++ ⟨#[38]⟩ ++ Y ++ ⟨#[41]⟩)) w := fun w => str_add _ _ w (by rw [size_app, size_app, size_app]; show 1 + _ + 1 + _ + 1 ≤ _; omega)
              clear hszX hszY hdl hql
              go_enter Try.func79, Try.ntmps79
              go_wp2_with fail
              refine (HI.out (i + 1) q _ HR.out HH.out).mono ?_
              rintro e w2 ⟨rfl, hd⟩
              rw [HX.out]
              have hr2 := Lib.hid (hd.rd HR.out)
              go_wp2_with fail
              refine (end_any _ c t (by omega) (k + t.length) (i + 1) _ hr2.out (by omega) (by omega)).mono ?_
              rintro e w3 ⟨rfl, rfl⟩
              rw [HE.out]
              go_wp2_with fail
              refine (HI.out (t.length - q.length) r _ hr2.out HQ.out).mono ?_
              rintro e w4 ⟨rfl, hd4⟩
              rw [HD.out, HY.out]
              go_wp2
              go_ret
              exact ⟨by rw [HV.out]; rfl, hd.trans hd4⟩
            · have s1 : ∀ w : World, (Op.stringOp .add ⟨#[40]⟩ X).run Try.prog w = .ok (.string (⟨#[40]⟩ ++ X)) w := fun w => str_add _ _ w (by show 1 + _ ≤ _; omega)
              have s2 : ∀ w : World, (Op.stringOp .add (⟨#[40]⟩ ++ X) ⟨#[124]⟩).run Try.prog w = .ok (.string (⟨#[40]⟩ ++ X ++ ⟨#[124]⟩)) w := fun w => str_add _ _ w (by rw [size_app]; show 1 + _ + 1 ≤ _; omega)
              have s3 : ∀ w : World, (Op.stringOp .add (⟨#[40]⟩ ++ X ++ ⟨#[124]⟩) Y).run Try.prog w = .ok (.string (⟨#[40]⟩ ++ X ++ ⟨#[124]⟩ ++ Y)) w := fun w => str_add _ _ w (by rw [size_app, size_app]; show 1 + _ + 1 + _ ≤ _; omega)
              have s4 : ∀ w : World, (Op.stringOp .add (⟨#[40]⟩ ++ X ++ ⟨#[124]⟩ ++ Y) ⟨#[41]⟩).run Try.prog w = .ok (.string (⟨#[40]⟩ ++ X ++ ⟨#[124]⟩ ++ Y ++ ⟨#[41]⟩)) w := fun w => str_add _ _ w (by rw [size_app, size_app, size_app]; show 1 + _ + 1 + _ + 1 ≤ _; omega)
              clear hszX hszY hdl hql
              go_enter Try.func79, Try.ntmps79
              go_wp2_with fail
              refine (HI.out (i + 1) q _ HR.out HH.out).mono ?_
              rintro e w2 ⟨rfl, hd⟩
              rw [HX.out]
              have hr2 := Lib.hid (hd.rd HR.out)
              go_wp2_with fail
              refine (end_any _ c t (by omega) (k + t.length) (i + 1) _ hr2.out (by omega) (by omega)).mono ?_
              rintro e w3 ⟨rfl, rfl⟩
              rw [HE.out]
              go_wp2_with fail
              refine (HI.out (t.length - q.length) r _ hr2.out HQ.out).mono ?_
              rintro e w4 ⟨rfl, hd4⟩
              rw [HD.out, HY.out]
              go_wp2
              go_ret
              exact ⟨by rw [HV.out]; rfl, hd.trans hd4⟩
            · have s1 : ∀ w : World, (Op.stringOp .add ⟨#[40]⟩ X).run Try.prog w = .ok (.string (⟨#[40]⟩ ++ X)) w := fun w => str_add _ _ w (by show 1 + _ ≤ _; omega)
              have s2 : ∀ w : World, (Op.stringOp .add (⟨#[40]⟩ ++ X) ⟨#[42]⟩).run Try.prog w = .ok (.string (⟨#[40]⟩ ++ X ++ ⟨#[42]⟩)) w := fun w => str_add _ _ w (by rw [size_app]; show 1 + _ + 1 ≤ _; omega)
              have s3 : ∀ w : World, (Op.stringOp .add (⟨#[40]⟩ ++ X ++ ⟨#[42]⟩) Y).run Try.prog w = .ok (.string (⟨#[40]⟩ ++ X ++ ⟨#[42]⟩ ++ Y)) w := fun w => str_add _ _ w (by rw [size_app, size_app]; show 1 + _ + 1 + _ ≤ _; omega)
              have s4 : ∀ w : World, (Op.stringOp .add (⟨#[40]⟩ ++ X ++ ⟨#[42]⟩ ++ Y) ⟨#[41]⟩).run Try.prog w = .ok (.string (⟨#[40]⟩ ++ X ++ ⟨#[42]⟩ ++ Y ++ ⟨#[41]⟩)) w := fun w => str_add _ _ w (by rw [size_app, size_app, size_app]; show 1 + _ + 1 + _ + 1 ≤ _; omega)
              clear hszX hszY hdl hql
              go_enter Try.func79, Try.ntmps79
              go_wp2_with fail
              refine (HI.out (i + 1) q _ HR.out HH.out).mono ?_
              rintro e w2 ⟨rfl, hd⟩
              rw [HX.out]
              have hr2 := Lib.hid (hd.rd HR.out)
              go_wp2_with fail
              refine (end_any _ c t (by omega) (k + t.length) (i + 1) _ hr2.out (by omega) (by omega)).mono ?_
              rintro e w3 ⟨rfl, rfl⟩
              rw [HE.out]
              go_wp2_with fail
              refine (HI.out (t.length - q.length) r _ hr2.out HQ.out).mono ?_
              rintro e w4 ⟨rfl, hd4⟩
              rw [HD.out, HY.out]
              go_wp2
              go_ret
              exact ⟨by rw [HV.out]; rfl, hd.trans hd4⟩
            · have s1 : ∀ w : World, (Op.stringOp .add ⟨#[40]⟩ X).run Try.prog w = .ok (.string (⟨#[40]⟩ ++ X)) w := fun w => str_add _ _ w (by show 1 + _ ≤ _; omega)
              have s2 : ∀ w : World, (Op.stringOp .add (⟨#[40]⟩ ++ X) ⟨#[62]⟩).run Try.prog w = .ok (.string (⟨#[40]⟩ ++ X ++ ⟨#[62]⟩)) w := fun w => str_add _ _ w (by rw [size_app]; show 1 + _ + 1 ≤ _; omega)
              have s3 : ∀ w : World, (Op.stringOp .add (⟨#[40]⟩ ++ X ++ ⟨#[62]⟩) Y).run Try.prog w = .ok (.string (⟨#[40]⟩ ++ X ++ ⟨#[62]⟩ ++ Y)) w := fun w => str_add _ _ w (by rw [size_app, size_app]; show 1 + _ + 1 + _ ≤ _; omega)
              have s4 : ∀ w : World, (Op.stringOp .add (⟨#[40]⟩ ++ X ++ ⟨#[62]⟩ ++ Y) ⟨#[41]⟩).run Try.prog w = .ok (.string (⟨#[40]⟩ ++ X ++ ⟨#[62]⟩ ++ Y ++ ⟨#[41]⟩)) w := fun w => str_add _ _ w (by rw [size_app, size_app, size_app]; show 1 + _ + 1 + _ + 1 ≤ _; omega)
              clear hszX hszY hdl hql
              go_enter Try.func79, Try.ntmps79
              go_wp2_with fail
              refine (HI.out (i + 1) q _ HR.out HH.out).mono ?_
              rintro e w2 ⟨rfl, hd⟩
              rw [HX.out]
              have hr2 := Lib.hid (hd.rd HR.out)
              go_wp2_with fail
              refine (end_any _ c t (by omega) (k + t.length) (i + 1) _ hr2.out (by omega) (by omega)).mono ?_
              rintro e w3 ⟨rfl, rfl⟩
              rw [HE.out]
              go_wp2_with fail
              refine (HI.out (t.length - q.length) r _ hr2.out HQ.out).mono ?_
              rintro e w4 ⟨rfl, hd4⟩
              rw [HD.out, HY.out]
              go_wp2
              go_ret
              exact ⟨by rw [HV.out]; rfl, hd.trans hd4⟩
/-- the text of numbers -/
def ttI (t : List Int) : ByteArray := if vtB t then txI t.length t else ⟨#[]⟩
theorem vtB_parts {t : List Int} (h : vtB t = true) : t.length ≤ 15 ∧ tmR t.length t = some [] := by
  unfold vtB at h
  rw [Bool.and_eq_true, decide_eq_true_eq, beq_iff_eq] at h
  exact h
set_option maxRecDepth 100000 in
set_option maxHeartbeats 1000000 in
/-- spec.TermText -/
theorem specTermText_any (a : Option Addr) (c : Nat) (t : List Int) (w : World) (h : Rd w a t) (hm : t.length ≤ 1048576) : Calls Try.prog 41 #[.slice a t.length c] w fun e w' => e = .returned (.string (ttI t)) ∧ Below w.heap.size w w' := by
  have HR := Lib.hid h
  cases hv : vtB t with
  | false =>
    have HV := Lib.hid (show ttI t = ⟨#[]⟩ by unfold ttI; rw [hv]; rfl)
    go_enter Try.func41, Try.ntmps41
    go_wp2_with (go_at_call 55; refine (specValid_any _ _ t _ HR.out hm).mono ?_; rintro e w' ⟨rfl, rfl⟩)
    go_ret
    exact ⟨by rw [HV.out]; rfl, Below.refl _ _⟩
  | true =>
    have HV := Lib.hid (show ttI t = txI t.length t by unfold ttI; rw [hv]; rfl)
    obtain ⟨l15, ht⟩ := vtB_parts hv
    have HT := Lib.hid (specText_any a c t l15 t.length 0 [] w h (by rw [List.drop_zero]; exact ht))
    clear ht
    go_enter Try.func41, Try.ntmps41
    go_wp2_with (go_at_call 55; refine (specValid_any _ _ t _ HR.out hm).mono ?_; rintro e w' ⟨rfl, rfl⟩)
    refine (HT.out).mono ?_
    rintro e w' ⟨rfl, hd⟩
    go_wp2
    go_ret
    exact ⟨by rw [HV.out]; rfl, hd.below _⟩
set_option maxRecDepth 100000 in
set_option maxHeartbeats 1000000 in
/-- impl.TermText -/
theorem implTermText_any (a : Option Addr) (c : Nat) (t : List Int) (w : World) (h : Rd w a t) (hm : t.length ≤ 1048576) (hc : t.length ≤ c) : Calls Try.prog 39 #[.slice a t.length c] w fun e w' => e = .returned (.string (ttI t)) ∧ Below w.heap.size w w' := by
  have HR := Lib.hid (readTerm_any a c t w h hc hm)
  go_enter Try.func39, Try.ntmps39
  go_wp2_with fail
  refine (HR.out).mono ?_
  rintro e w2 (⟨hv, rfl, hd⟩ | ⟨hv, rfl, hd⟩)
  · have HV := Lib.hid (show ttI t = txI t.length t by unfold ttI; rw [hv]; rfl)
    obtain ⟨l15, ht⟩ := vtB_parts hv
    obtain ⟨T1, y1, e1⟩ := tmV_if ht
    have HT := Lib.hid (show ∀ w : World, Calls Try.prog 78 #[.iface T1 y1] w fun e w' => e = .returned (.string (txI t.length t)) ∧ Below w.heap.size w w' from fun w => by rw [← e1]; exact textOf_any t.length t [] w ht l15)
    rw [e1]
    clear hv ht e1 l15
    go_wp2_with fail
    refine (HT.out _).mono ?_
    rintro e w3 ⟨rfl, h3⟩
    have z := (hd.below w.heap.size).trans (h3.mono (hd.below w.heap.size).size)
    go_wp2
    go_ret
    exact ⟨by rw [HV.out]; rfl, z⟩
  · have HV := Lib.hid (show ttI t = ⟨#[]⟩ by unfold ttI; rw [hv]; rfl)
    clear hv
    go_wp2
    go_ret
    exact ⟨by rw [HV.out]; rfl, hd.below _⟩
end Go.Proofs.Ytidbilgnclfplaa
