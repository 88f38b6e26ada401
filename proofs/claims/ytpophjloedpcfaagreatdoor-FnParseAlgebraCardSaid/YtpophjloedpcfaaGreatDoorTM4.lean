import Derived.Test.YtpophjloedpcfaaGreatDoorTM3
import Derived.BigQuiet
import Derived.Deep.RegionWith
import Derived.Test.YtpophjloedpcfaaGreatDoorI5
namespace Go.Proofs.YtpophjloedpcfaaGreatDoor
open Go.RowKit

theorem num_cases {x : Int} (h : isLf x = true ∨ x = 12 ∨ isSg x = true) : x = 0 ∨ x = 1 ∨ x = 2 ∨ x = 10 ∨ x = 11 ∨ x = 12 ∨ x = 13 ∨ x = 14 ∨ x = 15 ∨ x = 16 := by
  unfold isLf isNm isSg at h
  rw [Bool.or_eq_true, Bool.or_eq_true, Bool.and_eq_true, Bool.and_eq_true, decide_eq_true_eq, decide_eq_true_eq, decide_eq_true_eq, decide_eq_true_eq, beq_iff_eq, beq_iff_eq] at h
  omega
theorem str_add {P : Program} (a b : ByteArray) (w : World) (h : a.size + b.size ≤ 9223372036854775807) : (Op.stringOp .add a b).run P w = .ok (.string (a ++ b)) w := by
  have : ¬ ((9223372036854775807 : Int) < (a.size : Int) + (b.size : Int)) := by omega
  simp [Op.stringOp, this]
theorem upon_of {P : Program} {o : Oper} {a : Act} {K : Act → World → Prop} {Q : Exit → Act → World → Prop} {r r' : _} (h : r = r') (h' : Oper.upon P o a K Q r') : Oper.upon P o a K Q r := h ▸ h'
set_option maxHeartbeats 400000 in
theorem leafHead_any (x : Int) (w : World) : Calls Tryz.prog 257 #[.agg #[.int .i64 x]] w fun e w' => e = .returned (.int .i64 x) ∧ Below w.heap.size w w' := by
  go_enter Tryz.func257, Tryz.ntmps257
  go_wp2
  go_ret
  exact ⟨rfl, by first | exact Below.refl _ _ | exact (Below.refl _ _).alloc (Nat.le_refl _) _⟩
set_option maxHeartbeats 400000 in
theorem oppHead_any (y : Value) (w : World) : Calls Tryz.prog 258 #[.agg #[y]] w fun e w' => e = .returned (.int .i64 12) ∧ Below w.heap.size w w' := by
  go_enter Tryz.func258, Tryz.ntmps258
  go_wp2
  go_ret
  exact ⟨rfl, by first | exact Below.refl _ _ | exact (Below.refl _ _).alloc (Nat.le_refl _) _⟩
set_option maxHeartbeats 400000 in
theorem comHead_any (x : Int) (y z : Value) (w : World) : Calls Tryz.prog 259 #[.agg #[.int .i64 x, y, z]] w fun e w' => e = .returned (.int .i64 x) ∧ Below w.heap.size w w' := by
  go_enter Tryz.func259, Tryz.ntmps259
  go_wp2
  go_ret
  exact ⟨rfl, by first | exact Below.refl _ _ | exact (Below.refl _ _).alloc (Nat.le_refl _) _⟩
theorem tmV_if : ∀ {k : Nat} {t r : List Int}, tmR k t = some r → ∃ T y, tmV k t = .iface T y
  | 0, _, _, h => by cases h
  | _ + 1, [], _, h => by cases h
  | k + 1, x :: t, r, _ => by
    cases h1 : isLf x with
    | true => exact ⟨_, _, tmV_leaf h1⟩
    | false =>
      by_cases h2 : x = 12
      · exact ⟨_, _, tmV_opp h1 h2⟩
      · exact ⟨_, _, tmV_sign h1 h2⟩
set_option maxRecDepth 100000 in
set_option maxHeartbeats 4000000 in
/-- spec.text -/
theorem specText_any (a : Option Addr) (c : Nat) (t : List Int) (hm : t.length ≤ 15) : ∀ (k i : Nat) (r : List Int) (w : World), Rd w a t → tmR k (t.drop i) = some r → Calls Tryz.prog 46 #[.slice a t.length c, .int .i64 (i : Int)] w fun e w' => e = .returned (.string (txI k (t.drop i))) ∧ Dr w w' := by
  intro k
  induction k with
  | zero => intro i r w _ h; cases h
  | succ k ih =>
    intro i r w hr h
    have hi : i < t.length := by
      refine Classical.byContradiction fun hc => ?_
      rw [List.drop_eq_nil_of_le (by omega)] at h
      cases h
    obtain ⟨b, off, rfl, hcc⟩ := hr (fun e => by rw [e] at hi; simp at hi)
    have c0 := hcc.at (i : Int) (by omega) (show (i : Int) < num t by unfold num; omega)
    rw [Int.toNat_natCast] at c0
    have hiI : (i : Int) < t.length := by omega
    have hi0 : (0 : Int) ≤ i := by omega
    have hw1 : IntKind.i64.wrap ((i : Int) + 1) = (i : Int) + 1 := IntWalk.i64_in _ (by omega)
    have HR := Lib.hid hr
    have HI := Lib.hid ih
    rw [drop_cons hi] at h ⊢
    obtain ⟨x, hx⟩ : ∃ x, x = nth t i := ⟨_, rfl⟩
    rw [← hx] at h c0 ⊢
    clear hx hcc hr ih
    cases h1 : isLf x with
    | true =>
      have HV := Lib.hid (txI_leaf (k := k) (t := t.drop (i + 1)) h1)
      have hn := num_cases (.inl h1)
      have hlf : x = 0 ∨ x = 1 ∨ x = 2 ∨ x = 10 ∨ x = 11 := by
        have := leaf_not h1
        simp only [beq_eq_false_iff_ne] at this
        omega
      clear h1 h hn
      rcases hlf with rfl | rfl | rfl | rfl | rfl
      all_goals
        go_enter Tryz.func46, Tryz.ntmps46
        go_wp2
        (try (go_quiet (fail); go_wp2))
        go_ret
        exact ⟨by rw [HV.out]; rfl, by first | exact Dr.refl _ | exact ⟨_, rfl⟩⟩
    | false =>
      by_cases h2 : x = 12
      · subst h2
        rw [tmR_opp h1 rfl] at h
        have HV := Lib.hid (txI_opp (k := k) (t := t.drop (i + 1)) h1 rfl)
        have HH := Lib.hid h
        have hsz := txI_size k _ _ h
        have hdl : (t.drop (i + 1)).length ≤ 15 := by rw [List.length_drop]; omega
        obtain ⟨X, hX⟩ : ∃ X, X = txI k (t.drop (i + 1)) := ⟨_, rfl⟩
        rw [← hX] at hsz HV
        have s1 : ∀ w : World, (Op.stringOp .add ⟨#[45]⟩ X).run Tryz.prog w = .ok (.string (⟨#[45]⟩ ++ X)) w := fun w => str_add _ _ w (by show 1 + _ ≤ _; omega)
        have HX := Lib.hid hX.symm
        clear h h1 hsz hdl hX
        go_enter Tryz.func46, Tryz.ntmps46
        go_wp2_with fail
        refine (HI.out (i + 1) r _ HR.out HH.out).mono ?_
        rintro e w2 ⟨rfl, hd⟩
        rw [HX.out]
        go_wp2
        go_ret
        exact ⟨by rw [HV.out]; rfl, hd⟩
      · cases h3 : isSg x with
        | false => rw [tmR_no h1 h2 h3] at h; cases h
        | true =>
          rw [tmR_sign h1 h2 h3] at h
          cases h4 : tmR k (t.drop (i + 1)) with
          | none => rw [h4] at h; cases h
          | some q =>
            rw [h4] at h
            have HV := Lib.hid (txI_sign h1 h2 h4)
            have hen := endI_some (k := k + t.length) (t := t) (i := i + 1) (tmR_mono k _ _ _ h4 (by omega))
            have HH := Lib.hid h4
            have HQ := Lib.hid (show tmR k (t.drop (t.length - q.length)) = some r by rw [hen.2.2.2]; exact h)
            have HD := Lib.hid (hen.2.2.2)
            have HE := Lib.hid hen.1
            have hsg : x = 13 ∨ x = 14 ∨ x = 15 ∨ x = 16 := by
              have := num_cases (.inr (.inr h3))
              unfold isSg at h3
              rw [Bool.and_eq_true, decide_eq_true_eq, decide_eq_true_eq] at h3
              omega
            have hszX := txI_size k _ _ h4
            have hszY := txI_size k _ _ h
            have hdl : (t.drop (i + 1)).length ≤ 15 := by rw [List.length_drop]; omega
            have hql := tmR_len h4
            obtain ⟨X, hX⟩ : ∃ X, X = txI k (t.drop (i + 1)) := ⟨_, rfl⟩
            obtain ⟨Y, hY⟩ : ∃ Y, Y = txI k q := ⟨_, rfl⟩
            rw [← hX, ← hY] at HV
            rw [← hX] at hszX
            rw [← hY] at hszY
            have HX := Lib.hid hX.symm
            have HY := Lib.hid hY.symm
            clear h h1 h2 h3 h4 hen hX hY
            rcases hsg with rfl | rfl | rfl | rfl
            · have s1 : ∀ w : World, (Op.stringOp .add ⟨#[40]⟩ X).run Tryz.prog w = .ok (.string (⟨#[40]⟩ ++ X)) w := fun w => str_add _ _ w (by show 1 + _ ≤ _; omega)
              have s2 : ∀ w : World, (Op.stringOp .add (⟨#[40]⟩ ++ X) ⟨#[38]⟩).run Tryz.prog w = .ok (.string (⟨#[40]⟩ ++ X ++ ⟨#[38]⟩)) w := fun w => str_add _ _ w (by rw [size_app]; show 1 + _ + 1 ≤ _; omega)
              have s3 : ∀ w : World, (Op.stringOp .add (⟨#[40]⟩ ++ X ++ ⟨#[38]⟩) Y).run Tryz.prog w = .ok (.string (⟨#[40]⟩ ++ X ++ ⟨#[38]⟩ ++ Y)) w := fun w => str_add _ _ w (by rw [size_app, size_app]; show 1 + _ + 1 + _ ≤ _; omega)
              have s4 : ∀ w : World, (Op.stringOp .add (⟨#[40]⟩ ++ X ++ ⟨#[38]⟩ ++ Y) ⟨#[41]⟩).run Tryz.prog w = .ok (.string (⟨#[40]⟩ ++ X ++ ⟨#[38]⟩ ++ Y ++ ⟨#[41]⟩)) w := fun w => str_add _ _ w (by rw [size_app, size_app, size_app]; show 1 + _ + 1 + _ + 1 ≤ _; omega)
              clear hszX hszY hdl hql
              go_enter Tryz.func46, Tryz.ntmps46
              go_wp2_with fail
              refine (HI.out (i + 1) q _ HR.out HH.out).mono ?_
              rintro e w2 ⟨rfl, hd⟩
              rw [HX.out]
              have hr2 := Lib.hid (hd.rd HR.out)
              go_wp2_with fail
              refine (end_any _ c t (by omega) (k + t.length) (i + 1) _ hr2.out (by omega) (by omega)).mono ?_
              rintro e w3 ⟨rfl, rfl⟩
              rw [HE.out]
              go_wp2_with fail
              refine (HI.out (t.length - q.length) r _ hr2.out HQ.out).mono ?_
              rintro e w4 ⟨rfl, hd4⟩
              rw [HD.out, HY.out]
              go_wp2
              go_ret
              exact ⟨by rw [HV.out]; rfl, hd.trans hd4⟩
            · have s1 : ∀ w : World, (Op.stringOp .add ⟨#[40]⟩ X).run Tryz.prog w = .ok (.string (⟨#[40]⟩ ++ X)) w := fun w => str_add _ _ w (by show 1 + _ ≤ _; omega)
              have s2 : ∀ w : World, (Op.stringOp .add (⟨#[40]⟩ ++ X) ⟨#[124]⟩).run Tryz.prog w = .ok (.string (⟨#[40]⟩ ++ X ++ ⟨#[124]⟩)) w := fun w => str_add _ _ w (by rw [size_app]; show 1 + _ + 1 ≤ _; omega)
              have s3 : ∀ w : World, (Op.stringOp .add (⟨#[40]⟩ ++ X ++ ⟨#[124]⟩) Y).run Tryz.prog w = .ok (.string (⟨#[40]⟩ ++ X ++ ⟨#[124]⟩ ++ Y)) w := fun w => str_add _ _ w (by rw [size_app, size_app]; show 1 + _ + 1 + _ ≤ _; omega)
              have s4 : ∀ w : World, (Op.stringOp .add (⟨#[40]⟩ ++ X ++ ⟨#[124]⟩ ++ Y) ⟨#[41]⟩).run Tryz.prog w = .ok (.string (⟨#[40]⟩ ++ X ++ ⟨#[124]⟩ ++ Y ++ ⟨#[41]⟩)) w := fun w => str_add _ _ w (by rw [size_app, size_app, size_app]; show 1 + _ + 1 + _ + 1 ≤ _; omega)
              clear hszX hszY hdl hql
              go_enter Tryz.func46, Tryz.ntmps46
              go_wp2_with fail
              refine (HI.out (i + 1) q _ HR.out HH.out).mono ?_
              rintro e w2 ⟨rfl, hd⟩
              rw [HX.out]
              have hr2 := Lib.hid (hd.rd HR.out)
              go_wp2_with fail
              refine (end_any _ c t (by omega) (k + t.length) (i + 1) _ hr2.out (by omega) (by omega)).mono ?_
              rintro e w3 ⟨rfl, rfl⟩
              rw [HE.out]
              go_wp2_with fail
              refine (HI.out (t.length - q.length) r _ hr2.out HQ.out).mono ?_
              rintro e w4 ⟨rfl, hd4⟩
              rw [HD.out, HY.out]
              go_wp2
              go_ret
              exact ⟨by rw [HV.out]; rfl, hd.trans hd4⟩
            · have s1 : ∀ w : World, (Op.stringOp .add ⟨#[40]⟩ X).run Tryz.prog w = .ok (.string (⟨#[40]⟩ ++ X)) w := fun w => str_add _ _ w (by show 1 + _ ≤ _; omega)
              have s2 : ∀ w : World, (Op.stringOp .add (⟨#[40]⟩ ++ X) ⟨#[42]⟩).run Tryz.prog w = .ok (.string (⟨#[40]⟩ ++ X ++ ⟨#[42]⟩)) w := fun w => str_add _ _ w (by rw [size_app]; show 1 + _ + 1 ≤ _; omega)
              have s3 : ∀ w : World, (Op.stringOp .add (⟨#[40]⟩ ++ X ++ ⟨#[42]⟩) Y).run Tryz.prog w = .ok (.string (⟨#[40]⟩ ++ X ++ ⟨#[42]⟩ ++ Y)) w := fun w => str_add _ _ w (by rw [size_app, size_app]; show 1 + _ + 1 + _ ≤ _; omega)
              have s4 : ∀ w : World, (Op.stringOp .add (⟨#[40]⟩ ++ X ++ ⟨#[42]⟩ ++ Y) ⟨#[41]⟩).run Tryz.prog w = .ok (.string (⟨#[40]⟩ ++ X ++ ⟨#[42]⟩ ++ Y ++ ⟨#[41]⟩)) w := fun w => str_add _ _ w (by rw [size_app, size_app, size_app]; show 1 + _ + 1 + _ + 1 ≤ _; omega)
              clear hszX hszY hdl hql
              go_enter Tryz.func46, Tryz.ntmps46
              go_wp2_with fail
              refine (HI.out (i + 1) q _ HR.out HH.out).mono ?_
              rintro e w2 ⟨rfl, hd⟩
              rw [HX.out]
              have hr2 := Lib.hid (hd.rd HR.out)
              go_wp2_with fail
              refine (end_any _ c t (by omega) (k + t.length) (i + 1) _ hr2.out (by omega) (by omega)).mono ?_
              rintro e w3 ⟨rfl, rfl⟩
              rw [HE.out]
              go_wp2_with fail
              refine (HI.out (t.length - q.length) r _ hr2.out HQ.out).mono ?_
              rintro e w4 ⟨rfl, hd4⟩
              rw [HD.out, HY.out]
              go_wp2
              go_ret
              exact ⟨by rw [HV.out]; rfl, hd.trans hd4⟩
            · have s1 : ∀ w : World, (Op.stringOp .add ⟨#[40]⟩ X).run Tryz.prog w = .ok (.string (⟨#[40]⟩ ++ X)) w := fun w => str_add _ _ w (by show 1 + _ ≤ _; omega)
              have s2 : ∀ w : World, (Op.stringOp .add (⟨#[40]⟩ ++ X) ⟨#[62]⟩).run Tryz.prog w = .ok (.string (⟨#[40]⟩ ++ X ++ ⟨#[62]⟩)) w := fun w => str_add _ _ w (by rw [size_app]; show 1 + _ + 1 ≤ _; omega)
              have s3 : ∀ w : World, (Op.stringOp .add (⟨#[40]⟩ ++ X ++ ⟨#[62]⟩) Y).run Tryz.prog w = .ok (.string (⟨#[40]⟩ ++ X ++ ⟨#[62]⟩ ++ Y)) w := fun w => str_add _ _ w (by rw [size_app, size_app]; show 1 + _ + 1 + _ ≤ _; omega)
              have s4 : ∀ w : World, (Op.stringOp .add (⟨#[40]⟩ ++ X ++ ⟨#[62]⟩ ++ Y) ⟨#[41]⟩).run Tryz.prog w = .ok (.string (⟨#[40]⟩ ++ X ++ ⟨#[62]⟩ ++ Y ++ ⟨#[41]⟩)) w := fun w => str_add _ _ w (by rw [size_app, size_app, size_app]; show 1 + _ + 1 + _ + 1 ≤ _; omega)
              clear hszX hszY hdl hql
              go_enter Tryz.func46, Tryz.ntmps46
              go_wp2_with fail
              refine (HI.out (i + 1) q _ HR.out HH.out).mono ?_
              rintro e w2 ⟨rfl, hd⟩
              rw [HX.out]
              have hr2 := Lib.hid (hd.rd HR.out)
              go_wp2_with fail
              refine (end_any _ c t (by omega) (k + t.length) (i + 1) _ hr2.out (by omega) (by omega)).mono ?_
              rintro e w3 ⟨rfl, rfl⟩
              rw [HE.out]
              go_wp2_with fail
              refine (HI.out (t.length - q.length) r _ hr2.out HQ.out).mono ?_
              rintro e w4 ⟨rfl, hd4⟩
              rw [HD.out, HY.out]
              go_wp2
              go_ret
              exact ⟨by rw [HV.out]; rfl, hd.trans hd4⟩
/-- the text of numbers -/
def ttI (t : List Int) : ByteArray := if vtB t then txI t.length t else ⟨#[]⟩
theorem vtB_parts {t : List Int} (h : vtB t = true) : t.length ≤ 15 ∧ tmR t.length t = some [] := by
  unfold vtB at h
  rw [Bool.and_eq_true, decide_eq_true_eq, beq_iff_eq] at h
  exact h
end Go.Proofs.YtpophjloedpcfaaGreatDoor
