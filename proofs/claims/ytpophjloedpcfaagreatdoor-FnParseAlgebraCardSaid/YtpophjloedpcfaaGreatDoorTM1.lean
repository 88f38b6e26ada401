import Derived.Test.YtpophjloedpcfaaGreatDoorL5
import Derived.Test.YtpophjloedpcfaaGreatDoorA5
import Derived.IntWalk
import Derived.RegionTactic
import Derived.BigQuiet
import Derived.Deep.QuietTactic
namespace Go.Proofs.YtpophjloedpcfaaGreatDoor
open Go.RowKit

/-! Terms: what is behind one, and its node. -/
def isNm (x : Int) : Bool := decide (0 ≤ x) && decide (x < 3)
def isLf (x : Int) : Bool := isNm x || (x == 10 || x == 11)
def isSg (x : Int) : Bool := decide (13 ≤ x) && decide (x ≤ 16)
def tmR : Nat → List Int → Option (List Int)
  | 0, _ => none
  | _ + 1, [] => none
  | k + 1, x :: t => if isLf x then some t else if x = 12 then tmR k t else if isSg x then (match tmR k t with | none => none | some r => tmR k r) else none
def tmV : Nat → List Int → Value
  | 0, _ => .nilIface
  | _ + 1, [] => .nilIface
  | k + 1, x :: t => if isLf x then .iface 254 (.agg #[.int .i64 x]) else if x = 12 then .iface 256 (.agg #[tmV k t]) else .iface 259 (.agg #[.int .i64 x, tmV k t, tmV k ((tmR k t).getD [])])
theorem tmR_leaf {k : Nat} {x : Int} {t : List Int} (h : isLf x = true) : tmR (k + 1) (x :: t) = some t := by show (if isLf x then _ else _) = _; rw [if_pos h]
theorem tmR_opp {k : Nat} {x : Int} {t : List Int} (h : isLf x = false) (h2 : x = 12) : tmR (k + 1) (x :: t) = tmR k t := by show (if isLf x then _ else _) = _; rw [if_neg (by rw [h]; decide), if_pos h2]
theorem tmR_sign {k : Nat} {x : Int} {t : List Int} (h : isLf x = false) (h2 : x ≠ 12) (h3 : isSg x = true) : tmR (k + 1) (x :: t) = (match tmR k t with | none => none | some r => tmR k r) := by
  show (if isLf x then _ else _) = _
  rw [if_neg (by rw [h]; decide), if_neg h2, if_pos h3]
theorem tmR_no {k : Nat} {x : Int} {t : List Int} (h : isLf x = false) (h2 : x ≠ 12) (h3 : isSg x = false) : tmR (k + 1) (x :: t) = none := by
  show (if isLf x then _ else _) = _
  rw [if_neg (by rw [h]; decide), if_neg h2, if_neg (by rw [h3]; decide)]
theorem tmV_leaf {k : Nat} {x : Int} {t : List Int} (h : isLf x = true) : tmV (k + 1) (x :: t) = .iface 254 (.agg #[.int .i64 x]) := by show (if isLf x then _ else _) = _; rw [if_pos h]
theorem tmV_opp {k : Nat} {x : Int} {t : List Int} (h : isLf x = false) (h2 : x = 12) : tmV (k + 1) (x :: t) = .iface 256 (.agg #[tmV k t]) := by show (if isLf x then _ else _) = _; rw [if_neg (by rw [h]; decide), if_pos h2]
theorem tmV_sign {k : Nat} {x : Int} {t : List Int} (h : isLf x = false) (h2 : x ≠ 12) : tmV (k + 1) (x :: t) = .iface 259 (.agg #[.int .i64 x, tmV k t, tmV k ((tmR k t).getD [])]) := by
  show (if isLf x then _ else _) = _
  rw [if_neg (by rw [h]; decide), if_neg h2]
theorem tmR_nil (k : Nat) : tmR k [] = none := by cases k <;> rfl
theorem tmR_drop : ∀ (k : Nat) (t r : List Int), tmR k t = some r → r.length < t.length ∧ r = t.drop (t.length - r.length)
  | 0, _, _, h => by cases h
  | _ + 1, [], _, h => by cases h
  | k + 1, x :: t, r, h => by
    have key : ∀ r', tmR k t = some r' → r'.length < t.length ∧ r' = t.drop (t.length - r'.length) := fun r' h' => tmR_drop k t r' h'
    cases h1 : isLf x with
    | true =>
      rw [tmR_leaf h1] at h
      injection h with h
      subst h
      refine ⟨by simp, ?_⟩
      rw [List.length_cons, show t.length + 1 - t.length = 1 by omega]; rfl
    | false =>
      have step : ∀ r', r'.length < t.length → r' = t.drop (t.length - r'.length) → r'.length < (x :: t).length ∧ r' = (x :: t).drop ((x :: t).length - r'.length) := fun r' l e => by
        refine ⟨by rw [List.length_cons]; omega, ?_⟩
        rw [List.length_cons, show t.length + 1 - r'.length = (t.length - r'.length) + 1 by omega, List.drop_succ_cons]
        exact e
      by_cases h2 : x = 12
      · rw [tmR_opp h1 h2] at h
        obtain ⟨l, e⟩ := key r h
        exact step r l e
      · cases h3 : isSg x with
        | false => rw [tmR_no h1 h2 h3] at h; cases h
        | true =>
          rw [tmR_sign h1 h2 h3] at h
          cases h4 : tmR k t with
          | none => rw [h4] at h; cases h
          | some q =>
            rw [h4] at h
            obtain ⟨l, e⟩ := key q h4
            obtain ⟨l2, e2⟩ := tmR_drop k q r h
            refine step r (by omega) ?_
            conv => lhs; rw [e2, e]
            rw [List.drop_drop, List.length_drop]
            congr 1
            omega
theorem tmR_len {k : Nat} {t r : List Int} (h : tmR k t = some r) : r.length < t.length := (tmR_drop k t r h).1
/-- the index behind the term at an index, -1 if there is none -/
def endI (k : Nat) (t : List Int) (i : Nat) : Int := match tmR k (t.drop i) with | some r => ((t.length - r.length : Nat) : Int) | none => -1
theorem endI_some {k : Nat} {t r : List Int} {i : Nat} (h : tmR k (t.drop i) = some r) : endI k t i = ((t.length - r.length : Nat) : Int) ∧ i < t.length - r.length ∧ t.length - r.length ≤ t.length ∧ t.drop (t.length - r.length) = r := by
  obtain ⟨l, e⟩ := tmR_drop _ _ _ h
  rw [List.length_drop] at l
  refine ⟨by unfold endI; rw [h], by omega, by omega, ?_⟩
  rw [List.length_drop, List.drop_drop] at e
  rw [show i + (t.length - i - r.length) = t.length - r.length by omega] at e
  exact e.symm
theorem endI_none {k : Nat} {t : List Int} {i : Nat} (h : tmR k (t.drop i) = none) : endI k t i = -1 := by unfold endI; rw [h]
/-- the numbers are a term -/
def vtB (t : List Int) : Bool := decide (t.length ≤ 15) && (tmR t.length t == some [])

theorem drop_cons {t : List Int} {i : Nat} (h : i < t.length) : t.drop i = nth t i :: t.drop (i + 1) := by
  rw [List.drop_eq_getElem_cons h]
  congr 1
  unfold nth
  simp [h]
set_option maxHeartbeats 1000000 in
theorem isName_any (x : Int) (w : World) : Calls Tryz.prog 217 #[.int .i64 x] w fun e w' => e = .returned (.bool (isNm x)) ∧ w = w' := by
  by_cases h0 : 0 ≤ x
  · by_cases h3 : x < 3
    · go_enter Tryz.func217, Tryz.ntmps217
      go_wp2
      go_ret
      exact ⟨by simp [isNm, h0, h3], rfl⟩
    · go_enter Tryz.func217, Tryz.ntmps217
      go_wp2
      go_ret
      exact ⟨by simp [isNm, h0, h3], rfl⟩
  · go_enter Tryz.func217, Tryz.ntmps217
    go_wp2
    go_ret
    exact ⟨by unfold isNm; rw [decide_eq_false (by omega)]; rfl, rfl⟩
set_option maxHeartbeats 1000000 in
theorem isSign_any (x : Int) (w : World) : Calls Tryz.prog 216 #[.int .i64 x] w fun e w' => e = .returned (.bool (isSg x)) ∧ w = w' := by
  by_cases h0 : 13 ≤ x
  · by_cases h3 : x ≤ 16
    · go_enter Tryz.func216, Tryz.ntmps216
      go_wp2
      go_ret
      exact ⟨by simp [isSg, h0, h3], rfl⟩
    · go_enter Tryz.func216, Tryz.ntmps216
      go_wp2
      go_ret
      exact ⟨by simp [isSg, h0, h3], rfl⟩
  · go_enter Tryz.func216, Tryz.ntmps216
    go_wp2
    go_ret
    exact ⟨by unfold isSg; rw [decide_eq_false (by omega)]; rfl, rfl⟩
set_option maxHeartbeats 1000000 in
theorem isLeaf_any (x : Int) (w : World) : Calls Tryz.prog 207 #[.int .i64 x] w fun e w' => e = .returned (.bool (isLf x)) ∧ w = w' := by
  cases hn : isNm x with
  | true =>
    go_enter Tryz.func207, Tryz.ntmps207
    go_wp2_with (first | go_skip | (go_at_call 217; refine (isName_any _ _).mono ?_; rintro e w' ⟨rfl, rfl⟩))
    go_ret
    exact ⟨by simp [isLf, hn], rfl⟩
  | false =>
    by_cases h0 : x = 10
    · have q0 : (x == 10) = true := by rw [beq_iff_eq]; exact h0
      clear h0
      go_enter Tryz.func207, Tryz.ntmps207
      go_wp2_with (first | go_skip | (go_at_call 217; refine (isName_any _ _).mono ?_; rintro e w' ⟨rfl, rfl⟩))
      go_ret
      exact ⟨by simp only [isLf, hn, q0]; rfl, rfl⟩
    · have q0 : (x == 10) = false := by rw [beq_eq_false_iff_ne]; exact h0
      cases q1 : x == 11
      all_goals
        go_enter Tryz.func207, Tryz.ntmps207
        go_wp2_with (first | go_skip | (go_at_call 217; refine (isName_any _ _).mono ?_; rintro e w' ⟨rfl, rfl⟩))
        go_ret
        exact ⟨by simp only [isLf, hn, q0, q1]; rfl, rfl⟩
set_option maxRecDepth 100000 in
theorem slice_run1 (a : Option Addr) (n c : Nat) (h1 : 1 ≤ n) (w : World) : (Instr.slice 23 (.slice a n c) (some (.int .i64 1)) none none).run Tryz.prog w = .ok (sliced a 1 n c 1) w := by
  have hs : ∀ w : World, (sizeOf (Tryz.prog.elem 23)).run Tryz.prog w = .ok 1 w := fun w => by kernel_rfl
  have := run_slice_l (P := Tryz.prog) (t := 23) (a := a) (len := n) (cap := c) w Tryz.underlying23 .i64 1 (by decide) (by omega)
  rw [this, hs]
  rfl
theorem slice_tail (b off : Nat) (x : Int) (t : List Int) (c : Nat) (w : World) (h : Rd w (some ⟨b, off, none⟩) (x :: t)) (hc : t.length + 1 ≤ c) : ∃ a' c', t.length ≤ c' ∧ Rd w a' t ∧ ∀ w : World, (Instr.slice 23 (.slice (some ⟨b, off, none⟩) (t.length + 1) c) (some (.int .i64 1)) none none).run Tryz.prog w = .ok (.slice a' t.length c') w := by
  by_cases h1 : c = 1
  · have e : t = [] := List.length_eq_zero_iff.1 (by omega)
    subst e
    refine ⟨some ⟨b, off, none⟩, 0, Nat.zero_le _, fun h => absurd rfl h, fun w => ?_⟩
    rw [slice_run1 _ _ _ (by omega)]
    subst h1
    rfl
  · refine ⟨some ⟨b, off + 1, none⟩, c - 1, by omega, fun hne => ⟨b, off + 1, rfl, fun j hj => ?_⟩, fun w => ?_⟩
    · obtain ⟨b', o', e, hcc⟩ := h (by simp)
      simp only [Option.some.injEq, Addr.mk.injEq] at e
      obtain ⟨rfl, rfl, _⟩ := e
      have := hcc (j + 1) (by simp; omega)
      rw [show off + 1 + j = off + (j + 1) by omega, this]
      simp [nth]
    · rw [slice_run1 _ _ _ (by omega)]
      unfold sliced
      rw [if_neg h1]
      simp [Addr.add]
theorem Dr.rdback {w w' : World} (h : Dr w w') {a : Option Addr} {L : List Int} (hr : Rd w' a L) : Rd w a L := fun hl => by
  obtain ⟨b, off, e, hc⟩ := hr hl
  obtain ⟨n, rfl⟩ := h
  exact ⟨b, off, e, hc⟩
/-- a value of the interface -/
def IsNd (v : Value) : Prop := v = .nilIface ∨ ∃ T y, v = .iface T y
theorem tmV_nd (k : Nat) (t : List Int) : IsNd (tmV k t) := by
  cases k with
  | zero => exact .inl rfl
  | succ k =>
    cases t with
    | nil => exact .inl rfl
    | cons x t =>
      right
      show ∃ T y, (if isLf x then _ else if x = 12 then _ else _) = Value.iface T y
      split
      · exact ⟨_, _, rfl⟩
      · split <;> exact ⟨_, _, rfl⟩
theorem com_end {k : Nat} {t r r3 : List Int} {x : Int} {v v3 : Value} {ok ok3 : Bool} (h1 : ok = (tmR k t).isSome) (h2 : ∀ r', tmR k t = some r' → r = r' ∧ v = tmV k t) (h3 : ok3 = (tmR k r).isSome) (h4 : ∀ r', tmR k r = some r' → r3 = r' ∧ v3 = tmV k r)
    (hE : tmR (k + 1) (x :: t) = (match tmR k t with | none => none | some r => tmR k r)) (hV : tmV (k + 1) (x :: t) = .iface 259 (.agg #[.int .i64 x, tmV k t, tmV k ((tmR k t).getD [])])) :
    (ok && ok3) = (tmR (k + 1) (x :: t)).isSome ∧ ∀ r', tmR (k + 1) (x :: t) = some r' → r3 = r' ∧ Value.iface 259 (.agg #[.int .i64 x, v, v3]) = tmV (k + 1) (x :: t) := by
  rw [hE, hV]
  cases h : tmR k t with
  | none => rw [h] at h1; subst h1; exact ⟨rfl, fun r' h => by cases h⟩
  | some q =>
    rw [h] at h1
    obtain ⟨rfl, rfl⟩ := h2 q h
    subst h1
    refine ⟨by rw [h3]; rfl, fun r' h' => ?_⟩
    obtain ⟨e1, e2⟩ := h4 r' h'
    refine ⟨e1, ?_⟩
    rw [e2]
    rfl
/-- a node, what is left and whether there is one are handed back -/
def RetNd (k : Nat) (t : List Int) (w : World) (e : Ending) (w' : World) : Prop := ∃ v a' c' r ok, e = .returned (.tuple #[v, .slice a' r.length c', .bool ok]) ∧ IsNd v ∧ Rd w a' r ∧ r.length ≤ c' ∧ r.length ≤ t.length ∧ Dr w w' ∧ ok = (tmR k t).isSome ∧ ∀ r', tmR k t = some r' → r = r' ∧ v = tmV k t
set_option maxRecDepth 100000 in
set_option maxHeartbeats 2000000 in
/-- impl.readNode -/
theorem readNode_any : ∀ (k : Nat) (a : Option Addr) (c : Nat) (t : List Int) (w : World), Rd w a t → t.length ≤ c → t.length ≤ k → t.length ≤ 1000 → Calls Tryz.prog 210 #[.slice a t.length c] w (RetNd k t w) := by
  intro k
  induction k with
  | zero =>
    intro a c t w h hc hk _
    have e : t = [] := List.length_eq_zero_iff.1 (by omega)
    subst e
    go_enter Tryz.func210, Tryz.ntmps210
    go_wp2
    go_ret3
    exact ⟨_, none, 0, [], false, rfl, .inl rfl, fun h => absurd rfl h, Nat.zero_le _, Nat.zero_le _, Dr.refl _, rfl, fun r' h => by cases h⟩
  | succ k ih =>
    intro a c t w h hc hk hm
    cases t with
    | nil =>
      go_enter Tryz.func210, Tryz.ntmps210
      go_wp2
      go_ret3
      exact ⟨_, none, 0, [], false, rfl, .inl rfl, fun h => absurd rfl h, Nat.zero_le _, Nat.zero_le _, Dr.refl _, rfl, fun r' h => by cases h⟩
    | cons x t =>
      obtain ⟨b, off, rfl, hcells⟩ := h (by simp)
      have h0 : Rd w (some ⟨b, off, none⟩) (x :: t) := h
      have c0 : w.cell? ⟨b, off, none⟩ = some (.int .i64 x) := by have := hcells 0 (by simp); simpa [nth] using this
      rw [List.length_cons] at hc hk hm ⊢
      obtain ⟨a1, c1, hc1, hr1, hsl⟩ := slice_tail b off x t c w h0 hc
      have HR := Lib.hid hr1
      have HI := Lib.hid ih
      clear h0 hcells hr1 ih
      cases h1 : isLf x with
      | true =>
        have HE := Lib.hid (tmR_leaf (k := k) (t := t) h1)
        have HV := Lib.hid (tmV_leaf (k := k) (t := t) h1)
        go_enter Tryz.func210, Tryz.ntmps210
        go_wp2_with (go_at_call 207; refine (isLeaf_any _ _).mono ?_; rintro e w' ⟨rfl, rfl⟩)
        go_quiet (fail)
        go_wp2
        go_ret3
        exact ⟨_, a1, c1, t, true, rfl, .inr ⟨_, _, rfl⟩, HR.out, hc1, by simp, ⟨_, rfl⟩, by rw [HE.out]; rfl, fun r' h => by rw [HE.out] at h; injection h with h; exact ⟨h, HV.out.symm⟩⟩
      | false =>
        by_cases h2 : x = 12
        · have HE := Lib.hid (tmR_opp (k := k) (t := t) h1 h2)
          have HV := Lib.hid (tmV_opp (k := k) (t := t) h1 h2)
          have q2 : (x == 12) = true := by rw [beq_iff_eq]; exact h2
          clear h2
          go_enter Tryz.func210, Tryz.ntmps210
          go_wp2_with (go_at_call 207; refine (isLeaf_any _ _).mono ?_; rintro e w' ⟨rfl, rfl⟩)
          refine (HI.out a1 c1 t _ HR.out hc1 (by omega) (by omega)).mono ?_
          rintro e w2 ⟨v, a2, c2, r, ok, rfl, hvc, hr2, hc2, hl2, hd2, hok, hv⟩
          have HOK := Lib.hid hok
          have HVV := Lib.hid hv
          clear hok hv
          rcases hvc with rfl | ⟨T1, y1, rfl⟩
          all_goals
            go_wp2
            go_ret3
            refine ⟨_, a2, c2, r, ok, rfl, .inr ⟨_, _, rfl⟩, hr2, hc2, by simp; omega, hd2, by rw [HE.out]; exact HOK.out, fun r' h => ?_⟩
            rw [HE.out] at h
            obtain ⟨e1, e2⟩ := HVV.out r' h
            exact ⟨e1, by rw [HV.out, e2]; rfl⟩
        · have q2 : (x == 12) = false := by rw [beq_eq_false_iff_ne]; exact h2
          cases h3 : isSg x with
          | false =>
            have HE := Lib.hid (tmR_no (k := k) (t := t) h1 h2 h3)
            clear h2
            go_enter Tryz.func210, Tryz.ntmps210
            go_wp2_with (first
              | (go_at_call 207; refine (isLeaf_any _ _).mono ?_; rintro e w' ⟨rfl, rfl⟩)
              | (go_at_call 216; refine (isSign_any _ _).mono ?_; rintro e w' ⟨rfl, rfl⟩))
            go_ret3
            exact ⟨_, none, 0, [], false, rfl, .inl rfl, fun h => absurd rfl h, Nat.zero_le _, Nat.zero_le _, Dr.refl _, by rw [HE.out]; rfl, fun r' h => by rw [HE.out] at h; cases h⟩
          | true =>
            have HE := Lib.hid (tmR_sign (k := k) (t := t) h1 h2 h3)
            have HV := Lib.hid (tmV_sign (k := k) (t := t) h1 h2)
            clear h2
            go_enter Tryz.func210, Tryz.ntmps210
            go_wp2_with (first
              | (go_at_call 207; refine (isLeaf_any _ _).mono ?_; rintro e w' ⟨rfl, rfl⟩)
              | (go_at_call 216; refine (isSign_any _ _).mono ?_; rintro e w' ⟨rfl, rfl⟩))
            refine (HI.out a1 c1 t _ HR.out hc1 (by omega) (by omega)).mono ?_
            rintro e w2 ⟨v, a2, c2, r, ok, rfl, hvc, hr2, hc2, hl2, hd2, hok, hv⟩
            have HOK := Lib.hid hok
            have HVV := Lib.hid hv
            have HR2 := Lib.hid (hd2.rd hr2)
            have HD2 := Lib.hid hd2
            clear hok hv hr2
            go_wp2_with fail
            refine (HI.out a2 c2 r _ HR2.out hc2 (by omega) (by omega)).mono ?_
            rintro e w3 ⟨v3, a3, c3, r3, ok3, rfl, hvc3, hr3, hc3, hl3, hd3, hok3, hv3⟩
            have HOK3 := Lib.hid hok3
            have HVV3 := Lib.hid hv3
            have HEND := Lib.hid (hd2.trans hd3)
            have HR3 := Lib.hid (HD2.out.rdback hr3)
            clear hok3 hv3 hd2 hd3 hr3
            have HZ := Lib.hid (com_end HOK.out HVV.out HOK3.out HVV3.out HE.out HV.out)
            clear HOK HVV HOK3 HVV3 HE HV HI HR HR2
            rcases hvc with rfl | ⟨T1, y1, rfl⟩ <;> rcases hvc3 with rfl | ⟨T2, y2, rfl⟩ <;> cases ok <;> cases ok3
            all_goals
              go_wp2_with go_skip
              go_ret3
              exact ⟨_, a3, c3, r3, _, rfl, .inr ⟨_, _, rfl⟩, HR3.out, hc3, by simp; omega, HEND.out, HZ.out.1, HZ.out.2⟩
theorem leaf_not {x : Int} (h : isLf x = true) : (x == 12) = false ∧ (x == 13) = false ∧ (x == 14) = false ∧ (x == 15) = false ∧ (x == 16) = false ∧ ((0 ≤ x ∧ x ≤ 2) ∨ x = 10 ∨ x = 11) := by
  have : (0 ≤ x ∧ x < 3) ∨ x = 10 ∨ x = 11 := by
    unfold isLf isNm at h
    rw [Bool.or_eq_true, Bool.or_eq_true, Bool.and_eq_true, decide_eq_true_eq, decide_eq_true_eq, beq_iff_eq, beq_iff_eq] at h
    exact h
  refine ⟨?_, ?_, ?_, ?_, ?_, by omega⟩ <;> (rw [beq_eq_false_iff_ne]; omega)
/-- impl.readTerm -/
def RetTm (t : List Int) (w : World) (e : Ending) (w' : World) : Prop := (vtB t = true ∧ e = .returned (.tuple #[tmV t.length t, .bool true]) ∧ Dr w w') ∨ (vtB t = false ∧ e = .returned (.tuple #[.nilIface, .bool false]) ∧ Dr w w')
set_option maxRecDepth 100000 in
set_option maxHeartbeats 2000000 in
theorem readTerm_any (a : Option Addr) (c : Nat) (t : List Int) (w : World) (h : Rd w a t) (hc : t.length ≤ c) (hm : t.length ≤ 1048576) : Calls Tryz.prog 197 #[.slice a t.length c] w (RetTm t w) := by
  by_cases hl : t.length ≤ 15
  · have hl2 : ¬ ((t.length : Int) > 15) := by omega
    have HC := Lib.hid (readNode_any t.length a c t w h hc (Nat.le_refl _) (by omega))
    clear h
    go_enter Tryz.func197, Tryz.ntmps197
    go_wp2_with fail
    refine HC.out.mono ?_
    rintro e w2 ⟨v, a2, c2, r, ok, rfl, hvc, hr2, hc2, hl2', hd2, hok, hv⟩
    cases hE : tmR t.length t with
    | none =>
      rw [hE] at hok
      have hok' : ok = false := hok
      subst hok'
      have hvt : vtB t = false := by unfold vtB; rw [hE]; simp
      clear hE hok hv
      go_wp2_with go_skip
      go_ret2
      exact .inr ⟨hvt, rfl, hd2⟩
    | some r' =>
      obtain ⟨rfl, rfl⟩ := hv r' hE
      rw [hE] at hok
      have hok' : ok = true := hok
      subst hok'
      have hq := Lib.hid (show vtB t = (r == []) by unfold vtB; rw [hE, decide_eq_true hl]; simp)
      clear hE hok hv
      cases r with
      | nil =>
        go_wp2_with go_skip
        go_ret2
        exact .inl ⟨hq.out, rfl, hd2⟩
      | cons y r =>
        go_wp2_with go_skip
        go_ret2
        exact .inr ⟨hq.out, rfl, hd2⟩
  · have hl2 : ((t.length : Int) > 15) := by omega
    have hvt : vtB t = false := by unfold vtB; rw [decide_eq_false hl]; rfl
    go_enter Tryz.func197, Tryz.ntmps197
    go_wp2
    go_ret2
    exact .inr ⟨hvt, rfl, Dr.refl _⟩
set_option maxRecDepth 100000 in
set_option maxHeartbeats 1000000 in
theorem end_neg (a : Option Addr) (n c : Nat) (w : World) : Calls Tryz.prog 86 #[.slice a n c, .int .i64 (-1)] w fun e w' => e = .returned (.int .i64 (-1)) ∧ w = w' := by
  go_enter Tryz.func86, Tryz.ntmps86
  go_wp2_with go_skip
  go_ret
  exact ⟨rfl, rfl⟩
set_option maxRecDepth 100000 in
set_option maxHeartbeats 4000000 in
/-- spec.end -/
theorem end_any (a : Option Addr) (c : Nat) (t : List Int) (hm : t.length ≤ 1048576) : ∀ (k i : Nat) (w : World), Rd w a t → t.length ≤ i + k → i ≤ 1048577 → Calls Tryz.prog 86 #[.slice a t.length c, .int .i64 (i : Int)] w fun e w' => e = .returned (.int .i64 (endI k t i)) ∧ w = w' := by
  intro k
  induction k with
  | zero =>
    intro i w h hk hi
    have he : endI 0 t i = -1 := rfl
    have h1 : ¬ (i : Int) < 0 := by omega
    have h2 : (i : Int) ≥ t.length := by omega
    have HQ := Lib.hid he
    clear he
    go_enter Tryz.func86, Tryz.ntmps86
    go_wp2_with go_skip
    go_ret
    exact ⟨by rw [HQ.out]; rfl, rfl⟩
  | succ k ih =>
    intro i w h hk hi
    have h1 : ¬ (i : Int) < 0 := by omega
    by_cases h2 : i < t.length
    · have h3 : ¬ (i : Int) ≥ t.length := by omega
      have hne : t ≠ [] := fun e => by rw [e] at h2; simp at h2
      obtain ⟨b, off, rfl, hcells⟩ := h hne
      have c0 := hcells i h2
      have hd := drop_cons h2
      obtain ⟨x, hx⟩ : ∃ x, x = nth t i := ⟨_, rfl⟩
      rw [← hx] at c0 hd
      have hw1 : IntKind.i64.wrap ((i : Int) + 1) = (i : Int) + 1 := IntWalk.i64_in _ (by omega)
      have HI := Lib.hid (show Calls Tryz.prog 86 #[.slice (some ⟨b, off, none⟩) t.length c, .int .i64 ((i : Int) + 1)] w fun e w' => e = .returned (.int .i64 (endI k t (i + 1))) ∧ w = w' from ih (i + 1) w h (by omega) (by omega))
      have HJ := Lib.hid (show ∀ j : Nat, i < j → j ≤ t.length → Calls Tryz.prog 86 #[.slice (some ⟨b, off, none⟩) t.length c, .int .i64 (j : Int)] w fun e w' => e = .returned (.int .i64 (endI k t j)) ∧ w = w' from fun j h1 h2 => ih j w h (by omega) (by omega))
      clear h hcells ih hx hne
      cases q1 : isLf x with
      | true =>
        have he : endI (k + 1) t i = (i : Int) + 1 := by
          obtain ⟨e, _, _, _⟩ := endI_some (k := k + 1) (t := t) (i := i) (by rw [hd]; exact tmR_leaf q1)
          rw [e, List.length_drop]; omega
        obtain ⟨n12, n13, n14, n15, n16, hl⟩ := leaf_not q1
        clear hd HI HJ q1 hk
        rcases hl with hl | rfl | rfl
        · have hin : (decide (0 ≤ x) && decide (x ≤ 2)) = true := by rw [decide_eq_true hl.1, decide_eq_true hl.2]; rfl
          clear hl
          have HQ := Lib.hid he
          clear he
          go_enter Tryz.func86, Tryz.ntmps86
          go_wp2_with (first | go_skip | (go_at_call 65; refine (inRange_any _ _ _ _).mono ?_; rintro e w' ⟨rfl, rfl⟩))
          go_ret
          exact ⟨by rw [HQ.out]; rfl, rfl⟩
        · have HQ := Lib.hid he
          clear he
          go_enter Tryz.func86, Tryz.ntmps86
          go_wp2_with (first | go_skip | (go_at_call 65; refine (inRange_any _ _ _ _).mono ?_; rintro e w' ⟨rfl, rfl⟩))
          go_ret
          exact ⟨by rw [HQ.out]; rfl, rfl⟩
        · have HQ := Lib.hid he
          clear he
          go_enter Tryz.func86, Tryz.ntmps86
          go_wp2_with (first | go_skip | (go_at_call 65; refine (inRange_any _ _ _ _).mono ?_; rintro e w' ⟨rfl, rfl⟩))
          go_ret
          exact ⟨by rw [HQ.out]; rfl, rfl⟩
      | false =>
        by_cases h12 : x = 12
        · have he : endI (k + 1) t i = endI k t (i + 1) := by unfold endI; rw [hd, tmR_opp q1 h12]
          subst h12
          clear hd HJ q1
          have HQ := Lib.hid he
          clear he
          go_enter Tryz.func86, Tryz.ntmps86
          go_wp2_with (first | go_skip | (go_at_call 86; refine HI.out.mono ?_; rintro e w' ⟨rfl, rfl⟩))
          go_ret
          exact ⟨by rw [HQ.out]; rfl, rfl⟩
        · cases q3 : isSg x with
          | true =>
            have hx4 : x = 13 ∨ x = 14 ∨ x = 15 ∨ x = 16 := by unfold isSg at q3; rw [Bool.and_eq_true, decide_eq_true_eq, decide_eq_true_eq] at q3; omega
            have hE := tmR_sign (k := k) (t := t.drop (i + 1)) q1 h12 q3
            cases h4 : tmR k (t.drop (i + 1)) with
            | none =>
              have he : endI (k + 1) t i = -1 := endI_none (by rw [hd, hE, h4])
              have he2 : endI k t (i + 1) = -1 := endI_none h4
              rw [he2] at HI
              clear hd hE h4 he2 q1 q3 h12 HJ
              rcases hx4 with rfl | rfl | rfl | rfl
              all_goals
                have HQ := Lib.hid he
                clear he
                go_enter Tryz.func86, Tryz.ntmps86
                go_wp2_with fail
                refine HI.out.mono ?_
                rintro e w' ⟨rfl, rfl⟩
                go_wp2_with fail
                refine (end_neg _ _ _ _).mono ?_
                rintro e w' ⟨rfl, rfl⟩
                go_wp2
                go_ret
                exact ⟨by rw [HQ.out]; rfl, rfl⟩
            | some r =>
              obtain ⟨e1, e2, e3, e4⟩ := endI_some h4
              obtain ⟨j, hj⟩ : ∃ j, j = t.length - r.length := ⟨_, rfl⟩
              rw [← hj] at e1 e2 e3 e4
              have he : endI (k + 1) t i = endI k t j := by
                show (match tmR (k + 1) (t.drop i) with | some r => _ | none => _) = (match tmR k (t.drop j) with | some r => _ | none => _)
                rw [hd, hE, h4, e4]
              rw [e1] at HI
              have HJ' := Lib.hid (HJ.out j (by omega) (by omega))
              obtain ⟨V, hV⟩ : ∃ V, V = endI k t j := ⟨_, rfl⟩
              rw [← hV] at he HJ'
              clear hd hE h4 q1 q3 h12 HJ e1 e2 e3 e4 hj hV
              rcases hx4 with rfl | rfl | rfl | rfl
              all_goals
                have HQ := Lib.hid he
                clear he
                go_enter Tryz.func86, Tryz.ntmps86
                go_wp2_with fail
                refine HI.out.mono ?_
                rintro e w' ⟨rfl, rfl⟩
                go_wp2_with fail
                refine HJ'.out.mono ?_
                rintro e w' ⟨rfl, rfl⟩
                go_wp2
                go_ret
                exact ⟨by rw [HQ.out]; rfl, rfl⟩
          | false =>
            have he : endI (k + 1) t i = -1 := endI_none (by rw [hd]; exact tmR_no q1 h12 q3)
            have hx5 : x ≠ 13 ∧ x ≠ 14 ∧ x ≠ 15 ∧ x ≠ 16 := by
              refine ⟨?_, ?_, ?_, ?_⟩ <;> (rintro rfl; exact absurd q3 (by decide))
            have hx6 : ¬ (0 ≤ x ∧ x ≤ 2) ∧ x ≠ 10 ∧ x ≠ 11 := by
              refine ⟨fun h => ?_, ?_, ?_⟩
              · have : x = 0 ∨ x = 1 ∨ x = 2 := by omega
                rcases this with rfl | rfl | rfl <;> exact absurd q1 (by decide)
              · rintro rfl; exact absurd q1 (by decide)
              · rintro rfl; exact absurd q1 (by decide)
            have n12 : (x == 12) = false := by rw [beq_eq_false_iff_ne]; exact h12
            have n13 : (x == 13) = false := by rw [beq_eq_false_iff_ne]; exact hx5.1
            have n14 : (x == 14) = false := by rw [beq_eq_false_iff_ne]; exact hx5.2.1
            have n15 : (x == 15) = false := by rw [beq_eq_false_iff_ne]; exact hx5.2.2.1
            have n16 : (x == 16) = false := by rw [beq_eq_false_iff_ne]; exact hx5.2.2.2
            have n10 : (x == 10) = false := by rw [beq_eq_false_iff_ne]; exact hx6.2.1
            have n11 : (x == 11) = false := by rw [beq_eq_false_iff_ne]; exact hx6.2.2
            have hin : (decide (0 ≤ x) && decide (x ≤ 2)) = false := by
              rw [Bool.and_eq_false_iff, decide_eq_false_iff_not, decide_eq_false_iff_not]; omega
            clear hd HI HJ q1 q3 hx5 hx6 h12
            have HQ := Lib.hid he
            clear he
            go_enter Tryz.func86, Tryz.ntmps86
            go_wp2_with (first | go_skip | (go_at_call 65; refine (inRange_any _ _ _ _).mono ?_; rintro e w' ⟨rfl, rfl⟩))
            go_ret
            exact ⟨by rw [HQ.out]; rfl, rfl⟩
    · have h3 : (i : Int) ≥ t.length := by omega
      have he : endI (k + 1) t i = -1 := endI_none (by rw [List.drop_eq_nil_of_le (by omega)]; rfl)
      clear ih h2
      have HQ := Lib.hid he
      clear he
      go_enter Tryz.func86, Tryz.ntmps86
      go_wp2_with go_skip
      go_ret
      exact ⟨by rw [HQ.out]; rfl, rfl⟩
set_option maxRecDepth 100000 in
set_option maxHeartbeats 2000000 in
/-- spec.validTerm -/
theorem specValid_any (a : Option Addr) (c : Nat) (t : List Int) (w : World) (h : Rd w a t) (hm : t.length ≤ 1048576) : Calls Tryz.prog 126 #[.slice a t.length c] w fun e w' => e = .returned (.bool (vtB t)) ∧ w = w' := by
  by_cases hl : t.length ≤ 15
  · cases t with
    | nil =>
      have hv : vtB [] = false := by decide
      go_enter Tryz.func126, Tryz.ntmps126
      go_wp2_with (first | go_skip | (go_at_call 65; refine (inRange_any _ _ _ _).mono ?_; rintro e w' ⟨rfl, rfl⟩))
      go_ret
      exact ⟨by rw [hv]; rfl, rfl⟩
    | cons x t =>
      have hE := end_any a c (x :: t) hm (x :: t).length 0 w h (by omega) (by omega)
      have hv : vtB (x :: t) = (endI (x :: t).length (x :: t) 0 == ((x :: t).length : Int)) := by
        unfold vtB endI
        rw [List.drop_zero, decide_eq_true hl, Bool.true_and]
        cases hE : tmR (x :: t).length (x :: t) with
        | none => rw [show ((-1 : Int) == ((x :: t).length : Int)) = false by rw [beq_eq_false_iff_ne]; omega]; rfl
        | some r =>
          have := tmR_len hE
          cases r with
          | nil => simp
          | cons y r =>
            have e : ((((x :: t).length - (y :: r).length : Nat) : Int) == ((x :: t).length : Int)) = false := by rw [beq_eq_false_iff_ne]; simp only [List.length_cons] at *; omega
            rw [e]; rfl
      obtain ⟨V, hV⟩ : ∃ V, V = endI (x :: t).length (x :: t) 0 := ⟨_, rfl⟩
      obtain ⟨L, hL⟩ : ∃ L, L = x :: t := ⟨_, rfl⟩
      have l1 : 1 ≤ (L.length : Int) := by rw [hL, List.length_cons]; omega
      have l15 : (L.length : Int) ≤ 15 := by rw [hL]; omega
      rw [← hV] at hE hv
      rw [← hL] at hE hv ⊢
      have HE := Lib.hid hE
      have hin : (decide (1 ≤ (L.length : Int)) && decide ((L.length : Int) ≤ 15)) = true := by rw [decide_eq_true l1, decide_eq_true l15]; rfl
      clear hL hV hE h hl hm
      go_enter Tryz.func126, Tryz.ntmps126
      go_wp2_with (first | go_skip | (go_at_call 65; refine (inRange_any _ _ _ _).mono ?_; rintro e w' ⟨rfl, rfl⟩) | (go_at_call 86; refine HE.out.mono ?_; rintro e w' ⟨rfl, rfl⟩))
      go_ret
      exact ⟨by rw [hv]; rfl, rfl⟩
  · have hv : vtB t = false := by unfold vtB; rw [decide_eq_false hl]; rfl
    have hin : (decide (1 ≤ (t.length : Int)) && decide ((t.length : Int) ≤ 15)) = false := by rw [decide_eq_false (show ¬ (t.length : Int) ≤ 15 by omega)]; simp
    clear hl
    go_enter Tryz.func126, Tryz.ntmps126
    go_wp2_with (first | go_skip | (go_at_call 65; refine (inRange_any _ _ _ _).mono ?_; rintro e w' ⟨rfl, rfl⟩))
    go_ret
    exact ⟨by rw [hv]; rfl, rfl⟩
end Go.Proofs.YtpophjloedpcfaaGreatDoor
