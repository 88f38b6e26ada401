import Derived.Test.YtidbilgnclfplaaTP6
namespace Go.Proofs.Ytidbilgnclfplaa
open Go.RowKit
set_option linter.unusedVariables false

/-- the specification's term of a text -/
def RetPq (o : Option (List Int)) (w : World) (e : Ending) (w' : World) : Prop :=
  (∃ t a c, o = some t ∧ e = .returned (.tuple #[.slice a t.length c, .bool true]) ∧ Own w.heap.size w' (.slice a t.length c) t ∧ Below w.heap.size w w') ∨
  (o = none ∧ e = .returned (.tuple #[.slice none 0 0, .bool false]) ∧ Below w.heap.size w w')
set_option maxRecDepth 100000 in
set_option maxHeartbeats 2000000 in
/-- spec.parseTerm -/
theorem specparse_any (s : ByteArray) (w : World) (hs : s.size ≤ 1048576) : Calls Try.prog 50 #[.string s] w (RetPq (ptI s) w) := by
  by_cases h60 : s.size ≤ 60
  · have HR := Lib.hid (show Calls Try.prog 90 #[.string s, .int .i64 0] w (RetRq s.size 0 (rdA s.data.toList) w) from read_any s h60 s.size 0 w (by omega) (by omega))
    have g60 : ¬ (s.size : Int) > 60 := by omega
    go_enter Try.func50, Try.ntmps50
    go_wp2_with (first | go_skip | (go_at_call 90; refine HR.out.mono ?_))
    rintro e w2 ⟨t, a, c1, v, rfl, ho, htl, hb, (⟨r, hr, hrn, rfl⟩ | ⟨hr, rfl⟩)⟩
    · cases r with
      | nil =>
        obtain ⟨e1, _⟩ := rdT_term _ _ _ _ hr
        have ht : t.length ≤ 60 := by omega
        have HV := Lib.hid (show ∀ w : World, Rd w a t → Calls Try.prog 55 #[.slice a t.length c1] w fun e w' => e = .returned (.bool (vtB t)) ∧ w = w' from fun w h => specValid_any a c1 t w h (by omega))
        have q1 : (((s.size - ([] : List UInt8).length : Nat) : Int) != (s.size : Int)) = false := by simp
        have q2 : (((s.size - ([] : List UInt8).length : Nat) : Int) == (s.size : Int)) = true := by simp
        obtain ⟨v, hv⟩ : ∃ v, v = ((s.size - ([] : List UInt8).length : Nat) : Int) := ⟨_, rfl⟩
        rw [← hv] at q1 q2 ⊢
        have HP := Lib.hid (show ptI s = if t.length ≤ 15 then some t else none by unfold ptI; rw [hr])
        have HO := Lib.hid ho
        have hrd := ho.rd
        have HE1 := Lib.hid e1
        clear hv hr ho e1
        by_cases h15 : t.length ≤ 15
        · have hvt : vtB t = true := by unfold vtB; rw [decide_eq_true h15, HE1.out]; rfl
          have HPP := Lib.hid (show ptI s = some t by rw [HP.out, if_pos h15])
          rw [hvt] at HV
          clear hvt h15
          go_wp2_with (first | go_skip | (go_at_call 55; refine (HV.out _ hrd).mono ?_; rintro e w' ⟨rfl, rfl⟩))
          go_ret2
          exact .inl ⟨t, a, c1, HPP.out, rfl, HO.out, hb⟩
        · have hvt : vtB t = false := by unfold vtB; rw [decide_eq_false h15]; rfl
          have HPP := Lib.hid (show ptI s = none by rw [HP.out, if_neg h15])
          rw [hvt] at HV
          clear hvt h15
          go_wp2_with (first | go_skip | (go_at_call 55; refine (HV.out _ hrd).mono ?_; rintro e w' ⟨rfl, rfl⟩))
          go_ret2
          exact .inr ⟨HPP.out, rfl, hb⟩
      | cons d r =>
        have HPP := Lib.hid (show ptI s = none by unfold ptI; rw [hr])
        have q0 : ((s.size - (d :: r).length : Nat) : Int) ≠ (s.size : Int) := by rw [List.length_cons] at hrn ⊢; omega
        have q1 : (((s.size - (d :: r).length : Nat) : Int) != (s.size : Int)) = true := by rw [bne_iff_ne]; exact q0
        have q2 : (((s.size - (d :: r).length : Nat) : Int) == (s.size : Int)) = false := by rw [beq_eq_false_iff_ne]; exact q0
        obtain ⟨v, hv⟩ : ∃ v, v = ((s.size - (d :: r).length : Nat) : Int) := ⟨_, rfl⟩
        rw [← hv] at q1 q2 ⊢
        clear hv hr q0 hrn
        go_wp2_with go_skip
        go_ret2
        exact .inr ⟨HPP.out, rfl, hb⟩
    · have HPP := Lib.hid (show ptI s = none by unfold ptI; rw [hr])
      have q0 : (-1 : Int) ≠ (s.size : Int) := by omega
      have q1 : ((-1 : Int) != (s.size : Int)) = true := by rw [bne_iff_ne]; exact q0
      have q2 : ((-1 : Int) == (s.size : Int)) = false := by rw [beq_eq_false_iff_ne]; exact q0
      clear hr q0
      go_wp2_with go_skip
      go_ret2
      exact .inr ⟨HPP.out, rfl, hb⟩
  · have HPP := Lib.hid (show ptI s = none by
      cases h : ptI s with
      | none => rfl
      | some t => have := (ptI_some h).2.2.2.2; omega)
    have g60 : (s.size : Int) > 60 := by omega
    go_enter Try.func50, Try.ntmps50
    go_wp2_with go_skip
    go_ret2
    exact .inr ⟨HPP.out, rfl, Below.refl _ _⟩
set_option maxRecDepth 100000 in
set_option maxHeartbeats 2000000 in
/-- spec.ParseTerm -/
theorem specParseTerm_any (s : ByteArray) (w : World) (hs : s.size ≤ 1048576) : Calls Try.prog 16 #[.string s] w (RetSsb ((ptI s).getD []) (ptI s).isSome w) := by
  have HC := Lib.hid (specparse_any s w hs)
  obtain ⟨o, ho⟩ : ∃ o, o = ptI s := ⟨_, rfl⟩
  rw [← ho] at HC ⊢
  clear ho
  go_enter Try.func16, Try.ntmps16
  go_wp2_with fail
  refine HC.out.mono ?_
  rintro e w2 (⟨t, a, c, rfl, rfl, ho, hb⟩ | ⟨rfl, rfl, hb⟩)
  · go_wp2
    go_ret2
    exact ⟨a, t.length, c, rfl, ⟨a, c, rfl, ho.rd⟩, hb⟩
  · go_wp2
    go_ret2
    exact ⟨none, 0, 0, rfl, ⟨none, 0, rfl, fun h => absurd rfl h⟩, hb⟩
theorem ptI_len (s : ByteArray) : ((ptI s).getD []).length ≤ 1024 := by
  cases h : ptI s with
  | none => exact Nat.zero_le _
  | some t => have := (ptI_some h).2.1; show t.length ≤ 1024; omega
end Go.Proofs.Ytidbilgnclfplaa
