import Derived.Test.YtjcambkjcagcoaaGreatKP1
namespace Go.Proofs.YtjcambkjcagcoaaGreat
open Go.RowKit Go.Shelf Go.Maps
set_option linter.unusedVariables false

attribute [local go_sem] Oper.semAt_some
/-- numbers, each once, that are just those that pass -/
def KeySet (p : Int → Prop) (xs : List Int) : Prop := xs.Nodup ∧ ∀ x, x ∈ xs ↔ p x
theorem size_le {w : World} {b n : Nat} {D : DataW Unit} {R : Value → Option (DataW Unit × List MemPlace)} {k : TypeId} {P : Program} (h : w.ownsMap P k R b n D) : Maps.size D ≤ n := by
  obtain ⟨es, clock, hb, F, hs, rfl⟩ := h
  simp [Maps.size, length_sorted]
  exact hs
theorem enters_keys1 : Enters 164 := enters_of Tryz.func164 (by kernel_rfl) rfl
set_option maxRecDepth 100000 in
set_option maxHeartbeats 2000000 in
/-- the iterator over a map's keys, at whatever body -/
theorem keysIt_in (m : Nat) (hm1 : 1 ≤ m) (l Bm b n : Nat) (D : DataW Unit) (p : Int → Prop) (J Jx : List Int → World → Prop) (W : World)
    (hJ : AbidesFrom W.heap.size J)
    (hY : ∀ pre (x : Int) W1, J pre W1 → pre.length < n → YieldAt Fence.wide (m - 1) Tryz.prog l #[.int .i64 x] W1 fun e W' =>
      (e = .returned (.bool true) ∧ J (pre ++ [x]) W' ∧ KeepsWalks W1 W') ∨ (e = .returned (.bool false) ∧ Jx (pre ++ [x]) W'))
    (hbx : W.heap[Bm]? = some (.cells #[.map (some b)] 128 (0, 0))) (hK : KeysAt W b n D p) (hwf : ∀ x, p x → (Lit.int .i64 x).wf = true) (h0 : J [] W) :
    CallsIn Fence.wide m Tryz.prog 164 #[.func (.yield l) #[] #[], .pointer (some ⟨Bm, 0, none⟩)] W fun e W' => (∃ v, e = .returned v) ∧
      ((∃ xs, KeySet p xs ∧ J xs W') ∨ (∃ pre, True ∧ Jx pre W')) := by
  obtain ⟨hown, hD⟩ := hK
  have c0 := cell_of_one hbx
  have HD := Lib.hid hD
  have HY := Lib.hid hY
  have HJ := Lib.hid hJ
  have HW := Lib.hid hwf
  have hsz := size_le hown
  clear hD hY hJ hbx hwf
  refine callsIn_of_wp Tryz.func164 rfl trivial ?_ rfl
  simp only [Tryz.ntmps164, List.size_toArray, List.length_cons, List.length_nil, Nat.reduceAdd, Nat.reduceSub, Array.replicate_succ, Array.replicate_zero, List.push_toArray, List.append_toArray, List.nil_append, List.cons_append]
  gi_wp2_with (first
    | (gi_at_range; refine wpListIn_range_own _ rfl _ 128 rfl 3 4 keyI Tryz.underlying128 _ b n D rfl hown ?_; intro w0 hrg0 hg0 hs0)
    | gi_in)
  try go_frame
  clear c0
  gi_loopw [3] (fun _ wr => ∃ (left : Lit → Bool) (cnt : Nat) (pre : List Int), wr.ranges Tryz.prog 3 (plainElem Tryz.prog 4) b W.heap.size n D left cnt ∧ J pre wr ∧ pre.Nodup ∧ (∀ x, x ∈ pre ↔ p x ∧ left (.int .i64 x) = false) ∧ pre.length + cnt ≤ n) (fun _ wr => wr.rangeLeft b W.heap.size)
  case atStart =>
    refine ⟨_, _, [], hrg0, HJ.out [] W w0 none h0 hg0 (fun r e => by cases e), List.nodup_nil, fun x => ⟨fun h => (by cases h), fun ⟨h1, h2⟩ => ?_⟩, by simpa using hsz⟩
    rw [(HD.out x (HW.out x h1)).2 h1] at h2; cases h2
  case round =>
    clear hown hrg0 hg0 hs0 h0
    obtain ⟨left, cnt, pre, hrg, hJs, hn, hmem, hlen⟩ := hrel
    have HN := Lib.hid hn
    have HM := Lib.hid hmem
    clear hn hmem
    gi_wp2_with (first
      | (gi_at_next; refine wpListIn_next_ranges _ rfl _ rfl 3 keyI (plainElem Tryz.prog 4) (Value.int .i64) (id : Value → Value) (fun key kl hk => by obtain ⟨x, hx, _⟩ := Maps.keyOf_int_inv Tryz.underlying3 hk; exact ⟨x, hx⟩) (fun v _ _ => ⟨v, rfl⟩) b W.heap.size n _ _ _ rfl hrg ?_ ?_)
      | gi_in)
    · intro hc0 hl0
      gi_wp2
      go_end0
      exact ⟨⟨_, rfl⟩, .inl ⟨pre, ⟨HN.out, fun x => (HM.out x).trans ⟨fun h => h.1, fun h => ⟨h, hl0 _⟩⟩⟩, hJs⟩⟩
    · intro x c kl yd yp w2 cnt2 hkey hlk hv hat hrg2 hlt hg2 hs2 hen
      obtain ⟨x', ex, rfl, hwf⟩ := Maps.keyOf_int_inv Tryz.underlying3 hkey
      injection ex with _ ex
      subst ex
      have hpx := (HD.out x hwf).1 (has_true_of_atKey hat)
      have hJ2 : J pre w2 := HJ.out pre wr w2 (some W.heap.size) hJs hg2 (fun r e => by cases e; exact ⟨Nat.le_refl _, hrg.iter_walk⟩)
      obtain ⟨fn, tmps, asg, bdy, hy, hR⟩ := HY.out pre x w2 hJ2 (by omega)
      try dsimp only at hy
      have HRG := Lib.hid hrg
      have HRG2 := Lib.hid hrg2
      have hnm : x ∉ pre := fun h => by have := ((HM.out x).1 h).2; rw [hlk] at this; cases this
      have HNM := Lib.hid hnm
      have HLK := Lib.hid hlk
      clear hs2 hrg hrg2 hg2 hJs hat hv hnm hlk
      gi_wp2
      refine hR.mono ?_
      rintro e W3 (⟨rfl, hJ3, hk3⟩ | ⟨rfl, hJx3⟩)
      · have hrg3 := HRG2.out.of_walks hk3
        gi_wp2
        refine ⟨⟨_, cnt2, pre ++ [x], hrg3, hJ3, ?_, fun z => ?_, by rw [List.length_append]; simp; omega⟩, by rw [hrg3.left_eq, HRG.out.left_eq]; exact hlt⟩
        · unfold List.Nodup
          rw [List.pairwise_append]
          refine ⟨HN.out, by simp, fun a ha b hb e => ?_⟩
          rw [List.mem_singleton] at hb
          exact HNM.out (by rw [← hb, ← e]; exact ha)
        · rw [List.mem_append, List.mem_singleton, HM.out z]
          try dsimp only
          by_cases e : z = x
          · subst e
            rw [sameKey_int.2 rfl]; simp [hpx]
          · have : ((Lit.int .i64 z).sameKey (.int .i64 x)) = false := by
              cases hs : (Lit.int .i64 z).sameKey (.int .i64 x) with
              | false => rfl
              | true => exact absurd (sameKey_int.1 hs) e
            rw [this]; simp [e]
      · gi_wp2
        refine bodyPost_ret (results_none rfl _ _ _) rfl ?_
        exact ⟨⟨_, rfl⟩, .inr ⟨_, trivial, hJx3⟩⟩
/-- the keys are handed to whatever body, each once -/
theorem keys_stops (m : Nat) (hm1 : 1 ≤ m) (Bm b n : Nat) (D : DataW Unit) (p : Int → Prop) (w : World) (hbx : w.heap[Bm]? = some (.cells #[.map (some b)] 128 (0, 0))) (hK : KeysAt w b n D p) (hwf : ∀ x, p x → (Lit.int .i64 x).wf = true) :
    SeqStopsK Fence.wide m Tryz.prog 164 #[.pointer (some ⟨Bm, 0, none⟩)] (fun x : Int => #[Value.int .i64 x]) KeepsWalks (KeySet p) (fun _ => True) n w :=
  fun l J Jx W hW hJ _ hY h0 => keysIt_in m hm1 l Bm b n D p J Jx W hJ hY ((hW.block _ (lt_of_block hbx)).trans hbx) (hK.below hW) hwf h0
end Go.Proofs.YtjcambkjcagcoaaGreat
