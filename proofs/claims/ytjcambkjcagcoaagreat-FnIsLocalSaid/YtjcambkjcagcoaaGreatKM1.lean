import Derived.Test.YtjcambkjcagcoaaGreatKS3
import Derived.Test.YtjcambkjcagcoaaGreatN7
import Derived.Maps.OwnIn
import Derived.Sort.MapsRangeIn
import Derived.RangeFuncSeq
namespace Go.Proofs.YtjcambkjcagcoaaGreat
open Go.RowKit Go.Maps
set_option linter.unusedVariables false

/-- the filters without the least element -/
def prp (L : List Int) (T : List (List Int)) : List Int := (fls L T).filter fun f => !ib f 0
theorem prp_mem {L : List Int} {T : List (List Int)} {f : Int} : f ∈ prp L T ↔ f ∈ fls L T ∧ ib f 0 = false := by
  unfold prp; rw [List.mem_filter, Bool.not_eq_true']
theorem grs_mem {L : List Int} {T : List (List Int)} {f : Int} : f ∈ grs L T ↔ f ∈ prp L T ∧ ∀ g ∈ prp L T, g = f ∨ hasA g f = false := by
  unfold grs
  rw [List.mem_filter, prp_mem]
  unfold grQ
  rw [Bool.and_eq_true, Bool.not_eq_true', List.all_eq_true]
  constructor
  · rintro ⟨h1, h2, h3⟩
    refine ⟨⟨h1, h2⟩, fun g hg => ?_⟩
    have := h3 g (prp_mem.1 hg).1
    rw [(prp_mem.1 hg).2, Bool.false_or, Bool.or_eq_true, beq_iff_eq, Bool.not_eq_true'] at this
    exact this
  · rintro ⟨⟨h1, h2⟩, h3⟩
    refine ⟨h1, h2, fun g hg => ?_⟩
    cases hb : ib g 0 with
    | true => rfl
    | false =>
      rw [Bool.false_or, Bool.or_eq_true, beq_iff_eq, Bool.not_eq_true']
      exact h3 g (prp_mem.2 ⟨hg, hb⟩)
theorem prp_63 {L : List Int} {T : List (List Int)} (h : algB L T = true) {f : Int} (hf : f ∈ prp L T) : 0 ≤ f ∧ f ≤ 63 := by
  have h1 := fls_mem.1 (prp_mem.1 hf).1
  have := (pw_6 (lat_len (alg_lat h)).2).2
  omega
/-- above each of these there is a greatest one -/
theorem gr_above {L : List Int} {T : List (List Int)} (h : algB L T = true) : ∀ (k : Nat) (f : Int), f ∈ prp L T → 64 - f ≤ k → ∃ g, g ∈ grs L T ∧ hasA g f = true := by
  intro k
  induction k with
  | zero => intro f hf hk; have := prp_63 h hf; omega
  | succ k ih =>
    intro f hf hk
    have hr := prp_63 h hf
    by_cases hg : f ∈ grs L T
    · exact ⟨f, hg, hasA_refl f hr.1⟩
    · have : ∃ g, g ∈ prp L T ∧ g ≠ f ∧ hasA g f = true := by
        refine Classical.byContradiction fun hn => hg (grs_mem.2 ⟨hf, fun g hp => ?_⟩)
        by_cases e : g = f
        · exact .inl e
        · right
          cases hc : hasA g f with
          | false => rfl
          | true => exact absurd ⟨g, hp, e, hc⟩ hn
      obtain ⟨g, g1, g2, g3⟩ := this
      have hlt : f < g := by
        have h3 := g3
        unfold hasA at h3
        rw [beq_iff_eq] at h3
        have := an_le1 g f (prp_63 h g1).1
        omega
      obtain ⟨m, m1, m2⟩ := ih g g1 (by omega)
      exact ⟨m, m1, hasA_trans m2 g3⟩
theorem gr_not {L : List Int} {T : List (List Int)} (h : algB L T = true) {f : Int} (hf : f ∈ prp L T) (hn : f ∉ grs L T) : ∃ g, g ∈ grs L T ∧ g ≠ f ∧ hasA g f = true := by
  obtain ⟨g, g1, g2⟩ := gr_above h 64 f hf (by have := prp_63 h hf; omega)
  exact ⟨g, g1, fun e => hn (by rw [← e]; exact g1), g2⟩
theorem keyI : Keyed Tryz.prog 3 := int_keyed Tryz.underlying3
/-- the map at a block: its keys are the numbers that pass -/
def KeysAt (w : World) (b n : Nat) (D : DataW Unit) (p : Int → Prop) : Prop :=
  w.ownsMap Tryz.prog 3 (plainElem Tryz.prog 4) b n D ∧ ∀ x : Int, (Lit.int .i64 x).wf = true → (Maps.has D (.int .i64 x) = true ↔ p x)
theorem KeysAt.below {w w' : World} {b n : Nat} {D : DataW Unit} {p : Int → Prop} (h : KeysAt w b n D p) (hb : Below w.heap.size w w') : KeysAt w' b n D p :=
  ⟨h.1.kept (below_grown hb) (by simp), h.2⟩
theorem wf_63 {x : Int} (h : 0 ≤ x ∧ x ≤ 63) : (Lit.int .i64 x).wf = true := WalkArith.wf_i64 (by omega)
set_option maxRecDepth 100000 in
set_option maxHeartbeats 4000000 in
/-- the closure of greatestFilters: is there another one above? -/
theorem drop_any (b n : Nat) (D : DataW Unit) (p : Int → Prop) (bx : Nat) (x : Int) (w : World) (hK : KeysAt w b n D p) (hp : ∀ y, p y → 0 ≤ y ∧ y ≤ 63) (hx : 0 ≤ x ∧ x ≤ 63) (hbx : w.heap[bx]? = some (.cells #[.map (some b)] 128 (0, 0))) :
    Calls Tryz.prog 128 #[.int .i64 x, .pointer (some ⟨bx, 0, none⟩)] w fun e w' => (∃ c, e = .returned (.bool c) ∧ (c = true ↔ ∃ y, p y ∧ y ≠ x ∧ hasA y x = true)) ∧ Below w.heap.size w w' := by
  obtain ⟨hown, hD⟩ := hK
  have c0 := cell_of_one hbx
  have HD := Lib.hid hD
  have HP := Lib.hid hp
  clear hbx hD hp
  go_enter Tryz.func128, Tryz.ntmps128
  go_wp2_with (first
    | (at_range; refine wpList_range_own _ rfl _ 128 rfl 3 4 keyI Tryz.underlying128 _ b n D rfl hown ?_; intro w0 hrg0 hg0 hs0)
    | go_in)
  go_frame
  clear c0
  go_loopw [4] (fun _ wr => ∃ (left : Lit → Bool) (cnt : Nat), wr.ranges Tryz.prog 3 (plainElem Tryz.prog 4) b w.heap.size n D left cnt ∧ Below w.heap.size w wr ∧ (∀ y, p y → left (.int .i64 y) = false → ¬ (y ≠ x ∧ hasA y x = true))) (fun _ wr => wr.rangeLeft b w.heap.size)
  case atStart => exact ⟨_, _, hrg0, (Below.refl _ _).grown hg0 (Nat.le_refl _) (fun k e => by cases e), fun y hy hl => by rw [(HD.out y (wf_63 (HP.out y hy))).2 hy] at hl; cases hl⟩
  case round =>
    clear hown hrg0 hg0 hs0
    obtain ⟨left, cnt, hrg, hb, hno⟩ := hrel
    have HNO := Lib.hid hno
    clear hno
    go_wp2_with (first
      | (at_next; refine wpList_next_ranges _ rfl _ rfl 3 keyI (plainElem Tryz.prog 4) (Value.int .i64) (id : Value → Value) (fun key kl hk => by obtain ⟨x, hx, _⟩ := Maps.keyOf_int_inv Tryz.underlying3 hk; exact ⟨x, hx⟩) (fun v _ _ => ⟨v, rfl⟩) b w.heap.size n _ _ _ rfl hrg ?_ ?_)
      | go_in)
    · intro hc0 hl0
      go_wp2
      go_ret
      exact ⟨⟨false, rfl, ⟨fun h => (by cases h), fun ⟨y, h1, h2⟩ => absurd h2 (HNO.out y h1 (hl0 _))⟩⟩, hb⟩
    · intro y c kl yd yp w2 cnt2 hkey hlk hv hat hrg2 hlt hg2 hs2 hen
      obtain ⟨y', ey, rfl, hwf⟩ := Maps.keyOf_int_inv Tryz.underlying3 hkey
      injection ey with _ ey
      subst ey
      have hpy := (HD.out y hwf).1 (has_true_of_atKey hat)
      obtain ⟨y0, y1⟩ := HP.out y hpy
      have hb2 : Below w.heap.size w w2 := hb.grown hg2 hb.size (fun k e => by cases e; exact Nat.le_refl _)
      have HRG := Lib.hid hrg
      have HRG2 := Lib.hid hrg2
      clear hs2 hrg hrg2 hg2 hat hv hb
      cases h1 : (y != x) with
      | false =>
        have hyx : y = x := by simpa using h1
        go_wp2_with (first | go_skip)
        refine ⟨⟨_, cnt2, HRG2.out, hb2, fun z hz hl hn => ?_⟩, by rw [HRG2.out.left_eq, HRG.out.left_eq]; exact hlt⟩
        cases hs : (left (.int .i64 z)) with
        | false => exact HNO.out z hz hs hn
        | true =>
          rw [hs, Bool.true_and, Bool.not_eq_false'] at hl
          have := WideAt.sameKey_eq hl
          injection this with _ e
          exact hn.1 (e.trans hyx)
      | true =>
        cases h2 : hasA y x with
        | false =>
          have HH := Lib.hid h2
          clear h2
          go_wp2_with (first | go_skip | (go_at_call 129; refine (hasAll_any y x _ y0 y1 hx.1 hx.2).mono ?_; rw [HH.out]; rintro e w3 ⟨rfl, rfl⟩))
          refine ⟨⟨_, cnt2, HRG2.out, hb2, fun z hz hl hn => ?_⟩, by rw [HRG2.out.left_eq, HRG.out.left_eq]; exact hlt⟩
          cases hs : (left (.int .i64 z)) with
          | false => exact HNO.out z hz hs hn
          | true =>
            rw [hs, Bool.true_and, Bool.not_eq_false'] at hl
            have := WideAt.sameKey_eq hl
            injection this with _ e
            have h3 := hn.2
            rw [e, HH.out] at h3
            cases h3
        | true =>
          have HH := Lib.hid h2
          have hyx : y ≠ x := by simpa using h1
          clear h2
          go_wp2_with (first | go_skip | (go_at_call 129; refine (hasAll_any y x _ y0 y1 hx.1 hx.2).mono ?_; rw [HH.out]; rintro e w3 ⟨rfl, rfl⟩))
          go_ret
          exact ⟨⟨true, rfl, ⟨fun _ => ⟨y, hpy, hyx, HH.out⟩, fun _ => rfl⟩⟩, hb2⟩
end Go.Proofs.YtjcambkjcagcoaaGreat
