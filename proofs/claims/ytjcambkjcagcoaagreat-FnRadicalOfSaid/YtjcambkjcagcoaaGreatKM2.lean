import Derived.Test.YtjcambkjcagcoaaGreatKM1
namespace Go.Proofs.YtjcambkjcagcoaaGreat
open Go.RowKit Go.Maps
set_option linter.unusedVariables false

theorem enters_drop : Enters 128 := enters_of Tryz.func128 (by kernel_rfl) rfl
theorem sameKey_int {z y : Int} : (Lit.int .i64 z).sameKey (.int .i64 y) = true ↔ z = y := by
  constructor
  · intro h
    have := WideAt.sameKey_eq h
    injection this
  · rintro rfl; exact WideAt.sameKey_self trivial
/-- what is left of the proper filters when some of them have been looked at -/
def lftP (L : List Int) (T : List (List Int)) (left : Lit → Bool) (x : Int) : Prop := x ∈ prp L T ∧ (left (.int .i64 x) = true ∨ x ∈ grs L T)
set_option maxRecDepth 100000 in
set_option maxHeartbeats 4000000 in
/-- impl.deleteKeys at the closure of greatestFilters -/
theorem deleteKeys_any (L : List Int) (T : List (List Int)) (b n bx : Nat) (D : DataW Unit) (w : World) (h : algB L T = true) (hK : KeysAt w b n D (fun x => x ∈ prp L T)) (hbx : w.heap[bx]? = some (.cells #[.map (some b)] 128 (0, 0))) :
    Calls Tryz.prog 127 #[.map (some b), .func (.func 128) #[] #[.pointer (some ⟨bx, 0, none⟩)]] w fun e w' => e = .returned (.tuple #[]) ∧ (∃ D', KeysAt w' b n D' (fun x => x ∈ grs L T)) ∧ w.grownBy w' (some b) := by
  obtain ⟨hown, hD⟩ := hK
  have HA := Lib.hid h
  have HE := Lib.hid (show ∀ (args : Array Value) (w : World), (callFunc 128 args).run Tryz.prog w = .ok (.enter 128 args) w from enters_drop)
  have HD := Lib.hid hD
  have hnb : bx ≠ b := fun e => by
    obtain ⟨es, clock, hb, _⟩ := hown
    rw [e, hb] at hbx; cases hbx
  have HBX := Lib.hid hbx
  have blt := lt_of_block hbx
  clear h hD hbx
  go_enter Tryz.func127, Tryz.ntmps127
  go_wp2_with (first
    | (at_range; refine wpList_range_own _ rfl _ 128 rfl 3 4 keyI Tryz.underlying128 _ b n D rfl hown ?_; intro w0 hrg0 hg0 hs0)
    | go_in)
  try go_frame
  go_loopw [4] (fun _ wr => ∃ (left : Lit → Bool) (cnt : Nat) (D : DataW Unit), wr.ranges Tryz.prog 3 (plainElem Tryz.prog 4) b w.heap.size n D left cnt ∧ (∀ x : Int, (Lit.int .i64 x).wf = true → (Maps.has D (.int .i64 x) = true ↔ lftP L T left x)) ∧ w.grownBy wr (some b)) (fun _ wr => wr.rangeLeft b w.heap.size)
  case atStart =>
    refine ⟨_, _, _, hrg0, fun x hx => ?_, hg0.but _⟩
    have hd := HD.out x hx
    unfold lftP
    constructor
    · intro hh; exact ⟨hd.1 hh, .inl hh⟩
    · intro hh; exact hd.2 hh.1
  case round =>
    clear hown hrg0 hg0 hs0
    obtain ⟨left, cnt, D, hrg, hD, hgw⟩ := hrel
    have HD := Lib.hid hD
    clear hD
    go_wp2_with (first
      | (at_next; refine wpList_next_ranges _ rfl _ rfl 3 keyI (plainElem Tryz.prog 4) (Value.int .i64) (id : Value → Value) (fun key kl hk => by obtain ⟨x, hx, _⟩ := Maps.keyOf_int_inv Tryz.underlying3 hk; exact ⟨x, hx⟩) (fun v _ _ => ⟨v, rfl⟩) b w.heap.size n _ _ _ rfl hrg ?_ ?_)
      | go_in)
    · intro hc0 hl0
      go_wp2
      go_end0
      refine ⟨rfl, ⟨D, hrg.owns, fun x hx => ?_⟩, hgw⟩
      rw [HD.out x hx]
      unfold lftP
      constructor
      · rintro ⟨h1, h2 | h2⟩
        · rw [hl0] at h2; cases h2
        · exact h2
      · intro h; exact ⟨(grs_mem.1 h).1, .inr h⟩
    · intro y c kl yd yp w2 cnt2 hkey hlk hv hat hrg2 hlt hg2 hs2 hen
      obtain ⟨y', ey, rfl, hwf⟩ := Maps.keyOf_int_inv Tryz.underlying3 hkey
      injection ey with _ ey
      subst ey
      have hly := (HD.out y hwf).1 (has_true_of_atKey hat)
      obtain ⟨hpy, _⟩ := hly
      obtain ⟨y0, y1⟩ := prp_63 HA.out hpy
      have hgw2 := hgw.andThen hg2 (fun j hj => by cases hj; exact Or.inl (Nat.le_refl _))
      have hbx2 : w2.heap[bx]? = some (.cells #[.map (some b)] 128 (0, 0)) := (hgw2.block bx blt (fun e => by injection e with e; exact hnb e)).trans HBX.out
      have HC := Lib.hid (drop_any b n D (lftP L T left) bx y w2 ⟨hrg2.owns, fun x hx => HD.out x hx⟩ (fun x hx => prp_63 HA.out hx.1) ⟨y0, y1⟩ hbx2)
      have HRG := Lib.hid hrg
      have HRG2 := Lib.hid hrg2
      have HG2 := Lib.hid hgw2
      have hiff : (∃ z, lftP L T left z ∧ z ≠ y ∧ hasA z y = true) ↔ y ∉ grs L T := by
        constructor
        · rintro ⟨z, hz, h1, h2⟩ hg
          rcases (grs_mem.1 hg).2 z hz.1 with e | e
          · exact h1 e
          · rw [h2] at e; cases e
        · intro hn
          obtain ⟨z, z1, z2, z3⟩ := gr_not HA.out hpy hn
          exact ⟨z, ⟨(grs_mem.1 z1).1, .inr z1⟩, z2, z3⟩
      have HI := Lib.hid hiff
      have s2 := hg2.size
      clear hs2 hrg hrg2 hg2 hgw2 hgw hv hat hiff hbx2
      by_cases hg : y ∈ grs L T
      case neg =>
        have HC2 := Lib.hid (show Calls Tryz.prog 128 #[.int .i64 y, .pointer (some ⟨bx, 0, none⟩)] w2 fun e w' => e = .returned (.bool true) ∧ Below w2.heap.size w2 w' from HC.out.mono fun e w' ⟨⟨c, he, hc⟩, hb⟩ => ⟨by rw [he, hc.2 (HI.out.2 hg)], hb⟩)
        have hng := hg
        clear HC
        go_wp2_with (first
          | ((first | go_at_call 128 | rw [HE.out]); refine (HC2.out).mono ?_; rintro e w3 ⟨rfl, h3⟩; have hrg3 := HRG2.out.kept (below_grown h3) (by simp) (by simp); have hg3 := HG2.out.andThen (below_grown h3) (fun j hj => by cases hj); clear h3)
          | (at_delete; refine wpList_delete_ranges _ rfl _ _ 128 3 rfl 4 keyI Tryz.underlying128 _ b w.heap.size n _ _ _ rfl hrg3 _ _ rfl (keyOf_int_mk Tryz.underlying3 hwf) ?_; intro w4 cnt4 hrg4 hle4 hturn4; try go_frame)
          | go_in)
        rw [strike_twice] at hrg4
        refine ⟨⟨_, cnt4, _, hrg4, fun x hx => ?_, hg3.andThen hturn4.grown (fun j hj => by cases hj; exact Or.inr rfl)⟩, by rw [hrg4.left_eq, HRG.out.left_eq]; omega⟩
        by_cases e : x = y
        · subst e
          rw [has_del_same]
          constructor
          · intro h; cases h
          · rintro ⟨_, h | h⟩
            · have h' : (left (.int .i64 x) && !(Lit.int .i64 x).sameKey (.int .i64 x)) = true := h
              rw [sameKey_int.2 rfl] at h'; simp at h'
            · exact absurd h hng
        · rw [has_del_other (fun h => e (by injection h)), HD.out x hx]
          unfold lftP
          have : ((Lit.int .i64 x).sameKey (.int .i64 y)) = false := by
            cases hs : (Lit.int .i64 x).sameKey (.int .i64 y) with
            | false => rfl
            | true => exact absurd (sameKey_int.1 hs) e
          dsimp only
          rw [this]; simp
      case pos =>
        have hcf : ∀ c : Bool, (c = true ↔ ∃ z, lftP L T left z ∧ z ≠ y ∧ hasA z y = true) → c = false := fun c hc => by
          cases c with
          | false => rfl
          | true => exact absurd hg (HI.out.1 (hc.1 rfl))
        have HC2 := Lib.hid (show Calls Tryz.prog 128 #[.int .i64 y, .pointer (some ⟨bx, 0, none⟩)] w2 fun e w' => e = .returned (.bool false) ∧ Below w2.heap.size w2 w' from HC.out.mono fun e w' ⟨⟨c, he, hc⟩, hb⟩ => ⟨by rw [he, hcf c hc], hb⟩)
        clear HC
        go_wp2_with ((first | go_at_call 128 | rw [HE.out]); refine (HC2.out).mono ?_; rintro e w3 ⟨rfl, h3⟩; have hrg3 := HRG2.out.kept (below_grown h3) (by simp) (by simp); have hg3 := HG2.out.andThen (below_grown h3) (fun j hj => by cases hj); clear h3)
        refine ⟨⟨_, cnt2, D, hrg3, fun x hx => ?_, hg3⟩, by rw [hrg3.left_eq, HRG.out.left_eq]; exact hlt⟩
        rw [HD.out x hx]
        unfold lftP
        by_cases e : x = y
        · subst e
          constructor
          · intro h; exact ⟨h.1, .inr hg⟩
          · intro h; exact ⟨h.1, .inr hg⟩
        · have : ((Lit.int .i64 x).sameKey (.int .i64 y)) = false := by
            cases hs : (Lit.int .i64 x).sameKey (.int .i64 y) with
            | false => rfl
            | true => exact absurd (sameKey_int.1 hs) e
          dsimp only
          rw [this]; simp
end Go.Proofs.YtjcambkjcagcoaaGreat
