import Derived.Test.YtnmhbbekmepinaaSS7
import Derived.Test.YtnmhbbekmepinaaSL0
namespace Go.Proofs.Ytnmhbbekmepinaa
open Go.RowKit
set_option linter.unusedVariables false

theorem dr_toZ {f : FuncId} {args : Array Value} {w : World} {v : Value} (h : Calls Try.prog f args w fun e w' => e = .returned v ∧ Dr w w') : Calls Try.prog f args w fun e w' => e = .returned v ∧ Below w.heap.size w w' := h.mono fun _ _ h => ⟨h.1, h.2.below _⟩
/-- sizes are drawn -/
def RetDz (w : World) (e : Ending) (w' : World) : Prop := ∃ (S : List Int) (s : Option Addr) (c : Nat), e = .returned (.slice s S.length c) ∧ RY w' s S ∧ S.length ≤ c ∧ S.length ≤ 3 ∧ (∀ i : Int, 0 ≤ i → i < S.length → -1 ≤ nth S i ∧ nth S i ≤ 6) ∧ Below w.heap.size w w'
theorem ownCapZ {B : Nat} {w : World} {a : Option Addr} {n c : Nat} {L : List Int} (h : Own B w (.slice a n c) L) : L.length ≤ c := by
  rcases h.2 with ⟨e, hn⟩ | ⟨g, cap, cur, e, _, hg, hc, _⟩
  · omega
  · injection e with _ _ e
    rw [e]; exact hc
theorem one_of5 {i : Int} (i0 : 0 ≤ i) (i1 : i < ([1, 2, 1, 3, 5] : List Int).length) : -1 ≤ nth [1, 2, 1, 3, 5] i ∧ nth [1, 2, 1, 3, 5] i ≤ 6 := by
  simp only [List.length_cons, List.length_nil] at i1
  have : i = 0 ∨ i = 1 ∨ i = 2 ∨ i = 3 ∨ i = 4 := by omega
  rcases this with rfl | rfl | rfl | rfl | rfl <;> decide
theorem one_of3 {i : Int} (i0 : 0 ≤ i) (i1 : i < ([0, -1, 6] : List Int).length) : -1 ≤ nth [0, -1, 6] i ∧ nth [0, -1, 6] i ≤ 6 := by
  simp only [List.length_cons, List.length_nil] at i1
  have : i = 0 ∨ i = 1 ∨ i = 2 := by omega
  rcases this with rfl | rfl | rfl <;> decide
def lenOf : Value → Int | .slice _ n _ => n | _ => 0
set_option maxRecDepth 100000 in
set_option maxHeartbeats 4000000 in
/-- spec.DrawStackOfSums -/
theorem drawStackOfSums_any (a : Option Addr) (n cap : Nat) (w : World) (hy : RdY w a n w.heap.size) (hc : n ≤ cap) (hm : n ≤ 1048576) :
    Calls Try.prog 47 #[.slice a n cap] w (RetDz w) := by
  obtain ⟨i0, hi, hz0, hz1, hz2⟩ := info_parts info_int
  go_enter Try.func47, Try.ntmps47
  go_wp2_with fail
  refine (newReader_any a n cap w hy hc hm).mono ?_
  rintro e w1 ⟨rfl, hb1, hr1⟩
  have hs1 := hb1.size
  obtain ⟨g, hg⟩ : ∃ g : Nat, g = w.heap.size := ⟨_, rfl⟩
  rw [← hg] at hr1 ⊢
  have HG := Lib.hid hg
  clear hg
  go_wp2_with fail
  have hr2 := hr1.alloc (.cells #[] 3)
  have hoE : Own w1.heap.size (w1.alloc (.cells #[] 3)) (.slice (some ⟨w1.heap.size, 0, none⟩) 0 0) [] := Own.row (L := []) (heap_alloc_new w1 _) (Nat.le_refl _) (Nat.zero_le _)
  have hgE : w1.grownBy (w1.alloc (.cells #[] 3)) (some g) := grown_of_below ((Below.refl _ _).alloc (Nat.le_refl _) _)
  refine (pick_any g g 0 4 _ hr2 (by omega) (by omega) (by omega)).mono ?_
  rintro e w3 ⟨m, rfl, m0, m4, hg3', hr3⟩
  have hg3 := grown_trans hgE hg3'
  have ho3 := hoE.drawn hr2 hg3'
  have gl1 := hr1.lt
  clear hoE hgE hg3' hr2
  have hs3 := hg3.size
  go_wp2
  go_loopw [4] (fun ov wr => ∃ S : List Int, (S.length : Int) ≤ m ∧ Own w1.heap.size wr ov S ∧ w1.grownBy wr (some g) ∧ Rdr wr g g (1 + S.length) ∧ ∀ i : Int, 0 ≤ i → i < S.length → -1 ≤ nth S i ∧ nth S i ≤ 6) (fun ov _ => (10 - lenOf ov).toNat)
  case atStart => exact ⟨[], by simpa using m0, ho3, hg3, by simpa using hr3, fun i i0 i1 => by simp at i1; omega⟩
  case round =>
    clear ho3 hg3 hr3 hs3
    obtain ⟨S, hSm, hown, hgr, hrr, hel⟩ := hrel
    obtain ⟨sa, sc, rfl, _⟩ := hown.slice
    have hs := hgr.size
    have HEL := Lib.hid hel
    clear hel
    by_cases hlt : (S.length : Int) < m
    · have hrow : Row (wr.alloc (.cells #[.int .i64 1, .int .i64 2, .int .i64 1, .int .i64 3, .int .i64 5] 3)) wr.heap.size [1, 2, 1, 3, 5] := heap_alloc_new wr _
      have hownL := Own.row hrow (Nat.le_refl _) (by unfold maxLen; simp)
      have hr4 := hrr.alloc (.cells #[.int .i64 1, .int .i64 2, .int .i64 1, .int .i64 3, .int .i64 5] 3)
      have ho4 := hown.alloc (.cells #[.int .i64 1, .int .i64 2, .int .i64 1, .int .i64 3, .int .i64 5] 3)
      have hg4 := grown_alloc hgr (.cells #[.int .i64 1, .int .i64 2, .int .i64 1, .int .i64 3, .int .i64 5] 3)
      clear hown
      go_wp2_with fail
      refine (one_any g g (1 + S.length) _ _ [1, 2, 1, 3, 5] _ hr4 (by omega) (hownL.held hr4) (by simp) (by simp)).mono ?_
      rintro e w5 ⟨i, x0, x1, rfl, hg5', hr5⟩
      have hx := one_of5 x0 x1
      obtain ⟨x, hxe⟩ : ∃ x, x = nth [1, 2, 1, 3, 5] i := ⟨_, rfl⟩
      rw [← hxe] at hx ⊢
      have hg5 := grown_trans hg4 hg5'
      have ho5 := ho4.drawn hr4 hg5'
      have hs5 := hg5.size
      have hS3 : S.length ≤ 3 := by omega
      have lg1 : g < w1.heap.size := gl1
      clear hxe hownL hr4 ho4 hg4 hg5' hrow hrr x0 x1
      go_wp2_with (at_builtin; refine wpList_append_own _ rfl _ _ 22 rfl w1.heap.size 3 i0 (.int .i64 0) 1 8 Try.underlying22 hi hz0 hz1 hz2 rfl (by decide) _ _ _ rfl (World.ownsRow.alloc ho5 _) ⟨w5.heap.size, 0, none⟩ 1 1 [.int .i64 x] rfl rfl (cell_one_new _ _ _) (fun x hx => by simp at hx; subst hx; rfl) (by unfold maxLen; omega) (by omega) (by simp; omega) ?_; intro v6 w6 hown6 hgrow6 _)
      have ho6 : Own w1.heap.size w6 v6 (S ++ [x]) := by unfold Own; rw [List.map_append, List.length_append]; exact hown6
      have hr6 := (hr5.alloc (.cells #[.int .i64 x] 3)).app (ho5.alloc _) (Nat.le_of_lt lg1) hgrow6
      have hg6 := grown_app (grown_alloc hg5 (.cells #[.int .i64 x] 3)) hgrow6 (fun q hq => (World.ownsRow.lt ho5 q hq).1)
      obtain ⟨vb, vc, rfl, _⟩ := ho6.slice
      clear hown6 hgrow6
      go_roundw
      case rel =>
        refine ⟨S ++ [x], by rw [List.length_append]; simp; omega, ho6, hg6, hr6.more (by rw [List.length_append]; simp; omega), fun i i0 i1 => ?_⟩
        rw [List.length_append, List.length_singleton] at i1
        by_cases e : i < S.length
        · rw [nth_app1 i0 e]; exact HEL.out i i0 e
        · rw [show i = (S.length : Int) by omega, nth_app2]; exact hx
      case measure => simp [lenOf]; omega
    · have hS3 : S.length ≤ 3 := by omega
      have hcap := ownCapZ hown
      have lg1 : g < w1.heap.size := gl1
      have HFin := Lib.hid (show ∀ wz, w1.grownBy wz (some g) → Below w.heap.size w wz from fun wz hz => by
        have h1 : Below g w1 wz := ⟨hz.os, hz.tape, hz.output, hz.size, fun k hk => hz.block k (by omega) (fun e => by injection e with e; omega)⟩
        rw [← HG.out]
        rw [← HG.out] at hb1
        exact hb1.trans h1)
      by_cases h0 : S.length = 0
      · have h0' : ¬ (0 : Int) < S.length := by omega
        have h0d : decide ((S.length : Int) > 0) = false := decide_eq_false (by omega)
        clear h0
        go_wp2_with (first | go_skip)
        go_ret
        exact ⟨S, sa, sc, rfl, ry_of hown, hcap, hS3, HEL.out, HFin.out _ hgr⟩
      · have h1 : (0 : Int) < S.length := by omega
        have h1d : decide ((S.length : Int) > 0) = true := decide_eq_true h1
        clear h0
        go_wp2_with (first | go_skip | (go_at_call 115; refine (pick_any g g (1 + S.length) 12 wr hrr (by omega) (by omega) (by omega)).mono ?_; rintro e w4 ⟨p, rfl, p0, p1, hg4', hr4⟩; have hg4 := grown_trans hgr hg4'; have ho4 := hown.drawn hrr hg4'; clear hg4' hrr hgr hown))
        any_goals (go_ret; exact ⟨S, sa, sc, rfl, ry_of ho4, hcap, hS3, HEL.out, HFin.out _ hg4⟩)
        refine (pick_any g g (1 + S.length + 1) S.length w4 hr4 (by omega) (by omega) (by omega)).mono ?_
        rintro e w5 ⟨q, rfl, q0, q1, hg5', hr5⟩
        have hg5 := grown_trans hg4 hg5'
        have ho5 := ho4.drawn hr4 hg5'
        have hrow : Row (w5.alloc (.cells #[.int .i64 0, .int .i64 (-1), .int .i64 6] 3)) w5.heap.size [0, -1, 6] := heap_alloc_new w5 _
        have hownL := Own.row hrow (Nat.le_refl _) (by unfold maxLen; simp)
        have hr6 := hr5.alloc (.cells #[.int .i64 0, .int .i64 (-1), .int .i64 6] 3)
        have hg6 := grown_alloc hg5 (.cells #[.int .i64 0, .int .i64 (-1), .int .i64 6] 3)
        have ho6 := ho5.alloc (.cells #[.int .i64 0, .int .i64 (-1), .int .i64 6] 3)
        clear hg5' ho4 hg4 hr4 hr5 hg5 ho5 hrow
        go_wp2_with fail
        refine (one_any g g (1 + S.length + 1 + 1) _ _ [0, -1, 6] _ hr6 (by omega) (hownL.held hr6) (by simp) (by simp)).mono ?_
        rintro e w7 ⟨i, x0, x1, rfl, hg7', hr7⟩
        have hx := one_of3 x0 x1
        obtain ⟨x, hxe⟩ : ∃ x, x = nth [0, -1, 6] i := ⟨_, rfl⟩
        rw [← hxe] at hx ⊢
        have hg7 := grown_trans hg6 hg7'
        have ho7 := ho6.drawn hr6 hg7'
        obtain ⟨gv, cv, eg, _, lgv⟩ := ho7.shape.resolve_left (fun h => by have := h.2; rw [this] at h1; simp at h1)
        injection eg with eg1 _ eg2
        subst eg1
        subst eg2
        have hfr := ho7.freeAt q.toNat
        have hce := ho7.cellAt q0 q1
        obtain ⟨hoA, hgA'⟩ := ho7.stored q.toNat x
        have hgA := grown_app hg7 hgA' (fun q hq => (World.ownsRow.lt ho7 q hq).1)
        have HLL := Lib.hid (show (S.set q.toNat x).length = S.length from List.length_set)
        have HSE := Lib.hid (show ∀ i : Int, 0 ≤ i → i < (S.set q.toNat x).length → -1 ≤ nth (S.set q.toNat x) i ∧ nth (S.set q.toNat x) i ≤ 6 from fun i i0 i1 => by
          rw [HLL.out] at i1
          unfold nth
          rw [List.getD_eq_getElem?_getD, List.getElem?_set]
          by_cases e : q.toNat = i.toNat
          · rw [if_pos e, if_pos (by omega)]; exact hx
          · rw [if_neg e]
            have := HEL.out i i0 i1
            unfold nth at this
            rwa [List.getD_eq_getElem?_getD] at this)
        have hcapA := ownCapZ hoA
        clear hxe hownL hr6 hg6 ho6 hg7' x0 x1
        go_wp2
        go_ret
        exact ⟨S.set q.toNat x, _, _, by rw [HLL.out]; rfl, ry_of hoA, hcapA, by rw [HLL.out]; exact hS3, HSE.out, HFin.out _ hgA⟩
end Go.Proofs.Ytnmhbbekmepinaa
