import Derived.Test.YthjbfdoclifhoaaCD5
import Derived.Test.YthjbfdoclifhoaaH4
import Derived.Defers
import Derived.Test.YthjbfdoclifhoaaCH5
namespace Go.Proofs.Ythjbfdoclifhoaa
open Go.RowKit
set_option linter.unusedVariables false

/-- the products of three are the same both ways round, as far as there are these products -/
def sm3F (F : Int → Int → Int) (x y z : Int) : Bool := (F x y == -1 || F y z == -1) || ((F (F x y) z == -1 || F x (F y z) == -1) || F (F x y) z == F x (F y z))
set_option maxRecDepth 100000 in
set_option maxHeartbeats 4000000 in
/-- (*impl.draft).isSameForThree$1 -/
theorem drSame1_any (d bx : Nat) (n : Int) (F : Int → Int → Int) (pv kv : Value) (x y : Int) (w : World) (n0 : 0 ≤ n) (n6 : n ≤ 6) (h : DrB w d n (iv F) pv kv) (hb : w.heap[bx]? = some (.cells #[.pointer (some ⟨d, 0, none⟩)] 43 (0, 0)))
    (hF : ∀ a b : Int, 0 ≤ a → a < 6 → 0 ≤ b → b < 6 → -1 ≤ F a b ∧ F a b ≤ 5) (x0 : 0 ≤ x) (x1 : x < n) (y0 : 0 ≤ y) (y1 : y < n) :
    Calls Try.prog 88 #[.int .i64 x, .int .i64 y, .pointer (some ⟨bx, 0, none⟩)] w fun e w' => e = .returned (.bool (allI n (sm3F F x y))) ∧ Below w.heap.size w w' := by
  have HD := Lib.hid (show ∀ wz, Below w.heap.size w wz → DrB wz d n (iv F) pv kv ∧ wz.cell? ⟨bx, 0, none⟩ = some (.pointer (some ⟨d, 0, none⟩)) from fun wz hz => ⟨h.below hz, by rw [cell_of_row wz bx _ _ _ _ ((hz.block _ (lt_of_block hb)).trans hb)]; rfl⟩)
  have HF := Lib.hid hF
  have z0 : Below w.heap.size w w := Below.refl _ _
  have c0 := (HD.out _ z0).2
  have c1 := (HD.out _ z0).1.cn
  clear hF h hb
  go_enter Try.func88, Try.ntmps88
  go_wp2
  clear c0 c1
  go_loopw [6, 7, 8, 13] (fun _ _ _ cv wr => ∃ z : Int, 0 ≤ z ∧ z ≤ n ∧ cv = .int .i64 z ∧ AllTo z (sm3F F x y) ∧ Below w.heap.size w wr) (fun _ _ _ cv _ => (6 - intOf cv).toNat)
  case atStart => exact ⟨0, by omega, by omega, rfl, AllTo.zero _, z0⟩
  case round =>
    clear z0
    obtain ⟨z, z0, zn, rfl, hall, hbl⟩ := hrel
    by_cases hz : z < n
    · obtain ⟨hD, c0⟩ := HD.out _ hbl
      have r1 := hD.ct x0 (show x < 6 by omega) y0 (show y < 6 by omega)
      have r2 := hD.ct y0 (show y < 6 by omega) z0 (show z < 6 by omega)
      have x6 : x < 6 := by omega
      have y6 : y < 6 := by omega
      have z6 : z < 6 := by omega
      have kz : IntKind.i64.wrap (z + 1) = z + 1 := IntWalk.i64_in _ (by omega)
      obtain ⟨l, hl⟩ : ∃ l, l = F x y := ⟨_, rfl⟩
      obtain ⟨r, hr⟩ : ∃ r, r = F y z := ⟨_, rfl⟩
      have b1 := HF.out x y x0 x6 y0 y6
      have b2 := HF.out y z y0 y6 z0 z6
      unfold iv at r1 r2
      rw [← hl] at r1 b1
      rw [← hr] at r2 b2
      go_wp2_with fail
      refine wp_region_any (by kernel_rfl) ?_
      refine any_of_C (C := fun w' => w' = wr.drew) _ _ _ _ ?_
      refine anyC_take (i := 0) (oi := ⟨_, _, _, _, _, _⟩) (v := .pointer (some ⟨d, 0, none⟩)) rfl (by kernel_rfl) (by kernel_rfl) (by kernel_rfl) (fun _ _ _ h => h) (.inl ⟨by kernel_rfl, fun wz hz => by subst hz; go_simp⟩) ?_
      refine anyC_take (i := 1) (oi := ⟨_, _, _, _, _, _⟩) (v := .int .i64 x) rfl (by kernel_rfl) (by kernel_rfl) (by kernel_rfl) (fun _ _ _ h => h) (.inl ⟨by kernel_rfl, fun wz hz => by apply runs_moveY <;> rfl⟩) ?_
      refine anyC_take (i := 2) (oi := ⟨_, _, _, _, _, _⟩) (v := .int .i64 y) rfl (by kernel_rfl) (by kernel_rfl) (by kernel_rfl) (fun _ _ _ h => h) (.inl ⟨by kernel_rfl, fun wz hz => by apply runs_moveY <;> rfl⟩) ?_
      (try simp only [Act.put, List.setIfInBounds_toArray, List.set_cons_zero, List.set_cons_succ])
      refine anyC_take (i := 3) (oi := ⟨_, _, _, _, _, _⟩) (v := .pointer (some ⟨d, 0, none⟩)) rfl (by kernel_rfl) (by kernel_rfl) (by kernel_rfl) (fun _ _ _ h => h) (.inl ⟨by kernel_rfl, fun wz hz => by subst hz; go_simp⟩) ?_
      refine anyC_take (i := 4) (oi := ⟨_, _, _, _, _, _⟩) (v := .pointer (some ⟨d, 1, none⟩)) rfl (by kernel_rfl) (by kernel_rfl) (by kernel_rfl) (fun _ _ _ h => h) (.inl ⟨by kernel_rfl, fun wz hz => by subst hz; go_simp⟩) ?_
      refine anyC_take (i := 5) (oi := ⟨_, _, _, _, _, _⟩) (v := .pointer (some ⟨d, 1 + x.toNat * 6, none⟩)) rfl (by kernel_rfl) (by kernel_rfl) (by kernel_rfl) (fun _ _ _ h => h) (.inl ⟨by kernel_rfl, fun wz hz => by subst hz; go_simp⟩) ?_
      (try simp only [Act.put, List.setIfInBounds_toArray, List.set_cons_zero, List.set_cons_succ])
      refine anyC_take (i := 6) (oi := ⟨_, _, _, _, _, _⟩) (v := .pointer (some ⟨d, 1 + x.toNat * 6 + y.toNat, none⟩)) rfl (by kernel_rfl) (by kernel_rfl) (by kernel_rfl) (fun _ _ _ h => h) (.inl ⟨by kernel_rfl, fun wz hz => by subst hz; go_simp⟩) ?_
      refine anyC_take (i := 7) (oi := ⟨_, _, _, _, _, _⟩) (v := .int .i64 l) rfl (by kernel_rfl) (by kernel_rfl) (by kernel_rfl) (fun _ _ _ h => h) (.inl ⟨by kernel_rfl, fun wz hz => by subst hz; go_simp⟩) ?_
      refine anyC_take (i := 8) (oi := ⟨_, _, _, _, _, _⟩) (v := .pointer (some ⟨d, 0, none⟩)) rfl (by kernel_rfl) (by kernel_rfl) (by kernel_rfl) (fun _ _ _ h => h) (.inl ⟨by kernel_rfl, fun wz hz => by subst hz; go_simp⟩) ?_
      (try simp only [Act.put, List.setIfInBounds_toArray, List.set_cons_zero, List.set_cons_succ])
      refine anyC_take (i := 9) (oi := ⟨_, _, _, _, _, _⟩) (v := .int .i64 y) rfl (by kernel_rfl) (by kernel_rfl) (by kernel_rfl) (fun _ _ _ h => h) (.inl ⟨by kernel_rfl, fun wz hz => by apply runs_moveY <;> rfl⟩) ?_
      refine anyC_take (i := 10) (oi := ⟨_, _, _, _, _, _⟩) (v := .int .i64 z) rfl (by kernel_rfl) (by kernel_rfl) (by kernel_rfl) (fun _ _ _ h => h) (.inl ⟨by kernel_rfl, fun wz hz => by apply runs_moveY <;> rfl⟩) ?_
      refine anyC_take (i := 11) (oi := ⟨_, _, _, _, _, _⟩) (v := .pointer (some ⟨d, 0, none⟩)) rfl (by kernel_rfl) (by kernel_rfl) (by kernel_rfl) (fun _ _ _ h => h) (.inl ⟨by kernel_rfl, fun wz hz => by subst hz; go_simp⟩) ?_
      (try simp only [Act.put, List.setIfInBounds_toArray, List.set_cons_zero, List.set_cons_succ])
      refine anyC_take (i := 12) (oi := ⟨_, _, _, _, _, _⟩) (v := .pointer (some ⟨d, 1, none⟩)) rfl (by kernel_rfl) (by kernel_rfl) (by kernel_rfl) (fun _ _ _ h => h) (.inl ⟨by kernel_rfl, fun wz hz => by subst hz; go_simp⟩) ?_
      refine anyC_take (i := 13) (oi := ⟨_, _, _, _, _, _⟩) (v := .pointer (some ⟨d, 1 + y.toNat * 6, none⟩)) rfl (by kernel_rfl) (by kernel_rfl) (by kernel_rfl) (fun _ _ _ h => h) (.inl ⟨by kernel_rfl, fun wz hz => by subst hz; go_simp⟩) ?_
      refine anyC_take (i := 14) (oi := ⟨_, _, _, _, _, _⟩) (v := .pointer (some ⟨d, 1 + y.toNat * 6 + z.toNat, none⟩)) rfl (by kernel_rfl) (by kernel_rfl) (by kernel_rfl) (fun _ _ _ h => h) (.inl ⟨by kernel_rfl, fun wz hz => by subst hz; go_simp⟩) ?_
      (try simp only [Act.put, List.setIfInBounds_toArray, List.set_cons_zero, List.set_cons_succ])
      refine anyC_take (i := 15) (oi := ⟨_, _, _, _, _, _⟩) (v := .int .i64 r) rfl (by kernel_rfl) (by kernel_rfl) (by kernel_rfl) (fun _ _ _ h => h) (.inl ⟨by kernel_rfl, fun wz hz => by subst hz; go_simp⟩) ?_
      (try simp only [Act.put, List.setIfInBounds_toArray, List.set_cons_zero, List.set_cons_succ])
      refine anyC_take (i := 16) (oi := ⟨_, _, _, _, _, _⟩) (v := .int .i64 l) rfl (by kernel_rfl) (by kernel_rfl) (by kernel_rfl) (fun _ _ _ h => h) (.inl ⟨by kernel_rfl, fun wz hz => by apply runs_assign <;> rfl⟩) ?_
      refine anyC_take (i := 17) (oi := ⟨_, _, _, _, _, _⟩) (v := .int .i64 r) rfl (by kernel_rfl) (by kernel_rfl) (by kernel_rfl) (fun _ _ _ h => h) (.inl ⟨by kernel_rfl, fun wz hz => by apply runs_assign <;> rfl⟩) ?_
      (try simp only [Act.put, List.setIfInBounds_toArray, List.set_cons_zero, List.set_cons_succ])
      refine anyC_done (C := fun w' => w' = wr.drew) (by kernel_rfl) rfl ?_ _
      have hbl2 : Below w.heap.size w wr.drew := hbl.trans ((Dr.below ⟨1, rfl⟩ _ : Below wr.heap.size wr wr.drew).mono hbl.size)
      by_cases e1 : l = -1
      · subst e1
        have hs : sm3F F x y z = true := by unfold sm3F; rw [← hl]; rfl
        clear hl hr r1 r2
        go_wp2
        go_roundw
        case rel => exact ⟨z + 1, by omega, by omega, rfl, hall.succ hs, hbl2⟩
        case measure => simp [intOf]; omega
      · have f1 : (l == -1) = false := by rw [beq_eq_false_iff_ne]; exact e1
        by_cases e2 : r = -1
        · subst e2
          have hs : sm3F F x y z = true := by unfold sm3F; rw [← hl, ← hr, f1]; rfl
          clear hl hr r1 r2
          go_wp2
          go_roundw
          case rel => exact ⟨z + 1, by omega, by omega, rfl, hall.succ hs, hbl2⟩
          case measure => simp [intOf]; omega
        · have f2 : (r == -1) = false := by rw [beq_eq_false_iff_ne]; exact e2
          have l0 : 0 ≤ l := by omega
          have r0 : 0 ≤ r := by omega
          have l6 : l < 6 := by omega
          have r6 : r < 6 := by omega
          have hD2 : DrB wr.drew d n (iv F) pv kv := hD
          have q1 := hD.ct l0 l6 z0 z6
          have q2 := hD.ct x0 x6 r0 r6
          obtain ⟨s, hs⟩ : ∃ s, s = F l z := ⟨_, rfl⟩
          obtain ⟨t, ht⟩ : ∃ t, t = F x r := ⟨_, rfl⟩
          unfold iv at q1 q2
          rw [← hs] at q1
          rw [← ht] at q2
          have hv : sm3F F x y z = ((s == -1 || t == -1) || s == t) := by unfold sm3F; rw [← hl, ← hr, f1, f2, ← hs, ← ht]; rfl
          clear hl hr r1 r2 b1 b2
          go_wp2_with fail
          refine wp_region_any (by kernel_rfl) ?_
          refine any_of_C (C := fun w' => w' = wr.drew.drew) _ _ _ _ ?_
          refine anyC_take (i := 0) (oi := ⟨_, _, _, _, _, _⟩) (v := .pointer (some ⟨d, 0, none⟩)) rfl (by kernel_rfl) (by kernel_rfl) (by kernel_rfl) (fun _ _ _ h => h) (.inl ⟨by kernel_rfl, fun wz hz => by subst hz; go_simp⟩) ?_
          refine anyC_take (i := 1) (oi := ⟨_, _, _, _, _, _⟩) (v := .int .i64 l) rfl (by kernel_rfl) (by kernel_rfl) (by kernel_rfl) (fun _ _ _ h => h) (.inl ⟨by kernel_rfl, fun wz hz => by apply runs_moveY <;> rfl⟩) ?_
          refine anyC_take (i := 2) (oi := ⟨_, _, _, _, _, _⟩) (v := .int .i64 z) rfl (by kernel_rfl) (by kernel_rfl) (by kernel_rfl) (fun _ _ _ h => h) (.inl ⟨by kernel_rfl, fun wz hz => by apply runs_moveY <;> rfl⟩) ?_
          (try simp only [Act.put, List.setIfInBounds_toArray, List.set_cons_zero, List.set_cons_succ])
          refine anyC_take (i := 3) (oi := ⟨_, _, _, _, _, _⟩) (v := .pointer (some ⟨d, 0, none⟩)) rfl (by kernel_rfl) (by kernel_rfl) (by kernel_rfl) (fun _ _ _ h => h) (.inl ⟨by kernel_rfl, fun wz hz => by subst hz; go_simp⟩) ?_
          refine anyC_take (i := 4) (oi := ⟨_, _, _, _, _, _⟩) (v := .pointer (some ⟨d, 1, none⟩)) rfl (by kernel_rfl) (by kernel_rfl) (by kernel_rfl) (fun _ _ _ h => h) (.inl ⟨by kernel_rfl, fun wz hz => by subst hz; go_simp⟩) ?_
          refine anyC_take (i := 5) (oi := ⟨_, _, _, _, _, _⟩) (v := .pointer (some ⟨d, 1 + l.toNat * 6, none⟩)) rfl (by kernel_rfl) (by kernel_rfl) (by kernel_rfl) (fun _ _ _ h => h) (.inl ⟨by kernel_rfl, fun wz hz => by subst hz; go_simp⟩) ?_
          (try simp only [Act.put, List.setIfInBounds_toArray, List.set_cons_zero, List.set_cons_succ])
          refine anyC_take (i := 6) (oi := ⟨_, _, _, _, _, _⟩) (v := .pointer (some ⟨d, 1 + l.toNat * 6 + z.toNat, none⟩)) rfl (by kernel_rfl) (by kernel_rfl) (by kernel_rfl) (fun _ _ _ h => h) (.inl ⟨by kernel_rfl, fun wz hz => by subst hz; go_simp⟩) ?_
          refine anyC_take (i := 7) (oi := ⟨_, _, _, _, _, _⟩) (v := .int .i64 s) rfl (by kernel_rfl) (by kernel_rfl) (by kernel_rfl) (fun _ _ _ h => h) (.inl ⟨by kernel_rfl, fun wz hz => by subst hz; go_simp⟩) ?_
          refine anyC_take (i := 8) (oi := ⟨_, _, _, _, _, _⟩) (v := .pointer (some ⟨d, 0, none⟩)) rfl (by kernel_rfl) (by kernel_rfl) (by kernel_rfl) (fun _ _ _ h => h) (.inl ⟨by kernel_rfl, fun wz hz => by subst hz; go_simp⟩) ?_
          (try simp only [Act.put, List.setIfInBounds_toArray, List.set_cons_zero, List.set_cons_succ])
          refine anyC_take (i := 9) (oi := ⟨_, _, _, _, _, _⟩) (v := .int .i64 x) rfl (by kernel_rfl) (by kernel_rfl) (by kernel_rfl) (fun _ _ _ h => h) (.inl ⟨by kernel_rfl, fun wz hz => by apply runs_moveY <;> rfl⟩) ?_
          refine anyC_take (i := 10) (oi := ⟨_, _, _, _, _, _⟩) (v := .int .i64 r) rfl (by kernel_rfl) (by kernel_rfl) (by kernel_rfl) (fun _ _ _ h => h) (.inl ⟨by kernel_rfl, fun wz hz => by apply runs_moveY <;> rfl⟩) ?_
          refine anyC_take (i := 11) (oi := ⟨_, _, _, _, _, _⟩) (v := .pointer (some ⟨d, 0, none⟩)) rfl (by kernel_rfl) (by kernel_rfl) (by kernel_rfl) (fun _ _ _ h => h) (.inl ⟨by kernel_rfl, fun wz hz => by subst hz; go_simp⟩) ?_
          (try simp only [Act.put, List.setIfInBounds_toArray, List.set_cons_zero, List.set_cons_succ])
          refine anyC_take (i := 12) (oi := ⟨_, _, _, _, _, _⟩) (v := .pointer (some ⟨d, 1, none⟩)) rfl (by kernel_rfl) (by kernel_rfl) (by kernel_rfl) (fun _ _ _ h => h) (.inl ⟨by kernel_rfl, fun wz hz => by subst hz; go_simp⟩) ?_
          refine anyC_take (i := 13) (oi := ⟨_, _, _, _, _, _⟩) (v := .pointer (some ⟨d, 1 + x.toNat * 6, none⟩)) rfl (by kernel_rfl) (by kernel_rfl) (by kernel_rfl) (fun _ _ _ h => h) (.inl ⟨by kernel_rfl, fun wz hz => by subst hz; go_simp⟩) ?_
          refine anyC_take (i := 14) (oi := ⟨_, _, _, _, _, _⟩) (v := .pointer (some ⟨d, 1 + x.toNat * 6 + r.toNat, none⟩)) rfl (by kernel_rfl) (by kernel_rfl) (by kernel_rfl) (fun _ _ _ h => h) (.inl ⟨by kernel_rfl, fun wz hz => by subst hz; go_simp⟩) ?_
          (try simp only [Act.put, List.setIfInBounds_toArray, List.set_cons_zero, List.set_cons_succ])
          refine anyC_take (i := 15) (oi := ⟨_, _, _, _, _, _⟩) (v := .int .i64 t) rfl (by kernel_rfl) (by kernel_rfl) (by kernel_rfl) (fun _ _ _ h => h) (.inl ⟨by kernel_rfl, fun wz hz => by subst hz; go_simp⟩) ?_
          (try simp only [Act.put, List.setIfInBounds_toArray, List.set_cons_zero, List.set_cons_succ])
          refine anyC_take (i := 16) (oi := ⟨_, _, _, _, _, _⟩) (v := .int .i64 s) rfl (by kernel_rfl) (by kernel_rfl) (by kernel_rfl) (fun _ _ _ h => h) (.inl ⟨by kernel_rfl, fun wz hz => by apply runs_assign <;> rfl⟩) ?_
          refine anyC_take (i := 17) (oi := ⟨_, _, _, _, _, _⟩) (v := .int .i64 t) rfl (by kernel_rfl) (by kernel_rfl) (by kernel_rfl) (fun _ _ _ h => h) (.inl ⟨by kernel_rfl, fun wz hz => by apply runs_assign <;> rfl⟩) ?_
          (try simp only [Act.put, List.setIfInBounds_toArray, List.set_cons_zero, List.set_cons_succ])
          refine anyC_done (C := fun w' => w' = wr.drew.drew) (by kernel_rfl) rfl ?_ _
          have hbl3 : Below w.heap.size w wr.drew.drew := hbl2.trans ((Dr.below ⟨1, rfl⟩ _ : Below wr.drew.heap.size wr.drew wr.drew.drew).mono hbl2.size)
          clear hs ht
          by_cases e3 : s = -1
          · subst e3
            have hs : sm3F F x y z = true := by rw [hv]; rfl
            clear hv
            go_wp2
            go_roundw
            case rel => exact ⟨z + 1, by omega, by omega, rfl, hall.succ hs, hbl3⟩
            case measure => simp [intOf]; omega
          · have f3 : (s == -1) = false := by rw [beq_eq_false_iff_ne]; exact e3
            have f3' : (s != -1) = true := by simp [bne, f3]
            by_cases e4 : t = -1
            · subst e4
              have hs : sm3F F x y z = true := by rw [hv, f3]; rfl
              clear hv
              go_wp2
              go_roundw
              case rel => exact ⟨z + 1, by omega, by omega, rfl, hall.succ hs, hbl3⟩
              case measure => simp [intOf]; omega
            · have f4 : (t == -1) = false := by rw [beq_eq_false_iff_ne]; exact e4
              have f4' : (t != -1) = true := by simp [bne, f4]
              by_cases e5 : s = t
              · subst e5
                have hs : sm3F F x y z = true := by rw [hv]; simp
                clear hv
                go_wp2
                go_roundw
                case rel => exact ⟨z + 1, by omega, by omega, rfl, hall.succ hs, hbl3⟩
                case measure => simp [intOf]; omega
              · have f5 : (s == t) = false := by rw [beq_eq_false_iff_ne]; exact e5
                have f5' : (s != t) = true := by simp [bne, f5]
                have hf := Lib.hid (show allI n (sm3F F x y) = false from allI_false z z0 hz (by rw [hv, f3, f4, f5]; rfl))
                clear hv
                go_wp2
                go_ret
                exact ⟨ret_bool (by rw [hf.out]), hbl3⟩
    · have ht := Lib.hid (hall.all (show n ≤ z by omega))
      go_wp2
      go_ret
      exact ⟨ret_bool (by rw [ht.out]), hbl⟩
end Go.Proofs.Ythjbfdoclifhoaa

namespace Go.Proofs.Ythjbfdoclifhoaa
open Go.RowKit
set_option linter.unusedVariables false

/-- the products of three are the same, all told -/
def sameF (n : Int) (F : Int → Int → Int) : Bool := all2 n fun x y => allI n (sm3F F x y)
set_option maxRecDepth 100000 in
set_option maxHeartbeats 4000000 in
/-- (*impl.draft).isSameForThree -/
theorem drSame_any (d : Nat) (n : Int) (F : Int → Int → Int) (pv kv : Value) (w : World) (n0 : 0 ≤ n) (n6 : n ≤ 6) (h : DrB w d n (iv F) pv kv)
    (hF : ∀ a b : Int, 0 ≤ a → a < 6 → 0 ≤ b → b < 6 → -1 ≤ F a b ∧ F a b ≤ 5) :
    Calls Try.prog 71 #[.pointer (some ⟨d, 0, none⟩)] w fun e w' => e = .returned (.bool (sameF n F)) ∧ Below w.heap.size w w' := by
  obtain ⟨w1, hw1⟩ : ∃ w1, w1 = w.alloc (.cells #[.pointer (some ⟨d, 0, none⟩)] 43) := ⟨_, rfl⟩
  have hB : Below w.heap.size w w1 := by rw [hw1]; exact (Below.refl _ _).alloc (Nat.le_refl _) _
  have hx : w1.heap[w.heap.size]? = some (.cells #[.pointer (some ⟨d, 0, none⟩)] 43 (0, 0)) := by rw [hw1]; exact heap_alloc_new w _
  have h1 := h.below hB
  have c0 : w1.cell? ⟨w.heap.size, 0, none⟩ = some (.pointer (some ⟨d, 0, none⟩)) := by rw [cell_of_row w1 w.heap.size _ _ _ _ hx]; rfl
  have c1 := h1.cn
  have hmf : ∀ (fn : Fn) (first cap : Array Value) (w : World), (Instr.makeFunc fn first cap).run Try.prog w = .ok (.func fn first cap) w := fun _ _ _ _ => rfl
  have HA := Lib.hid (show Calls Try.prog 67 #[.int .i64 n, .func (.func 88) #[] #[.pointer (some ⟨w.heap.size, 0, none⟩)]] w1 fun e w' => e = .returned (.bool (sameF n F)) ∧ Below w1.heap.size w1 w' from
    allTwo_any 88 #[.pointer (some ⟨w.heap.size, 0, none⟩)] n (fun x y => allI n (sm3F F x y)) w1 n0 n6 (enters_of Try.func88 (by kernel_rfl) rfl)
      (fun x y wr x0 x1 y0 y1 hb => drSame1_any d w.heap.size n F pv kv x y wr n0 n6 (h1.below hb) ((hb.block _ (lt_of_block hx)).trans hx) hF x0 x1 y0 y1))
  go_enter Try.func71, Try.ntmps71
  go_wp2_with (first | (rw [← hw1]; clear hw1) | (go_at_call 67; refine HA.out.mono ?_; rintro e w2 ⟨rfl, hb2⟩))
  go_ret
  exact ⟨rfl, hB.trans (hb2.mono hB.size)⟩
set_option maxRecDepth 100000 in
set_option maxHeartbeats 4000000 in
/-- (*impl.draft).takeBack -/
theorem drTakeBackD_any (d p m c : Nat) (n : Int) (f : Int → Int → Value) (X Y : Nat → Int) (j : Nat) (k : Int) (u : FrameMode) (w : World) (hj : j < m) (h : DrB w d n f (.slice (some ⟨p, 0, none⟩) m c) (.int .i64 k)) (hp : PlB w p m X Y) (hk : k = j + 1) (hj6 : j ≤ 1000) (hne : p ≠ d)
    (x0 : 0 ≤ X j) (x1 : X j < 6) (y0 : 0 ≤ Y j) (y1 : Y j < 6) :
    CallsD Try.prog 48 #[.pointer (some ⟨d, 0, none⟩)] u w fun e u' w' => u' = u ∧ (e = .returned (.tuple #[]) ∧ DrB w' d n (upd2 (upd2 f (X j) (Y j) (.int .i64 (-1))) (Y j) (X j) (.int .i64 (-1))) (.slice (some ⟨p, 0, none⟩) m c) (.int .i64 (j : Int)) ∧ PlB w' p m X Y ∧ w.grownBy w' (some d)) := by
  have c7 := h.cp
  have c8 := h.ck
  have f8 := h.free 38
  have hj1 : (j : Int) < m := by omega
  have kw : IntKind.i64.wrap (k - 1) = (j : Int) := by rw [hk]; rw [show (j : Int) + 1 - 1 = j by omega]; exact IntWalk.i64_in _ (by omega)
  clear hk
  go_enter_d Try.func48, Try.ntmps48
  go_wp2
  obtain ⟨w1, hw1⟩ : ∃ w1 : World, w1 = w.setCell ⟨d, 38, none⟩ (.int .i64 (j : Int)) := ⟨_, rfl⟩
  rw [← hw1]
  have h1 : DrB w1 d n f (.slice (some ⟨p, 0, none⟩) m c) (.int .i64 (j : Int)) := by rw [hw1]; exact h.setK _
  have hp1 : PlB w1 p m X Y := by rw [hw1]; exact hp.same (Below.heap_setCell _ _ _ _ (by show p ≠ d; exact hne))
  have hg1 : w.grownBy w1 (some d) := by rw [hw1]; exact grown_cell (grown_refl w _)
  clear hw1 c7 c8 f8
  have hA : DrB w1.drew d n f (.slice (some ⟨p, 0, none⟩) m c) (.int .i64 (j : Int)) := h1
  have hpA : PlB w1.drew p m X Y := hp1
  refine wp_region_any (by kernel_rfl) ?_
  refine any_of_C (C := fun w' => w'.cell? ⟨d, 37, none⟩ = some (.slice (some ⟨p, 0, none⟩) m c) ∧ w'.cell? ⟨d, 38, none⟩ = some (.int .i64 (j : Int)) ∧ w'.cell? ⟨p, j * 2, none⟩ = some (.int .i64 (X j)) ∧ w'.cell? ⟨p, j * 2 + 1, none⟩ = some (.int .i64 (Y j))) _ _ _ _ ?_
  refine anyC_take (i := 0) (oi := ⟨_, _, _, _, _, _⟩) (v := .pointer (some ⟨d, 0, none⟩)) rfl (by kernel_rfl) (by kernel_rfl) (by kernel_rfl) (fun _ _ _ h => h) (.inl ⟨by kernel_rfl, fun wz hz => by apply runs_moveY <;> rfl⟩) ?_
  refine anyC_take (i := 1) (oi := ⟨_, _, _, _, _, _⟩) (v := .pointer (some ⟨d, 0, none⟩)) rfl (by kernel_rfl) (by kernel_rfl) (by kernel_rfl) (fun _ _ _ h => h) (.inl ⟨by kernel_rfl, fun wz hz => by apply runs_moveY <;> rfl⟩) ?_
  refine anyC_take (i := 2) (oi := ⟨_, _, _, _, _, _⟩) (v := .pointer (some ⟨d, 0, none⟩)) rfl (by kernel_rfl) (by kernel_rfl) (by kernel_rfl) (fun _ _ _ h => h) (.inl ⟨by kernel_rfl, fun wz hz => by obtain ⟨c0, c1, c2, c3⟩ := hz; go_simp⟩) ?_
  (try simp only [Act.put, List.setIfInBounds_toArray, List.set_cons_zero, List.set_cons_succ])
  refine anyC_take (i := 3) (oi := ⟨_, _, _, _, _, _⟩) (v := .pointer (some ⟨d, 37, none⟩)) rfl (by kernel_rfl) (by kernel_rfl) (by kernel_rfl) (fun _ _ _ h => h) (.inl ⟨by kernel_rfl, fun wz hz => by obtain ⟨c0, c1, c2, c3⟩ := hz; go_simp⟩) ?_
  refine anyC_take (i := 4) (oi := ⟨_, _, _, _, _, _⟩) (v := .slice (some ⟨p, 0, none⟩) m c) rfl (by kernel_rfl) (by kernel_rfl) (by kernel_rfl) (fun _ _ _ h => h) (.inl ⟨by kernel_rfl, fun wz hz => by obtain ⟨c0, c1, c2, c3⟩ := hz; go_simp⟩) ?_
  refine anyC_take (i := 5) (oi := ⟨_, _, _, _, _, _⟩) (v := .pointer (some ⟨d, 0, none⟩)) rfl (by kernel_rfl) (by kernel_rfl) (by kernel_rfl) (fun _ _ _ h => h) (.inl ⟨by kernel_rfl, fun wz hz => by apply runs_moveY <;> rfl⟩) ?_
  (try simp only [Act.put, List.setIfInBounds_toArray, List.set_cons_zero, List.set_cons_succ])
  refine anyC_take (i := 6) (oi := ⟨_, _, _, _, _, _⟩) (v := .pointer (some ⟨d, 0, none⟩)) rfl (by kernel_rfl) (by kernel_rfl) (by kernel_rfl) (fun _ _ _ h => h) (.inl ⟨by kernel_rfl, fun wz hz => by obtain ⟨c0, c1, c2, c3⟩ := hz; go_simp⟩) ?_
  refine anyC_take (i := 7) (oi := ⟨_, _, _, _, _, _⟩) (v := .pointer (some ⟨d, 38, none⟩)) rfl (by kernel_rfl) (by kernel_rfl) (by kernel_rfl) (fun _ _ _ h => h) (.inl ⟨by kernel_rfl, fun wz hz => by obtain ⟨c0, c1, c2, c3⟩ := hz; go_simp⟩) ?_
  refine anyC_take (i := 8) (oi := ⟨_, _, _, _, _, _⟩) (v := .int .i64 (j : Int)) rfl (by kernel_rfl) (by kernel_rfl) (by kernel_rfl) (fun _ _ _ h => h) (.inl ⟨by kernel_rfl, fun wz hz => by obtain ⟨c0, c1, c2, c3⟩ := hz; go_simp⟩) ?_
  (try simp only [Act.put, List.setIfInBounds_toArray, List.set_cons_zero, List.set_cons_succ])
  refine anyC_take (i := 9) (oi := ⟨_, _, _, _, _, _⟩) (v := .pointer (some ⟨p, j * 2, none⟩)) rfl (by kernel_rfl) (by kernel_rfl) (by kernel_rfl) (fun _ _ _ h => h) (.inl ⟨by kernel_rfl, fun wz hz => by obtain ⟨c0, c1, c2, c3⟩ := hz; go_simp⟩) ?_
  refine anyC_take (i := 10) (oi := ⟨_, _, _, _, _, _⟩) (v := .agg #[.int .i64 (X j), .int .i64 (Y j)]) rfl (by kernel_rfl) (by kernel_rfl) (by kernel_rfl) (fun _ _ _ h => h) (.inl ⟨by kernel_rfl, fun wz hz => by obtain ⟨c0, c1, c2, c3⟩ := hz; go_simp⟩) ?_
  (try simp only [Act.put, List.setIfInBounds_toArray, List.set_cons_zero, List.set_cons_succ])
  refine anyC_call (i := 11) (o := ⟨_, _, _, _, _, _⟩) (f := 41) (args := #[.pointer (some ⟨d, 0, none⟩), .agg #[.int .i64 (X j), .int .i64 (Y j)], .int .i64 (-1)]) rfl (by kernel_rfl) (by kernel_rfl) (by apply runs_call3 (he := enters_of Try.func41 (by kernel_rfl) rfl) <;> rfl) ⟨hA.cp, hA.ck, (hpA.at hj).1, (hpA.at hj).2⟩ ?_
  refine (drWrite_any d n f _ _ (X j) (Y j) (-1) _ hA x0 x1 y0 y1).mono ?_
  rintro e wz ⟨rfl, hd, hg⟩
  refine ⟨_, rfl, ?_⟩
  (try simp only [Act.put, List.setIfInBounds_toArray, List.set_cons_zero, List.set_cons_succ])
  have hpz := hpA.grown hg hne
  refine anyC_done (C := fun w' => w'.cell? ⟨d, 37, none⟩ = some (.slice (some ⟨p, 0, none⟩) m c) ∧ w'.cell? ⟨d, 38, none⟩ = some (.int .i64 (j : Int)) ∧ w'.cell? ⟨p, j * 2, none⟩ = some (.int .i64 (X j)) ∧ w'.cell? ⟨p, j * 2 + 1, none⟩ = some (.int .i64 (Y j))) (by kernel_rfl) ⟨hd.cp, hd.ck, (hpz.at hj).1, (hpz.at hj).2⟩ ?_ _
  go_end0
  exact ⟨rfl, hd, hpz, grown_trans (grown_dr0 hg1) hg⟩
def putF (F : Int → Int → Int) (x y z : Int) : Int → Int → Int := fun a b => if a = y ∧ b = x then z else if a = x ∧ b = y then z else F a b
theorem iv_put (F : Int → Int → Int) (x y z : Int) : upd2 (upd2 (iv F) x y (.int .i64 z)) y x (.int .i64 z) = iv (putF F x y z) := by
  funext a b
  unfold upd2 iv putF
  split
  · rfl
  · split <;> rfl
theorem put_back {F : Int → Int → Int} {x y z : Int} (h1 : F x y = -1) (h2 : F y x = -1) : putF (putF F x y z) x y (-1) = F := by
  funext a b
  unfold putF
  split
  · rename_i h; rw [h.1, h.2, h2]
  · split
    · rename_i h; rw [h.1, h.2, h1]
    · rfl
theorem put_rng {F : Int → Int → Int} {x y z : Int} (hF : ∀ a b : Int, 0 ≤ a → a < 6 → 0 ≤ b → b < 6 → -1 ≤ F a b ∧ F a b ≤ 5) (z0 : -1 ≤ z) (z5 : z ≤ 5) : ∀ a b : Int, 0 ≤ a → a < 6 → 0 ≤ b → b < 6 → -1 ≤ putF F x y z a b ∧ putF F x y z a b ≤ 5 := fun a b a0 a6 b0 b6 => by
  unfold putF
  split
  · exact ⟨z0, z5⟩
  · split
    · exact ⟨z0, z5⟩
    · exact hF a b a0 a6 b0 b6
set_option maxRecDepth 100000 in
set_option maxHeartbeats 4000000 in
/-- (*impl.draft).fits -/
theorem drFits_any (d p m c : Nat) (n : Int) (F : Int → Int → Int) (X Y : Nat → Int) (j : Nat) (z : Int) (w : World) (hj : j < m) (h : DrB w d n (iv F) (.slice (some ⟨p, 0, none⟩) m c) (.int .i64 (j : Int))) (hp : PlB w p m X Y) (hj6 : j ≤ 1000) (hne : p ≠ d) (n0 : 0 ≤ n) (n6 : n ≤ 6)
    (x0 : 0 ≤ X j) (x1 : X j < 6) (y0 : 0 ≤ Y j) (y1 : Y j < 6) (hF : ∀ a b : Int, 0 ≤ a → a < 6 → 0 ≤ b → b < 6 → -1 ≤ F a b ∧ F a b ≤ 5) (z0 : -1 ≤ z) (z5 : z ≤ 5) (ho1 : F (X j) (Y j) = -1) (ho2 : F (Y j) (X j) = -1) :
    Calls Try.prog 45 #[.pointer (some ⟨d, 0, none⟩), .int .i64 z] w fun e w' => e = .returned (.bool (sameF n (putF F (X j) (Y j) z))) ∧ DrB w' d n (iv F) (.slice (some ⟨p, 0, none⟩) m c) (.int .i64 (j : Int)) ∧ PlB w' p m X Y ∧ w.grownBy w' (some d) := by
  have hmf : ∀ (fn : Fn) (first cap : Array Value) (w : World), (Instr.makeFunc fn first cap).run Try.prog w = .ok (.func fn first cap) w := fun _ _ _ _ => rfl
  have HP := Lib.hid (drPut_any d p m c n (iv F) X Y j z w hj h hp hj6 hne x0 x1 y0 y1)
  have HR := Lib.hid (put_rng (x := X j) (y := Y j) hF z0 z5)
  have HB := Lib.hid (put_back (z := z) ho1 ho2)
  clear hF ho1 ho2
  go_enter_defers Try.func45, Try.ntmps45
  go_wp2_with (first
    | (go_at_call 46; refine HP.out.mono ?_; rintro e w2 ⟨rfl, hd2, hp2, hg2⟩; rw [iv_put] at hd2)
    | (go_at_call 71; refine (drSame_any d n _ _ _ _ n0 n6 hd2 HR.out).mono ?_; rintro e w3 ⟨rfl, hb3⟩; have hd3 := hd2.below hb3; have hp3 := hp2.same (hb3.block _ hp2.lt); have hg3 := grown_trans hg2 (grown_of_below hb3); clear hd2 hp2 hg2 hb3))
  refine leaves_cons (f := 48) (args := #[.pointer (some ⟨d, 0, none⟩)]) (by simp) (by simp [go_sem]) ?_
  refine (drTakeBackD_any d p m c n _ X Y j ((j : Int) + 1) .returning w3 hj hd3 hp3 rfl hj6 hne x0 x1 y0 y1).mono ?_
  rintro e u' w4 ⟨rfl, rfl, hd4, hp4, hg4⟩
  rw [iv_put, HB.out] at hd4
  exact ⟨_, results_tmp rfl _ _ _, rfl, hd4, hp4, grown_trans hg3 hg4⟩
end Go.Proofs.Ythjbfdoclifhoaa

/- The search's steps, and what all of them keep. -/
namespace Go.Proofs.Ythjbfdoclifhoaa
open Go.RowKit
set_option linter.unusedVariables false

def okX (n : Nat) (s : DS) : Bool := okD n s && decide (s.m = 1 → tv s.T (plX n s.k) (plY n s.k) = -1 ∧ tv s.T (plY n s.k) (plX n s.k) = -1)
def runX (n : Nat) : Nat → DS → Bool
  | 0, _ => false
  | f + 1, s => okX n s && (decide (s.m = 2 ∧ s.k = 0) || runX n f (stepD n s))
set_option maxRecDepth 100000 in
theorem runX_1 : runX 1 1000 ⟨0, dr0 1, 0, 0, []⟩ = true := by decide +kernel
set_option maxRecDepth 100000 in
theorem runX_2 : runX 2 1000 ⟨0, dr0 2, 0, 0, []⟩ = true := by decide +kernel
set_option maxRecDepth 100000 in
theorem runX_3 : runX 3 1000 ⟨0, dr0 3, 0, 0, []⟩ = true := by decide +kernel
set_option maxRecDepth 100000 in
theorem runX_4 : runX 4 1000 ⟨0, dr0 4, 0, 0, []⟩ = true := by decide +kernel
set_option maxRecDepth 100000 in
theorem runX_5 : runX 5 1000 ⟨0, dr0 5, 0, 0, []⟩ = true := by decide +kernel
/-- the places lie between the least and the greatest element -/
def plOk (n : Nat) : Bool := (plN n).all fun p => decide (1 ≤ p.1 ∧ p.1 ≤ p.2 ∧ p.2 + 1 < n)
theorem plOk_all : plOk 1 = true ∧ plOk 2 = true ∧ plOk 3 = true ∧ plOk 4 = true ∧ plOk 5 = true := by decide +kernel
theorem plLen_all : (plN 1).length = 0 ∧ (plN 2).length = 0 ∧ (plN 3).length = 1 ∧ (plN 4).length = 3 ∧ (plN 5).length = 6 := by decide +kernel
theorem pl_at {n k : Nat} (h : plOk n = true) (hk : k < (plN n).length) : 1 ≤ plX n k ∧ plX n k ≤ plY n k ∧ plY n k + 1 < n := by
  have := List.all_eq_true.1 h ((plN n)[k]) (List.getElem_mem hk)
  rw [decide_eq_true_iff] at this
  unfold plX plY
  rw [List.getD_eq_getElem?_getD, List.getElem?_eq_getElem hk]
  exact this
theorem sameD_F (n : Nat) (T : List (List Int)) : sameD n T = sameF n (tv T) := rfl
end Go.Proofs.Ythjbfdoclifhoaa

/- A product put into a table of lists; what the search's steps keep, taken apart. -/
namespace Go.Proofs.Ythjbfdoclifhoaa
open Go.RowKit
set_option linter.unusedVariables false

theorem nth_setD (L : List Int) (y : Nat) (z : Int) (hy : y < L.length) (y1 : 1 ≤ y) (b : Int) : nth (L.set y z) b = if b = y then z else nth L b := by
  unfold nth
  rw [List.getD_eq_getElem?_getD, List.getD_eq_getElem?_getD, List.getElem?_set]
  by_cases e : y = b.toNat
  · rw [if_pos e, if_pos (show b = y by omega), if_pos hy]; rfl
  · rw [if_neg e, if_neg (show ¬ b = y by omega)]
theorem tv_setT {T : List (List Int)} (hT : T.length = 6) (hr : ∀ j : Nat, j < 6 → (rowAt T j).length = 6) {x y : Nat} (x1 : 1 ≤ x) (x6 : x < 6) (y1 : 1 ≤ y) (y6 : y < 6) (z a b : Int) :
    tv (setT T x y z) a b = if a = x ∧ b = y then z else tv T a b := by
  have e : rowAt (setT T x y z) a = if a.toNat = x then (rowAt T x).set y z else rowAt T a := by
    have := setT_row T (x := x) (y := y) (j := a.toNat) z (by omega)
    unfold rowAt at this ⊢
    rw [Int.toNat_natCast] at this
    exact this
  unfold tv
  rw [e]
  by_cases h : a.toNat = x
  · have ha : a = x := by omega
    rw [if_pos h, nth_setD _ y z (by rw [hr x x6]; exact y6) y1]
    by_cases hb : b = y
    · rw [if_pos hb, if_pos ⟨ha, hb⟩]
    · rw [if_neg hb, if_neg (fun h => hb h.2), ha]
  · rw [if_neg h, if_neg (fun h' => h (by omega))]
theorem tv_set2 {T : List (List Int)} (hT : T.length = 6) (hr : ∀ j : Nat, j < 6 → (rowAt T j).length = 6) {x y : Nat} (x1 : 1 ≤ x) (x6 : x < 6) (y1 : 1 ≤ y) (y6 : y < 6) (z : Int) :
    tv (set2 T x y z) = putF (tv T) x y z := by
  funext a b
  have hT2 : (setT T x y z).length = 6 := by rw [setT_len]; exact hT
  have hr2 : ∀ j : Nat, j < 6 → (rowAt (setT T x y z) j).length = 6 := fun j hj => by rw [setT_rlen T z (by omega)]; exact hr j hj
  unfold set2 putF
  rw [tv_setT hT2 hr2 y1 y6 x1 x6, tv_setT hT hr x1 x6 y1 y6]
/-- what all steps keep -/
structure OkS (n : Nat) (s : DS) : Prop where
  k : s.k ≤ (plN n).length
  z0 : -1 ≤ s.z
  z6 : s.z ≤ 6
  len : s.T.length = 6
  row : ∀ j : Nat, j < 6 → (rowAt s.T j).length = 6
  rng : ∀ a b : Int, 0 ≤ a → a < 6 → 0 ≤ b → b < 6 → -1 ≤ tv s.T a b ∧ tv s.T a b ≤ 5
  k1 : s.m = 1 → s.k < (plN n).length
  R : s.R.length ≤ 1000
  op : s.m = 1 → tv s.T (plX n s.k) (plY n s.k) = -1 ∧ tv s.T (plY n s.k) (plX n s.k) = -1
theorem okS_of {n : Nat} {s : DS} (h : okX n s = true) : OkS n s := by
  unfold okX okD at h
  simp only [Bool.and_eq_true, decide_eq_true_eq] at h
  obtain ⟨⟨h1, h2, h3, h4, h5, h6, h7⟩, h8⟩ := h
  have hrow : ∀ j : Nat, j < 6 → (rowAt s.T j).length = 6 ∧ ∀ v ∈ rowAt s.T j, -1 ≤ v ∧ v ≤ 5 := fun j hj => by
    have := List.all_eq_true.1 h5 (rowAt s.T j) (by rw [rowAt_get s.T j (by omega)]; exact List.getElem_mem _)
    simp only [Bool.and_eq_true, decide_eq_true_eq, List.all_eq_true] at this
    exact this
  refine ⟨h1, h2, h3, h4, fun j hj => (hrow j hj).1, fun a b a0 a6 b0 b6 => ?_, h6, h7, h8⟩
  have hr := hrow a.toNat (by omega)
  rw [show ((a.toNat : Nat) : Int) = a by omega] at hr
  unfold tv nth
  rw [List.getD_eq_getElem?_getD, List.getElem?_eq_getElem (by rw [hr.1]; omega)]
  exact hr.2 _ (List.getElem_mem _)
theorem runX_ok {n f : Nat} {s : DS} (h : runX n f s = true) : ∃ g, f = g + 1 ∧ OkS n s ∧ ((s.m = 2 ∧ s.k = 0) ∨ (¬ (s.m = 2 ∧ s.k = 0) ∧ runX n g (stepD n s) = true)) := by
  cases f with
  | zero => exact absurd h (by simp [runX])
  | succ g =>
    unfold runX at h
    rw [Bool.and_eq_true, Bool.or_eq_true, decide_eq_true_eq] at h
    refine ⟨g, rfl, okS_of h.1, ?_⟩
    by_cases e : s.m = 2 ∧ s.k = 0
    · exact .inl e
    · exact .inr ⟨e, h.2.resolve_left e⟩
theorem runD_end {n g : Nat} {s : DS} {R : List (List (List Int))} (h : runD n (g + 1) s = some R) (e : s.m = 2 ∧ s.k = 0) : s.R = R := by
  unfold runD at h
  rw [if_pos e] at h
  exact Option.some.inj h
theorem runD_on {n g : Nat} {s : DS} {R : List (List (List Int))} (h : runD n (g + 1) s = some R) (e : ¬ (s.m = 2 ∧ s.k = 0)) : runD n g (stepD n s) = some R := by
  unfold runD at h
  rwa [if_neg e] at h
end Go.Proofs.Ythjbfdoclifhoaa
