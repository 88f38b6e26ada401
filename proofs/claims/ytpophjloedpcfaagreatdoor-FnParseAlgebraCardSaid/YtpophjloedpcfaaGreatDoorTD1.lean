import Derived.Test.YtpophjloedpcfaaGreatDoorSL0
import Derived.Test.YtpophjloedpcfaaGreatDoorTM1
namespace Go.Proofs.YtpophjloedpcfaaGreatDoor
open Go.RowKit
set_option linter.unusedVariables false

/-- how long a drawn term is at most -/
def tkL : Nat → Nat
  | 0 => 1
  | d + 1 => 1 + 2 * tkL d
/-- how many numbers are drawn for it at most -/
def tkM : Nat → Nat
  | 0 => 2
  | d + 1 => 3 + 2 * tkM d
theorem tkL_le {d : Nat} (h : d ≤ 3) : tkL d ≤ 15 := by
  have : d = 0 ∨ d = 1 ∨ d = 2 ∨ d = 3 := by omega
  rcases this with rfl | rfl | rfl | rfl <;> decide
theorem tkM_le {d : Nat} (h : d ≤ 3) : tkM d ≤ 37 := by
  have : d = 0 ∨ d = 1 ∨ d = 2 ∨ d = 3 := by omega
  rcases this with rfl | rfl | rfl | rfl <;> decide
theorem tkM_pos (d : Nat) : 2 ≤ tkM d := by cases d <;> simp [tkM]; omega
theorem tkL_pos (d : Nat) : 1 ≤ tkL d := by cases d <;> simp [tkL]
set_option maxRecDepth 100000 in
set_option maxHeartbeats 4000000 in
/-- spec.termOf -/
theorem termOf_any (C g : Nat) : ∀ (d : Nat) (x m : Int) (w : World), d ≤ 3 → x = d → m + tkM d ≤ 90000 → Rdr w C g m → Calls Tryz.prog 47 #[.pointer (some ⟨g, 0, none⟩), .int .i64 x] w (RetList C g (m + tkM d) 1 (tkL d) w) := by
  obtain ⟨i0, hi, hz0, hz1, hz2⟩ := info_parts info_int
  intro d
  induction d with
  | zero =>
    intro x m w _ hx m1 hr
    have m2 : tkM 0 = 2 := rfl
    have hx1 : x < 1 := by omega
    have hr2 := hr.alloc (.cells #[.int .i64 0, .int .i64 1, .int .i64 0, .int .i64 2, .int .i64 1, .int .i64 10, .int .i64 11] 3)
    have hg0 := grown_alloc (grown_refl w (some g)) (.cells #[.int .i64 0, .int .i64 1, .int .i64 0, .int .i64 2, .int .i64 1, .int .i64 10, .int .i64 11] 3)
    have hrow : Row (w.alloc (.cells #[.int .i64 0, .int .i64 1, .int .i64 0, .int .i64 2, .int .i64 1, .int .i64 10, .int .i64 11] 3)) w.heap.size [0, 1, 0, 2, 1, 10, 11] := heap_alloc_new w _
    have hown := Own.row hrow (Nat.le_refl _) (by unfold maxLen; simp)
    go_enter Tryz.func47, Tryz.ntmps47
    go_wp2_with go_skip
    refine (one_any C g m _ _ [0, 1, 0, 2, 1, 10, 11] _ hr2 (by omega) (hown.held hr2) (by simp) (by simp)).mono ?_
    rintro e w2 ⟨j, j0, j1, rfl, hg2, hr3⟩
    obtain ⟨u, hu⟩ : ∃ u, u = nth [0, 1, 0, 2, 1, 10, 11] j := ⟨_, rfl⟩
    rw [← hu]
    clear hu
    have hgw := grown_trans hg0 hg2
    go_wp2
    go_ret
    exact ⟨[u], _, rfl, Own.row (L := [u]) (heap_alloc_new w2 _) hgw.size (by unfold maxLen; simp), by simp, by simp [tkL], grown_alloc hgw _, (hr3.alloc _).more (by have : tkM 0 = 2 := rfl; omega)⟩
  | succ d ih =>
    intro x m w hd hx m1 hr
    have hCw : C ≤ w.heap.size := by have := hr.low; have := hr.lt; omega
    have hx1 : ¬ x < 1 := by omega
    have hxb : x ≤ 3 := by omega
    have k1 := tkM_le (d := d) (by omega)
    have k2 := tkL_le (d := d) (by omega)
    have k3 : tkM (d + 1) = 3 + 2 * tkM d := rfl
    have k4 : tkL (d + 1) = 1 + 2 * tkL d := rfl
    have k5 := tkM_pos d
    have k6 := tkL_pos d
    have HI := Lib.hid (fun (m : Int) (w : World) (y : Int) (hy : y = d) => ih y m w (by omega) hy)
    clear ih
    go_enter Tryz.func47, Tryz.ntmps47
    go_wp2_with go_skip
    refine (pick_any C g m 4 w hr (by omega) (by omega) (by omega)).mono ?_
    rintro e w1 ⟨k, rfl, k0, kk1, hg1, hr1⟩
    by_cases e0 : k = 0
    · subst e0
      have hr2 := hr1.alloc (.cells #[.int .i64 0, .int .i64 1, .int .i64 0, .int .i64 2, .int .i64 1, .int .i64 10, .int .i64 11] 3)
      have hg0 := grown_alloc hg1 (.cells #[.int .i64 0, .int .i64 1, .int .i64 0, .int .i64 2, .int .i64 1, .int .i64 10, .int .i64 11] 3)
      have hrow : Row (w1.alloc (.cells #[.int .i64 0, .int .i64 1, .int .i64 0, .int .i64 2, .int .i64 1, .int .i64 10, .int .i64 11] 3)) w1.heap.size [0, 1, 0, 2, 1, 10, 11] := heap_alloc_new w1 _
      have hown := Own.row hrow (Nat.le_refl _) (by unfold maxLen; simp)
      go_wp2_with go_skip
      refine (one_any C g (m + 1) _ _ [0, 1, 0, 2, 1, 10, 11] _ hr2 (by omega) (hown.held hr2) (by simp) (by simp)).mono ?_
      rintro e w2 ⟨j, j0, j1, rfl, hg2, hr3⟩
      obtain ⟨u, hu⟩ : ∃ u, u = nth [0, 1, 0, 2, 1, 10, 11] j := ⟨_, rfl⟩
      rw [← hu]
      clear hu
      have hgw := grown_trans hg0 hg2
      go_wp2
      go_ret
      exact ⟨[u], _, rfl, Own.row (L := [u]) (heap_alloc_new w2 _) hgw.size (by unfold maxLen; simp), by simp, by simp; omega, grown_alloc hgw _, (hr3.alloc _).more (by omega)⟩
    · have f0 : (k == 0) = false := by rw [beq_eq_false_iff_ne]; exact e0
      go_wp2_with go_skip
      refine (pick_any C g (m + 1) 5 w1 hr1 (by omega) (by omega) (by omega)).mono ?_
      rintro e w2 ⟨q, rfl, q0, q1, hg2', hr2⟩
      have hg2 := grown_trans hg1 hg2'
      have hs2 := hg2.size
      by_cases e1 : q = 0
      · subst e1
        have hrA := hr2.alloc (.cells #[.int .i64 12] 3)
        have hgA := grown_alloc hg2 (.cells #[.int .i64 12] 3)
        have hrow : Row (w2.alloc (.cells #[.int .i64 12] 3)) w2.heap.size [12] := heap_alloc_new w2 _
        have hoA : Own w.heap.size (w2.alloc (.cells #[.int .i64 12] 3)) (.slice (some ⟨w2.heap.size, 0, none⟩) 1 1) [12] := Own.row hrow hs2 (by unfold maxLen; simp)
        go_wp2_with go_skip
        refine (HI.out (m + 2) _ _ (by omega) (by omega) (hrA.more (by omega))).mono ?_
        rintro e w3 ⟨L, v, rfl, hov, l1, l2, hg3', hr3⟩
        have hg3 := grown_trans hgA hg3'
        have ho3 := hoA.drawn hrA hg3'
        obtain ⟨gb, cb, rfl, _, _⟩ := hov.shape.resolve_left (fun h => by have := h.2; rw [this] at l1; simp at l1)
        have hnews := Lib.hid (rd_cells hov.rd)
        have hs3 := hg3.size
        clear hov
        go_wp2_with ((at_builtin; refine wpList_append_own _ rfl _ _ 23 rfl w.heap.size 3 i0 (.int .i64 0) 1 8 Tryz.underlying23 hi hz0 hz1 hz2 rfl (by decide) _ _ _ rfl (ho3) ⟨gb, 0, none⟩ L.length cb (L.map fun x => Value.int .i64 x) rfl (by simp) (hnews.out) (fun x hx => by simp at hx; obtain ⟨y, _, rfl⟩ := hx; rfl) (by unfold maxLen; first | omega | (simp; omega)) (by first | omega | (simp; omega)) (hs3) ?_; intro v4 w4 hown hgrow _; have ho4 : Own w.heap.size w4 v4 ([12] ++ L) := (by unfold Own; rw [List.map_append, List.length_append]; exact hown); have hr4 := hr3.app ho3 hCw hgrow; have hg4 := grown_app hg3 hgrow (fun q hq => (World.ownsRow.lt ho3 q hq).1)))
        go_ret
        exact ⟨_, v4, rfl, ho4, by simp, by simp; omega, hg4, hr4.more (by omega)⟩
      · have f1 : (q == 0) = false := by rw [beq_eq_false_iff_ne]; exact e1
        have hrA := hr2.alloc (.cells #[.int .i64 16, .int .i64 15, .int .i64 14, .int .i64 13, .int .i64 16] 3)
        have hgA := grown_alloc hg2 (.cells #[.int .i64 16, .int .i64 15, .int .i64 14, .int .i64 13, .int .i64 16] 3)
        have hrow : Row (w2.alloc (.cells #[.int .i64 16, .int .i64 15, .int .i64 14, .int .i64 13, .int .i64 16] 3)) w2.heap.size [16, 15, 14, 13, 16] := heap_alloc_new w2 _
        have hown := Own.row hrow (Nat.le_refl _) (by unfold maxLen; simp)
        go_wp2_with go_skip
        refine (one_any C g (m + 2) _ _ [16, 15, 14, 13, 16] _ (hrA.more (by omega)) (by omega) (hown.held hrA) (by simp) (by simp)).mono ?_
        rintro e w3 ⟨j, j0, j1, rfl, hg3', hr3⟩
        obtain ⟨u, hu⟩ : ∃ u, u = nth [16, 15, 14, 13, 16] j := ⟨_, rfl⟩
        rw [← hu]
        clear hu
        have hg3 := grown_trans hgA hg3'
        go_wp2_with go_skip
        refine (HI.out (m + 3) _ _ (by omega) (by omega) (hr3.more (by omega))).mono ?_
        rintro e w4 ⟨L1, v1, rfl, ho1, l1, l2, hg4', hr4⟩
        have hg4 := grown_trans hg3 hg4'
        have hs4 := hg4.size
        obtain ⟨gb, cb, rfl, _, _⟩ := ho1.shape.resolve_left (fun h => by have := h.2; rw [this] at l1; simp at l1)
        have hnews := Lib.hid (old_newsZ (.cells #[.int .i64 u] 3) (rd_cells ho1.rd))
        have hrowB : Row (w4.alloc (.cells #[.int .i64 u] 3)) w4.heap.size [u] := heap_alloc_new w4 _
        have hoB : Own w.heap.size (w4.alloc (.cells #[.int .i64 u] 3)) (.slice (some ⟨w4.heap.size, 0, none⟩) 1 1) [u] := Own.row hrowB hs4 (by unfold maxLen; simp)
        have hrB := hr4.alloc (.cells #[.int .i64 u] 3)
        have hgB := grown_alloc hg4 (.cells #[.int .i64 u] 3)
        clear ho1 hrowB
        go_wp2_with ((at_builtin; refine wpList_append_own _ rfl _ _ 23 rfl w.heap.size 3 i0 (.int .i64 0) 1 8 Tryz.underlying23 hi hz0 hz1 hz2 rfl (by decide) _ _ _ rfl (hoB) ⟨gb, 0, none⟩ L1.length cb (L1.map fun x => Value.int .i64 x) rfl (by simp) (hnews.out) (fun x hx => by simp at hx; obtain ⟨y, _, rfl⟩ := hx; rfl) (by unfold maxLen; first | omega | (simp; omega)) (by first | omega | (simp; omega)) (by simp; omega) ?_; intro v5 w5 hown hgrow _; have ho5 : Own w.heap.size w5 v5 ([u] ++ L1) := (by unfold Own; rw [List.map_append, List.length_append]; exact hown); have hr5 := hrB.app hoB hCw hgrow; have hg5 := grown_app hgB hgrow (fun q hq => (World.ownsRow.lt hoB q hq).1); clear hown hgrow))
        obtain ⟨R, hR⟩ : ∃ R, R = [u] ++ L1 := ⟨_, rfl⟩
        have hRl : R.length = 1 + L1.length := by rw [hR]; simp; omega
        rw [← hR] at ho5
        clear hR hoB hrB hgB hnews
        refine (HI.out (m + 3 + tkM d) _ _ (by omega) (by omega) (hr5.more (by omega))).mono ?_
        rintro e w6 ⟨L2, v2, rfl, ho2, l3, l4, hg6', hr6⟩
        have hg6 := grown_trans hg5 hg6'
        have hs6 := hg6.size
        have ho6 := ho5.drawn hr5 hg6'
        obtain ⟨gd, cd, rfl, _, _⟩ := ho2.shape.resolve_left (fun h => by have := h.2; rw [this] at l3; simp at l3)
        have hnews2 := Lib.hid (rd_cells ho2.rd)
        have HRL := Lib.hid hRl
        have hR16 : R.length ≤ 16 := by omega
        clear ho2 hRl
        go_wp2_with ((at_builtin; refine wpList_append_own _ rfl _ _ 23 rfl w.heap.size 3 i0 (.int .i64 0) 1 8 Tryz.underlying23 hi hz0 hz1 hz2 rfl (by decide) _ _ _ rfl (ho6) ⟨gd, 0, none⟩ L2.length cd (L2.map fun x => Value.int .i64 x) rfl (by simp) (hnews2.out) (fun x hx => by simp at hx; obtain ⟨y, _, rfl⟩ := hx; rfl) (by unfold maxLen; first | omega | (simp; omega)) (by first | omega | (simp; omega)) (hs6) ?_; intro v7 w7 hown hgrow _; have ho7 : Own w.heap.size w7 v7 (R ++ L2) := (by unfold Own; rw [List.map_append, List.length_append]; exact hown); have hr7 := hr6.app ho6 hCw hgrow; have hg7 := grown_app hg6 hgrow (fun q hq => (World.ownsRow.lt ho6 q hq).1)))
        go_ret
        exact ⟨_, v7, rfl, ho7, by rw [List.length_append]; omega, by rw [List.length_append, HRL.out]; omega, hg7, hr7.more (by omega)⟩
/-- numbers that can be read are drawn -/
def RetNum (C g : Nat) (m : Int) (w : World) (e : Ending) (w' : World) : Prop := ∃ (L : List Int) (a : Option Addr) (c : Nat), e = .returned (.slice a L.length c) ∧ RY w' a L ∧ L.length ≤ c ∧ L.length ≤ 16 ∧ w.grownBy w' (some g) ∧ Rdr w' C g m
theorem ownCapT {B : Nat} {w : World} {a : Option Addr} {n c : Nat} {L : List Int} (h : Own B w (.slice a n c) L) : L.length ≤ c := by
  rcases h.2 with ⟨e, hn⟩ | ⟨g, cap, cur, e, _, hg, hc, _⟩
  · omega
  · injection e with _ _ e
    rw [e]; exact hc
theorem slice_tailY {B gb c : Nat} {x : Int} {t : List Int} {w : World} (h : Own B w (.slice (some ⟨gb, 0, none⟩) (t.length + 1) c) (x :: t)) : ∃ a' c', t.length ≤ c' ∧ RY w a' t ∧ ∀ w : World, (Instr.slice 23 (.slice (some ⟨gb, 0, none⟩) (t.length + 1) c) (some (.int .i64 1)) none none).run Tryz.prog w = .ok (.slice a' t.length c') w := by
  have hc := ownCapT h
  rw [List.length_cons] at hc
  by_cases h1 : c = 1
  · have e : t = [] := List.length_eq_zero_iff.1 (by omega)
    subst e
    refine ⟨some ⟨gb, 0, none⟩, 0, Nat.zero_le _, fun h => absurd rfl h, fun w => ?_⟩
    rw [slice_run1 _ _ _ (by omega)]
    subst h1
    rfl
  · refine ⟨some ⟨gb, 0 + 1, none⟩, c - 1, by omega, (ry_of h).tail, fun w => ?_⟩
    rw [slice_run1 _ _ _ (by omega)]
    unfold sliced
    rw [if_neg h1]
    simp [Addr.add]
end Go.Proofs.YtpophjloedpcfaaGreatDoor
