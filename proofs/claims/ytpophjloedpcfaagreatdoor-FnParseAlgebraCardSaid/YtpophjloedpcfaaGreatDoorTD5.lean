import Derived.Test.YtpophjloedpcfaaGreatDoorTD1
import Derived.Test.YtpophjloedpcfaaGreatDoorTP1
import Derived.Test.YtpophjloedpcfaaGreatDoorTM4
import Derived.Test.YtpophjloedpcfaaGreatDoorSA11
import Derived.Deep.RegionHeld3
namespace Go.Proofs.YtpophjloedpcfaaGreatDoor
open Go.RowKit
set_option linter.unusedVariables false

/-- a term is drawn -/
def RetTq (C g : Nat) (m : Int) (top : Nat) (w : World) (e : Ending) (w' : World) : Prop := ∃ L v, e = .returned v ∧ Own w.heap.size w' v L ∧ tmR L.length L = some [] ∧ L.length ≤ top ∧ w.grownBy w' (some g) ∧ Rdr w' C g m
theorem leaf_nth {j : Int} (j0 : 0 ≤ j) (j1 : j < 7) : isLf (nth [0, 1, 0, 2, 1, 10, 11] j) = true := by
  have : j = 0 ∨ j = 1 ∨ j = 2 ∨ j = 3 ∨ j = 4 ∨ j = 5 ∨ j = 6 := by omega
  rcases this with rfl | rfl | rfl | rfl | rfl | rfl | rfl <;> decide
theorem sign_nth {j : Int} (j0 : 0 ≤ j) (j1 : j < 5) : isSg (nth [16, 15, 14, 13, 16] j) = true := by
  have : j = 0 ∨ j = 1 ∨ j = 2 ∨ j = 3 ∨ j = 4 := by omega
  rcases this with rfl | rfl | rfl | rfl | rfl <;> decide
theorem tm_leaf {u : Int} (h : isLf u = true) : tmR [u].length [u] = some [] := tmR_leaf h
theorem tm_not {L : List Int} (h : tmR L.length L = some []) : tmR ([12] ++ L).length ([12] ++ L) = some [] := by
  show tmR (12 :: L).length (12 :: L) = some []
  rw [List.length_cons, tmR_opp (by decide) rfl]; exact h
theorem tm_sign {u : Int} {a b : List Int} (h : isSg u = true) (h1 : tmR a.length a = some []) (h2 : tmR b.length b = some []) : tmR (([u] ++ a) ++ b).length (([u] ++ a) ++ b) = some [] := by
  obtain ⟨g1, g2⟩ := sg_leaf h
  have m1 : tmR (a ++ b).length (a ++ b) = some b := by
    have := tmR_app a.length a [] b h1
    exact tmR_mono _ _ _ _ this (by simp)
  have m2 : tmR (a ++ b).length b = some [] := tmR_mono _ _ _ _ h2 (by simp)
  show tmR (u :: (a ++ b)).length (u :: (a ++ b)) = some []
  rw [List.length_cons, tmR_sign g1 g2 h, m1]
  exact m2
theorem tm_one {L : List Int} (h : tmR L.length L = some []) : 1 ≤ L.length := by
  have := tmR_len h
  simp only [List.length_nil] at this
  exact this
set_option maxRecDepth 100000 in
set_option maxHeartbeats 4000000 in
/-- spec.termOf: a term -/
theorem termOfV_any (C g : Nat) : ∀ (d : Nat) (x m : Int) (w : World), d ≤ 3 → x = d → m + tkM d ≤ 90000 → Rdr w C g m → Calls Tryz.prog 47 #[.pointer (some ⟨g, 0, none⟩), .int .i64 x] w (RetTq C g (m + tkM d) (tkL d) w) := by
  obtain ⟨i0, hi, hz0, hz1, hz2⟩ := info_parts info_int
  intro d
  induction d with
  | zero =>
    intro x m w _ hx m1 hr
    have m2 : tkM 0 = 2 := rfl
    have hx1 : x < 1 := by omega
    have hr2 := hr.alloc (.cells #[.int .i64 0, .int .i64 1, .int .i64 0, .int .i64 2, .int .i64 1, .int .i64 10, .int .i64 11] 3)
    have hg0 := grown_alloc (grown_refl w (some g)) (.cells #[.int .i64 0, .int .i64 1, .int .i64 0, .int .i64 2, .int .i64 1, .int .i64 10, .int .i64 11] 3)
    have hrow : Row (w.alloc (.cells #[.int .i64 0, .int .i64 1, .int .i64 0, .int .i64 2, .int .i64 1, .int .i64 10, .int .i64 11] 3)) w.heap.size [0, 1, 0, 2, 1, 10, 11] := heap_alloc_new w _
    have hown := Own.row hrow (Nat.le_refl _) (by unfold maxLen; simp)
    go_enter Tryz.func47, Tryz.ntmps47
    go_wp2_with go_skip
    refine (one_any C g m _ _ [0, 1, 0, 2, 1, 10, 11] _ hr2 (by omega) (hown.held hr2) (by simp) (by simp)).mono ?_
    rintro e w2 ⟨j, j0, j1, rfl, hg2, hr3⟩
    obtain ⟨u, hu⟩ : ∃ u, u = nth [0, 1, 0, 2, 1, 10, 11] j := ⟨_, rfl⟩
    have HU := Lib.hid (show isLf u = true by rw [hu]; exact leaf_nth j0 j1)
    rw [← hu]
    clear hu
    have hgw := grown_trans hg0 hg2
    go_wp2
    go_ret
    exact ⟨[u], _, rfl, Own.row (L := [u]) (heap_alloc_new w2 _) hgw.size (by unfold maxLen; simp), tm_leaf HU.out, by simp [tkL], grown_alloc hgw _, (hr3.alloc _).more (by have : tkM 0 = 2 := rfl; omega)⟩
  | succ d ih =>
    intro x m w hd hx m1 hr
    have hCw : C ≤ w.heap.size := by have := hr.low; have := hr.lt; omega
    have hx1 : ¬ x < 1 := by omega
    have hxb : x ≤ 3 := by omega
    have k1 := tkM_le (d := d) (by omega)
    have k2 := tkL_le (d := d) (by omega)
    have k3 : tkM (d + 1) = 3 + 2 * tkM d := rfl
    have k4 : tkL (d + 1) = 1 + 2 * tkL d := rfl
    have k5 := tkM_pos d
    have k6 := tkL_pos d
    have HI := Lib.hid (fun (m : Int) (w : World) (y : Int) (hy : y = d) => ih y m w (by omega) hy)
    clear ih
    go_enter Tryz.func47, Tryz.ntmps47
    go_wp2_with go_skip
    refine (pick_any C g m 4 w hr (by omega) (by omega) (by omega)).mono ?_
    rintro e w1 ⟨k, rfl, k0, kk1, hg1, hr1⟩
    by_cases e0 : k = 0
    · subst e0
      have hr2 := hr1.alloc (.cells #[.int .i64 0, .int .i64 1, .int .i64 0, .int .i64 2, .int .i64 1, .int .i64 10, .int .i64 11] 3)
      have hg0 := grown_alloc hg1 (.cells #[.int .i64 0, .int .i64 1, .int .i64 0, .int .i64 2, .int .i64 1, .int .i64 10, .int .i64 11] 3)
      have hrow : Row (w1.alloc (.cells #[.int .i64 0, .int .i64 1, .int .i64 0, .int .i64 2, .int .i64 1, .int .i64 10, .int .i64 11] 3)) w1.heap.size [0, 1, 0, 2, 1, 10, 11] := heap_alloc_new w1 _
      have hown := Own.row hrow (Nat.le_refl _) (by unfold maxLen; simp)
      go_wp2_with go_skip
      refine (one_any C g (m + 1) _ _ [0, 1, 0, 2, 1, 10, 11] _ hr2 (by omega) (hown.held hr2) (by simp) (by simp)).mono ?_
      rintro e w2 ⟨j, j0, j1, rfl, hg2, hr3⟩
      obtain ⟨u, hu⟩ : ∃ u, u = nth [0, 1, 0, 2, 1, 10, 11] j := ⟨_, rfl⟩
      have HU := Lib.hid (show isLf u = true by rw [hu]; exact leaf_nth j0 j1)
      rw [← hu]
      clear hu
      have hgw := grown_trans hg0 hg2
      go_wp2
      go_ret
      exact ⟨[u], _, rfl, Own.row (L := [u]) (heap_alloc_new w2 _) hgw.size (by unfold maxLen; simp), tm_leaf HU.out, by simp; omega, grown_alloc hgw _, (hr3.alloc _).more (by omega)⟩
    · have f0 : (k == 0) = false := by rw [beq_eq_false_iff_ne]; exact e0
      go_wp2_with go_skip
      refine (pick_any C g (m + 1) 5 w1 hr1 (by omega) (by omega) (by omega)).mono ?_
      rintro e w2 ⟨q, rfl, q0, q1, hg2', hr2⟩
      have hg2 := grown_trans hg1 hg2'
      have hs2 := hg2.size
      by_cases e1 : q = 0
      · subst e1
        have hrA := hr2.alloc (.cells #[.int .i64 12] 3)
        have hgA := grown_alloc hg2 (.cells #[.int .i64 12] 3)
        have hrow : Row (w2.alloc (.cells #[.int .i64 12] 3)) w2.heap.size [12] := heap_alloc_new w2 _
        have hoA : Own w.heap.size (w2.alloc (.cells #[.int .i64 12] 3)) (.slice (some ⟨w2.heap.size, 0, none⟩) 1 1) [12] := Own.row hrow hs2 (by unfold maxLen; simp)
        go_wp2_with go_skip
        refine (HI.out (m + 2) _ _ (by omega) (by omega) (hrA.more (by omega))).mono ?_
        rintro e w3 ⟨L, v, rfl, hov, l1, l2, hg3', hr3⟩
        have HT1 := Lib.hid l1
        replace l1 : 1 ≤ L.length := tm_one l1
        have hg3 := grown_trans hgA hg3'
        have ho3 := hoA.drawn hrA hg3'
        obtain ⟨gb, cb, rfl, _, _⟩ := hov.shape.resolve_left (fun h => by have := h.2; rw [this] at l1; simp at l1)
        have hnews := Lib.hid (rd_cells hov.rd)
        have hs3 := hg3.size
        clear hov
        go_wp2_with ((at_builtin; refine wpList_append_own _ rfl _ _ 23 rfl w.heap.size 3 i0 (.int .i64 0) 1 8 Tryz.underlying23 hi hz0 hz1 hz2 rfl (by decide) _ _ _ rfl (ho3) ⟨gb, 0, none⟩ L.length cb (L.map fun x => Value.int .i64 x) rfl (by simp) (hnews.out) (fun x hx => by simp at hx; obtain ⟨y, _, rfl⟩ := hx; rfl) (by unfold maxLen; first | omega | (simp; omega)) (by first | omega | (simp; omega)) (hs3) ?_; intro v4 w4 hown hgrow _; have ho4 : Own w.heap.size w4 v4 ([12] ++ L) := (by unfold Own; rw [List.map_append, List.length_append]; exact hown); have hr4 := hr3.app ho3 hCw hgrow; have hg4 := grown_app hg3 hgrow (fun q hq => (World.ownsRow.lt ho3 q hq).1)))
        go_ret
        exact ⟨_, v4, rfl, ho4, tm_not HT1.out, by simp; omega, hg4, hr4.more (by omega)⟩
      · have f1 : (q == 0) = false := by rw [beq_eq_false_iff_ne]; exact e1
        have hrA := hr2.alloc (.cells #[.int .i64 16, .int .i64 15, .int .i64 14, .int .i64 13, .int .i64 16] 3)
        have hgA := grown_alloc hg2 (.cells #[.int .i64 16, .int .i64 15, .int .i64 14, .int .i64 13, .int .i64 16] 3)
        have hrow : Row (w2.alloc (.cells #[.int .i64 16, .int .i64 15, .int .i64 14, .int .i64 13, .int .i64 16] 3)) w2.heap.size [16, 15, 14, 13, 16] := heap_alloc_new w2 _
        have hown := Own.row hrow (Nat.le_refl _) (by unfold maxLen; simp)
        go_wp2_with go_skip
        refine (one_any C g (m + 2) _ _ [16, 15, 14, 13, 16] _ (hrA.more (by omega)) (by omega) (hown.held hrA) (by simp) (by simp)).mono ?_
        rintro e w3 ⟨j, j0, j1, rfl, hg3', hr3⟩
        obtain ⟨u, hu⟩ : ∃ u, u = nth [16, 15, 14, 13, 16] j := ⟨_, rfl⟩
        have HU := Lib.hid (show isSg u = true by rw [hu]; exact sign_nth j0 j1)
        rw [← hu]
        clear hu
        have hg3 := grown_trans hgA hg3'
        go_wp2_with go_skip
        refine (HI.out (m + 3) _ _ (by omega) (by omega) (hr3.more (by omega))).mono ?_
        rintro e w4 ⟨L1, v1, rfl, ho1, l1, l2, hg4', hr4⟩
        have HT1 := Lib.hid l1
        replace l1 : 1 ≤ L1.length := tm_one l1
        have hg4 := grown_trans hg3 hg4'
        have hs4 := hg4.size
        obtain ⟨gb, cb, rfl, _, _⟩ := ho1.shape.resolve_left (fun h => by have := h.2; rw [this] at l1; simp at l1)
        have hnews := Lib.hid (old_newsZ (.cells #[.int .i64 u] 3) (rd_cells ho1.rd))
        have hrowB : Row (w4.alloc (.cells #[.int .i64 u] 3)) w4.heap.size [u] := heap_alloc_new w4 _
        have hoB : Own w.heap.size (w4.alloc (.cells #[.int .i64 u] 3)) (.slice (some ⟨w4.heap.size, 0, none⟩) 1 1) [u] := Own.row hrowB hs4 (by unfold maxLen; simp)
        have hrB := hr4.alloc (.cells #[.int .i64 u] 3)
        have hgB := grown_alloc hg4 (.cells #[.int .i64 u] 3)
        clear ho1 hrowB
        go_wp2_with ((at_builtin; refine wpList_append_own _ rfl _ _ 23 rfl w.heap.size 3 i0 (.int .i64 0) 1 8 Tryz.underlying23 hi hz0 hz1 hz2 rfl (by decide) _ _ _ rfl (hoB) ⟨gb, 0, none⟩ L1.length cb (L1.map fun x => Value.int .i64 x) rfl (by simp) (hnews.out) (fun x hx => by simp at hx; obtain ⟨y, _, rfl⟩ := hx; rfl) (by unfold maxLen; first | omega | (simp; omega)) (by first | omega | (simp; omega)) (by simp; omega) ?_; intro v5 w5 hown hgrow _; have ho5 : Own w.heap.size w5 v5 ([u] ++ L1) := (by unfold Own; rw [List.map_append, List.length_append]; exact hown); have hr5 := hrB.app hoB hCw hgrow; have hg5 := grown_app hgB hgrow (fun q hq => (World.ownsRow.lt hoB q hq).1); clear hown hgrow))
        obtain ⟨R, hR⟩ : ∃ R, R = [u] ++ L1 := ⟨_, rfl⟩
        have HR := Lib.hid hR
        have hRl : R.length = 1 + L1.length := by rw [hR]; simp; omega
        rw [← hR] at ho5
        clear hR hoB hrB hgB hnews
        refine (HI.out (m + 3 + tkM d) _ _ (by omega) (by omega) (hr5.more (by omega))).mono ?_
        rintro e w6 ⟨L2, v2, rfl, ho2, l3, l4, hg6', hr6⟩
        have HT2 := Lib.hid l3
        replace l3 : 1 ≤ L2.length := tm_one l3
        have hg6 := grown_trans hg5 hg6'
        have hs6 := hg6.size
        have ho6 := ho5.drawn hr5 hg6'
        obtain ⟨gd, cd, rfl, _, _⟩ := ho2.shape.resolve_left (fun h => by have := h.2; rw [this] at l3; simp at l3)
        have hnews2 := Lib.hid (rd_cells ho2.rd)
        have HRL := Lib.hid hRl
        have hR16 : R.length ≤ 16 := by omega
        clear ho2 hRl
        go_wp2_with ((at_builtin; refine wpList_append_own _ rfl _ _ 23 rfl w.heap.size 3 i0 (.int .i64 0) 1 8 Tryz.underlying23 hi hz0 hz1 hz2 rfl (by decide) _ _ _ rfl (ho6) ⟨gd, 0, none⟩ L2.length cd (L2.map fun x => Value.int .i64 x) rfl (by simp) (hnews2.out) (fun x hx => by simp at hx; obtain ⟨y, _, rfl⟩ := hx; rfl) (by unfold maxLen; first | omega | (simp; omega)) (by first | omega | (simp; omega)) (hs6) ?_; intro v7 w7 hown hgrow _; have ho7 : Own w.heap.size w7 v7 (R ++ L2) := (by unfold Own; rw [List.map_append, List.length_append]; exact hown); have hr7 := hr6.app ho6 hCw hgrow; have hg7 := grown_app hg6 hgrow (fun q hq => (World.ownsRow.lt ho6 q hq).1)))
        go_ret
        exact ⟨_, v7, rfl, ho7, (by rw [HR.out]; exact tm_sign HU.out HT1.out HT2.out), by rw [List.length_append, HRL.out]; omega, hg7, hr7.more (by omega)⟩
end Go.Proofs.YtpophjloedpcfaaGreatDoor

namespace Go.Proofs.YtpophjloedpcfaaGreatDoor
open Go.RowKit
set_option linter.unusedVariables false

def muA : List ByteArray := [⟨#[48]⟩, ⟨#[49]⟩, ⟨#[120]⟩, ⟨#[44]⟩, ⟨#[58]⟩, ⟨#[47]⟩, ⟨#[40]⟩, ⟨#[38]⟩, ⟨#[32]⟩]
def muB : List ByteArray := [⟨#[48]⟩, ⟨#[44]⟩, ⟨#[32]⟩, ⟨#[47, 48]⟩, ⟨#[41]⟩]
theorem mu_size {s : ByteArray} (h : s ∈ muA ∨ s ∈ muB) : s.size ≤ 2 := by
  rcases h with h | h
  · simp only [muA, List.mem_cons, List.not_mem_nil, or_false] at h
    rcases h with rfl | rfl | rfl | rfl | rfl | rfl | rfl | rfl | rfl <;> decide
  · simp only [muB, List.mem_cons, List.not_mem_nil, or_false] at h
    rcases h with rfl | rfl | rfl | rfl | rfl <;> decide
theorem grown_dr {w w' : World} (h : Dr w w') (r : Option Nat) : w.grownBy w' r := by
  obtain ⟨m, rfl⟩ := h; exact ⟨rfl, rfl, rfl, Nat.le_refl _, fun _ _ _ => rfl⟩
/-- a string is drawn -/
def RetStr (C g : Nat) (m : Int) (top : Nat) (w : World) (e : Ending) (w' : World) : Prop := ∃ s : ByteArray, e = .returned (.string s) ∧ s.size ≤ top ∧ w.grownBy w' (some g) ∧ Rdr w' C g m
set_option maxRecDepth 100000 in
set_option maxHeartbeats 2000000 in
/-- spec.mutate -/
theorem mutate_any (C g : Nat) (m : Int) (s : ByteArray) (w : World) (hr : Rdr w C g m) (m1 : m ≤ 90000) (hs : s.size ≤ 1000) :
    Calls Tryz.prog 41 #[.pointer (some ⟨g, 0, none⟩), .string s] w (RetStr C g (m + 3) 2010 w) := by
  have hsI : (s.size : Int) ≤ 1000 := by omega
  have hs0 : (0 : Int) ≤ (s.size : Int) := by omega
  have hw1 : IntKind.i64.wrap ((s.size : Int) + 1) = (s.size : Int) + 1 := IntWalk.i64_in _ (by omega)
  go_enter Tryz.func41, Tryz.ntmps41
  go_wp2_with go_skip
  refine (pick_any C g m ((s.size : Int) + 1) w hr (by omega) (by omega) (by omega)).mono ?_
  rintro e w1 ⟨k, rfl, k0, k1, hg1, hr1⟩
  go_wp2_with fail
  refine (pick_any C g (m + 1) 5 w1 hr1 (by omega) (by omega) (by omega)).mono ?_
  rintro e w2 ⟨q, rfl, q0, q1, hg2', hr2⟩
  have hg2 := grown_trans hg1 hg2'
  have gl2 := hr2.lt
  have HSame := Lib.hid (show ∀ s' : ByteArray, s'.size ≤ 2010 → RetStr C g (m + 3) 2010 w (.returned (.string s')) w2 from fun s' h => ⟨s', rfl, h, hg2, hr2.more (by omega)⟩)
  have HSub := Lib.hid (show ∀ i : Nat, (s.extract 0 i).size ≤ 2010 from fun i => by rw [ByteArray.size_extract]; omega)
  have hq5 : q = 0 ∨ q = 1 ∨ q = 2 ∨ q = 3 ∨ q = 4 := by omega
  have hwk : IntKind.i64.wrap (k + 1) = k + 1 := IntWalk.i64_in _ (by omega)
  have k2 : k ≤ s.size := by omega
  rcases hq5 with rfl | rfl | rfl | rfl | rfl
  · by_cases hk : k < s.size
    · have hk1 : k + 1 ≤ (s.size : Int) := by omega
      have hk2 : 0 ≤ k + 1 := by omega
      have hk3 : ¬ k + 1 < 0 := by omega
      have hk4 : ¬ k < 0 := by omega
      have hk5 : ¬ (s.size : Int) < k + 1 := by omega
      have hk6 : ¬ (s.size : Int) < k := by omega
      obtain ⟨p, hp, hps⟩ : ∃ p, s.extract 0 k.toNat = p ∧ p.size ≤ 1000 := ⟨_, rfl, by rw [ByteArray.size_extract]; omega⟩
      obtain ⟨r, hrr, hrs⟩ : ∃ r, s.extract (k + 1).toNat s.size = r ∧ r.size ≤ 1000 := ⟨_, rfl, by rw [ByteArray.size_extract]; omega⟩
      go_wp2_with go_skip
      go_region_with (first
        | (go_at_call 45; refine (of_any C g (m + 2) w2.heap.size muA _ ((hr2.more (by omega)).alloc _) (by omega) (heap_alloc_new w2 _) (by omega) (by decide) (by decide)).mono ?_; rintro e w3 ⟨u, hu, rfl, hg3, hr3⟩; have hus := mu_size (.inl hu); have hpu : p.size + u.size ≤ 9223372036854775807 := (by omega); have hpur : p.size + u.size + r.size ≤ 9223372036854775807 := (by omega))
        | (go_at_call 45; refine (of_any C g (m + 2) w2.heap.size muA _ (((hr2.more (by omega)).alloc _).drew) (by omega) (heap_alloc_new w2 _) (by omega) (by decide) (by decide)).mono ?_; rintro e w3 ⟨u, hu, rfl, hg3, hr3⟩; have hus := mu_size (.inl hu); have hpu : p.size + u.size ≤ 9223372036854775807 := (by omega); have hpur : p.size + u.size + r.size ≤ 9223372036854775807 := (by omega)))
      go_wp2_with go_skip
      go_ret
      exact ⟨_, rfl, by rw [size_app, size_app]; omega, grown_trans (grown_alloc hg2 _) (grown_trans (grown_dr ⟨1, rfl⟩ _) hg3), hr3.more (by omega)⟩
    · go_wp2_with go_skip
      go_ret
      exact HSame.out _ (by omega)
  · by_cases hk : k < s.size
    · have hk1 : k + 1 ≤ (s.size : Int) := by omega
      have hk2 : 0 ≤ k + 1 := by omega
      have hk3 : ¬ k + 1 < 0 := by omega
      have hk4 : ¬ k < 0 := by omega
      have hk5 : ¬ (s.size : Int) < k + 1 := by omega
      have hk6 : ¬ (s.size : Int) < k := by omega
      obtain ⟨p, hp, hps⟩ : ∃ p, s.extract 0 k.toNat = p ∧ p.size ≤ 1000 := ⟨_, rfl, by rw [ByteArray.size_extract]; omega⟩
      obtain ⟨r, hrr, hrs⟩ : ∃ r, s.extract (k + 1).toNat s.size = r ∧ r.size ≤ 1000 := ⟨_, rfl, by rw [ByteArray.size_extract]; omega⟩
      go_wp2_with go_skip
      go_region_with (first
        | (go_at_call 45; refine (of_any C g (m + 2) w2.heap.size muA _ ((hr2.more (by omega)).alloc _) (by omega) (heap_alloc_new w2 _) (by omega) (by decide) (by decide)).mono ?_; rintro e w3 ⟨u, hu, rfl, hg3, hr3⟩; have hus := mu_size (.inl hu); have hpu : p.size + u.size ≤ 9223372036854775807 := (by omega); have hpur : p.size + u.size + r.size ≤ 9223372036854775807 := (by omega))
        | (go_at_call 45; refine (of_any C g (m + 2) w2.heap.size muA _ (((hr2.more (by omega)).alloc _).drew) (by omega) (heap_alloc_new w2 _) (by omega) (by decide) (by decide)).mono ?_; rintro e w3 ⟨u, hu, rfl, hg3, hr3⟩; have hus := mu_size (.inl hu); have hpu : p.size + u.size ≤ 9223372036854775807 := (by omega); have hpur : p.size + u.size + r.size ≤ 9223372036854775807 := (by omega)))
      go_wp2_with go_skip
      go_ret
      exact ⟨_, rfl, by rw [size_app, size_app]; omega, grown_trans (grown_alloc hg2 _) (grown_trans (grown_dr ⟨1, rfl⟩ _) hg3), hr3.more (by omega)⟩
    · go_wp2_with go_skip
      go_ret
      exact HSame.out _ (by omega)
  · go_wp2_with go_skip
    go_ret
    exact HSame.out _ (HSub.out _)
  · have hr3 := hr2.alloc (.cells #[.string ⟨#[48]⟩, .string ⟨#[44]⟩, .string ⟨#[32]⟩, .string ⟨#[47, 48]⟩, .string ⟨#[41]⟩] 9)
    have hg3 := grown_alloc hg2 (.cells #[.string ⟨#[48]⟩, .string ⟨#[44]⟩, .string ⟨#[32]⟩, .string ⟨#[47, 48]⟩, .string ⟨#[41]⟩] 9)
    have hq := heap_alloc_new w2 (.cells #[.string ⟨#[48]⟩, .string ⟨#[44]⟩, .string ⟨#[32]⟩, .string ⟨#[47, 48]⟩, .string ⟨#[41]⟩] 9)
    go_wp2_with go_skip
    refine (of_any C g (m + 1 + 1) w2.heap.size muB _ hr3 (by omega) hq (by omega) (by decide) (by decide)).mono ?_
    rintro e w4 ⟨u, hu, rfl, hg4, hr4⟩
    have hus := mu_size (.inr hu)
    go_wp2_with go_skip
    go_ret
    exact ⟨_, rfl, by rw [size_app]; omega, grown_trans hg3 hg4, hr4.more (by omega)⟩
  · go_wp2_with go_skip
    go_ret
    exact HSame.out _ (by omega)
/-- a text is drawn -/
def RetDrS (w : World) (e : Ending) (w' : World) : Prop := ∃ s : ByteArray, e = .returned (.string s) ∧ s.size ≤ 2010 ∧ Below w.heap.size w w'
end Go.Proofs.YtpophjloedpcfaaGreatDoor
