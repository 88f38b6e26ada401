import Derived.Test.YtidbilgnclfplaaTD4
import Derived.Test.YtidbilgnclfplaaTM4
import Derived.Test.YtidbilgnclfplaaSA11
import Derived.Deep.RegionHeld3
namespace Go.Proofs.Ytidbilgnclfplaa
open Go.RowKit
set_option linter.unusedVariables false

def muA : List ByteArray := [⟨#[48]⟩, ⟨#[49]⟩, ⟨#[120]⟩, ⟨#[44]⟩, ⟨#[58]⟩, ⟨#[47]⟩, ⟨#[40]⟩, ⟨#[38]⟩, ⟨#[32]⟩]
def muB : List ByteArray := [⟨#[48]⟩, ⟨#[44]⟩, ⟨#[32]⟩, ⟨#[47, 48]⟩, ⟨#[41]⟩]
theorem mu_size {s : ByteArray} (h : s ∈ muA ∨ s ∈ muB) : s.size ≤ 2 := by
  rcases h with h | h
  · simp only [muA, List.mem_cons, List.not_mem_nil, or_false] at h
    rcases h with rfl | rfl | rfl | rfl | rfl | rfl | rfl | rfl | rfl <;> decide
  · simp only [muB, List.mem_cons, List.not_mem_nil, or_false] at h
    rcases h with rfl | rfl | rfl | rfl | rfl <;> decide
theorem grown_dr {w w' : World} (h : Dr w w') (r : Option Nat) : w.grownBy w' r := by
  obtain ⟨m, rfl⟩ := h; exact ⟨rfl, rfl, rfl, Nat.le_refl _, fun _ _ _ => rfl⟩
/-- a string is drawn -/
def RetStr (C g : Nat) (m : Int) (top : Nat) (w : World) (e : Ending) (w' : World) : Prop := ∃ s : ByteArray, e = .returned (.string s) ∧ s.size ≤ top ∧ w.grownBy w' (some g) ∧ Rdr w' C g m
set_option maxRecDepth 100000 in
set_option maxHeartbeats 2000000 in
/-- spec.mutate -/
theorem mutate_any (C g : Nat) (m : Int) (s : ByteArray) (w : World) (hr : Rdr w C g m) (m1 : m ≤ 90000) (hs : s.size ≤ 1000) :
    Calls Try.prog 83 #[.pointer (some ⟨g, 0, none⟩), .string s] w (RetStr C g (m + 3) 2010 w) := by
  have hsI : (s.size : Int) ≤ 1000 := by omega
  have hs0 : (0 : Int) ≤ (s.size : Int) := by omega
  have hw1 : IntKind.i64.wrap ((s.size : Int) + 1) = (s.size : Int) + 1 := IntWalk.i64_in _ (by omega)
  go_enter Try.func83, Try.ntmps83
  go_wp2_with go_skip
  refine (pick_any C g m ((s.size : Int) + 1) w hr (by omega) (by omega) (by omega)).mono ?_
  rintro e w1 ⟨k, rfl, k0, k1, hg1, hr1⟩
  go_wp2_with fail
  refine (pick_any C g (m + 1) 5 w1 hr1 (by omega) (by omega) (by omega)).mono ?_
  rintro e w2 ⟨q, rfl, q0, q1, hg2', hr2⟩
  have hg2 := grown_trans hg1 hg2'
  have gl2 := hr2.lt
  have HSame := Lib.hid (show ∀ s' : ByteArray, s'.size ≤ 2010 → RetStr C g (m + 3) 2010 w (.returned (.string s')) w2 from fun s' h => ⟨s', rfl, h, hg2, hr2.more (by omega)⟩)
  have HSub := Lib.hid (show ∀ i : Nat, (s.extract 0 i).size ≤ 2010 from fun i => by rw [ByteArray.size_extract]; omega)
  have hq5 : q = 0 ∨ q = 1 ∨ q = 2 ∨ q = 3 ∨ q = 4 := by omega
  have hwk : IntKind.i64.wrap (k + 1) = k + 1 := IntWalk.i64_in _ (by omega)
  have k2 : k ≤ s.size := by omega
  rcases hq5 with rfl | rfl | rfl | rfl | rfl
  · by_cases hk : k < s.size
    · have hk1 : k + 1 ≤ (s.size : Int) := by omega
      have hk2 : 0 ≤ k + 1 := by omega
      have hk3 : ¬ k + 1 < 0 := by omega
      have hk4 : ¬ k < 0 := by omega
      have hk5 : ¬ (s.size : Int) < k + 1 := by omega
      have hk6 : ¬ (s.size : Int) < k := by omega
      obtain ⟨p, hp, hps⟩ : ∃ p, s.extract 0 k.toNat = p ∧ p.size ≤ 1000 := ⟨_, rfl, by rw [ByteArray.size_extract]; omega⟩
      obtain ⟨r, hrr, hrs⟩ : ∃ r, s.extract (k + 1).toNat s.size = r ∧ r.size ≤ 1000 := ⟨_, rfl, by rw [ByteArray.size_extract]; omega⟩
      go_wp2_with go_skip
      go_region_with (first
        | (go_at_call 105; refine (of_any C g (m + 2) w2.heap.size muA _ ((hr2.more (by omega)).alloc _) (by omega) (heap_alloc_new w2 _) (by omega) (by decide) (by decide)).mono ?_; rintro e w3 ⟨u, hu, rfl, hg3, hr3⟩; have hus := mu_size (.inl hu); have hpu : p.size + u.size ≤ 9223372036854775807 := (by omega); have hpur : p.size + u.size + r.size ≤ 9223372036854775807 := (by omega))
        | (go_at_call 105; refine (of_any C g (m + 2) w2.heap.size muA _ (((hr2.more (by omega)).alloc _).drew) (by omega) (heap_alloc_new w2 _) (by omega) (by decide) (by decide)).mono ?_; rintro e w3 ⟨u, hu, rfl, hg3, hr3⟩; have hus := mu_size (.inl hu); have hpu : p.size + u.size ≤ 9223372036854775807 := (by omega); have hpur : p.size + u.size + r.size ≤ 9223372036854775807 := (by omega)))
      go_wp2_with go_skip
      go_ret
      exact ⟨_, rfl, by rw [size_app, size_app]; omega, grown_trans (grown_alloc hg2 _) (grown_trans (grown_dr ⟨1, rfl⟩ _) hg3), hr3.more (by omega)⟩
    · go_wp2_with go_skip
      go_ret
      exact HSame.out _ (by omega)
  · by_cases hk : k < s.size
    · have hk1 : k + 1 ≤ (s.size : Int) := by omega
      have hk2 : 0 ≤ k + 1 := by omega
      have hk3 : ¬ k + 1 < 0 := by omega
      have hk4 : ¬ k < 0 := by omega
      have hk5 : ¬ (s.size : Int) < k + 1 := by omega
      have hk6 : ¬ (s.size : Int) < k := by omega
      obtain ⟨p, hp, hps⟩ : ∃ p, s.extract 0 k.toNat = p ∧ p.size ≤ 1000 := ⟨_, rfl, by rw [ByteArray.size_extract]; omega⟩
      obtain ⟨r, hrr, hrs⟩ : ∃ r, s.extract (k + 1).toNat s.size = r ∧ r.size ≤ 1000 := ⟨_, rfl, by rw [ByteArray.size_extract]; omega⟩
      go_wp2_with go_skip
      go_region_with (first
        | (go_at_call 105; refine (of_any C g (m + 2) w2.heap.size muA _ ((hr2.more (by omega)).alloc _) (by omega) (heap_alloc_new w2 _) (by omega) (by decide) (by decide)).mono ?_; rintro e w3 ⟨u, hu, rfl, hg3, hr3⟩; have hus := mu_size (.inl hu); have hpu : p.size + u.size ≤ 9223372036854775807 := (by omega); have hpur : p.size + u.size + r.size ≤ 9223372036854775807 := (by omega))
        | (go_at_call 105; refine (of_any C g (m + 2) w2.heap.size muA _ (((hr2.more (by omega)).alloc _).drew) (by omega) (heap_alloc_new w2 _) (by omega) (by decide) (by decide)).mono ?_; rintro e w3 ⟨u, hu, rfl, hg3, hr3⟩; have hus := mu_size (.inl hu); have hpu : p.size + u.size ≤ 9223372036854775807 := (by omega); have hpur : p.size + u.size + r.size ≤ 9223372036854775807 := (by omega)))
      go_wp2_with go_skip
      go_ret
      exact ⟨_, rfl, by rw [size_app, size_app]; omega, grown_trans (grown_alloc hg2 _) (grown_trans (grown_dr ⟨1, rfl⟩ _) hg3), hr3.more (by omega)⟩
    · go_wp2_with go_skip
      go_ret
      exact HSame.out _ (by omega)
  · go_wp2_with go_skip
    go_ret
    exact HSame.out _ (HSub.out _)
  · have hr3 := hr2.alloc (.cells #[.string ⟨#[48]⟩, .string ⟨#[44]⟩, .string ⟨#[32]⟩, .string ⟨#[47, 48]⟩, .string ⟨#[41]⟩] 9)
    have hg3 := grown_alloc hg2 (.cells #[.string ⟨#[48]⟩, .string ⟨#[44]⟩, .string ⟨#[32]⟩, .string ⟨#[47, 48]⟩, .string ⟨#[41]⟩] 9)
    have hq := heap_alloc_new w2 (.cells #[.string ⟨#[48]⟩, .string ⟨#[44]⟩, .string ⟨#[32]⟩, .string ⟨#[47, 48]⟩, .string ⟨#[41]⟩] 9)
    go_wp2_with go_skip
    refine (of_any C g (m + 1 + 1) w2.heap.size muB _ hr3 (by omega) hq (by omega) (by decide) (by decide)).mono ?_
    rintro e w4 ⟨u, hu, rfl, hg4, hr4⟩
    have hus := mu_size (.inr hu)
    go_wp2_with go_skip
    go_ret
    exact ⟨_, rfl, by rw [size_app]; omega, grown_trans hg3 hg4, hr4.more (by omega)⟩
  · go_wp2_with go_skip
    go_ret
    exact HSame.out _ (by omega)
/-- a text is drawn -/
def RetDrS (w : World) (e : Ending) (w' : World) : Prop := ∃ s : ByteArray, e = .returned (.string s) ∧ s.size ≤ 2010 ∧ Below w.heap.size w w'
set_option maxRecDepth 100000 in
set_option maxHeartbeats 400000 in
/-- spec.DrawParseTerm -/
theorem drawParseTerm_any (a : Option Addr) (n cap : Nat) (w : World) (hy : RdY w a n w.heap.size) (hc : n ≤ cap) (hm : n ≤ 1048576) :
    Calls Try.prog 43 #[.slice a n cap] w (RetDrS w) := by
  go_enter Try.func43, Try.ntmps43
  go_wp2_with fail
  refine (newReader_any a n cap w hy hc hm).mono ?_
  rintro e w0 ⟨rfl, hb0, hr⟩
  obtain ⟨g, hg⟩ : ∃ g, g = w.heap.size := ⟨_, rfl⟩
  rw [← hg] at hr ⊢
  have gle : w.heap.size ≤ g := by omega
  clear hg
  have hr2 := hr.alloc (.cells #[.int .i64 2, .int .i64 3, .int .i64 1, .int .i64 0] 3)
  have hg0 := grown_alloc (grown_refl w0 (some g)) (.cells #[.int .i64 2, .int .i64 3, .int .i64 1, .int .i64 0] 3)
  have hrow : Row (w0.alloc (.cells #[.int .i64 2, .int .i64 3, .int .i64 1, .int .i64 0] 3)) w0.heap.size [2, 3, 1, 0] := heap_alloc_new w0 _
  have hown := Own.row hrow (Nat.le_refl _) (by unfold maxLen; simp)
  go_wp2_with fail
  refine (one_any g g 0 _ _ [2, 3, 1, 0] _ hr2 (by omega) (hown.held hr2) (by simp) (by simp)).mono ?_
  rintro e w1 ⟨j, j0, j1, rfl, hg1', hr1⟩
  have hb : 0 ≤ nth [2, 3, 1, 0] j ∧ nth [2, 3, 1, 0] j ≤ 3 := by
    have hm := nth_mem' [2, 3, 1, 0] j0 j1
    simp only [List.mem_cons, List.not_mem_nil, or_false] at hm
    omega
  obtain ⟨u, hu⟩ : ∃ u, u = nth [2, 3, 1, 0] j := ⟨_, rfl⟩
  rw [← hu] at hb ⊢
  clear hu
  have hg1 := grown_trans hg0 hg1'
  have k1 := tkM_le (d := u.toNat) (by omega)
  have k2 := tkL_le (d := u.toNat) (by omega)
  go_wp2_with fail
  refine (termOfV_any g g u.toNat u (0 + 1) w1 (by omega) (by omega) (by omega) hr1).mono ?_
  rintro e w2 ⟨L, v, rfl, hov, l1, l2, hg2', hr3⟩
  have hg2 := grown_trans hg1 hg2'
  obtain ⟨va, vc, rfl, hrd⟩ := hov.slice
  have HT := Lib.hid (show Calls Try.prog 79 #[.slice va L.length vc, .int .i64 0] w2 fun e w' => e = .returned (.string (txI L.length L)) ∧ Dr w2 w' by have := specText_any va vc L (by omega) L.length 0 [] w2 hrd (by rw [List.drop_zero]; exact l1); rwa [List.drop_zero] at this)
  have hts := txI_size _ _ _ l1
  have l15 : L.length ≤ 15 := by omega
  obtain ⟨X, hX⟩ : ∃ X, X = txI L.length L := ⟨_, rfl⟩
  rw [← hX] at HT hts
  clear hX hrd hov l1
  go_wp2_with fail
  refine HT.out.mono ?_
  rintro e w3 ⟨rfl, hd3⟩
  have hg3 := grown_trans hg2 (grown_dr hd3 _)
  have hr3' := hr3.below (hd3.below _)
  go_wp2_with fail
  refine (pick_any g g _ 3 w3 hr3' (by omega) (by omega) (by omega)).mono ?_
  rintro e w4 ⟨k, rfl, k0, kk1, hg4', hr4⟩
  have hg4 := grown_trans hg3 hg4'
  have hX45 : X.size ≤ 1000 := by omega
  by_cases e0 : k = 0
  · subst e0
    go_wp2_with fail
    refine (mutate_any g g _ X w4 hr4 (by omega) hX45).mono ?_
    rintro e w5 ⟨s, rfl, hs, hg5', hr5⟩
    have hg5 := grown_trans hg4 hg5'
    go_wp2
    go_ret
    exact ⟨s, rfl, hs, hb0.trans (grown_below hg5 (by omega) hb0.size)⟩
  · have f0 : (k == 0) = false := by rw [beq_eq_false_iff_ne]; exact e0
    go_wp2
    go_ret
    exact ⟨X, rfl, by omega, hb0.trans (grown_below hg4 (by omega) hb0.size)⟩
end Go.Proofs.Ytidbilgnclfplaa
