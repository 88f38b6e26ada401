import Derived.Test.YtjcambkjcagcoaaSL0
import Derived.Test.YtjcambkjcagcoaaN7
namespace Go.Proofs.Ytjcambkjcagcoaa
open Go.RowKit

/-- a number is drawn -/
def RetV (C g : Nat) (m lo hi : Int) (w : World) (e : Ending) (w' : World) : Prop := ∃ v : Int, lo ≤ v ∧ v ≤ hi ∧ e = .returned (.int .i64 v) ∧ w.grownBy w' (some g) ∧ Rdr w' C g m
set_option maxRecDepth 100000 in
set_option maxHeartbeats 2000000 in
/-- spec.setOf -/
theorem rSetOf_any (C g : Nat) (m n : Int) (w : World) (hr : Rdr w C g m) (m1 : m ≤ 90000) (n0 : 0 ≤ n) (n1 : n ≤ 6) :
    Calls Try.prog 169 #[.pointer (some ⟨g, 0, none⟩), .int .i64 n] w (RetV C g (m + 2) (-1) 64 w) := by
  have p1 := pw_pos n
  have p6 : pw n ≤ 64 := pw_mono n 6 n1
  go_enter Try.func169, Try.ntmps169
  go_wp2_with fail
  refine (pick_any C g m 24 w hr (by omega) (by omega) (by omega)).mono ?_
  rintro e w1 ⟨k, rfl, k0, k1, hg, hr1⟩
  by_cases hk : k = 0
  · subst hk
    go_wp2_with (go_at_call 86; refine (power_any n _ n0 (by omega)).mono ?_; rintro e wz ⟨rfl, rfl⟩)
    have hrow : Row (w1.alloc (.cells #[.int .i64 (-1), .int .i64 (pw n), .int .i64 0] 3)) w1.heap.size [-1, pw n, 0] := heap_alloc_new w1 _
    have hown := Own.row hrow (Nat.le_refl _) (by unfold maxLen; simp)
    have hr2 := hr1.below ((Below.refl w1.heap.size w1).alloc (Nat.le_refl _) (.cells #[.int .i64 (-1), .int .i64 (pw n), .int .i64 0] 3))
    refine (one_any C g (m + 1) _ _ [-1, pw n, 0] _ hr2 (by omega) (hown.held hr2) (by simp) (by simp)).mono ?_
    rintro e w2 ⟨j, j0, j1, rfl, hg2, hr3⟩
    have hb : -1 ≤ nth [-1, pw n, 0] j ∧ nth [-1, pw n, 0] j ≤ 64 := by
      have hm := nth_mem' [-1, pw n, 0] j0 j1
      simp only [List.mem_cons, List.not_mem_nil, or_false] at hm
      omega
    obtain ⟨v, hv⟩ : ∃ v, v = nth [-1, pw n, 0] j := ⟨_, rfl⟩
    rw [← hv] at hb ⊢
    clear hv
    go_wp2
    go_ret
    exact ⟨v, hb.1, hb.2, rfl, grown_trans hg (grown_trans (grown_of_below ((Below.refl _ _).alloc (Nat.le_refl _) _)) hg2), hr3.more (by omega)⟩
  · have hk2 : (k == 0) = false := by rw [beq_eq_false_iff_ne]; exact hk
    go_wp2_with (go_at_call 86; refine (power_any n _ n0 (by omega)).mono ?_; rintro e wz ⟨rfl, rfl⟩)
    refine (pick_any C g (m + 1) (pw n) w1 hr1 (by omega) (by omega) (by omega)).mono ?_
    rintro e w2 ⟨j, rfl, j0, j1, hg2, hr3⟩
    go_wp2
    go_ret
    exact ⟨j, by omega, by omega, rfl, grown_trans hg hg2, hr3.more (by omega)⟩
theorem RetV.fin {C g : Nat} {m m' lo hi : Int} {w w1 w' : World} {e : Ending} (h : RetV C g m lo hi w1 e w') (hg : w.grownBy w1 (some g)) (hm : m ≤ m') : RetV C g m' lo hi w e w' := by
  obtain ⟨v, v0, v1, rfl, hg2, hr⟩ := h
  exact ⟨v, v0, v1, rfl, grown_trans hg hg2, hr.more hm⟩
theorem full_in {L : List Int} {T : List (List Int)} (ha : algB L T = true) : pw (num L) - 1 ∈ fls L T := by
  rw [fls_mem]
  have p := pw_pos (num L)
  have e : ∀ x, 0 ≤ x → x < num L → ib (pw (num L) - 1) x = true := fun x h1 h2 => full_ib h1 h2
  refine ⟨by omega, by omega, ?_⟩
  have n1 := (lat_len (alg_lat ha)).1
  unfold filB
  rw [Bool.and_eq_true, all2_iff]
  refine ⟨e _ (by omega) (by omega), fun x y x0 x1 y0 y1 => ?_⟩
  have h := tv_el ha (show El L x from ⟨x0, x1⟩) (show El L y from ⟨y0, y1⟩)
  unfold filXY
  rw [e x x0 x1, e y y0 y1, e _ h.1 h.2]; rfl
set_option maxRecDepth 100000 in
set_option maxHeartbeats 4000000 in
/-- spec.filterOf -/
theorem rFilterOf_any (C g : Nat) (m : Int) (w : World) (hr : Rdr w C g m) (m1 : m ≤ 80000) (a b : Option Addr) (ca cb : Nat) (L : List Int) (T : List (List Int)) (hR : RY w a L) (hT : TY w b T) (l1 : 1 ≤ L.length) (l7 : L.length ≤ 7) :
    Calls Try.prog 122 #[.pointer (some ⟨g, 0, none⟩), .agg #[.slice a L.length ca, .slice b T.length cb]] w (RetV C g (m + 3) (-1) 64 w) := by
  obtain ⟨q, hq⟩ : ∃ q, q = w.heap.size := ⟨_, rfl⟩
  obtain ⟨w1, hw1⟩ : ∃ w1, w1 = w.alloc (.cells #[.slice a L.length ca, .slice b T.length cb] 26) := ⟨_, rfl⟩
  have hB : Below w.heap.size w w1 := by rw [hw1]; exact (Below.refl _ _).alloc (Nat.le_refl _) _
  have hx : w1.heap[q]? = some (.cells #[.slice a L.length ca, .slice b T.length cb] 26 (0, 0)) := by rw [hw1, hq]; exact heap_alloc_new w _
  have hr1 := hr.below hB
  have hR1 := hR.kp (kp_below hB)
  have hT1 := hT.kp (kp_below hB)
  have hgB : w.grownBy w1 (some g) := grown_of_below hB
  have gl := hr.lt
  have KF := Lib.hid (show ∀ wz, w1.grownBy wz (some g) → wz.heap[q]? = some (.cells #[.slice a L.length ca, .slice b T.length cb] 26 (0, 0)) from fun wz h => box_drawn hx (by omega) h)
  have c0 := (bx_cells hx).1
  clear hR hT hr hB hx
  go_enter Try.func122, Try.ntmps122
  go_wp2_with (first
    | go_skip
    | (rw [← hw1, ← hq]; clear hw1 hq)
    | (refine wpList_load_row_w rfl 26 _ rfl q rfl _ _ _ _ (KF.out _ (grown_refl _ _)) Try.underlying26 rfl (size_Alg _ _) ?_))
  refine (validAlgebra_any _ _ _ _ L T _ hR1.rd hT1.rd).mono ?_
  rintro e w2 ⟨rfl, hb2⟩
  have hg2 : w1.grownBy w2 (some g) := grown_of_below hb2
  have hr2 := hr1.below hb2
  have hR2 := hR1.kp (kp_below hb2)
  have hT2 := hT1.kp (kp_below hb2)
  replace c0 := (bx_cells (KF.out _ hg2)).1
  clear hR1 hT1 hb2 hr1
  cases ha : algB L T with
  | false =>
    by_cases h6 : (L.length : Int) ≤ 6
    all_goals
      go_wp2_with (first
        | go_skip
        | (go_at_call 169; refine (rSetOf_any C g m _ _ hr2 (by omega) (by omega) (by omega)).mono ?_; rintro e w3 ⟨v, v0, v1, rfl, hg3, hr3⟩))
      go_ret
      exact ⟨v, v0, v1, rfl, grown_trans hgB (grown_trans hg2 hg3), hr3.more (by omega)⟩
  | true =>
    go_wp2_with (first
      | go_skip
      | fail)
    refine (pick_any C g m 12 _ hr2 (by omega) (by omega) (by omega)).mono ?_
    rintro e w3 ⟨k, rfl, k0, k1, hg3, hr3⟩
    have hgC := grown_trans hg2 hg3
    have hR3 := hR2.kp (kp_drawn hr2 hg3)
    have hT3 := hT2.kp (kp_drawn hr2 hg3)
    replace c0 := (bx_cells (KF.out _ hgC)).1
    by_cases hk : k = 0
    · subst hk
      by_cases h6 : (L.length : Int) ≤ 6
      all_goals
        go_wp2_with (first
          | go_skip
          | (go_at_call 169; refine (rSetOf_any C g (m + 1) _ _ hr3 (by omega) (by omega) (by omega)).mono ?_; rintro e w4 ⟨v, v0, v1, rfl, hg4, hr4⟩))
        go_ret
        exact ⟨v, v0, v1, rfl, grown_trans hgB (grown_trans hgC hg4), hr4.more (by omega)⟩
    · have hk2 : (k == 0) = false := by rw [beq_eq_false_iff_ne]; exact hk
      go_wp2_with (first
        | go_skip
        | (refine wpList_load_row_w rfl 26 _ rfl q rfl _ _ _ _ (KF.out _ hgC) Try.underlying26 rfl (size_Alg _ _) ?_))
      refine (specFilters_any _ _ _ _ L T _ hR3.rd hT3.rd ha).mono ?_
      rintro e w4 ⟨a4, c4, rfl, o4, hb4⟩
      have l6 := (latB_parts (alg_lat ha)).2.1
      have f1 := fls_len L T l6
      have f2 := List.length_pos_of_mem (full_in ha)
      obtain ⟨V, hV⟩ : ∃ V, V = fls L T := ⟨_, rfl⟩
      have HV := Lib.hid (show ∀ i : Int, 0 ≤ i → i < V.length → 0 ≤ nth V i ∧ nth V i ≤ 64 from fun i i0 i1 => by
        have h := nth_mem' V i0 i1
        rw [hV] at h
        have q1 := fls_mem.1 h
        have := (pw_6 l6).2
        rw [hV]
        exact ⟨q1.1, by omega⟩)
      rw [← hV] at f1 f2 o4 ⊢
      clear hV l6
      have hr4 := hr3.below hb4
      have hg4 := grown_trans hgC (grown_of_below hb4)
      have hY := ry_of o4
      go_wp2_with fail
      refine (pick_any C g (m + 1) V.length _ hr4 (by omega) (by omega) (by omega)).mono ?_
      rintro e w5 ⟨j, rfl, j0, j1, hg5, hr5⟩
      have hY5 := hY.kp (kp_drawn hr4 hg5)
      obtain ⟨b5, o5, rfl, hc5⟩ := hY5.rd (by intro e; rw [e] at f2; simp at f2)
      have d5 := hc5.at j j0 j1
      obtain ⟨v0, v1⟩ := HV.out j j0 j1
      go_wp2
      go_ret
      exact ⟨_, by omega, v1, rfl, grown_trans hgB (grown_trans hg4 hg5), hr5.more (by omega)⟩
end Go.Proofs.Ytjcambkjcagcoaa
