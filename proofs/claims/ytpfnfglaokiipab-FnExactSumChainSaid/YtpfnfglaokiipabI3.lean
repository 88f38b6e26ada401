import Derived.Test.YtpfnfglaokiipabI2
namespace Go.Proofs.Ytpfnfglaokiipab
open Go.RowKit

/-- some k in 0..n-1 -/
def anyI (n : Int) (p : Int → Bool) : Bool := !allI n fun k => !p k
theorem anyI_zero (p : Int → Bool) : anyI 0 p = false := rfl
theorem anyI_succ (k : Int) (h : 0 ≤ k) (p : Int → Bool) : anyI (k + 1) p = (anyI k p || p k) := by
  unfold anyI; rw [allI_succ k h]; cases allI k (fun k => !p k) <;> simp
theorem anyI_iff (n : Int) (p : Int → Bool) : anyI n p = true ↔ ∃ j, 0 ≤ j ∧ j < n ∧ p j = true := by
  unfold anyI
  rw [Bool.not_eq_true', Bool.eq_false_iff, Ne, allI_iff]
  constructor
  · intro h
    refine Classical.byContradiction fun hn => h fun j h0 h1 => ?_
    cases hp : p j with
    | false => rfl
    | true => exact absurd ⟨j, h0, h1, hp⟩ hn
  · rintro ⟨j, h0, h1, hp⟩ h
    have := h j h0 h1
    rw [hp] at this; cases this
def twoQ (g : Int → Int → Bool) (a b m : Int) : Bool := g a m && g m b
def twoG (g : Int → Int → Bool) (a b : Int) : Bool := anyI 6 (twoQ g a b)
def st2 (g : Int → Int → Bool) (x m y : Int) (a b : Int) : Bool :=
  if a < x then twoG g a b else if a = x then anyI (if b < y then m + 1 else m) (twoQ g a b) else false
theorem st2_start (g : Int → Int → Bool) (a b : Int) (a0 : 0 ≤ a) (b0 : 0 ≤ b) : bv (st2 g 0 0 0) a b = bv (fun _ _ => false) a b := by
  unfold bv st2
  rw [if_neg (by omega)]
  by_cases e : a = 0
  · rw [if_pos e]
    rw [if_neg (by omega)]; rfl
  · rw [if_neg e]
theorem st2_step (g : Int → Int → Bool) {x m y : Int} (m0 : 0 ≤ m) {v : Bool} (hv : v = (anyI m (twoQ g x y) || twoQ g x y m)) (a b : Int) : upd2 (bv (st2 g x m y)) x y (.bool v) a b = bv (st2 g x m (y + 1)) a b := by
  unfold upd2 bv
  by_cases e : a = x ∧ b = y
  · rw [if_pos e, hv, e.1, e.2]
    congr 1
    unfold st2
    rw [if_neg (by omega), if_pos rfl, if_pos (by omega), anyI_succ m m0]
  · rw [if_neg e]
    congr 1
    unfold st2
    by_cases h : a < x
    · rw [if_pos h, if_pos h]
    · rw [if_neg h, if_neg h]
      by_cases h2 : a = x
      · rw [if_pos h2, if_pos h2]
        by_cases h3 : b < y
        · rw [if_pos h3, if_pos (by omega)]
        · rw [if_neg h3, if_neg (by omega)]
      · rw [if_neg h2, if_neg h2]
theorem st2_m (g : Int → Int → Bool) {x m : Int} (a b : Int) (b0 : 0 ≤ b) (b6 : b < 6) : bv (st2 g x m 6) a b = bv (st2 g x (m + 1) 0) a b := by
  unfold bv st2
  rw [if_pos (show b < 6 from b6), if_neg (show ¬ b < 0 by omega)]
theorem st2_x (g : Int → Int → Bool) {x : Int} (a b : Int) (b0 : 0 ≤ b) : bv (st2 g x 6 0) a b = bv (st2 g (x + 1) 0 0) a b := by
  unfold bv st2
  rw [if_neg (show ¬ b < 0 by omega), if_neg (show ¬ b < 0 by omega)]
  by_cases h : a < x
  · rw [if_pos h, if_pos (by omega)]
  · rw [if_neg h]
    by_cases h2 : a = x
    · rw [if_pos h2, if_pos (by omega)]; rfl
    · rw [if_neg h2, if_neg (by omega)]
      by_cases h3 : a = x + 1
      · rw [if_pos h3]; rfl
      · rw [if_neg h3]
theorem st2_end (g : Int → Int → Bool) (a b : Int) (a6 : a < 6) : bv (st2 g 6 0 0) a b = bv (twoG g) a b := by
  unfold bv st2; rw [if_pos a6]

set_option maxRecDepth 100000 in
set_option maxHeartbeats 2000000 in
theorem inTwoSteps_any (g : Int → Int → Bool) (w : World) :
    Calls Try.prog 120 #[.agg (tab2 (bv g))] w fun e w' => e = .returned (.agg (tab2 (bv (twoG g)))) ∧ Below w.heap.size w w' := by
  go_enter Try.func120, Try.ntmps120
  go_wp2
  go_loopw [4, 5, 6, 7] (fun _ _ _ c wr => ∃ k : Int, 0 ≤ k ∧ k ≤ 6 ∧ c = .int .i64 k ∧ Blk wr (w.heap.size + 1 + 1) 55 (bv (st2 g k 0 0)) ∧ Blk wr w.heap.size 55 (bv g) ∧ Blk wr (w.heap.size + 1) 55 (bv fun _ _ => false) ∧ Below w.heap.size w wr)
    (fun _ _ _ c _ => (6 - intOf c).toNat)
  case atStart =>
    refine ⟨0, by omega, by omega, rfl, (Blk.mk' (f := bv fun _ _ => false) ?_ ?_).congr fun a b a0 _ b0 _ => (st2_start g a b a0 b0).symm, ((Blk.new w rfl).alloc _).alloc _, (Blk.mk' (f := bv fun _ _ => false) ?_ ?_).alloc _, (((Below.refl _ _).alloc (Nat.le_refl _) _).alloc (by simp) _).alloc (by simp; omega) _⟩
    · simp
    · rfl
    · simp
    · rfl
  case round =>
    obtain ⟨k, k0, k1, rfl, hb2, hb0, hb1, hbel⟩ := hrel
    by_cases hk : k < 6
    · go_wp2
      obtain ⟨w0, rfl⟩ : ∃ w0 : World, w0 = wr := ⟨_, rfl⟩
      go_loopw [5, 6, 10] (fun _ _ c wr => ∃ j : Int, 0 ≤ j ∧ j ≤ 6 ∧ c = .int .i64 j ∧ Blk wr (w.heap.size + 1 + 1) 55 (bv (st2 g k j 0)) ∧ Blk wr w.heap.size 55 (bv g) ∧ Blk wr (w.heap.size + 1) 55 (bv fun _ _ => false) ∧ Below w.heap.size w wr)
        (fun _ _ c _ => (6 - intOf c).toNat)
      case atStart => exact ⟨0, by omega, by omega, rfl, hb2, hb0, hb1, hbel⟩
      case round =>
        obtain ⟨j, j0, j1, rfl, hb2, hb0, hb1, hbel⟩ := hrel
        by_cases hj : j < 6
        · go_wp2
          obtain ⟨w1, rfl⟩ : ∃ w1 : World, w1 = wr := ⟨_, rfl⟩
          go_loopw [6, 13] (fun _ c wr => ∃ l : Int, 0 ≤ l ∧ l ≤ 6 ∧ c = .int .i64 l ∧ Blk wr (w.heap.size + 1 + 1) 55 (bv (st2 g k j l)) ∧ Blk wr w.heap.size 55 (bv g) ∧ Blk wr (w.heap.size + 1) 55 (bv fun _ _ => false) ∧ Below w.heap.size w wr)
            (fun _ c _ => (6 - intOf c).toNat)
          case atStart => exact ⟨0, by omega, by omega, rfl, hb2, hb0, hb1, hbel⟩
          case round =>
            obtain ⟨l, l0, l1, rfl, hb2, hb0, hb1, hbel⟩ := hrel
            by_cases hl : l < 6
            · have c0 : wr.cell? ⟨w.heap.size, k.toNat * 6 + j.toNat, none⟩ = some (.bool (g k j)) := hb0.cell k0 hk j0 hj
              have c1 : wr.cell? ⟨w.heap.size, j.toNat * 6 + l.toNat, none⟩ = some (.bool (g j l)) := hb0.cell j0 hj l0 hl
              have c2 : wr.cell? ⟨w.heap.size + 1 + 1, k.toNat * 6 + l.toNat, none⟩ = some (.bool (anyI j (twoQ g k l))) := by
                rw [hb2.cell k0 hk l0 hl]; unfold bv st2; rw [if_neg (by omega), if_pos rfl, if_neg (by omega)]
              have f2 := hb2.free (k.toNat * 6 + l.toNat)
              have hv := Lib.hid (show twoQ g k l j = (g k j && g j l) from rfl)
              cases hC : anyI j (twoQ g k l) <;> cases hA : g k j <;> cases hB : g j l
              all_goals
                rw [hA, hB] at hv
                have hv2 := Lib.hid hC
                go_wp2
                go_region
                go_wp2
                go_roundw
                case rel => exact ⟨l + 1, by omega, by omega, rfl, (hb2.drew.set _ k0 hk l0 hl).congr fun a b a0 a1 b0 b1 => st2_step g j0 (by rw [hv.out, hv2.out]; rfl) a b, hb0.drew.other _ (by simp; omega), hb1.drew.other _ (by simp), hbel.drew.setCell (by simp; omega) _⟩
                case measure => simp [intOf]; omega
            · have e : l = 6 := by omega
              subst e
              go_wp2
              go_roundw
              case rel => exact ⟨j + 1, by omega, by omega, rfl, hb2.congr fun a b a0 a1 b0 b1 => st2_m g a b b0 b1, hb0, hb1, hbel⟩
              case measure => simp [intOf]; omega
        · have e : j = 6 := by omega
          subst e
          go_wp2
          go_roundw
          case rel => exact ⟨k + 1, by omega, by omega, rfl, hb2.congr fun a b a0 a1 b0 b1 => st2_x g a b b0, hb0, hb1, hbel⟩
          case measure => simp [intOf]; omega
    · have e : k = 6 := by omega
      subst e
      replace hb2 : Blk wr (w.heap.size + 1 + 1) 55 (bv (twoG g)) := hb2.congr fun a b a0 a1 b0 b1 => st2_end g a b a1
      go_wp2_with (first | (refine wpList_load_row rfl 55 _ rfl (w.heap.size + 1 + 1) rfl _ _ _ _ hb2.heap Try.underlying55 rfl (size_order _) ?_) | (refine wpList_store_row rfl 55 _ _ rfl (w.heap.size + 1) _ rfl rfl _ _ hb1.heap (size_order _) rfl (one_bv _) ?_))
      refine bodyPost_ret (results_cell_row rfl _ _ (w.heap.size + 1) _ _ _ _ rfl (hb1.row _).heap Try.underlying55 rfl (size_order _)) rfl ⟨rfl, below_setRow' hbel (by omega) _⟩

/-- the last element is the greatest, the first one the least -/
def bndQ (g : Int → Int → Bool) (n x : Int) : Bool := g 0 x && g x (n - 1)
set_option maxRecDepth 100000 in
set_option maxHeartbeats 1000000 in
theorem isBounded_any (g : Int → Int → Bool) (n : Int) (w : World) (n0 : 0 ≤ n) (n6 : n ≤ 6) :
    Calls Try.prog 104 #[.agg (tab2 (bv g)), .int .i64 n] w fun e w' => e = .returned (.bool (allI n (bndQ g n))) ∧ Below w.heap.size w w' := by
  go_enter Try.func104, Try.ntmps104
  go_wp2
  go_loopw [5, 7] (fun _ c wr => ∃ k : Int, 0 ≤ k ∧ k ≤ n ∧ c = .int .i64 k ∧ AllTo k (bndQ g n) ∧ Blk wr w.heap.size 55 (bv g) ∧ Below w.heap.size w wr) (fun _ c _ => (6 - intOf c).toNat)
  case atStart => exact ⟨0, by omega, by omega, rfl, AllTo.zero _, Blk.new w rfl, (Below.refl _ _).alloc (Nat.le_refl _) _⟩
  case round =>
    obtain ⟨k, k0, k1, rfl, ha, hb0, hbel⟩ := hrel
    by_cases hk : k < n
    · have c0 : wr.cell? ⟨w.heap.size, k.toNat, none⟩ = some (.bool (g 0 k)) := by
        have := hb0.cell (x := 0) (y := k) (by omega) (by omega) k0 (by omega); simpa [bv] using this
      have c1 : wr.cell? ⟨w.heap.size, k.toNat * 6 + (n.toNat - 1), none⟩ = some (.bool (g k (n - 1))) := by
        have := hb0.cell (x := k) (y := n - 1) k0 (by omega) (by omega) (by omega)
        rwa [show (n - 1).toNat = n.toNat - 1 by omega] at this
      have hv := Lib.hid (show bndQ g n k = (g 0 k && g k (n - 1)) from rfl)
      cases hA : g 0 k <;> cases hB : g k (n - 1)
      all_goals
        rw [hA, hB] at hv
        go_wp2
        first
          | (go_ret; exact ⟨ret_bool (allI_false k k0 hk hv.out).symm, hbel⟩)
          | (go_roundw
             case rel => exact ⟨k + 1, by omega, by omega, rfl, ha.succ hv.out, hb0, hbel⟩
             case measure => simp [intOf]; omega)
    · have ht := Lib.hid (ha.all (by omega : n ≤ k))
      go_wp2
      go_ret
      exact ⟨ret_bool ht.out.symm, hbel⟩
end Go.Proofs.Ytpfnfglaokiipab
