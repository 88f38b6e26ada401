import Derived.Test.YtpfnfglaokiipabI1
import Derived.RegionTactic
import Derived.StillTailTactics
import Derived.Deep.WholeRow
namespace Go.Proofs.Ytpfnfglaokiipab
open Go.RowKit

/-- the table up to a place, row by row -/
def upTo2 (x y : Int) (new old : Int → Int → Value) : Int → Int → Value := fun a b => if a < x ∨ (a = x ∧ b < y) then new a b else old a b
theorem upTo2_start (new old : Int → Int → Value) {a b : Int} (a0 : 0 ≤ a) (b0 : 0 ≤ b) : upTo2 0 0 new old a b = old a b := by
  unfold upTo2; rw [if_neg (by omega)]
theorem upTo2_step {x y : Int} {new old : Int → Int → Value} {v : Value} (hv : v = new x y) (a b : Int) : upd2 (upTo2 x y new old) x y v a b = upTo2 x (y + 1) new old a b := by
  unfold upd2 upTo2
  by_cases e : a = x ∧ b = y
  · rw [if_pos e, if_pos (by omega), hv, e.1, e.2]
  · rw [if_neg e]
    by_cases h : a < x ∨ (a = x ∧ b < y)
    · rw [if_pos h, if_pos (by omega)]
    · rw [if_neg h, if_neg (by omega)]
theorem upTo2_row {x : Int} {new old : Int → Int → Value} (a b : Int) (b0 : 0 ≤ b) (b6 : b < 6) : upTo2 x 6 new old a b = upTo2 (x + 1) 0 new old a b := by
  unfold upTo2
  by_cases h : a < x ∨ (a = x ∧ b < 6)
  · rw [if_pos h, if_pos (by omega)]
  · rw [if_neg h, if_neg (by omega)]
theorem upTo2_end {new old : Int → Int → Value} (a b : Int) (a6 : a < 6) : upTo2 6 0 new old a b = new a b := by
  unfold upTo2; rw [if_pos (by omega)]
def revG (g : Int → Int → Bool) (a b : Int) : Bool := g b a

set_option maxRecDepth 100000 in
set_option maxHeartbeats 1000000 in
theorem reversed_any (g : Int → Int → Bool) (w : World) :
    Calls Try.prog 107 #[.agg (tab2 (bv g))] w fun e w' => e = .returned (.agg (tab2 (bv (revG g)))) ∧ Below w.heap.size w w' := by
  go_enter Try.func107, Try.ntmps107
  go_wp2
  go_loopw [4, 5, 6] (fun _ _ c wr => ∃ k : Int, 0 ≤ k ∧ k ≤ 6 ∧ c = .int .i64 k ∧ Blk wr (w.heap.size + 1 + 1) 55 (fun a b => upTo2 k 0 (bv g) (bv fun _ _ => false) b a) ∧ Blk wr w.heap.size 55 (bv g) ∧ Blk wr (w.heap.size + 1) 55 (bv fun _ _ => false) ∧ Below w.heap.size w wr)
    (fun _ _ c _ => (6 - intOf c).toNat)
  case atStart =>
    refine ⟨0, by omega, by omega, rfl, (Blk.mk' (f := bv fun _ _ => false) ?_ ?_).congr fun a b a0 _ b0 _ => (upTo2_start (bv g) (bv fun _ _ => false) b0 a0).symm, ((Blk.new w rfl).alloc _).alloc _, (Blk.mk' (f := bv fun _ _ => false) ?_ ?_).alloc _, (((Below.refl _ _).alloc (Nat.le_refl _) _).alloc (by simp) _).alloc (by simp; omega) _⟩
    · simp
    · rfl
    · simp
    · rfl
  case round =>
    obtain ⟨k, k0, k1, rfl, hb2, hb0, hb1, hbel⟩ := hrel
    by_cases hk : k < 6
    · go_wp2
      obtain ⟨w0, rfl⟩ : ∃ w0 : World, w0 = wr := ⟨_, rfl⟩
      go_loopw [5, 9] (fun _ c wr => ∃ j : Int, 0 ≤ j ∧ j ≤ 6 ∧ c = .int .i64 j ∧ Blk wr (w.heap.size + 1 + 1) 55 (fun a b => upTo2 k j (bv g) (bv fun _ _ => false) b a) ∧ Blk wr w.heap.size 55 (bv g) ∧ Blk wr (w.heap.size + 1) 55 (bv fun _ _ => false) ∧ Below w.heap.size w wr)
        (fun _ c _ => (6 - intOf c).toNat)
      case atStart => exact ⟨0, by omega, by omega, rfl, hb2, hb0, hb1, hbel⟩
      case round =>
        obtain ⟨j, j0, j1, rfl, hb2, hb0, hb1, hbel⟩ := hrel
        by_cases hj : j < 6
        · have c0 : wr.cell? ⟨w.heap.size, k.toNat * 6 + j.toNat, none⟩ = some (.bool (g k j)) := hb0.cell k0 hk j0 hj
          have c2 := hb2.cell j0 hj k0 hk
          have f2 := hb2.free (j.toNat * 6 + k.toNat)
          go_wp2
          go_region
          go_wp2
          go_roundw
          case rel => exact ⟨j + 1, by omega, by omega, rfl, (hb2.drew.set _ j0 hj k0 hk).congr fun a b a0 a1 b0 b1 => by rw [← upTo2_step (v := .bool (g k j)) rfl]; unfold upd2; simp only [and_comm], hb0.drew.other _ (by simp; omega), hb1.drew.other _ (by simp), hbel.drew.setCell (by simp; omega) _⟩
          case measure => simp [intOf]; omega
        · have e : j = 6 := by omega
          subst e
          go_wp2
          go_roundw
          case rel => exact ⟨k + 1, by omega, by omega, rfl, hb2.congr fun a b a0 a1 b0 b1 => upTo2_row b a a0 a1, hb0, hb1, hbel⟩
          case measure => simp [intOf]; omega
    · have e : k = 6 := by omega
      subst e
      replace hb2 : Blk wr (w.heap.size + 1 + 1) 55 (bv (revG g)) := hb2.congr fun a b a0 a1 b0 b1 => upTo2_end b a b1
      go_wp2_with (first | (refine wpList_load_row rfl 55 _ rfl (w.heap.size + 1 + 1) rfl _ _ _ _ hb2.heap Try.underlying55 rfl (size_order _) ?_) | (refine wpList_store_row rfl 55 _ _ rfl (w.heap.size + 1) _ rfl rfl _ _ hb1.heap (size_order _) rfl (one_bv _) ?_))
      refine bodyPost_ret (results_cell_row rfl _ _ (w.heap.size + 1) _ _ _ _ rfl (hb1.row _).heap Try.underlying55 rfl (size_order _)) rfl ⟨rfl, below_setRow' hbel (by omega) _⟩

def bothG (g : Int → Int → Bool) (a b : Int) : Bool := g b a && g a b

set_option maxRecDepth 100000 in
set_option maxHeartbeats 2000000 in
theorem bothWays_any (g : Int → Int → Bool) (w : World) :
    Calls Try.prog 118 #[.agg (tab2 (bv g))] w fun e w' => e = .returned (.agg (tab2 (bv (bothG g)))) ∧ Below w.heap.size w w' := by
  go_enter Try.func118, Try.ntmps118
  go_wp2_with (first | (refine wpList_load_row rfl 55 _ rfl w.heap.size rfl _ _ _ _ (Blk.heap (f := bv g) (T := 55) ((Blk.new w rfl).alloc _)) Try.underlying55 rfl (size_order _) ?_) | (go_at_call 107; refine (reversed_any _ _).mono ?_; rintro e w1 ⟨rfl, hb1⟩) | (refine wpList_store_row rfl 55 _ _ rfl w1.heap.size _ rfl rfl _ _ (Blk.heap (f := bv fun _ _ => false) (Blk.new w1 rfl)) (size_order _) rfl (one_bv _) ?_))
  have e0 : Blk w1 w.heap.size 55 (bv g) := Blk.below ((Blk.new w rfl).alloc _) hb1 (by simp; omega)
  have e1 : Blk w1 (w.heap.size + 1) 55 (bv fun _ _ => false) := Blk.below (Blk.mk' (by simp) rfl) hb1 (by simp; try omega)
  have hz : w.heap.size + 2 ≤ w1.heap.size := by have := hb1.size; simpa using this
  have hB : Below w.heap.size w w1 := ((((Below.refl _ _).alloc (Nat.le_refl _) _).alloc (by simp) _).trans (hb1.mono (by simp; omega)))
  clear hb1
  go_loopw [4, 5, 8] (fun _ _ c wr => ∃ k : Int, 0 ≤ k ∧ k ≤ 6 ∧ c = .int .i64 k ∧ Blk wr w1.heap.size 55 (upTo2 k 0 (bv (bothG g)) (bv (revG g))) ∧ Blk wr w.heap.size 55 (bv g) ∧ Blk wr (w.heap.size + 1) 55 (bv fun _ _ => false) ∧ Below w.heap.size w wr)
    (fun _ _ c _ => (6 - intOf c).toNat)
  case atStart =>
    rw [World.setRow_alloc_new]
    exact ⟨0, by omega, by omega, rfl, (Blk.new w1 rfl).congr fun a b a0 _ b0 _ => (upTo2_start _ _ a0 b0).symm, e0.alloc _, e1.alloc _, hB.alloc (by omega) _⟩
  case round =>
    clear e0 e1 hB
    obtain ⟨k, k0, k1, rfl, hb2, hb0, hb1, hbel⟩ := hrel
    by_cases hk : k < 6
    · go_wp2
      obtain ⟨w0, rfl⟩ : ∃ w0 : World, w0 = wr := ⟨_, rfl⟩
      go_loopw [5, 11] (fun _ c wr => ∃ j : Int, 0 ≤ j ∧ j ≤ 6 ∧ c = .int .i64 j ∧ Blk wr w1.heap.size 55 (upTo2 k j (bv (bothG g)) (bv (revG g))) ∧ Blk wr w.heap.size 55 (bv g) ∧ Blk wr (w.heap.size + 1) 55 (bv fun _ _ => false) ∧ Below w.heap.size w wr)
        (fun _ c _ => (6 - intOf c).toNat)
      case atStart => exact ⟨0, by omega, by omega, rfl, hb2, hb0, hb1, hbel⟩
      case round =>
        obtain ⟨j, j0, j1, rfl, hb2, hb0, hb1, hbel⟩ := hrel
        by_cases hj : j < 6
        · have c0 : wr.cell? ⟨w.heap.size, k.toNat * 6 + j.toNat, none⟩ = some (.bool (g k j)) := hb0.cell k0 hk j0 hj
          have c2 : wr.cell? ⟨w1.heap.size, k.toNat * 6 + j.toNat, none⟩ = some (.bool (g j k)) := by
            rw [hb2.cell k0 hk j0 hj]; unfold upTo2; rw [if_neg (by omega)]; rfl
          have f2 := hb2.free (k.toNat * 6 + j.toNat)
          have hv := Lib.hid (show bothG g k j = (g j k && g k j) from rfl)
          cases hA : g j k <;> cases hB : g k j
          all_goals
            rw [hA, hB] at hv
            go_wp2
            go_region
            go_wp2
            go_roundw
            case rel => exact ⟨j + 1, by omega, by omega, rfl, (hb2.drew.set _ k0 hk j0 hj).congr fun a b a0 a1 b0 b1 => upTo2_step (by unfold bv; rw [hv.out]; rfl) a b, hb0.drew.other _ (by simp; omega), hb1.drew.other _ (by simp; omega), hbel.drew.setCell (by simp; omega) _⟩
            case measure => simp [intOf]; omega
        · have e : j = 6 := by omega
          subst e
          go_wp2
          go_roundw
          case rel => exact ⟨k + 1, by omega, by omega, rfl, hb2.congr fun a b a0 a1 b0 b1 => upTo2_row a b b0 b1, hb0, hb1, hbel⟩
          case measure => simp [intOf]; omega
    · have e : k = 6 := by omega
      subst e
      replace hb2 : Blk wr w1.heap.size 55 (bv (bothG g)) := hb2.congr fun a b a0 a1 b0 b1 => upTo2_end a b a1
      go_wp2_with (first | (refine wpList_load_row rfl 55 _ rfl w1.heap.size rfl _ _ _ _ hb2.heap Try.underlying55 rfl (size_order _) ?_) | (refine wpList_store_row rfl 55 _ _ rfl (w.heap.size + 1) _ rfl rfl _ _ hb1.heap (size_order _) rfl (one_bv _) ?_))
      refine bodyPost_ret (results_cell_row rfl _ _ (w.heap.size + 1) _ _ _ _ rfl (hb1.row _).heap Try.underlying55 rfl (size_order _)) rfl ⟨rfl, below_setRow' hbel (by omega) _⟩
end Go.Proofs.Ytpfnfglaokiipab
