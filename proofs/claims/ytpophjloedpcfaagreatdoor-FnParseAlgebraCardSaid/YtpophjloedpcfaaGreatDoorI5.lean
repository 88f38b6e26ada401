import Derived.Test.YtpophjloedpcfaaGreatDoorA5
import Derived.Deep.MidRow
import Derived.DeepKeys
import Derived.RegionTactic
import Derived.StillTailTactics
import Derived.Deep.WholeRow
namespace Go.Proofs.YtpophjloedpcfaaGreatDoor
open Go.RowKit

/-- The cells of an array of six times six. -/
def tab2 (f : Int → Int → Value) : Array Value := ((List.range 36).map fun (i : Nat) => f ((i / 6 : Nat) : Int) ((i % 6 : Nat) : Int)).toArray
theorem tab2_size (f : Int → Int → Value) : (tab2 f).size = 36 := by simp [tab2]
theorem tab2_get (f : Int → Int → Value) {x y : Int} (x0 : 0 ≤ x) (x1 : x < 6) (y0 : 0 ≤ y) (y1 : y < 6) : (tab2 f)[x.toNat * 6 + y.toNat]? = some (f x y) := by
  have hi : x.toNat * 6 + y.toNat < 36 := by omega
  have h1 : (((x.toNat * 6 + y.toNat) / 6 : Nat) : Int) = x := by omega
  have h2 : (((x.toNat * 6 + y.toNat) % 6 : Nat) : Int) = y := by omega
  unfold tab2
  rw [List.getElem?_toArray, List.getElem?_map, List.getElem?_range hi]
  simp only [Option.map_some, h1, h2]
/-- The table with one cell changed. -/
def upd2 (f : Int → Int → Value) (x y : Int) (v : Value) : Int → Int → Value := fun a b => if a = x ∧ b = y then v else f a b
theorem tab2_congr {f g : Int → Int → Value} (h : ∀ a b, 0 ≤ a → a < 6 → 0 ≤ b → b < 6 → f a b = g a b) : tab2 f = tab2 g := by
  unfold tab2
  congr 1
  refine List.map_congr_left fun i hi => ?_
  have := List.mem_range.1 hi
  exact h _ _ (by omega) (by omega) (by omega) (by omega)
theorem tab2_set (f : Int → Int → Value) {x y : Int} (v : Value) (x0 : 0 ≤ x) (x1 : x < 6) (y0 : 0 ≤ y) (y1 : y < 6) : (tab2 f).setIfInBounds (x.toNat * 6 + y.toNat) v = tab2 (upd2 f x y v) := by
  apply Array.ext
  · simp [tab2]
  · intro i h1 h2
    rw [tab2_size] at h2
    rw [Array.getElem_setIfInBounds (by rw [tab2_size]; exact h2)]
    have a1 : ∀ g : Int → Int → Value, (tab2 g)[i]'(by rw [tab2_size]; exact h2) = g ((i / 6 : Nat) : Int) ((i % 6 : Nat) : Int) := fun g => by simp [tab2]
    rw [a1, a1]
    unfold upd2
    by_cases e : x.toNat * 6 + y.toNat = i
    · rw [if_pos e, if_pos (by omega)]
    · rw [if_neg e, if_neg (by omega)]
/-- Block B holds such an array. -/
def Blk (w : World) (B : Nat) (T : TypeId) (f : Int → Int → Value) : Prop := w.heap[B]? = some (.cells (tab2 f) T (0, 0))
section
variable {w : World} {B : Nat} {T : TypeId} {f : Int → Int → Value}
theorem Blk.of {arr : Array Value} (h : w.heap[B]? = some (.cells arr T (0, 0))) (ha : arr = tab2 f) : Blk w B T f := by rw [ha] at h; exact h
theorem Blk.heap (h : Blk w B T f) : w.heap[B]? = some (.cells (tab2 f) T (0, 0)) := h
theorem Blk.lt (h : Blk w B T f) : B < w.heap.size := lt_of_block h.heap
theorem Blk.cell (h : Blk w B T f) {x y : Int} (x0 : 0 ≤ x) (x1 : x < 6) (y0 : 0 ≤ y) (y1 : y < 6) : w.cell? ⟨B, x.toNat * 6 + y.toNat, none⟩ = some (f x y) := by
  rw [cell_of_row w B _ _ _ _ h.heap]; exact tab2_get f x0 x1 y0 y1
theorem Blk.free (h : Blk w B T f) (j : Nat) : w.frozen? ⟨B, j, none⟩ = false := frozen_of_row w B j _ _ h.heap
theorem Blk.set (h : Blk w B T f) {x y : Int} (v : Value) (x0 : 0 ≤ x) (x1 : x < 6) (y0 : 0 ≤ y) (y1 : y < 6) : Blk (w.setCell ⟨B, x.toNat * 6 + y.toNat, none⟩ v) B T (upd2 f x y v) := by
  rw [setCell_eq_setRow w B _ _ _ _ v h.heap, tab2_set f v x0 x1 y0 y1]
  exact setRow_heap w B _ _ _ _ h.heap
theorem Blk.other (h : Blk w B T f) {p : Addr} (v : Value) (hp : B ≠ p.block) : Blk (w.setCell p v) B T f := by
  unfold Blk; rw [heap_setCell_other w p B v hp]; exact h
theorem Blk.row (h : Blk w B T f) (g : Int → Int → Value) : Blk (w.setRow B (tab2 g)) B T g := setRow_heap w B _ _ _ _ h.heap
theorem Blk.rowOther (h : Blk w B T f) {G : Nat} (cs : Array Value) (hp : B ≠ G) : Blk (w.setRow G cs) B T f := by
  unfold Blk; rw [setRow_other w G B cs hp]; exact h
theorem Blk.congr (h : Blk w B T f) {g : Int → Int → Value} (hg : ∀ a b, 0 ≤ a → a < 6 → 0 ≤ b → b < 6 → f a b = g a b) : Blk w B T g := by
  unfold Blk; rw [← tab2_congr hg]; exact h
theorem Blk.alloc (h : Blk w B T f) (o : Obj) : Blk (w.alloc o) B T f := by
  unfold Blk; rw [Below.heap_alloc w o B h.lt]; exact h
theorem Blk.drew (h : Blk w B T f) : Blk w.drew B T f := h
theorem Blk.drewN (h : Blk w B T f) (n : Nat) : Blk (w.drewN n) B T f := h
theorem Blk.dr (h : Blk w B T f) {w' : World} (hd : Dr w w') : Blk w' B T f := by obtain ⟨n, rfl⟩ := hd; exact h
theorem Blk.below (h : Blk w B T f) {w' : World} {C : Nat} (hb : Below C w w') (hB : B < C) : Blk w' B T f := by
  unfold Blk; rw [hb.block B hB]; exact h
theorem Blk.new (w : World) {arr : Array Value} (ha : arr = tab2 f) : Blk (w.alloc (.cells arr T)) w.heap.size T f := .of (heap_alloc_new w _) ha
theorem Blk.mk' {n : Nat} {arr : Array Value} (hn : n = w.heap.size) (ha : arr = tab2 f) : Blk (w.alloc (.cells arr T)) n T f := by subst hn; exact Blk.new w ha
end
/-- an array of tests, one of numbers -/
def bv (g : Int → Int → Bool) : Int → Int → Value := fun x y => .bool (g x y)
def iv (g : Int → Int → Int) : Int → Int → Value := fun x y => .int .i64 (g x y)
theorem one_bv (g : Int → Int → Bool) : (tab2 (bv g)).all (·.oneCell') = true := by
  refine all_oneCell_toArray fun v hv => ?_
  obtain ⟨i, _, rfl⟩ := List.mem_map.1 hv
  rfl
theorem one_iv (g : Int → Int → Int) : (tab2 (iv g)).all (·.oneCell') = true := by
  refine all_oneCell_toArray fun v hv => ?_
  obtain ⟨i, _, rfl⟩ := List.mem_map.1 hv
  rfl
theorem info_order : (Tryz.prog.info? 54).map (·.size) = some 36 := by kernel_rfl
theorem info_table : (Tryz.prog.info? 57).map (·.size) = some 36 := by kernel_rfl
theorem size_order (f : Int → Int → Value) : (Tryz.prog.info? 54).map (·.size) = some (tab2 f).size := by rw [tab2_size]; exact info_order
theorem size_table (f : Int → Int → Value) : (Tryz.prog.info? 57).map (·.size) = some (tab2 f).size := by rw [tab2_size]; exact info_table
theorem below_setRow' {C G : Nat} {w0 w : World} (hb : Below C w0 w) (h : C ≤ G) (cs : Array Value) : Below C w0 (w.setRow G cs) :=
  ⟨hb.os, hb.tape, hb.output, by rw [setRow_size]; exact hb.size, fun k hk => by rw [setRow_other w G k cs (by omega)]; exact hb.block k hk⟩

/-- each element at least itself alone -/
def eqG (n : Int) (a b : Int) : Bool := decide (a < n) && decide (a = b)

set_option maxRecDepth 100000 in
set_option maxHeartbeats 400000 in
theorem equality_any (n : Int) (w : World) (n0 : 0 ≤ n) (n6 : n ≤ 6) :
    Calls Tryz.prog 135 #[.int .i64 n] w fun e w' => e = .returned (.agg (tab2 (bv (eqG n)))) ∧ Below w.heap.size w w' := by
  go_enter Tryz.func135, Tryz.ntmps135
  go_wp2
  go_loopw [4, 6] (fun _ c wr => ∃ k : Int, 0 ≤ k ∧ k ≤ n ∧ c = .int .i64 k ∧ Blk wr (w.heap.size + 1) 54 (bv (eqG k)) ∧ Blk wr w.heap.size 54 (bv fun _ _ => false) ∧ Below w.heap.size w wr)
    (fun _ c _ => (6 - intOf c).toNat)
  case atStart =>
    refine ⟨0, by omega, by omega, rfl, .of (heap_alloc2_new _ _ _) ?_, (Blk.new w ?_).alloc _, ((Below.refl _ _).alloc (Nat.le_refl _) _).alloc (by simp) _⟩
    · rfl
    · rfl
  case round =>
    obtain ⟨k, k0, k1, rfl, hb, hb0, hbel⟩ := hrel
    by_cases hk : k < n
    · have hc := hb.cell k0 (by omega : k < 6) k0 (by omega : k < 6)
      have hf := hb.free (k.toNat * 6 + k.toNat)
      go_wp2
      go_roundw
      case rel =>
        refine ⟨k + 1, by omega, by omega, rfl, (hb.set _ k0 (by omega) k0 (by omega)).congr ?_, hb0.other _ (by simp), hbel.setCell (by simp) _⟩
        intro a b a0 a1 b0 b1
        unfold upd2 bv eqG
        by_cases e : a = k ∧ b = k
        · rw [if_pos e]; congr 1; simp; omega
        · rw [if_neg e]; congr 1; rw [Bool.eq_iff_iff]; simp; omega
      case measure => simp [intOf]; omega
    · have e : k = n := by omega
      subst e
      go_wp2_with (first | (refine wpList_load_row rfl 54 _ rfl (w.heap.size + 1) rfl _ _ _ _ hb.heap Tryz.underlying54 rfl (size_order _) ?_) | (refine wpList_store_row rfl 54 _ _ rfl w.heap.size _ rfl rfl _ _ hb0.heap (size_order _) rfl (one_bv _) ?_))
      refine bodyPost_ret (results_cell_row rfl _ _ w.heap.size _ _ _ _ rfl (hb0.row _).heap Tryz.underlying54 rfl (size_order _)) rfl ⟨rfl, below_setRow' hbel (Nat.le_refl _) _⟩
end Go.Proofs.YtpophjloedpcfaaGreatDoor

namespace Go.Proofs.YtpophjloedpcfaaGreatDoor
open Go.RowKit

/-- the table up to a place, row by row -/
def upTo2 (x y : Int) (new old : Int → Int → Value) : Int → Int → Value := fun a b => if a < x ∨ (a = x ∧ b < y) then new a b else old a b
theorem upTo2_start (new old : Int → Int → Value) {a b : Int} (a0 : 0 ≤ a) (b0 : 0 ≤ b) : upTo2 0 0 new old a b = old a b := by
  unfold upTo2; rw [if_neg (by omega)]
theorem upTo2_step {x y : Int} {new old : Int → Int → Value} {v : Value} (hv : v = new x y) (a b : Int) : upd2 (upTo2 x y new old) x y v a b = upTo2 x (y + 1) new old a b := by
  unfold upd2 upTo2
  by_cases e : a = x ∧ b = y
  · rw [if_pos e, if_pos (by omega), hv, e.1, e.2]
  · rw [if_neg e]
    by_cases h : a < x ∨ (a = x ∧ b < y)
    · rw [if_pos h, if_pos (by omega)]
    · rw [if_neg h, if_neg (by omega)]
theorem upTo2_row {x : Int} {new old : Int → Int → Value} (a b : Int) (b0 : 0 ≤ b) (b6 : b < 6) : upTo2 x 6 new old a b = upTo2 (x + 1) 0 new old a b := by
  unfold upTo2
  by_cases h : a < x ∨ (a = x ∧ b < 6)
  · rw [if_pos h, if_pos (by omega)]
  · rw [if_neg h, if_neg (by omega)]
theorem upTo2_end {new old : Int → Int → Value} (a b : Int) (a6 : a < 6) : upTo2 6 0 new old a b = new a b := by
  unfold upTo2; rw [if_pos (by omega)]
def revG (g : Int → Int → Bool) (a b : Int) : Bool := g b a

set_option maxRecDepth 100000 in
set_option maxHeartbeats 1000000 in
theorem reversed_any (g : Int → Int → Bool) (w : World) :
    Calls Tryz.prog 104 #[.agg (tab2 (bv g))] w fun e w' => e = .returned (.agg (tab2 (bv (revG g)))) ∧ Below w.heap.size w w' := by
  go_enter Tryz.func104, Tryz.ntmps104
  go_wp2
  go_loopw [4, 5, 6] (fun _ _ c wr => ∃ k : Int, 0 ≤ k ∧ k ≤ 6 ∧ c = .int .i64 k ∧ Blk wr (w.heap.size + 1 + 1) 54 (fun a b => upTo2 k 0 (bv g) (bv fun _ _ => false) b a) ∧ Blk wr w.heap.size 54 (bv g) ∧ Blk wr (w.heap.size + 1) 54 (bv fun _ _ => false) ∧ Below w.heap.size w wr)
    (fun _ _ c _ => (6 - intOf c).toNat)
  case atStart =>
    refine ⟨0, by omega, by omega, rfl, (Blk.mk' (f := bv fun _ _ => false) ?_ ?_).congr fun a b a0 _ b0 _ => (upTo2_start (bv g) (bv fun _ _ => false) b0 a0).symm, ((Blk.new w rfl).alloc _).alloc _, (Blk.mk' (f := bv fun _ _ => false) ?_ ?_).alloc _, (((Below.refl _ _).alloc (Nat.le_refl _) _).alloc (by simp) _).alloc (by simp; omega) _⟩
    · simp
    · rfl
    · simp
    · rfl
  case round =>
    obtain ⟨k, k0, k1, rfl, hb2, hb0, hb1, hbel⟩ := hrel
    by_cases hk : k < 6
    · go_wp2
      obtain ⟨w0, rfl⟩ : ∃ w0 : World, w0 = wr := ⟨_, rfl⟩
      go_loopw [5, 9] (fun _ c wr => ∃ j : Int, 0 ≤ j ∧ j ≤ 6 ∧ c = .int .i64 j ∧ Blk wr (w.heap.size + 1 + 1) 54 (fun a b => upTo2 k j (bv g) (bv fun _ _ => false) b a) ∧ Blk wr w.heap.size 54 (bv g) ∧ Blk wr (w.heap.size + 1) 54 (bv fun _ _ => false) ∧ Below w.heap.size w wr)
        (fun _ c _ => (6 - intOf c).toNat)
      case atStart => exact ⟨0, by omega, by omega, rfl, hb2, hb0, hb1, hbel⟩
      case round =>
        obtain ⟨j, j0, j1, rfl, hb2, hb0, hb1, hbel⟩ := hrel
        by_cases hj : j < 6
        · have c0 : wr.cell? ⟨w.heap.size, k.toNat * 6 + j.toNat, none⟩ = some (.bool (g k j)) := hb0.cell k0 hk j0 hj
          have c2 := hb2.cell j0 hj k0 hk
          have f2 := hb2.free (j.toNat * 6 + k.toNat)
          go_wp2
          go_region
          go_wp2
          go_roundw
          case rel => exact ⟨j + 1, by omega, by omega, rfl, (hb2.drew.set _ j0 hj k0 hk).congr fun a b a0 a1 b0 b1 => by rw [← upTo2_step (v := .bool (g k j)) rfl]; unfold upd2; simp only [and_comm], hb0.drew.other _ (by simp; omega), hb1.drew.other _ (by simp), hbel.drew.setCell (by simp; omega) _⟩
          case measure => simp [intOf]; omega
        · have e : j = 6 := by omega
          subst e
          go_wp2
          go_roundw
          case rel => exact ⟨k + 1, by omega, by omega, rfl, hb2.congr fun a b a0 a1 b0 b1 => upTo2_row b a a0 a1, hb0, hb1, hbel⟩
          case measure => simp [intOf]; omega
    · have e : k = 6 := by omega
      subst e
      replace hb2 : Blk wr (w.heap.size + 1 + 1) 54 (bv (revG g)) := hb2.congr fun a b a0 a1 b0 b1 => upTo2_end b a b1
      go_wp2_with (first | (refine wpList_load_row rfl 54 _ rfl (w.heap.size + 1 + 1) rfl _ _ _ _ hb2.heap Tryz.underlying54 rfl (size_order _) ?_) | (refine wpList_store_row rfl 54 _ _ rfl (w.heap.size + 1) _ rfl rfl _ _ hb1.heap (size_order _) rfl (one_bv _) ?_))
      refine bodyPost_ret (results_cell_row rfl _ _ (w.heap.size + 1) _ _ _ _ rfl (hb1.row _).heap Tryz.underlying54 rfl (size_order _)) rfl ⟨rfl, below_setRow' hbel (by omega) _⟩

def bothG (g : Int → Int → Bool) (a b : Int) : Bool := g b a && g a b

set_option maxRecDepth 100000 in
set_option maxHeartbeats 2000000 in
theorem bothWays_any (g : Int → Int → Bool) (w : World) :
    Calls Tryz.prog 134 #[.agg (tab2 (bv g))] w fun e w' => e = .returned (.agg (tab2 (bv (bothG g)))) ∧ Below w.heap.size w w' := by
  go_enter Tryz.func134, Tryz.ntmps134
  go_wp2_with (first | (refine wpList_load_row rfl 54 _ rfl w.heap.size rfl _ _ _ _ (Blk.heap (f := bv g) (T := 54) ((Blk.new w rfl).alloc _)) Tryz.underlying54 rfl (size_order _) ?_) | (go_at_call 104; refine (reversed_any _ _).mono ?_; rintro e w1 ⟨rfl, hb1⟩) | (refine wpList_store_row rfl 54 _ _ rfl w1.heap.size _ rfl rfl _ _ (Blk.heap (f := bv fun _ _ => false) (Blk.new w1 rfl)) (size_order _) rfl (one_bv _) ?_))
  have e0 : Blk w1 w.heap.size 54 (bv g) := Blk.below ((Blk.new w rfl).alloc _) hb1 (by simp; omega)
  have e1 : Blk w1 (w.heap.size + 1) 54 (bv fun _ _ => false) := Blk.below (Blk.mk' (by simp) rfl) hb1 (by simp; try omega)
  have hz : w.heap.size + 2 ≤ w1.heap.size := by have := hb1.size; simpa using this
  have hB : Below w.heap.size w w1 := ((((Below.refl _ _).alloc (Nat.le_refl _) _).alloc (by simp) _).trans (hb1.mono (by simp; omega)))
  clear hb1
  go_loopw [4, 5, 8] (fun _ _ c wr => ∃ k : Int, 0 ≤ k ∧ k ≤ 6 ∧ c = .int .i64 k ∧ Blk wr w1.heap.size 54 (upTo2 k 0 (bv (bothG g)) (bv (revG g))) ∧ Blk wr w.heap.size 54 (bv g) ∧ Blk wr (w.heap.size + 1) 54 (bv fun _ _ => false) ∧ Below w.heap.size w wr)
    (fun _ _ c _ => (6 - intOf c).toNat)
  case atStart =>
    rw [World.setRow_alloc_new]
    exact ⟨0, by omega, by omega, rfl, (Blk.new w1 rfl).congr fun a b a0 _ b0 _ => (upTo2_start _ _ a0 b0).symm, e0.alloc _, e1.alloc _, hB.alloc (by omega) _⟩
  case round =>
    clear e0 e1 hB
    obtain ⟨k, k0, k1, rfl, hb2, hb0, hb1, hbel⟩ := hrel
    by_cases hk : k < 6
    · go_wp2
      obtain ⟨w0, rfl⟩ : ∃ w0 : World, w0 = wr := ⟨_, rfl⟩
      go_loopw [5, 11] (fun _ c wr => ∃ j : Int, 0 ≤ j ∧ j ≤ 6 ∧ c = .int .i64 j ∧ Blk wr w1.heap.size 54 (upTo2 k j (bv (bothG g)) (bv (revG g))) ∧ Blk wr w.heap.size 54 (bv g) ∧ Blk wr (w.heap.size + 1) 54 (bv fun _ _ => false) ∧ Below w.heap.size w wr)
        (fun _ c _ => (6 - intOf c).toNat)
      case atStart => exact ⟨0, by omega, by omega, rfl, hb2, hb0, hb1, hbel⟩
      case round =>
        obtain ⟨j, j0, j1, rfl, hb2, hb0, hb1, hbel⟩ := hrel
        by_cases hj : j < 6
        · have c0 : wr.cell? ⟨w.heap.size, k.toNat * 6 + j.toNat, none⟩ = some (.bool (g k j)) := hb0.cell k0 hk j0 hj
          have c2 : wr.cell? ⟨w1.heap.size, k.toNat * 6 + j.toNat, none⟩ = some (.bool (g j k)) := by
            rw [hb2.cell k0 hk j0 hj]; unfold upTo2; rw [if_neg (by omega)]; rfl
          have f2 := hb2.free (k.toNat * 6 + j.toNat)
          have hv := Lib.hid (show bothG g k j = (g j k && g k j) from rfl)
          cases hA : g j k <;> cases hB : g k j
          all_goals
            rw [hA, hB] at hv
            go_wp2
            go_region
            go_wp2
            go_roundw
            case rel => exact ⟨j + 1, by omega, by omega, rfl, (hb2.drew.set _ k0 hk j0 hj).congr fun a b a0 a1 b0 b1 => upTo2_step (by unfold bv; rw [hv.out]; rfl) a b, hb0.drew.other _ (by simp; omega), hb1.drew.other _ (by simp; omega), hbel.drew.setCell (by simp; omega) _⟩
            case measure => simp [intOf]; omega
        · have e : j = 6 := by omega
          subst e
          go_wp2
          go_roundw
          case rel => exact ⟨k + 1, by omega, by omega, rfl, hb2.congr fun a b a0 a1 b0 b1 => upTo2_row a b b0 b1, hb0, hb1, hbel⟩
          case measure => simp [intOf]; omega
    · have e : k = 6 := by omega
      subst e
      replace hb2 : Blk wr w1.heap.size 54 (bv (bothG g)) := hb2.congr fun a b a0 a1 b0 b1 => upTo2_end a b a1
      go_wp2_with (first | (refine wpList_load_row rfl 54 _ rfl w1.heap.size rfl _ _ _ _ hb2.heap Tryz.underlying54 rfl (size_order _) ?_) | (refine wpList_store_row rfl 54 _ _ rfl (w.heap.size + 1) _ rfl rfl _ _ hb1.heap (size_order _) rfl (one_bv _) ?_))
      refine bodyPost_ret (results_cell_row rfl _ _ (w.heap.size + 1) _ _ _ _ rfl (hb1.row _).heap Tryz.underlying54 rfl (size_order _)) rfl ⟨rfl, below_setRow' hbel (by omega) _⟩
end Go.Proofs.YtpophjloedpcfaaGreatDoor

namespace Go.Proofs.YtpophjloedpcfaaGreatDoor
open Go.RowKit

/-- some k in 0..n-1 -/
def anyI (n : Int) (p : Int → Bool) : Bool := !allI n fun k => !p k
theorem anyI_zero (p : Int → Bool) : anyI 0 p = false := rfl
theorem anyI_succ (k : Int) (h : 0 ≤ k) (p : Int → Bool) : anyI (k + 1) p = (anyI k p || p k) := by
  unfold anyI; rw [allI_succ k h]; cases allI k (fun k => !p k) <;> simp
theorem anyI_iff (n : Int) (p : Int → Bool) : anyI n p = true ↔ ∃ j, 0 ≤ j ∧ j < n ∧ p j = true := by
  unfold anyI
  rw [Bool.not_eq_true', Bool.eq_false_iff, Ne, allI_iff]
  constructor
  · intro h
    refine Classical.byContradiction fun hn => h fun j h0 h1 => ?_
    cases hp : p j with
    | false => rfl
    | true => exact absurd ⟨j, h0, h1, hp⟩ hn
  · rintro ⟨j, h0, h1, hp⟩ h
    have := h j h0 h1
    rw [hp] at this; cases this
def twoQ (g : Int → Int → Bool) (a b m : Int) : Bool := g a m && g m b
def twoG (g : Int → Int → Bool) (a b : Int) : Bool := anyI 6 (twoQ g a b)
def st2 (g : Int → Int → Bool) (x m y : Int) (a b : Int) : Bool :=
  if a < x then twoG g a b else if a = x then anyI (if b < y then m + 1 else m) (twoQ g a b) else false
theorem st2_start (g : Int → Int → Bool) (a b : Int) (a0 : 0 ≤ a) (b0 : 0 ≤ b) : bv (st2 g 0 0 0) a b = bv (fun _ _ => false) a b := by
  unfold bv st2
  rw [if_neg (by omega)]
  by_cases e : a = 0
  · rw [if_pos e]
    rw [if_neg (by omega)]; rfl
  · rw [if_neg e]
theorem st2_step (g : Int → Int → Bool) {x m y : Int} (m0 : 0 ≤ m) {v : Bool} (hv : v = (anyI m (twoQ g x y) || twoQ g x y m)) (a b : Int) : upd2 (bv (st2 g x m y)) x y (.bool v) a b = bv (st2 g x m (y + 1)) a b := by
  unfold upd2 bv
  by_cases e : a = x ∧ b = y
  · rw [if_pos e, hv, e.1, e.2]
    congr 1
    unfold st2
    rw [if_neg (by omega), if_pos rfl, if_pos (by omega), anyI_succ m m0]
  · rw [if_neg e]
    congr 1
    unfold st2
    by_cases h : a < x
    · rw [if_pos h, if_pos h]
    · rw [if_neg h, if_neg h]
      by_cases h2 : a = x
      · rw [if_pos h2, if_pos h2]
        by_cases h3 : b < y
        · rw [if_pos h3, if_pos (by omega)]
        · rw [if_neg h3, if_neg (by omega)]
      · rw [if_neg h2, if_neg h2]
theorem st2_m (g : Int → Int → Bool) {x m : Int} (a b : Int) (b0 : 0 ≤ b) (b6 : b < 6) : bv (st2 g x m 6) a b = bv (st2 g x (m + 1) 0) a b := by
  unfold bv st2
  rw [if_pos (show b < 6 from b6), if_neg (show ¬ b < 0 by omega)]
theorem st2_x (g : Int → Int → Bool) {x : Int} (a b : Int) (b0 : 0 ≤ b) : bv (st2 g x 6 0) a b = bv (st2 g (x + 1) 0 0) a b := by
  unfold bv st2
  rw [if_neg (show ¬ b < 0 by omega), if_neg (show ¬ b < 0 by omega)]
  by_cases h : a < x
  · rw [if_pos h, if_pos (by omega)]
  · rw [if_neg h]
    by_cases h2 : a = x
    · rw [if_pos h2, if_pos (by omega)]; rfl
    · rw [if_neg h2, if_neg (by omega)]
      by_cases h3 : a = x + 1
      · rw [if_pos h3]; rfl
      · rw [if_neg h3]
theorem st2_end (g : Int → Int → Bool) (a b : Int) (a6 : a < 6) : bv (st2 g 6 0 0) a b = bv (twoG g) a b := by
  unfold bv st2; rw [if_pos a6]

set_option maxRecDepth 100000 in
set_option maxHeartbeats 2000000 in
theorem inTwoSteps_any (g : Int → Int → Bool) (w : World) :
    Calls Tryz.prog 136 #[.agg (tab2 (bv g))] w fun e w' => e = .returned (.agg (tab2 (bv (twoG g)))) ∧ Below w.heap.size w w' := by
  go_enter Tryz.func136, Tryz.ntmps136
  go_wp2
  go_loopw [4, 5, 6, 7] (fun _ _ _ c wr => ∃ k : Int, 0 ≤ k ∧ k ≤ 6 ∧ c = .int .i64 k ∧ Blk wr (w.heap.size + 1 + 1) 54 (bv (st2 g k 0 0)) ∧ Blk wr w.heap.size 54 (bv g) ∧ Blk wr (w.heap.size + 1) 54 (bv fun _ _ => false) ∧ Below w.heap.size w wr)
    (fun _ _ _ c _ => (6 - intOf c).toNat)
  case atStart =>
    refine ⟨0, by omega, by omega, rfl, (Blk.mk' (f := bv fun _ _ => false) ?_ ?_).congr fun a b a0 _ b0 _ => (st2_start g a b a0 b0).symm, ((Blk.new w rfl).alloc _).alloc _, (Blk.mk' (f := bv fun _ _ => false) ?_ ?_).alloc _, (((Below.refl _ _).alloc (Nat.le_refl _) _).alloc (by simp) _).alloc (by simp; omega) _⟩
    · simp
    · rfl
    · simp
    · rfl
  case round =>
    obtain ⟨k, k0, k1, rfl, hb2, hb0, hb1, hbel⟩ := hrel
    by_cases hk : k < 6
    · go_wp2
      obtain ⟨w0, rfl⟩ : ∃ w0 : World, w0 = wr := ⟨_, rfl⟩
      go_loopw [5, 6, 10] (fun _ _ c wr => ∃ j : Int, 0 ≤ j ∧ j ≤ 6 ∧ c = .int .i64 j ∧ Blk wr (w.heap.size + 1 + 1) 54 (bv (st2 g k j 0)) ∧ Blk wr w.heap.size 54 (bv g) ∧ Blk wr (w.heap.size + 1) 54 (bv fun _ _ => false) ∧ Below w.heap.size w wr)
        (fun _ _ c _ => (6 - intOf c).toNat)
      case atStart => exact ⟨0, by omega, by omega, rfl, hb2, hb0, hb1, hbel⟩
      case round =>
        obtain ⟨j, j0, j1, rfl, hb2, hb0, hb1, hbel⟩ := hrel
        by_cases hj : j < 6
        · go_wp2
          obtain ⟨w1, rfl⟩ : ∃ w1 : World, w1 = wr := ⟨_, rfl⟩
          go_loopw [6, 13] (fun _ c wr => ∃ l : Int, 0 ≤ l ∧ l ≤ 6 ∧ c = .int .i64 l ∧ Blk wr (w.heap.size + 1 + 1) 54 (bv (st2 g k j l)) ∧ Blk wr w.heap.size 54 (bv g) ∧ Blk wr (w.heap.size + 1) 54 (bv fun _ _ => false) ∧ Below w.heap.size w wr)
            (fun _ c _ => (6 - intOf c).toNat)
          case atStart => exact ⟨0, by omega, by omega, rfl, hb2, hb0, hb1, hbel⟩
          case round =>
            obtain ⟨l, l0, l1, rfl, hb2, hb0, hb1, hbel⟩ := hrel
            by_cases hl : l < 6
            · have c0 : wr.cell? ⟨w.heap.size, k.toNat * 6 + j.toNat, none⟩ = some (.bool (g k j)) := hb0.cell k0 hk j0 hj
              have c1 : wr.cell? ⟨w.heap.size, j.toNat * 6 + l.toNat, none⟩ = some (.bool (g j l)) := hb0.cell j0 hj l0 hl
              have c2 : wr.cell? ⟨w.heap.size + 1 + 1, k.toNat * 6 + l.toNat, none⟩ = some (.bool (anyI j (twoQ g k l))) := by
                rw [hb2.cell k0 hk l0 hl]; unfold bv st2; rw [if_neg (by omega), if_pos rfl, if_neg (by omega)]
              have f2 := hb2.free (k.toNat * 6 + l.toNat)
              have hv := Lib.hid (show twoQ g k l j = (g k j && g j l) from rfl)
              cases hC : anyI j (twoQ g k l) <;> cases hA : g k j <;> cases hB : g j l
              all_goals
                rw [hA, hB] at hv
                have hv2 := Lib.hid hC
                go_wp2
                go_region
                go_wp2
                go_roundw
                case rel => exact ⟨l + 1, by omega, by omega, rfl, (hb2.drew.set _ k0 hk l0 hl).congr fun a b a0 a1 b0 b1 => st2_step g j0 (by rw [hv.out, hv2.out]; rfl) a b, hb0.drew.other _ (by simp; omega), hb1.drew.other _ (by simp), hbel.drew.setCell (by simp; omega) _⟩
                case measure => simp [intOf]; omega
            · have e : l = 6 := by omega
              subst e
              go_wp2
              go_roundw
              case rel => exact ⟨j + 1, by omega, by omega, rfl, hb2.congr fun a b a0 a1 b0 b1 => st2_m g a b b0 b1, hb0, hb1, hbel⟩
              case measure => simp [intOf]; omega
        · have e : j = 6 := by omega
          subst e
          go_wp2
          go_roundw
          case rel => exact ⟨k + 1, by omega, by omega, rfl, hb2.congr fun a b a0 a1 b0 b1 => st2_x g a b b0, hb0, hb1, hbel⟩
          case measure => simp [intOf]; omega
    · have e : k = 6 := by omega
      subst e
      replace hb2 : Blk wr (w.heap.size + 1 + 1) 54 (bv (twoG g)) := hb2.congr fun a b a0 a1 b0 b1 => st2_end g a b a1
      go_wp2_with (first | (refine wpList_load_row rfl 54 _ rfl (w.heap.size + 1 + 1) rfl _ _ _ _ hb2.heap Tryz.underlying54 rfl (size_order _) ?_) | (refine wpList_store_row rfl 54 _ _ rfl (w.heap.size + 1) _ rfl rfl _ _ hb1.heap (size_order _) rfl (one_bv _) ?_))
      refine bodyPost_ret (results_cell_row rfl _ _ (w.heap.size + 1) _ _ _ _ rfl (hb1.row _).heap Tryz.underlying54 rfl (size_order _)) rfl ⟨rfl, below_setRow' hbel (by omega) _⟩

/-- the last element is the greatest, the first one the least -/
def bndQ (g : Int → Int → Bool) (n x : Int) : Bool := g 0 x && g x (n - 1)
set_option maxRecDepth 100000 in
set_option maxHeartbeats 1000000 in
theorem isBounded_any (g : Int → Int → Bool) (n : Int) (w : World) (n0 : 0 ≤ n) (n6 : n ≤ 6) :
    Calls Tryz.prog 101 #[.agg (tab2 (bv g)), .int .i64 n] w fun e w' => e = .returned (.bool (allI n (bndQ g n))) ∧ Below w.heap.size w w' := by
  go_enter Tryz.func101, Tryz.ntmps101
  go_wp2
  go_loopw [5, 7] (fun _ c wr => ∃ k : Int, 0 ≤ k ∧ k ≤ n ∧ c = .int .i64 k ∧ AllTo k (bndQ g n) ∧ Blk wr w.heap.size 54 (bv g) ∧ Below w.heap.size w wr) (fun _ c _ => (6 - intOf c).toNat)
  case atStart => exact ⟨0, by omega, by omega, rfl, AllTo.zero _, Blk.new w rfl, (Below.refl _ _).alloc (Nat.le_refl _) _⟩
  case round =>
    obtain ⟨k, k0, k1, rfl, ha, hb0, hbel⟩ := hrel
    by_cases hk : k < n
    · have c0 : wr.cell? ⟨w.heap.size, k.toNat, none⟩ = some (.bool (g 0 k)) := by
        have := hb0.cell (x := 0) (y := k) (by omega) (by omega) k0 (by omega); simpa [bv] using this
      have c1 : wr.cell? ⟨w.heap.size, k.toNat * 6 + (n.toNat - 1), none⟩ = some (.bool (g k (n - 1))) := by
        have := hb0.cell (x := k) (y := n - 1) k0 (by omega) (by omega) (by omega)
        rwa [show (n - 1).toNat = n.toNat - 1 by omega] at this
      have hv := Lib.hid (show bndQ g n k = (g 0 k && g k (n - 1)) from rfl)
      cases hA : g 0 k <;> cases hB : g k (n - 1)
      all_goals
        rw [hA, hB] at hv
        go_wp2
        first
          | (go_ret; exact ⟨ret_bool (allI_false k k0 hk hv.out).symm, hbel⟩)
          | (go_roundw
             case rel => exact ⟨k + 1, by omega, by omega, rfl, ha.succ hv.out, hb0, hbel⟩
             case measure => simp [intOf]; omega)
    · have ht := Lib.hid (ha.all (by omega : n ≤ k))
      go_wp2
      go_ret
      exact ⟨ret_bool ht.out.symm, hbel⟩
end Go.Proofs.YtpophjloedpcfaaGreatDoor

namespace Go.Proofs.YtpophjloedpcfaaGreatDoor
open Go.RowKit

/-- Two arrays of tests are the same. -/
def sameG (f g : Int → Int → Bool) : Bool := allI 6 fun x => allI 6 fun y => f x y == g x y
theorem sameG_iff (f g : Int → Int → Bool) : sameG f g = true ↔ ∀ x y, 0 ≤ x → x < 6 → 0 ≤ y → y < 6 → f x y = g x y := by
  unfold sameG
  rw [allI_iff]
  constructor
  · intro h x y x0 x1 y0 y1
    have := (allI_iff _ _).1 (h x x0 x1) y y0 y1
    simpa using this
  · intro h x x0 x1
    exact (allI_iff _ _).2 fun y y0 y1 => by simpa using h x y x0 x1 y0 y1
def litsOf (g : Int → Int → Bool) : List Lit := (List.range 36).map fun (i : Nat) => Lit.bool (g ((i / 6 : Nat) : Int) ((i % 6 : Nat) : Int))
theorem litsOf_inj (f g : Int → Int → Bool) : litsOf f = litsOf g ↔ sameG f g = true := by
  rw [sameG_iff]
  constructor
  · intro h x y x0 x1 y0 y1
    have hi : x.toNat * 6 + y.toNat < 36 := by omega
    have := congrArg (fun l : List Lit => l[x.toNat * 6 + y.toNat]?) h
    unfold litsOf at this
    simp only [List.getElem?_map, List.getElem?_range hi, Option.map_some, Option.some.injEq, Lit.bool.injEq] at this
    have h1 : (((x.toNat * 6 + y.toNat) / 6 : Nat) : Int) = x := by omega
    have h2 : (((x.toNat * 6 + y.toNat) % 6 : Nat) : Int) = y := by omega
    rwa [h1, h2] at this
  · intro h
    unfold litsOf
    refine List.map_congr_left fun i hi => ?_
    have := List.mem_range.1 hi
    rw [h _ _ (by omega) (by omega) (by omega) (by omega)]
theorem keyLits_order (g : Int → Int → Bool) : Tryz.prog.keyLits 4 54 (tab2 (bv g)).toList = some (litsOf g) := by kernel_rfl
theorem formed_order (g : Int → Int → Bool) : (Value.agg (tab2 (bv g))).formed Tryz.prog 54 = true := by kernel_rfl
/-- '==' on two such arrays -/
theorem run_equalIn_order (f g : Int → Int → Bool) (w : World) :
    (Op.equalIn 10000 54 (.agg (tab2 (bv f))) (.agg (tab2 (bv g)))).run Tryz.prog w = .ok (sameG f g) w := by
  obtain ⟨r, hr, hiff⟩ := run_equalIn_deep (P := Tryz.prog) 9997 3 54 (by kernel_rfl) w 4 4 (.agg (tab2 (bv f))) (.agg (tab2 (bv g))) (litsOf f) (litsOf g) (formed_order f) (formed_order g) (keyLits_order f) (keyLits_order g)
  rw [show (10000 : Nat) = 9997 + 3 from rfl, hr]
  have : r = sameG f g := by
    rw [Bool.eq_iff_iff, hiff, litsOf_inj]
  rw [this]
end Go.Proofs.YtpophjloedpcfaaGreatDoor

namespace Go.Proofs.YtpophjloedpcfaaGreatDoor
open Go.RowKit

section
variable {P : Program} {C : World → Prop} {o : Oper} {a : Act}
/-- a load of a whole array, in a region that draws its order -/
theorem quiet_load_row {K : Act → Prop} (ty : TypeId) (x : Operand) (ho : o.op = .load ty x) (g : Nat) (hx : a.eval x = .pointer (some ⟨g, 0, none⟩)) (t : TypeId) (cs : Array Value) (fr : Nat × Nat) (d : TypeDesc)
    (hg : ∀ w, C w → w.heap[g]? = some (.cells cs t fr)) (hu : P.underlying ty = some d) (hd : (match d with | .struct _ | .array _ _ => true | _ => false) = true) (hi : (P.info? ty).map (·.size) = some cs.size)
    (h : K (a.put o.dst (.agg cs))) : o.quiet P a C K :=
  ⟨_, fun w hw => by
    unfold Oper.quietAt execOp
    simp only [ho, hx, Instr.loadAt, Instr.sureAddr, Sem.run_bind, Sem.run_pure, Result.andThen_ok, run_loadVar_row w g t ty cs fr d (hg w hw) hu hd hi]
    exact ⟨rfl, rfl⟩, h⟩
/-- a world of a class -/
structure In (C : World → Prop) where
  w : World
  h : C w
/-- a region that draws its order, its operations written out, at whatever class of worlds -/
theorem region_in {id : Nat} {Q : Exit → Act → World → Prop} {w : World} {l : List Oper} (C : World → Prop) (hm : P.follows .mixedOrders = true) (hB : Region.lexB .any l.toArray = true) (hC : C (w.drewN 1))
    (h : Nonempty (In C) → wpQuiet P l.toArray (fun w' => ∃ s : In C, w' = s.w) (fun a' => ∀ s : In C, Q .normal a' s.w) l a) : (Code.region id l.toArray true).wp P Q a w :=
  wp_region_quiet (C := fun w' => ∃ s : In C, w' = s.w) hm hB ⟨⟨_, hC⟩, rfl⟩ (by
    have := h ⟨⟨_, hC⟩⟩
    have e : (fun a' => ∀ w', (∃ s : In C, w' = s.w) → Q .normal a' w') = (fun a' => ∀ s : In C, Q .normal a' s.w) := by
      funext a'
      exact propext ⟨fun h s => h _ ⟨s, rfl⟩, fun h w' ⟨s, hs⟩ => by rw [hs]; exact h s⟩
    rw [e]
    simpa using this)
/-- a callee's contract, met in a region that draws its order: it makes memory, no more -/
theorem in_below {f : FuncId} {args : Array Value} {w1 : World} {v : Value} {B : Nat} (s : In (Below B w1)) (hB : B ≤ w1.heap.size)
    (h : Calls P f args s.w fun e w'' => e = .returned v ∧ Below s.w.heap.size s.w w'') : Calls P f args s.w fun e w'' => e = .returned v ∧ ∃ s' : In (Below B w1), w'' = s'.w :=
  h.mono fun _ w'' h => ⟨h.1, ⟨w'', s.h.trans (h.2.mono (Nat.le_trans hB s.h.size))⟩, rfl⟩
end

theorem guard_order : Tryz.prog.eqGuardType Tryz.prog.depth 54 = false := by kernel_rfl
/-- '==' on two such arrays, in a region that draws its order -/
theorem quiet_eql_order {C : World → Prop} {o : Oper} {a : Act} {K : Act → Prop} (x y : Operand) (ho : o.op = .binOp .eql 54 x y 54) (f g : Int → Int → Bool) (b : Bool) (hb : sameG f g = b)
    (hx : a.eval x = .agg (tab2 (bv f))) (hy : a.eval y = .agg (tab2 (bv g))) (h : K (a.put o.dst (.bool b))) : o.quiet Tryz.prog a C K :=
  ⟨_, fun w _ => by
    unfold Oper.quietAt execOp
    simp only [ho, hx, hy, Sem.run_bind, run_eqGuard_agg (P := Tryz.prog) w .eql 54 x y _ _ guard_order, Result.andThen_ok, run_eql_struct, run_equalIn_order, hb, Sem.run_pure]
    exact ⟨rfl, rfl⟩, h⟩
def isOrderB (g : Int → Int → Bool) (n : Int) : Bool := sameG (bothG g) (eqG n) && sameG (twoG g) g

set_option maxRecDepth 100000 in
set_option maxHeartbeats 1000000 in
theorem isOrder_any (g : Int → Int → Bool) (n : Int) (w : World) (n0 : 0 ≤ n) (n6 : n ≤ 6) :
    Calls Tryz.prog 100 #[.agg (tab2 (bv g)), .int .i64 n] w fun e w' => e = .returned (.bool (isOrderB g n)) ∧ Below w.heap.size w w' := by
  have hv := Lib.hid (show isOrderB g n = (sameG (bothG g) (eqG n) && sameG (twoG g) g) from rfl)
  cases hA : sameG (bothG g) (eqG n)
  all_goals
    rw [hA] at hv
    go_enter Tryz.func100, Tryz.ntmps100
    go_wp2
    obtain ⟨w1, hw1⟩ : ∃ w1, w1 = w.alloc (Obj.cells (tab2 (bv g)) 54) := ⟨_, rfl⟩
    rw [← hw1]
    have hb : Blk w1 w.heap.size 54 (bv g) := by rw [hw1]; exact Blk.new w rfl
    have hbel : Below w.heap.size w w1 := by rw [hw1]; exact (Below.refl _ _).alloc (Nat.le_refl _) _
    have hlt := hb.lt
    clear hw1
    refine region_in (Below w1.heap.size w1) (by kernel_rfl) (by kernel_rfl) (Dr.below ⟨1, rfl⟩ _) fun hne => ?_
    repeat (first
      | (go_big_quiet_want; refine quiet_load_row 54 _ rfl w.heap.size rfl _ _ _ _ (fun w' ⟨s, hs⟩ => by rw [hs]; exact (hb.below s.h hlt).heap) Tryz.underlying54 rfl (size_order _) ?_; simp only [Act.put, List.setIfInBounds_toArray, List.set_cons_succ, List.set_cons_zero]; go_big_quiet_on)
      | (go_big_quiet_want; refine quiet_eql_order _ _ rfl (bothG g) (eqG n) _ hA rfl rfl ?_; simp only [Act.put, List.setIfInBounds_toArray, List.set_cons_succ, List.set_cons_zero]; go_big_quiet_on)
      | (go_big_quiet_want; refine quiet_eql_order _ _ rfl (twoG g) g _ rfl rfl rfl ?_; simp only [Act.put, List.setIfInBounds_toArray, List.set_cons_succ, List.set_cons_zero]; go_big_quiet_on)
      | go_big_quiet_step ((first | (go_at_call 134; exact in_below _ (Nat.le_refl _) (bothWays_any _ _)) | (go_at_call 135; exact in_below _ (Nat.le_refl _) (equality_any _ _ n0 n6)) | (go_at_call 136; exact in_below _ (Nat.le_refl _) (inTwoSteps_any _ _)))))
    refine wpQuiet_nil ?_
    intro s
    have hw2 := s.h
    obtain ⟨w2, hw2'⟩ : ∃ w2, w2 = s.w := ⟨_, rfl⟩
    rw [← hw2'] at hw2 ⊢
    go_wp2
    go_ret
    exact ⟨ret_bool hv.out.symm, hbel.trans (hw2.mono (Nat.le_of_lt hlt))⟩
end Go.Proofs.YtpophjloedpcfaaGreatDoor
