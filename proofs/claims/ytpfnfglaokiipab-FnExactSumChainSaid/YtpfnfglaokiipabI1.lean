import Derived.Test.YtpfnfglaokiipabA1
import Derived.Deep.MidRow
import Derived.DeepKeys
namespace Go.Proofs.Ytpfnfglaokiipab
open Go.RowKit

/-- The cells of an array of six times six. -/
def tab2 (f : Int → Int → Value) : Array Value := ((List.range 36).map fun (i : Nat) => f ((i / 6 : Nat) : Int) ((i % 6 : Nat) : Int)).toArray
theorem tab2_size (f : Int → Int → Value) : (tab2 f).size = 36 := by simp [tab2]
theorem tab2_get (f : Int → Int → Value) {x y : Int} (x0 : 0 ≤ x) (x1 : x < 6) (y0 : 0 ≤ y) (y1 : y < 6) : (tab2 f)[x.toNat * 6 + y.toNat]? = some (f x y) := by
  have hi : x.toNat * 6 + y.toNat < 36 := by omega
  have h1 : (((x.toNat * 6 + y.toNat) / 6 : Nat) : Int) = x := by omega
  have h2 : (((x.toNat * 6 + y.toNat) % 6 : Nat) : Int) = y := by omega
  unfold tab2
  rw [List.getElem?_toArray, List.getElem?_map, List.getElem?_range hi]
  simp only [Option.map_some, h1, h2]
/-- The table with one cell changed. -/
def upd2 (f : Int → Int → Value) (x y : Int) (v : Value) : Int → Int → Value := fun a b => if a = x ∧ b = y then v else f a b
theorem tab2_congr {f g : Int → Int → Value} (h : ∀ a b, 0 ≤ a → a < 6 → 0 ≤ b → b < 6 → f a b = g a b) : tab2 f = tab2 g := by
  unfold tab2
  congr 1
  refine List.map_congr_left fun i hi => ?_
  have := List.mem_range.1 hi
  exact h _ _ (by omega) (by omega) (by omega) (by omega)
theorem tab2_set (f : Int → Int → Value) {x y : Int} (v : Value) (x0 : 0 ≤ x) (x1 : x < 6) (y0 : 0 ≤ y) (y1 : y < 6) : (tab2 f).setIfInBounds (x.toNat * 6 + y.toNat) v = tab2 (upd2 f x y v) := by
  apply Array.ext
  · simp [tab2]
  · intro i h1 h2
    rw [tab2_size] at h2
    rw [Array.getElem_setIfInBounds (by rw [tab2_size]; exact h2)]
    have a1 : ∀ g : Int → Int → Value, (tab2 g)[i]'(by rw [tab2_size]; exact h2) = g ((i / 6 : Nat) : Int) ((i % 6 : Nat) : Int) := fun g => by simp [tab2]
    rw [a1, a1]
    unfold upd2
    by_cases e : x.toNat * 6 + y.toNat = i
    · rw [if_pos e, if_pos (by omega)]
    · rw [if_neg e, if_neg (by omega)]
/-- Block B holds such an array. -/
def Blk (w : World) (B : Nat) (T : TypeId) (f : Int → Int → Value) : Prop := w.heap[B]? = some (.cells (tab2 f) T (0, 0))
section
variable {w : World} {B : Nat} {T : TypeId} {f : Int → Int → Value}
theorem Blk.of {arr : Array Value} (h : w.heap[B]? = some (.cells arr T (0, 0))) (ha : arr = tab2 f) : Blk w B T f := by rw [ha] at h; exact h
theorem Blk.heap (h : Blk w B T f) : w.heap[B]? = some (.cells (tab2 f) T (0, 0)) := h
theorem Blk.lt (h : Blk w B T f) : B < w.heap.size := lt_of_block h.heap
theorem Blk.cell (h : Blk w B T f) {x y : Int} (x0 : 0 ≤ x) (x1 : x < 6) (y0 : 0 ≤ y) (y1 : y < 6) : w.cell? ⟨B, x.toNat * 6 + y.toNat, none⟩ = some (f x y) := by
  rw [cell_of_row w B _ _ _ _ h.heap]; exact tab2_get f x0 x1 y0 y1
theorem Blk.free (h : Blk w B T f) (j : Nat) : w.frozen? ⟨B, j, none⟩ = false := frozen_of_row w B j _ _ h.heap
theorem Blk.set (h : Blk w B T f) {x y : Int} (v : Value) (x0 : 0 ≤ x) (x1 : x < 6) (y0 : 0 ≤ y) (y1 : y < 6) : Blk (w.setCell ⟨B, x.toNat * 6 + y.toNat, none⟩ v) B T (upd2 f x y v) := by
  rw [setCell_eq_setRow w B _ _ _ _ v h.heap, tab2_set f v x0 x1 y0 y1]
  exact setRow_heap w B _ _ _ _ h.heap
theorem Blk.other (h : Blk w B T f) {p : Addr} (v : Value) (hp : B ≠ p.block) : Blk (w.setCell p v) B T f := by
  unfold Blk; rw [heap_setCell_other w p B v hp]; exact h
theorem Blk.row (h : Blk w B T f) (g : Int → Int → Value) : Blk (w.setRow B (tab2 g)) B T g := setRow_heap w B _ _ _ _ h.heap
theorem Blk.rowOther (h : Blk w B T f) {G : Nat} (cs : Array Value) (hp : B ≠ G) : Blk (w.setRow G cs) B T f := by
  unfold Blk; rw [setRow_other w G B cs hp]; exact h
theorem Blk.congr (h : Blk w B T f) {g : Int → Int → Value} (hg : ∀ a b, 0 ≤ a → a < 6 → 0 ≤ b → b < 6 → f a b = g a b) : Blk w B T g := by
  unfold Blk; rw [← tab2_congr hg]; exact h
theorem Blk.alloc (h : Blk w B T f) (o : Obj) : Blk (w.alloc o) B T f := by
  unfold Blk; rw [Below.heap_alloc w o B h.lt]; exact h
theorem Blk.drew (h : Blk w B T f) : Blk w.drew B T f := h
theorem Blk.drewN (h : Blk w B T f) (n : Nat) : Blk (w.drewN n) B T f := h
theorem Blk.dr (h : Blk w B T f) {w' : World} (hd : Dr w w') : Blk w' B T f := by obtain ⟨n, rfl⟩ := hd; exact h
theorem Blk.below (h : Blk w B T f) {w' : World} {C : Nat} (hb : Below C w w') (hB : B < C) : Blk w' B T f := by
  unfold Blk; rw [hb.block B hB]; exact h
theorem Blk.new (w : World) {arr : Array Value} (ha : arr = tab2 f) : Blk (w.alloc (.cells arr T)) w.heap.size T f := .of (heap_alloc_new w _) ha
theorem Blk.mk' {n : Nat} {arr : Array Value} (hn : n = w.heap.size) (ha : arr = tab2 f) : Blk (w.alloc (.cells arr T)) n T f := by subst hn; exact Blk.new w ha
end
/-- an array of tests, one of numbers -/
def bv (g : Int → Int → Bool) : Int → Int → Value := fun x y => .bool (g x y)
def iv (g : Int → Int → Int) : Int → Int → Value := fun x y => .int .i64 (g x y)
theorem one_bv (g : Int → Int → Bool) : (tab2 (bv g)).all (·.oneCell') = true := by
  refine all_oneCell_toArray fun v hv => ?_
  obtain ⟨i, _, rfl⟩ := List.mem_map.1 hv
  rfl
theorem one_iv (g : Int → Int → Int) : (tab2 (iv g)).all (·.oneCell') = true := by
  refine all_oneCell_toArray fun v hv => ?_
  obtain ⟨i, _, rfl⟩ := List.mem_map.1 hv
  rfl
theorem info_order : (Try.prog.info? 55).map (·.size) = some 36 := by kernel_rfl
theorem info_table : (Try.prog.info? 58).map (·.size) = some 36 := by kernel_rfl
theorem size_order (f : Int → Int → Value) : (Try.prog.info? 55).map (·.size) = some (tab2 f).size := by rw [tab2_size]; exact info_order
theorem size_table (f : Int → Int → Value) : (Try.prog.info? 58).map (·.size) = some (tab2 f).size := by rw [tab2_size]; exact info_table
theorem below_setRow' {C G : Nat} {w0 w : World} (hb : Below C w0 w) (h : C ≤ G) (cs : Array Value) : Below C w0 (w.setRow G cs) :=
  ⟨hb.os, hb.tape, hb.output, by rw [setRow_size]; exact hb.size, fun k hk => by rw [setRow_other w G k cs (by omega)]; exact hb.block k hk⟩

/-- each element at least itself alone -/
def eqG (n : Int) (a b : Int) : Bool := decide (a < n) && decide (a = b)

set_option maxRecDepth 100000 in
set_option maxHeartbeats 400000 in
theorem equality_any (n : Int) (w : World) (n0 : 0 ≤ n) (n6 : n ≤ 6) :
    Calls Try.prog 119 #[.int .i64 n] w fun e w' => e = .returned (.agg (tab2 (bv (eqG n)))) ∧ Below w.heap.size w w' := by
  go_enter Try.func119, Try.ntmps119
  go_wp2
  go_loopw [4, 6] (fun _ c wr => ∃ k : Int, 0 ≤ k ∧ k ≤ n ∧ c = .int .i64 k ∧ Blk wr (w.heap.size + 1) 55 (bv (eqG k)) ∧ Blk wr w.heap.size 55 (bv fun _ _ => false) ∧ Below w.heap.size w wr)
    (fun _ c _ => (6 - intOf c).toNat)
  case atStart =>
    refine ⟨0, by omega, by omega, rfl, .of (heap_alloc2_new _ _ _) ?_, (Blk.new w ?_).alloc _, ((Below.refl _ _).alloc (Nat.le_refl _) _).alloc (by simp) _⟩
    · rfl
    · rfl
  case round =>
    obtain ⟨k, k0, k1, rfl, hb, hb0, hbel⟩ := hrel
    by_cases hk : k < n
    · have hc := hb.cell k0 (by omega : k < 6) k0 (by omega : k < 6)
      have hf := hb.free (k.toNat * 6 + k.toNat)
      go_wp2
      go_roundw
      case rel =>
        refine ⟨k + 1, by omega, by omega, rfl, (hb.set _ k0 (by omega) k0 (by omega)).congr ?_, hb0.other _ (by simp), hbel.setCell (by simp) _⟩
        intro a b a0 a1 b0 b1
        unfold upd2 bv eqG
        by_cases e : a = k ∧ b = k
        · rw [if_pos e]; congr 1; simp; omega
        · rw [if_neg e]; congr 1; rw [Bool.eq_iff_iff]; simp; omega
      case measure => simp [intOf]; omega
    · have e : k = n := by omega
      subst e
      go_wp2_with (first | (refine wpList_load_row rfl 55 _ rfl (w.heap.size + 1) rfl _ _ _ _ hb.heap Try.underlying55 rfl (size_order _) ?_) | (refine wpList_store_row rfl 55 _ _ rfl w.heap.size _ rfl rfl _ _ hb0.heap (size_order _) rfl (one_bv _) ?_))
      refine bodyPost_ret (results_cell_row rfl _ _ w.heap.size _ _ _ _ rfl (hb0.row _).heap Try.underlying55 rfl (size_order _)) rfl ⟨rfl, below_setRow' hbel (Nat.le_refl _) _⟩
end Go.Proofs.Ytpfnfglaokiipab
