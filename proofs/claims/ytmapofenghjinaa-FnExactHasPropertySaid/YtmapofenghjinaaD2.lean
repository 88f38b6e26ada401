import Derived.Test.YtmapofenghjinaaD1
import Derived.Test.YtmapofenghjinaaL3
import Derived.Test.YtmapofenghjinaaH9
namespace Go.Proofs.Ytmapofenghjinaa
open Go.RowKit

/-- The cells of a row of slices: the first k are the rows, the others nil. -/
def slTo (R : Nat → Nat) (T : List (List Int)) (k : Nat) : Array Value :=
  ((List.range T.length).map fun (i : Nat) => if i < k then Value.slice (some ⟨R i, 0, none⟩) (rowAt T i).length (rowAt T i).length else Value.slice none 0 0).toArray
def slA (R : Nat → Nat) (T : List (List Int)) : Array Value := slTo R T T.length
theorem slTo_size (R : Nat → Nat) (T : List (List Int)) (k : Nat) : (slTo R T k).size = T.length := by simp [slTo]
theorem slTo_get (R : Nat → Nat) (T : List (List Int)) (k j : Nat) (h : j < T.length) : (slTo R T k)[j]? = some (if j < k then Value.slice (some ⟨R j, 0, none⟩) (rowAt T j).length (rowAt T j).length else Value.slice none 0 0) := by
  unfold slTo
  rw [List.getElem?_toArray, List.getElem?_map, List.getElem?_range h]
  rfl
theorem slTo_zero (R : Nat → Nat) (T : List (List Int)) : slTo R T 0 = (List.replicate T.length (Value.slice none 0 0)).toArray := by
  apply Array.ext
  · simp [slTo]
  · intro i h1 h2
    simp [slTo]
theorem slTo_set (R : Nat → Nat) (T : List (List Int)) (k b : Nat) : (slTo R T k).setIfInBounds k (.slice (some ⟨b, 0, none⟩) (rowAt T k).length (rowAt T k).length) = slTo (fun i => if i = k then b else R i) T (k + 1) := by
  apply Array.ext
  · simp [slTo]
  · intro i h1 h2
    rw [slTo_size] at h2
    rw [Array.getElem_setIfInBounds (by rw [slTo_size]; exact h2)]
    have a1 : ∀ R k, (slTo R T k)[i]'(by rw [slTo_size]; exact h2) = if i < k then Value.slice (some ⟨R i, 0, none⟩) (rowAt T i).length (rowAt T i).length else Value.slice none 0 0 := fun R k => by simp [slTo]
    rw [a1, a1]
    by_cases e : k = i
    · subst e; rw [if_pos rfl, if_pos (by omega), if_pos rfl]
    · rw [if_neg e]
      by_cases h3 : i < k
      · rw [if_pos h3, if_pos (by omega), if_neg (by omega)]
      · rw [if_neg h3, if_neg (by omega)]
/-- A table of the call's own: the block of its rows' slices, and a block for each row, later ones behind earlier ones. -/
structure TabOwn (w : World) (lo B : Nat) (R : Nat → Nat) (T : List (List Int)) (k : Nat) : Prop where
  top : w.heap[B]? = some (.cells (slTo R T k) 22 (0, 0))
  lo : lo ≤ B
  row : ∀ j, j < k → Row w (R j) (rowAt T j)
  up : ∀ j, j < k → B < R j
  inc : ∀ i j, i < j → j < k → R i < R j
section
variable {w w' : World} {lo B k : Nat} {R : Nat → Nat} {T : List (List Int)}
theorem Row.rowOther {b : Nat} {L : List Int} (h : Row w b L) {G : Nat} (cs : Array Value) (hp : b ≠ G) : Row (w.setRow G cs) b L := by
  unfold Row; rw [setRow_other w G b cs hp]; exact h
theorem TabOwn.lt (h : TabOwn w lo B R T k) : B < w.heap.size := lt_of_block h.top
theorem TabOwn.below (h : TabOwn w lo B R T k) (hb : Below w.heap.size w w') : TabOwn w' lo B R T k :=
  ⟨(hb.block _ h.lt).trans h.top, h.lo, fun j hj => (h.row j hj).below hb (h.row j hj).lt, h.up, h.inc⟩
theorem TabOwn.other (h : TabOwn w lo B R T k) {p : Addr} (hp : p.block < B) (v : Value) : TabOwn (w.setCell p v) lo B R T k :=
  ⟨by rw [heap_setCell_other w p B v (by omega)]; exact h.top, h.lo, fun j hj => (h.row j hj).other v (by have := h.up j hj; omega), h.up, h.inc⟩
theorem TabOwn.rowOther (h : TabOwn w lo B R T k) {G C : Nat} (hp : G < B) (hC : C ≤ lo) (cs : Array Value) : TabOwn (w.setRow G cs) C B R T k :=
  ⟨by rw [setRow_other w G B cs (by omega)]; exact h.top, Nat.le_trans hC h.lo, fun j hj => (h.row j hj).rowOther cs (by have := h.up j hj; omega), h.up, h.inc⟩
theorem TabOwn.rd (h : TabOwn w lo B R T T.length) : RdT w (some ⟨B, 0, none⟩) T := fun _ => ⟨B, 0, rfl, fun j hj => by
  refine ⟨some ⟨R j, 0, none⟩, (rowAt T j).length, ?_, (h.row j hj).rd⟩
  rw [Nat.zero_add, cell_of_row w B j _ _ _ h.top, slTo_get _ _ _ _ hj, if_pos hj]⟩
end
theorem one_sl2 (a b : Option Addr) (n c m d : Nat) : (#[.slice a n c, .slice b m d] : Array Value).all (·.oneCell') = true := by
  refine all_oneCell_toArray (cs := [.slice a n c, .slice b m d]) fun v hv => ?_
  simp only [List.mem_cons, List.not_mem_nil, or_false] at hv
  rcases hv with rfl | rfl <;> rfl
theorem info_ints : (Try.prog.info? 22).map (fun i => (i.zero, i.size, i.bytes)) = some (some (.slice none 0 0), 1, 24) := by kernel_rfl
theorem made_ints (n : Nat) : madeCells #[.slice none 0 0] n = (List.replicate n (Value.slice none 0 0)).toArray := by
  apply Array.ext
  · simp [madeCells]
  · intro i h1 h2
    simp [madeCells, Nat.mod_one]
theorem run_make_rows (n : Nat) (hn : n ≤ 16777216) (w : World) :
    (Instr.makeSlice 23 (.int .i64 n) (.int .i64 n)).run Try.prog w = .ok (.slice (some ⟨w.heap.size, 0, none⟩) n n) (w.alloc (.cells (List.replicate n (Value.slice none 0 0)).toArray 22)) := by
  obtain ⟨i0, hi, hz0, hz1, hz2⟩ := info_parts info_ints
  have := run_make (P := Try.prog) w 23 22 i0 (.slice none 0 0) Try.underlying23 hi hz0 .i64 .i64 n n (by omega) (Int.le_refl _) (by rw [hz2]; omega) (by omega)
  rw [this, hz1]
  simp [Value.cells, made_ints]

set_option maxRecDepth 100000 in
set_option maxHeartbeats 2000000 in
/-- laws.toIntSS: a copy in new memory -/
theorem toIntSS_any (b : Option Addr) (c : Nat) (T : List (List Int)) (w : World) (hT : RdT w b T) (hn : T.length ≤ 1048576) (hm : ∀ j : Nat, j < T.length → (rowAt T j).length ≤ 1048576) :
    Calls Try.prog 52 #[.slice b T.length c] w fun e w' => e = .returned (.slice (some ⟨w.heap.size, 0, none⟩) T.length T.length) ∧ (∃ R, TabOwn w' w.heap.size w.heap.size R T T.length) ∧ Below w.heap.size w w' := by
  have hmk := run_make_rows T.length (by omega)
  have HT := Lib.hid hT
  have HM := Lib.hid hm
  clear hT hm
  go_enter Try.func52, Try.ntmps52
  go_wp2
  clear hmk
  go_loopw [4] (fun i wr => ∃ k : Int, 0 ≤ k ∧ k ≤ T.length ∧ i = .int .i64 k ∧ (∃ R, TabOwn wr w.heap.size w.heap.size R T k.toNat) ∧ Below w.heap.size w wr) (fun i _ => ((T.length : Int) - intOf i).toNat)
  case atStart => exact ⟨0, by omega, by omega, rfl, ⟨fun _ => 0, by rw [show (0 : Int).toNat = 0 from rfl, slTo_zero]; exact heap_alloc_new w _, Nat.le_refl _, fun j hj => absurd hj (by omega), fun j hj => absurd hj (by omega), fun i j _ hj => absurd hj (by omega)⟩, (Below.refl _ _).alloc (Nat.le_refl _) _⟩
  case round =>
    obtain ⟨k, k0, k1, rfl, ⟨R, hown⟩, hbel⟩ := hrel
    by_cases hk : k < T.length
    · obtain ⟨B, off, rfl, hc⟩ := (HT.out) (by intro e; rw [e] at hk; simp at hk; omega)
      obtain ⟨ra, rc, d0, r0⟩ := RdT.row hc k0 hk
      have d1 : wr.cell? ⟨B, off + k.toNat, none⟩ = some (.slice ra (rowAt T k).length rc) := by rw [hbel.cell (by exact block_lt_of_cell d0)]; exact d0
      have hm2 := HM.out k.toNat (by omega)
      rw [Int.toNat_of_nonneg k0] at hm2
      have R0 := Lib.hid (r0.below hbel)
      have hset := Lib.hid (slTo_set R T k.toNat wr.heap.size)
      clear hc d0 r0
      go_wp2_with (go_at_call 21; refine (toIntS_any _ _ (rowAt T k) _ R0.out hm2).mono ?_; rintro e w5 ⟨rfl, hrow, hb5⟩; have own5 := hown.below hb5; have cc : w5.cell? ⟨w.heap.size, k.toNat, none⟩ = some (.slice none 0 0) := (by rw [cell_of_row w5 _ _ _ _ _ own5.top, slTo_get _ _ _ _ (by omega), if_neg (by omega)]); have ff : w5.frozen? ⟨w.heap.size, k.toNat, none⟩ = false := frozen_of_row w5 _ _ _ _ own5.top)
      go_roundw
      case rel =>
        refine ⟨k + 1, by omega, by omega, rfl, ⟨fun i => if i = k.toNat then wr.heap.size else R i, ?_⟩, (hbel.trans (hb5.mono hbel.size)).setCell (by simp) _⟩
        have hzz := hown.lt
        have ek : (k + 1).toNat = k.toNat + 1 := by omega
        have er : rowAt T ((k.toNat : Nat) : Int) = rowAt T k := by rw [Int.toNat_of_nonneg k0]
        rw [ek]
        refine ⟨?_, Nat.le_refl _, fun j hj => ?_, fun j hj => ?_, fun i j hij hj => ?_⟩
        · rw [setCell_eq_setRow w5 _ _ _ _ _ _ own5.top, setRow_heap w5 _ _ _ _ _ own5.top]
          have := hset.out
          rw [er] at this
          rw [this]
        · show Row _ (if j = k.toNat then wr.heap.size else R j) (rowAt T j)
          by_cases e : j = k.toNat
          · rw [if_pos e, e, er]; exact hrow.other _ (by simp; omega)
          · rw [if_neg e]; exact (own5.row j (by omega)).other _ (by have := hown.up j (by omega); simp; omega)
        · show w.heap.size < (if j = k.toNat then wr.heap.size else R j)
          by_cases e : j = k.toNat
          · rw [if_pos e]; omega
          · rw [if_neg e]; exact hown.up j (by omega)
        · show (if i = k.toNat then wr.heap.size else R i) < (if j = k.toNat then wr.heap.size else R j)
          rw [if_neg (by omega)]
          by_cases e : j = k.toNat
          · rw [if_pos e]; exact (hown.row i (by omega)).lt
          · rw [if_neg e]; exact hown.inc i j hij (by omega)
      case measure => simp [intOf]; omega
    · have e : k.toNat = T.length := by omega
      rw [e] at hown
      go_wp2
      go_ret
      exact ⟨rfl, ⟨R, hown⟩, hbel⟩

set_option maxRecDepth 100000 in
set_option maxHeartbeats 2000000 in
/-- laws.toAlgebra: a copy in new memory -/
theorem toAlgebra_any (a b : Option Addr) (ca cb : Nat) (L : List Int) (T : List (List Int)) (w : World) (hr : Rd w a L) (hT : RdT w b T) (hL : L.length ≤ 1048576) (hn : T.length ≤ 1048576) (hm : ∀ j : Nat, j < T.length → (rowAt T j).length ≤ 1048576) :
    Calls Try.prog 17 #[.agg #[.slice a L.length ca, .slice b T.length cb]] w fun e w' => ∃ bu B R, e = .returned (.agg #[.slice (some ⟨bu, 0, none⟩) L.length L.length, .slice (some ⟨B, 0, none⟩) T.length T.length]) ∧ w.heap.size ≤ bu ∧ bu < B ∧ Row w' bu L ∧ TabOwn w' w.heap.size B R T T.length ∧ Below w.heap.size w w' := by
  obtain ⟨w1, hw1⟩ : ∃ w1, w1 = ((w.alloc (.cells #[.slice a L.length ca, .slice b T.length cb] 25)).alloc (.cells #[.slice none 0 0, .slice none 0 0] 28)).alloc (.cells #[.slice none 0 0, .slice none 0 0] 28) := ⟨_, rfl⟩
  have hB : Below w.heap.size w w1 := by rw [hw1]; exact (((Below.refl _ _).alloc (Nat.le_refl _) _).alloc (by simp) _).alloc (by simp; omega) _
  have hx : w1.heap[w.heap.size]? = some (.cells #[.slice a L.length ca, .slice b T.length cb] 25 (0, 0)) := by
    rw [hw1, Below.heap_alloc _ _ _ (by simp; omega), Below.heap_alloc _ _ _ (by simp)]; exact heap_alloc_new w _
  have hy : w1.heap[w.heap.size + 1]? = some (.cells #[.slice none 0 0, .slice none 0 0] 28 (0, 0)) := by
    rw [hw1, Below.heap_alloc _ _ _ (by simp)]; exact heap_alloc2_new _ _ _
  have hz : w1.heap[w.heap.size + 1 + 1]? = some (.cells #[.slice none 0 0, .slice none 0 0] 28 (0, 0)) := by
    have := heap_alloc_new ((w.alloc (.cells #[.slice a L.length ca, .slice b T.length cb] 25)).alloc (.cells #[.slice none 0 0, .slice none 0 0] 28)) (.cells #[.slice none 0 0, .slice none 0 0] 28)
    rw [hw1]; simpa using this
  obtain ⟨c0, c1⟩ := bxL_cells hx
  have R1 := Lib.hid (hr.below hB)
  have HT0 := Lib.hid hT
  have HM := Lib.hid hm
  have hsz : w.heap.size + 1 + 1 < w1.heap.size := lt_of_block hz
  have hlw := hB.size
  clear hr hT hm
  go_enter Try.func17, Try.ntmps17
  go_wp2_with (first
    | (rw [← hw1]; clear hw1)
    | (go_at_call 21; refine (toIntS_any _ _ L _ R1.out hL).mono ?_; rintro e w2 ⟨rfl, hrow, hb2⟩; obtain ⟨bu, hbu⟩ : ∃ bu, bu = w1.heap.size := ⟨_, rfl⟩; rw [← hbu] at hrow ⊢; have hbl : w1.heap.size ≤ bu := Nat.le_of_eq hbu.symm; clear hbu; have x2 := (hb2.block _ (lt_of_block hx)).trans hx; have y2 := (hb2.block _ (lt_of_block hy)).trans hy; have z2 := (hb2.block _ (lt_of_block hz)).trans hz; have B2 : Below w.heap.size w w2 := hB.trans (hb2.mono hB.size); clear hx hy hz c0 c1; obtain ⟨c0, c1⟩ := bxL_cells x2; obtain ⟨d0, d1⟩ := bx_cells z2; have g0 := frozen_of_row w2 _ 0 _ _ z2)
    | (obtain ⟨w3, hw3⟩ : ∃ w3, w3 = w2.setCell ⟨w.heap.size + 1 + 1, 0, none⟩ (.slice (some ⟨bu, 0, none⟩) L.length L.length) := ⟨_, rfl⟩; rw [← hw3]; have z3 : w3.heap[w.heap.size + 1 + 1]? = some (.cells #[.slice (some ⟨bu, 0, none⟩) L.length L.length, .slice none 0 0] 28 (0, 0)) := (by rw [hw3, setCell_eq_setRow _ _ _ _ _ _ _ z2]; exact setRow_heap _ _ _ _ _ _ z2); have y3 : w3.heap[w.heap.size + 1]? = some (.cells #[.slice none 0 0, .slice none 0 0] 28 (0, 0)) := (by rw [hw3, heap_setCell_other _ _ _ _ (by simp)]; exact y2); have x3 : w3.heap[w.heap.size]? = some (.cells #[.slice a L.length ca, .slice b T.length cb] 25 (0, 0)) := (by rw [hw3, heap_setCell_other _ _ _ _ (by simp; omega)]; exact x2); have r3 : Row w3 bu L := (by rw [hw3]; exact hrow.other _ (by simp; omega)); have B3 : Below w.heap.size w w3 := (by rw [hw3]; exact B2.setCell (by simp; omega) _); clear hw3 c0 c1 d0 d1 g0 x2 y2 z2; have c1 := (bxL_cells x3).2; have T3 := Lib.hid (HT0.out.below B3))
    | (go_at_call 52; refine (toIntSS_any _ _ T _ T3.out hn HM.out).mono ?_; rintro e w4 ⟨rfl, ⟨R, hown⟩, hb4⟩; obtain ⟨Bt, hBt⟩ : ∃ Bt, Bt = w3.heap.size := ⟨_, rfl⟩; rw [← hBt] at hown ⊢; have hbt : bu < Bt := (by rw [hBt]; exact r3.lt); have z4 := (hb4.block _ (lt_of_block z3)).trans z3; have y4 := (hb4.block _ (lt_of_block y3)).trans y3; have r4 := r3.below hb4 r3.lt; have B4 : Below w.heap.size w w4 := B3.trans (hb4.mono B3.size); have hlb : w.heap.size + 1 + 1 < Bt := (by rw [hBt]; exact lt_of_block z3); clear hBt; have d1 := (bx_cells z4).2; have g1 := frozen_of_row w4 _ 1 _ _ z4)
    | (obtain ⟨w5, hw5⟩ : ∃ w5, w5 = w4.setCell ⟨w.heap.size + 1 + 1, 1, none⟩ (.slice (some ⟨Bt, 0, none⟩) T.length T.length) := ⟨_, rfl⟩; rw [← hw5]; have z5 : w5.heap[w.heap.size + 1 + 1]? = some (.cells #[.slice (some ⟨bu, 0, none⟩) L.length L.length, .slice (some ⟨Bt, 0, none⟩) T.length T.length] 28 (0, 0)) := (by rw [hw5, setCell_eq_setRow _ _ _ _ _ _ _ z4]; exact setRow_heap _ _ _ _ _ _ z4); have y5 : w5.heap[w.heap.size + 1]? = some (.cells #[.slice none 0 0, .slice none 0 0] 28 (0, 0)) := (by rw [hw5, heap_setCell_other _ _ _ _ (by simp)]; exact y4); have r5 : Row w5 bu L := (by rw [hw5]; exact r4.other _ (by simp; omega)); have o5 : TabOwn w5 Bt Bt R T T.length := (by rw [hw5]; exact hown.other (by simp; omega) _); have B5 : Below w.heap.size w w5 := (by rw [hw5]; exact B4.setCell (by simp; omega) _); clear hw5 d1 g1)
    | (refine wpList_load_row_w rfl 28 _ rfl (w.heap.size + 1 + 1) rfl _ _ _ _ z5 Try.underlying28 rfl (size_Alg _ _) ?_)
    | (refine wpList_store_row rfl 28 _ _ rfl (w.heap.size + 1) #[.slice (some ⟨bu, 0, none⟩) L.length L.length, .slice (some ⟨Bt, 0, none⟩) T.length T.length] rfl rfl _ _ y5 (size_Alg _ _) rfl (one_sl2 _ _ _ _ _ _) ?_))
  refine bodyPost_ret (results_cell_row rfl _ _ (w.heap.size + 1) _ _ _ _ rfl (setRow_heap _ _ _ _ _ _ y5) Try.underlying28 rfl (size_Alg _ _)) rfl ?_
  exact ⟨bu, Bt, R, rfl, by omega, hbt, r5.rowOther _ (by omega), o5.rowOther (by omega) (by omega) _, below_setRow' B5 (by omega) _⟩
end Go.Proofs.Ytmapofenghjinaa
