import Derived.Test.YtbellklaoecpbaaA4
namespace Go.Proofs.Ytbellklaoecpbaa
open Go.RowKit

/-- The cells of a row of ints. -/
def IL (L : List Int) : Array Value := (L.map fun x => Value.int .i64 x).toArray
theorem IL_size (L : List Int) : (IL L).size = L.length := by simp [IL]
theorem IL_get (L : List Int) (j : Nat) (h : j < L.length) : (IL L)[j]? = some (.int .i64 (nth L j)) := by
  unfold IL nth
  rw [List.getElem?_toArray, List.getElem?_map, List.getElem?_eq_getElem h]
  simp [h]
theorem IL_set (L : List Int) (j : Nat) (v : Int) : (IL L).setIfInBounds j (.int .i64 v) = IL (L.set j v) := by
  unfold IL
  rw [List.setIfInBounds_toArray, List.map_set]
/-- Block b is a row of ints. -/
def Row (w : World) (b : Nat) (L : List Int) : Prop := w.heap[b]? = some (.cells (IL L) 3 (0, 0))
section
variable {w : World} {b : Nat} {L : List Int}
theorem Row.lt (h : Row w b L) : b < w.heap.size := lt_of_block h
theorem Row.cells (h : Row w b L) : Cells w b 0 L := fun j hj => by
  rw [Nat.zero_add, cell_of_row w b j _ _ _ h]; exact IL_get L j hj
theorem Row.cell (h : Row w b L) {x : Int} (h0 : 0 ≤ x) (h1 : x < L.length) : w.cell? ⟨b, x.toNat, none⟩ = some (.int .i64 (nth L x)) := by
  have := h.cells.at x h0 h1; rwa [Nat.zero_add] at this
theorem Row.free (h : Row w b L) (j : Nat) : w.frozen? ⟨b, j, none⟩ = false := frozen_of_row w b j _ _ h
theorem Row.set (h : Row w b L) (j : Nat) (v : Int) : Row (w.setCell ⟨b, j, none⟩ (.int .i64 v)) b (L.set j v) := by
  rw [setCell_eq_setRow w b _ _ _ _ _ h, IL_set]
  exact setRow_heap w b _ _ _ _ h
theorem Row.other (h : Row w b L) {p : Addr} (v : Value) (hp : b ≠ p.block) : Row (w.setCell p v) b L := by
  unfold Row; rw [heap_setCell_other w p b v hp]; exact h
theorem Row.below (h : Row w b L) {w' : World} {C : Nat} (hb : Below C w w') (hB : b < C) : Row w' b L := by
  unfold Row; rw [hb.block b hB]; exact h
theorem Row.alloc (h : Row w b L) (o : Obj) : Row (w.alloc o) b L := by
  unfold Row; rw [Below.heap_alloc w o b h.lt]; exact h
theorem Row.dr (h : Row w b L) {w' : World} (hd : Dr w w') : Row w' b L := by obtain ⟨n, rfl⟩ := hd; exact h
theorem Row.rd (h : Row w b L) : Rd w (some ⟨b, 0, none⟩) L := fun _ => ⟨b, 0, rfl, h.cells⟩
end
theorem Rd.below {w w' : World} {a : Option Addr} {L : List Int} (h : Rd w a L) (hb : Below w.heap.size w w') : Rd w' a L := fun hl => by
  obtain ⟨b, off, ha, hc⟩ := h hl
  refine ⟨b, off, ha, fun j hj => ?_⟩
  have := hc j hj
  rw [hb.cell (block_lt_of_cell this)]; exact this
theorem info_int : (Try.prog.info? 3).map (fun i => (i.zero, i.size, i.bytes)) = some (some (.int .i64 0), 1, 8) := by kernel_rfl
theorem made_int (n : Nat) : madeCells #[.int .i64 0] n = IL (List.replicate n 0) := by
  apply Array.ext
  · simp [madeCells, IL]
  · intro i h1 h2
    simp [madeCells, IL, Nat.mod_one]
theorem run_make_ints (n : Nat) (hn : n ≤ 1073741824) (w : World) :
    (Instr.makeSlice 23 (.int .i64 n) (.int .i64 n)).run Try.prog w = .ok (.slice (some ⟨w.heap.size, 0, none⟩) n n) (w.alloc (.cells (IL (List.replicate n 0)) 3)) := by
  obtain ⟨i0, hi, hz0, hz1, hz2⟩ := info_parts info_int
  have := run_make (P := Try.prog) w 23 3 i0 (.int .i64 0) Try.underlying23 hi hz0 .i64 .i64 n n (by omega) (Int.le_refl _) (by rw [hz2]; omega) (by omega)
  rw [this, hz1]
  simp [Value.cells, made_int]
/-- the first k numbers of a list, and zeros -/
def mixL (L : List Int) (k : Nat) : List Int := L.take k ++ List.replicate (L.length - k) 0
theorem mixL_len (L : List Int) (k : Nat) (h : k ≤ L.length) : (mixL L k).length = L.length := by simp [mixL]; omega
theorem mixL_set (L : List Int) (k : Nat) (h : k < L.length) : (mixL L k).set k (nth L k) = mixL L (k + 1) := by
  apply List.ext_getElem
  · rw [List.length_set, mixL_len _ _ (by omega), mixL_len _ _ (by omega)]
  · intro i h1 h2
    rw [List.length_set, mixL_len _ _ (by omega)] at h1
    rw [List.getElem_set]
    by_cases e : k = i
    · subst e; rw [if_pos rfl]; simp [mixL, nth, List.getElem_append, h]; intro h; omega
    · rw [if_neg e]
      by_cases h3 : i < k
      · simp only [mixL, List.getElem_append, List.length_take, List.getElem_take, List.getElem_replicate]; rw [dif_pos (by omega), dif_pos (by omega)]
      · simp only [mixL, List.getElem_append, List.length_take, List.getElem_take, List.getElem_replicate]; rw [dif_neg (by omega), dif_neg (by omega)]
theorem mixL_all (L : List Int) (k : Nat) (h : L.length ≤ k) : mixL L k = L := by simp [mixL, List.take_of_length_le h, show L.length - k = 0 by omega]

def eqL (A B : List Int) : Bool := decide (A = B)
theorem nth_ext {A B : List Int} (h : A.length = B.length) (hk : ∀ j : Int, 0 ≤ j → j < A.length → nth A j = nth B j) : A = B := by
  apply List.ext_getElem h
  intro i h1 h2
  have := hk i (by omega) (by omega)
  unfold nth at this
  simpa [h1, h2] using this
end Go.Proofs.Ytbellklaoecpbaa
