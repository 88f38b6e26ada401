import Derived.Test.YtbellklaoecpbabA4
namespace Go.Proofs.Ytbellklaoecpbab
open Go.RowKit

/-- The cells of a row of ints. -/
def IL (L : List Int) : Array Value := (L.map fun x => Value.int .i64 x).toArray
theorem IL_size (L : List Int) : (IL L).size = L.length := by simp [IL]
theorem IL_get (L : List Int) (j : Nat) (h : j < L.length) : (IL L)[j]? = some (.int .i64 (nth L j)) := by
  unfold IL nth
  rw [List.getElem?_toArray, List.getElem?_map, List.getElem?_eq_getElem h]
  simp [h]
theorem IL_set (L : List Int) (j : Nat) (v : Int) : (IL L).setIfInBounds j (.int .i64 v) = IL (L.set j v) := by
  unfold IL
  rw [List.setIfInBounds_toArray, List.map_set]
/-- Block b is a row of ints. -/
def Row (w : World) (b : Nat) (L : List Int) : Prop := w.heap[b]? = some (.cells (IL L) 3 (0, 0))
section
variable {w : World} {b : Nat} {L : List Int}
theorem Row.lt (h : Row w b L) : b < w.heap.size := lt_of_block h
theorem Row.cells (h : Row w b L) : Cells w b 0 L := fun j hj => by
  rw [Nat.zero_add, cell_of_row w b j _ _ _ h]; exact IL_get L j hj
theorem Row.cell (h : Row w b L) {x : Int} (h0 : 0 ≤ x) (h1 : x < L.length) : w.cell? ⟨b, x.toNat, none⟩ = some (.int .i64 (nth L x)) := by
  have := h.cells.at x h0 h1; rwa [Nat.zero_add] at this
theorem Row.free (h : Row w b L) (j : Nat) : w.frozen? ⟨b, j, none⟩ = false := frozen_of_row w b j _ _ h
theorem Row.set (h : Row w b L) (j : Nat) (v : Int) : Row (w.setCell ⟨b, j, none⟩ (.int .i64 v)) b (L.set j v) := by
  rw [setCell_eq_setRow w b _ _ _ _ _ h, IL_set]
  exact setRow_heap w b _ _ _ _ h
theorem Row.other (h : Row w b L) {p : Addr} (v : Value) (hp : b ≠ p.block) : Row (w.setCell p v) b L := by
  unfold Row; rw [heap_setCell_other w p b v hp]; exact h
theorem Row.below (h : Row w b L) {w' : World} {C : Nat} (hb : Below C w w') (hB : b < C) : Row w' b L := by
  unfold Row; rw [hb.block b hB]; exact h
theorem Row.alloc (h : Row w b L) (o : Obj) : Row (w.alloc o) b L := by
  unfold Row; rw [Below.heap_alloc w o b h.lt]; exact h
theorem Row.dr (h : Row w b L) {w' : World} (hd : Dr w w') : Row w' b L := by obtain ⟨n, rfl⟩ := hd; exact h
theorem Row.rd (h : Row w b L) : Rd w (some ⟨b, 0, none⟩) L := fun _ => ⟨b, 0, rfl, h.cells⟩
end
theorem Rd.below {w w' : World} {a : Option Addr} {L : List Int} (h : Rd w a L) (hb : Below w.heap.size w w') : Rd w' a L := fun hl => by
  obtain ⟨b, off, ha, hc⟩ := h hl
  refine ⟨b, off, ha, fun j hj => ?_⟩
  have := hc j hj
  rw [hb.cell (block_lt_of_cell this)]; exact this
theorem info_int : (Try.prog.info? 3).map (fun i => (i.zero, i.size, i.bytes)) = some (some (.int .i64 0), 1, 8) := by kernel_rfl
theorem made_int (n : Nat) : madeCells #[.int .i64 0] n = IL (List.replicate n 0) := by
  apply Array.ext
  · simp [madeCells, IL]
  · intro i h1 h2
    simp [madeCells, IL, Nat.mod_one]
theorem run_make_ints (n : Nat) (hn : n ≤ 1073741824) (w : World) :
    (Instr.makeSlice 22 (.int .i64 n) (.int .i64 n)).run Try.prog w = .ok (.slice (some ⟨w.heap.size, 0, none⟩) n n) (w.alloc (.cells (IL (List.replicate n 0)) 3)) := by
  obtain ⟨i0, hi, hz0, hz1, hz2⟩ := info_parts info_int
  have := run_make (P := Try.prog) w 22 3 i0 (.int .i64 0) Try.underlying22 hi hz0 .i64 .i64 n n (by omega) (Int.le_refl _) (by rw [hz2]; omega) (by omega)
  rw [this, hz1]
  simp [Value.cells, made_int]
/-- the first k numbers of a list, and zeros -/
def mixL (L : List Int) (k : Nat) : List Int := L.take k ++ List.replicate (L.length - k) 0
theorem mixL_len (L : List Int) (k : Nat) (h : k ≤ L.length) : (mixL L k).length = L.length := by simp [mixL]; omega
theorem mixL_set (L : List Int) (k : Nat) (h : k < L.length) : (mixL L k).set k (nth L k) = mixL L (k + 1) := by
  apply List.ext_getElem
  · rw [List.length_set, mixL_len _ _ (by omega), mixL_len _ _ (by omega)]
  · intro i h1 h2
    rw [List.length_set, mixL_len _ _ (by omega)] at h1
    rw [List.getElem_set]
    by_cases e : k = i
    · subst e; rw [if_pos rfl]; simp [mixL, nth, List.getElem_append, h]; intro h; omega
    · rw [if_neg e]
      by_cases h3 : i < k
      · simp only [mixL, List.getElem_append, List.length_take, List.getElem_take, List.getElem_replicate]; rw [dif_pos (by omega), dif_pos (by omega)]
      · simp only [mixL, List.getElem_append, List.length_take, List.getElem_take, List.getElem_replicate]; rw [dif_neg (by omega), dif_neg (by omega)]
theorem mixL_all (L : List Int) (k : Nat) (h : L.length ≤ k) : mixL L k = L := by simp [mixL, List.take_of_length_le h, show L.length - k = 0 by omega]

set_option maxHeartbeats 1000000 in
/-- laws.toIntS: a copy in new memory -/
theorem toIntS_any (a : Option Addr) (cap : Nat) (L : List Int) (w : World) (hr : Rd w a L) (hm : L.length ≤ 1048576) :
    Calls Try.prog 21 #[.slice a L.length cap] w fun e w' => e = .returned (.slice (some ⟨w.heap.size, 0, none⟩) L.length L.length) ∧ Row w' w.heap.size L ∧ Below w.heap.size w w' := by
  have hmk := run_make_ints L.length (by omega)
  go_enter Try.func21, Try.ntmps21
  go_wp2
  clear hmk
  go_loopw [4] (fun i wr => ∃ k : Int, 0 ≤ k ∧ k ≤ L.length ∧ i = .int .i64 k ∧ Row wr w.heap.size (mixL L k.toNat) ∧ Below w.heap.size w wr) (fun i _ => ((L.length : Int) - intOf i).toNat)
  case atStart => exact ⟨0, by omega, by omega, rfl, heap_alloc_new w _, (Below.refl _ _).alloc (Nat.le_refl _) _⟩
  case round =>
    obtain ⟨k, k0, k1, rfl, hrow, hbel⟩ := hrel
    by_cases hk : k < L.length
    · obtain ⟨b, off, rfl, hc⟩ := hr (by intro e; rw [e] at hk; simp at hk; omega)
      have c0 : wr.cell? ⟨b, off + k.toNat, none⟩ = some (.int .i64 (nth L k)) := by
        have := hc.at k k0 hk
        rw [hbel.cell (block_lt_of_cell this)]; exact this
      have hlen : k < (mixL L k.toNat).length := by rw [mixL_len _ _ (by omega)]; exact hk
      have c1 := hrow.cell k0 hlen
      have f1 := hrow.free k.toNat
      have hset := mixL_set L k.toNat (by omega)
      rw [Int.toNat_of_nonneg k0] at hset
      have HS := Lib.hid hset; clear hset hlen
      go_wp2
      go_roundw
      case rel => exact ⟨k + 1, by omega, by omega, rfl, by rw [show (k + 1).toNat = k.toNat + 1 by omega, ← HS.out]; exact hrow.set _ _, hbel.setCell (by simp) _⟩
      case measure => simp [intOf]; omega
    · have e := Lib.hid (mixL_all L k.toNat (by omega))
      go_wp2
      go_ret
      exact ⟨rfl, by rw [e.out] at hrow; exact hrow, hbel⟩

def eqL (A B : List Int) : Bool := decide (A = B)
theorem nth_ext {A B : List Int} (h : A.length = B.length) (hk : ∀ j : Int, 0 ≤ j → j < A.length → nth A j = nth B j) : A = B := by
  apply List.ext_getElem h
  intro i h1 h2
  have := hk i (by omega) (by omega)
  unfold nth at this
  simpa [h1, h2] using this
set_option maxHeartbeats 1000000 in
/-- laws.eqIntS -/
theorem eqIntS_any (a1 a2 : Option Addr) (c1 c2 : Nat) (A B : List Int) (w : World) (h1 : Rd w a1 A) (h2 : Rd w a2 B) (hm : A.length ≤ 1073741824) :
    Calls Try.prog 17 #[.slice a1 A.length c1, .slice a2 B.length c2] w fun e w' => e = .returned (.bool (eqL A B)) ∧ Dr w w' := by
  by_cases hl : A.length = B.length
  · have hne : ((A.length : Int) != (B.length : Int)) = false := by rw [hl]; simp
    have hlB : (A.length : Int) ≤ B.length := by omega
    go_enter Try.func17, Try.ntmps17
    go_wp2
    go_loopw [5] (fun i wr => ∃ k : Int, 0 ≤ k ∧ k ≤ A.length ∧ i = .int .i64 k ∧ AllTo k (fun j => nth A j == nth B j) ∧ Dr w wr) (fun i _ => ((A.length : Int) - intOf i).toNat)
    case atStart => exact ⟨0, by omega, by omega, rfl, AllTo.zero _, Dr.refl _⟩
    case round =>
      obtain ⟨k, k0, k1, rfl, ha, hd⟩ := hrel
      by_cases hk : k < A.length
      · obtain ⟨b1, o1, rfl, hc1⟩ := (hd.rd h1) (by intro e; rw [e] at hk; simp at hk; omega)
        obtain ⟨b2, o2, rfl, hc2⟩ := (hd.rd h2) (by intro e; have hz : B.length = 0 := (by rw [e]; rfl); omega)
        have hk2 : k < B.length := by omega
        have d1 := hc1.at k k0 hk
        have d2 := hc2.at k k0 hk2
        cases hq : nth A k != nth B k
        case false =>
          have hq2 : (nth A k == nth B k) = true := by simpa [bne] using hq
          have HQ := Lib.hid hq2; clear hq2
          go_wp2
          go_quiet (fail)
          go_wp2
          go_roundw
          case rel => exact ⟨k + 1, by omega, by omega, rfl, ha.succ HQ.out, hd.more _⟩
          case measure => simp [intOf]; omega
        case true =>
          have hv : eqL A B = false := by
            unfold eqL
            refine decide_eq_false fun e => ?_
            rw [e] at hq; simp at hq
          have HV := Lib.hid hv; clear hv
          go_wp2
          go_quiet (fail)
          go_wp2
          go_ret
          exact ⟨ret_bool HV.out.symm, hd.more _⟩
      · have hv : eqL A B = true := decide_eq_true (nth_ext hl fun j j0 j1 => by have := ha j j0 (by omega); simpa using this)
        have HV := Lib.hid hv; clear hv
        go_wp2
        go_ret
        exact ⟨ret_bool HV.out.symm, hd⟩
  · have hne : ((A.length : Int) != (B.length : Int)) = true := by rw [bne_iff_ne]; omega
    have HV := Lib.hid (show eqL A B = false from decide_eq_false fun e => hl (by rw [e]))
    go_enter Try.func17, Try.ntmps17
    go_wp2
    go_ret
    exact ⟨ret_bool HV.out.symm, Dr.refl _⟩
end Go.Proofs.Ytbellklaoecpbab
