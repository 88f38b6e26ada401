import Derived.Test.YtpophjloedpcfaaGreatDoorTX1
import Derived.Test.YtpophjloedpcfaaGreatDoorSH
import Derived.Test.YtpophjloedpcfaaGreatDoorL5
import Derived.Test.YtpophjloedpcfaaGreatDoorI5
namespace Go.Proofs.YtpophjloedpcfaaGreatDoor
open Go.RowKit

theorem ret_strX {a b : ByteArray} (h : a = b) : Ending.returned (Value.string a) = Ending.returned (Value.string b) := by rw [h]
/-- strconv.Itoa of a number of at most two digits -/
theorem itoa_any (n : Int) (h0 : 0 ≤ n) (h1 : n < 100) (w : World) : Calls Tryz.prog 63 #[.int .i64 n] w fun e w' => e = .returned (.string (dgB n)) ∧ w = w' := by
  have := Any.strconv_Itoa_small Tryz.lays171 n.toNat (by omega) w
  rw [Int.toNat_of_nonneg h0] at this
  exact Calls.mono this fun e w' ⟨he, hw⟩ => ⟨he, hw.symm⟩
/-- strings.Join -/
theorem strJoin_any (bk c : Nat) (xs : List ByteArray) (sep : ByteArray) (r : ByteArray) (w : World)
    (hcells : ∀ (j : Nat) x, xs[j]? = some x → w.cell? ⟨bk, j, none⟩ = some (.string x)) (hbk : bk < w.heap.size) (hN : xs.length ≤ 1000) (hcap : xs.length ≤ c)
    (hr : (⟨(Lib.join (xs.map (·.data.toList)) sep.data.toList).toArray⟩ : ByteArray) = r) (hlen : r.size ≤ 1000000) :
    Calls Tryz.prog 28 #[.slice (some ⟨bk, 0, none⟩) xs.length c, .string sep] w fun e w' => e = .returned (.string r) ∧ Below w.heap.size w w' := by
  have hl : (Lib.join (xs.map (·.data.toList)) sep.data.toList).length ≤ 140737488355328 := by
    rw [← hr, ba_size] at hlen
    simp only at hlen
    omega
  have := Any.strings_Join Tryz.lays156 Tryz.Builder_Extra_156 bk 0 c xs sep w (fun j x h => by rw [Nat.zero_add]; exact hcells j x h) hbk (by omega) hcap hl
  rw [hr] at this
  exact this
/-! a row of strings -/
def SLs (S : List ByteArray) : Array Value := (S.map Value.string).toArray
theorem SLs_get (S : List ByteArray) (j : Nat) (x : ByteArray) (h : S[j]? = some x) : (SLs S)[j]? = some (.string x) := by
  unfold SLs
  rw [List.getElem?_toArray, List.getElem?_map, h]; rfl
theorem SLs_set (S : List ByteArray) (j : Nat) (v : ByteArray) : (SLs S).setIfInBounds j (.string v) = SLs (S.set j v) := by
  unfold SLs
  rw [List.setIfInBounds_toArray, List.map_set]
def StR (w : World) (b : Nat) (S : List ByteArray) : Prop := w.heap[b]? = some (.cells (SLs S) 9 (0, 0))
section
variable {w : World} {b : Nat} {S : List ByteArray}
theorem StR.lt (h : StR w b S) : b < w.heap.size := lt_of_block h
theorem StR.cell (h : StR w b S) {j : Nat} {x : ByteArray} (hx : S[j]? = some x) : w.cell? ⟨b, j, none⟩ = some (.string x) := by
  rw [cell_of_row w b j _ _ _ h]; exact SLs_get S j x hx
theorem StR.free (h : StR w b S) (j : Nat) : w.frozen? ⟨b, j, none⟩ = false := frozen_of_row w b j _ _ h
theorem StR.set (h : StR w b S) (j : Nat) (v : ByteArray) : StR (w.setCell ⟨b, j, none⟩ (.string v)) b (S.set j v) := by
  unfold StR
  rw [setCell_eq_setRow w b _ _ _ _ _ h, SLs_set]
  exact setRow_heap w b _ _ _ _ h
theorem StR.below (h : StR w b S) {w' : World} {C : Nat} (hb : Below C w w') (hB : b < C) : StR w' b S := by
  unfold StR; rw [hb.block b hB]; exact h
end
theorem info_str : (Tryz.prog.info? 9).map (fun i => (i.zero, i.size, i.bytes)) = some (some (.string ⟨#[]⟩), 1, 16) := by kernel_rfl
theorem made_str (n : Nat) : madeCells #[.string ⟨#[]⟩] n = SLs (List.replicate n ⟨#[]⟩) := by
  apply Array.ext
  · simp [madeCells, SLs]
  · intro i h1 h2
    simp [madeCells, SLs, Nat.mod_one]
theorem run_make_strs (n : Nat) (hn : n ≤ 1073741824) (w : World) :
    (Instr.makeSlice 35 (.int .i64 n) (.int .i64 n)).run Tryz.prog w = .ok (.slice (some ⟨w.heap.size, 0, none⟩) n n) (w.alloc (.cells (SLs (List.replicate n ⟨#[]⟩)) 9)) := by
  obtain ⟨i0, hi, hz0, hz1, hz2⟩ := info_parts info_str
  have := run_make (P := Tryz.prog) w 35 9 i0 (.string ⟨#[]⟩) Tryz.underlying35 hi hz0 .i64 .i64 n n (by omega) (Int.le_refl _) (by rw [hz2]; omega) (by omega)
  rw [this, hz1]
  simp [Value.cells, made_str]
/-- the first k strings of a list, and empty ones -/
def mixS (S : List ByteArray) (k : Nat) : List ByteArray := S.take k ++ List.replicate (S.length - k) ⟨#[]⟩
theorem mixS_at (S : List ByteArray) (k : Nat) (h : k < S.length) : (mixS S k)[k]? = some ⟨#[]⟩ := by
  unfold mixS
  rw [List.getElem?_append_right (by rw [List.length_take]; omega), List.length_take, List.getElem?_replicate, if_pos (by omega)]
theorem mixS_set (S : List ByteArray) (k : Nat) (x : ByteArray) (h : S[k]? = some x) : (mixS S k).set k x = mixS S (k + 1) := by
  have hk : k < S.length := (List.getElem?_eq_some_iff.1 h).1
  have hx : S[k] = x := (List.getElem?_eq_some_iff.1 h).2
  have hl (j : Nat) (hj : j ≤ S.length) : (mixS S j).length = S.length := by simp [mixS]; omega
  apply List.ext_getElem
  · rw [List.length_set, hl _ (by omega), hl _ (by omega)]
  · intro i h1 h2
    rw [List.length_set, hl _ (by omega)] at h1
    rw [List.getElem_set]
    by_cases e : k = i
    · subst e; rw [if_pos rfl]; simp only [mixS, List.getElem_append, List.length_take, List.getElem_take]; rw [dif_pos (by omega), hx]
    · rw [if_neg e]
      by_cases h3 : i < k
      · simp only [mixS, List.getElem_append, List.length_take, List.getElem_take, List.getElem_replicate]; rw [dif_pos (by omega), dif_pos (by omega)]
      · simp only [mixS, List.getElem_append, List.length_take, List.getElem_take, List.getElem_replicate]; rw [dif_neg (by omega), dif_neg (by omega)]
theorem mixS_all (S : List ByteArray) (k : Nat) (h : S.length ≤ k) : mixS S k = S := by simp [mixS, List.take_of_length_le h, show S.length - k = 0 by omega]
set_option maxRecDepth 100000 in
set_option maxHeartbeats 2000000 in
/-- impl.decimals -/
theorem decimals_any (a : Option Addr) (c : Nat) (L : List Int) (w : World) (hr : Rd w a L) (hl : L.length ≤ 1000) (hx : ∀ k : Int, 0 ≤ k → k < L.length → 0 ≤ nth L k ∧ nth L k < 100) :
    Calls Tryz.prog 29 #[.slice a L.length c] w fun e w' => e = .returned (.slice (some ⟨w.heap.size, 0, none⟩) L.length L.length) ∧ StR w' w.heap.size (dgs L) ∧ Below w.heap.size w w' := by
  have hmk := run_make_strs L.length (by omega)
  have HX := Lib.hid hx
  clear hx
  have hll : (L.length : Int) ≤ 1000 := by omega
  go_enter Tryz.func29, Tryz.ntmps29
  go_wp2
  clear hmk
  go_loopw [4, 5, 11] (fun _ _ i wr => ∃ k : Int, 0 ≤ k ∧ k ≤ L.length ∧ i = .int .i64 k ∧ StR wr w.heap.size (mixS (dgs L) k.toNat) ∧ Below w.heap.size w wr) (fun _ _ i _ => ((L.length : Int) - intOf i).toNat)
  case atStart => exact ⟨0, by omega, by omega, rfl, by rw [show mixS (dgs L) (0 : Int).toNat = List.replicate L.length ⟨#[]⟩ from by simp [mixS, dgs]]; exact heap_alloc_new w _, (Below.refl _ _).alloc (Nat.le_refl _) _⟩
  case round =>
    obtain ⟨k, k0, k1, rfl, hrow, hbel⟩ := hrel
    by_cases hk : k < L.length
    · obtain ⟨b1, o1, rfl, hc1⟩ := hr (by intro e; rw [e] at hk; simp at hk; omega)
      have d1 : wr.cell? ⟨b1, o1 + k.toNat, none⟩ = some (.int .i64 (nth L k)) := by
        have := hc1.at k k0 hk
        rw [hbel.cell (block_lt_of_cell this)]; exact this
      have hn := Lib.hid (HX.out k k0 hk)
      have hd : (dgs L)[k.toNat]? = some (dgB (nth L k)) := by
        have := nth_at (L := L) (k := k.toNat) (by omega)
        rw [Int.toNat_of_nonneg k0] at this
        unfold dgs
        rw [List.getElem?_map, List.getElem?_eq_getElem (by omega), this]; rfl
      have HS := Lib.hid (mixS_set _ _ _ hd)
      have c1 := hrow.cell (mixS_at (dgs L) k.toNat (by unfold dgs; rw [List.length_map]; omega))
      have f1 := hrow.free k.toNat
      obtain ⟨n, en⟩ : ∃ n, n = nth L k := ⟨_, rfl⟩
      rw [← en] at d1 hn HS
      obtain ⟨D, hD⟩ : ∃ D, D = dgB n := ⟨_, rfl⟩
      rw [← hD] at HS
      have HN := Lib.hid (show ∀ w : World, Calls Tryz.prog 63 #[.int .i64 n] w fun e w' => e = .returned (.string D) ∧ w = w' from fun w => by rw [hD]; exact itoa_any n hn.out.1 hn.out.2 w)
      clear hd en hD hn
      go_wp2_with (go_at_call 63; with_reducible refine (HN.out _).mono ?_; rintro e w' ⟨rfl, rfl⟩)
      go_roundw
      case rel => exact ⟨k + 1, by omega, by omega, rfl, by rw [show (k + 1).toNat = k.toNat + 1 by omega, ← HS.out]; exact hrow.set _ _, hbel.setCell (by simp) _⟩
      case measure => simp [intOf]; omega
    · have e := Lib.hid (mixS_all (dgs L) k.toNat (by unfold dgs; rw [List.length_map]; omega))
      go_wp2
      go_ret
      exact ⟨rfl, by rw [e.out] at hrow; exact hrow, hbel⟩
end Go.Proofs.YtpophjloedpcfaaGreatDoor
