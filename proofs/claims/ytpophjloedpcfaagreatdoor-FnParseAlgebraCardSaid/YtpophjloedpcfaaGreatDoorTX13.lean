import Derived.Test.YtpophjloedpcfaaGreatDoorTX12
import Derived.Test.YtpophjloedpcfaaGreatDoorTW
import Derived.Test.YtpophjloedpcfaaGreatDoorD3
namespace Go.Proofs.YtpophjloedpcfaaGreatDoor
open Go.RowKit

/-- windows so far, and nil slices -/
def winM (P m k n : Nat) : Array Value := ((List.range n).map fun (x : Nat) => if x < k then Value.slice (some ⟨P, x * m, none⟩) m m else Value.slice none 0 0).toArray
theorem winM_zero (P m n : Nat) : winM P m 0 n = (List.replicate n (Value.slice none 0 0)).toArray := by
  unfold winM
  congr 1
  apply List.ext_getElem
  · simp
  · intro i h1 h2; simp
theorem winM_get {P m k n x : Nat} (h : x < n) : (winM P m k n)[x]? = some (if x < k then Value.slice (some ⟨P, x * m, none⟩) m m else Value.slice none 0 0) := by
  unfold winM
  rw [List.getElem?_toArray, List.getElem?_map, List.getElem?_range h]; rfl
theorem winM_set {P m k n : Nat} : (winM P m k n).setIfInBounds k (.slice (some ⟨P, k * m, none⟩) m m) = winM P m (k + 1) n := by
  unfold winM
  rw [List.setIfInBounds_toArray]
  congr 1
  apply List.ext_getElem
  · simp
  · intro i h1 h2
    rw [List.getElem_set]
    simp only [List.getElem_map, List.getElem_range]
    by_cases e : k = i
    · subst e; rw [if_pos rfl, if_pos (by omega)]
    · rw [if_neg e]
      by_cases h3 : i < k
      · rw [if_pos h3, if_pos (by omega)]
      · rw [if_neg h3, if_neg (by omega)]
theorem winM_all (P m n : Nat) : winM P m n n = winA P m n := by
  unfold winM winA
  congr 1
  refine List.map_congr_left fun x hx => ?_
  rw [if_pos (List.mem_range.1 hx)]
set_option maxRecDepth 100000 in
set_option maxHeartbeats 4000000 in
/-- impl.cutRows -/
theorem cutRows_any (P c m : Nat) (w : World) (hc : m * m ≤ c) (hm : m ≤ 1048576) (hmm : m * m ≤ 1048576) :
    Calls Tryz.prog 75 #[.slice (some ⟨P, 0, none⟩) (m * m) c, .int .i64 m] w fun e w' => e = .returned (.slice (some ⟨w.heap.size, 0, none⟩) m m) ∧ w'.heap[w.heap.size]? = some (.cells (winA P m m) 23 (0, 0)) ∧ Below w.heap.size w w' := by
  have hmk := run_make_rows m (by omega)
  obtain ⟨b, hb⟩ : ∃ b, b = w.heap.size := ⟨_, rfl⟩
  obtain ⟨w1, hw1⟩ : ∃ w1, w1 = w.alloc (.cells (Array.replicate m (Value.slice none 0 0)) 23) := ⟨_, rfl⟩
  have hB1 : w1.heap[b]? = some (.cells (winM P m 0 m) 23 (0, 0)) := by rw [hw1, hb, winM_zero, List.toArray_replicate]; exact heap_alloc_new w _
  have h1 : Below w.heap.size w w1 := by rw [hw1]; exact (Below.refl _ _).alloc (Nat.le_refl _) _
  have hbw : w.heap.size ≤ b := by omega
  have hmi : (m : Int) ≤ 1048576 := by omega
  have HB := Lib.hid hb
  go_enter Tryz.func75, Tryz.ntmps75
  go_wp2_with fail
  rw [← hw1]
  try rw [← hb]
  clear hmk hb hw1
  go_loopw [6, 7, 8, 13] (fun _ _ _ iv wr => ∃ k : Nat, k ≤ m ∧ iv = .int .i64 (k : Int) ∧ wr.heap[b]? = some (.cells (winM P m k m) 23 (0, 0)) ∧ Below w.heap.size w wr) (fun _ _ _ iv _ => ((m : Int) - intOf iv).toNat)
  case atStart => exact ⟨0, by omega, rfl, hB1, h1⟩
  case round =>
    obtain ⟨k, hk, rfl, hrow, hbel⟩ := hrel
    clear hB1 h1
    by_cases hlt : k < m
    · have hlti : (k : Int) < m := by omega
      have c1 := cell_of_row wr b k _ _ _ hrow
      rw [winM_get hlt, if_neg (by omega)] at c1
      have f1 := frozen_of_row wr b k _ _ hrow
      have hS := Lib.hid (winM_set (P := P) (m := m) (k := k) (n := m))
      have hA1 : (k + 1) * m ≤ m * m := Nat.mul_le_mul_right m (by omega)
      have hA2 : (k + 1) * m = k * m + m := Nat.succ_mul _ _
      have hR := Lib.hid hrow
      clear hrow
      have i1 : ((k * m : Nat) : Int) = (k : Int) * m := Int.natCast_mul _ _
      have i2 : (((k + 1) * m : Nat) : Int) = ((k : Int) + 1) * m := by rw [Int.natCast_mul]; rfl
      have p1 : (0 : Int) ≤ (k : Int) * m := by omega
      have p2 : (k : Int) * m ≤ ((k : Int) + 1) * m := by omega
      have p3 : ((k : Int) + 1) * m ≤ c := by omega
      have v1 : IntKind.i64.wrap ((k : Int) * m) = (k : Int) * m := IntWalk.i64_in _ (by omega)
      have v2 : IntKind.i64.wrap (((k : Int) + 1) * m) = ((k : Int) + 1) * m := IntWalk.i64_in _ (by omega)
      have hne : ¬ (k + 1) * m = k * m := by omega
      have HE := Lib.hid (show Value.slice (if (k + 1) * m = k * m then some ⟨P, 0, none⟩ else some ⟨P, k * m, none⟩) ((k + 1) * m - k * m) ((k + 1) * m - k * m) = .slice (some ⟨P, k * m, none⟩) m m by rw [if_neg hne, show (k + 1) * m - k * m = m by omega])
      clear i1 i2 hA1 hA2 hne
      go_wp2
      go_roundw
      case rel =>
        rw [HE.out]
        refine ⟨k + 1, by omega, rfl, ?_, hbel.setCell (by simp; omega) _⟩
        rw [setCell_eq_setRow wr b _ _ _ _ _ hR.out, hS.out]
        exact setRow_heap wr b _ _ _ _ hR.out
      case measure => simp [intOf]; omega
    · have e : k = m := by omega
      subst e
      rw [winM_all] at hrow
      have hR := Lib.hid hrow
      clear hrow
      go_wp2
      go_ret
      exact ⟨by rw [HB.out]; rfl, by rw [← HB.out]; exact hR.out, hbel⟩
set_option maxRecDepth 100000 in
set_option maxHeartbeats 4000000 in
/-- impl.readRows, where the digits are not as many as they must be -/
theorem readRows_no (s : ByteArray) (m : Nat) (w : World) (hG : GV w) (hs : s.size ≤ 1048576) (hm : m ≤ 1048577) (h : (s.data.toList.filter (fun b => b != 47)).length ≠ m * m) :
    Calls Tryz.prog 36 #[.string s, .int .i64 m] w fun e w' => e = .returned (.tuple #[.slice none 0 0, .bool false]) ∧ Below w.heap.size w w' := by
  obtain ⟨D, hD⟩ : ∃ D : List UInt8, D = s.data.toList.filter (fun b => b != 47) := ⟨_, rfl⟩
  rw [← hD] at h
  obtain ⟨mm, hmm⟩ := hG.ml
  have HR := Lib.hid (show Calls Tryz.prog 74 #[.string s, .string ⟨#[47]⟩, .string ⟨#[]⟩] w fun e w' => e = .returned (.string ⟨D.toArray⟩) ∧ Below w.heap.size w w' by
    have := Any.strings_ReplaceAll Tryz.lays155 Tryz.Builder_Extra_155 s ⟨#[47]⟩ ⟨#[]⟩ mm w (by omega) hmm (Nat.le_refl 1) (by show s.size + _ * 0 ≤ _; omega)
    rw [show (ByteArray.mk #[47]).data.toList = [47] from rfl, show (ByteArray.mk #[]).data.toList = [] from rfl, replace_flt, ← hD] at this
    exact this)
  have hsz : (⟨D.toArray⟩ : ByteArray).size = D.length := rfl
  have hne : ¬ ((D.length : Int) = (m : Int) * m) := fun e => h (by have : ((m * m : Nat) : Int) = (m : Int) * m := Int.natCast_mul _ _; omega)
  have hb : (m : Int) * m ≤ 1099513724929 ∧ 0 ≤ (m : Int) * m := by
    have h1 : m * m ≤ 1048577 * 1048577 := Nat.mul_le_mul hm hm
    have h2 : ((m * m : Nat) : Int) = (m : Int) * m := Int.natCast_mul _ _
    omega
  have v1 : IntKind.i64.wrap ((m : Int) * m) = (m : Int) * m := IntWalk.i64_in _ (by omega)
  clear hD h hmm
  go_enter Tryz.func36, Tryz.ntmps36
  go_wp2_with (go_at_call 74; with_reducible refine HR.out.mono ?_; rintro e w2 ⟨rfl, h2⟩)
  go_ret2
  exact ⟨rfl, h2⟩
theorem dgP_len (D : List UInt8) : (dgP D).length = D.length := by unfold dgP; rw [List.length_map]
theorem dgP_take {D : List UInt8} {k : Nat} (h : k < D.length) : dgP (D.take (k + 1)) = dgP (D.take k) ++ [((D[k].toNat : Nat) : Int) - 48] := by
  unfold dgP
  rw [List.take_add_one, List.getElem?_eq_getElem h, List.map_append]; rfl
set_option maxRecDepth 100000 in
set_option maxHeartbeats 4000000 in
/-- impl.readRows, where they are -/
theorem readRows_yes (s : ByteArray) (m : Nat) (D : List UInt8) (w : World) (hG : GV w) (hs : s.size ≤ 1048576) (hD : D = s.data.toList.filter (fun b => b != 47)) (h : D.length = m * m) :
    Calls Tryz.prog 36 #[.string s, .int .i64 m] w fun e w' => ∃ B P, e = .returned (.tuple #[.slice (some ⟨B, 0, none⟩) m m, .bool true]) ∧ w'.heap[B]? = some (.cells (winA P m m) 23 (0, 0)) ∧ Row w' P (dgP D) ∧ w.heap.size ≤ P ∧ P < B ∧ Below w.heap.size w w' := by
  obtain ⟨mm, hmm⟩ := hG.ml
  have hDl : D.length ≤ 1048576 := by
    have := List.length_filter_le (fun b => b != 47) s.data.toList
    rw [← hD, ← ba_size] at this; omega
  have hmS : m ≤ 1024 := by
    have h1 := Nat.mul_le_mul_left m (show m ≤ m from Nat.le_refl m)
    rcases Nat.lt_or_ge 1024 m with h2 | h2
    · have := Nat.mul_le_mul (show 1025 ≤ m from h2) (show 1025 ≤ m from h2); omega
    · exact h2
  have HR := Lib.hid (show Calls Tryz.prog 74 #[.string s, .string ⟨#[47]⟩, .string ⟨#[]⟩] w fun e w' => e = .returned (.string ⟨D.toArray⟩) ∧ Below w.heap.size w w' by
    have := Any.strings_ReplaceAll Tryz.lays155 Tryz.Builder_Extra_155 s ⟨#[47]⟩ ⟨#[]⟩ mm w (by omega) hmm (Nat.le_refl 1) (by show s.size + _ * 0 ≤ _; omega)
    rw [show (ByteArray.mk #[47]).data.toList = [47] from rfl, show (ByteArray.mk #[]).data.toList = [] from rfl, replace_flt, ← hD] at this
    exact this)
  obtain ⟨S, hS⟩ : ∃ S : ByteArray, S = ⟨D.toArray⟩ := ⟨_, rfl⟩
  have hSz : S.size = D.length := by rw [hS]; rfl
  have hSat : ∀ (k : Nat) (hk : k < S.size) (hk2 : k < D.length), S[k] = D[k] := fun k hk hk2 => by subst hS; rfl
  rw [← hS] at HR
  have HAT := Lib.hid hSat
  have hszi : (S.size : Int) = (m : Int) * m := by have : ((m * m : Nat) : Int) = (m : Int) * m := Int.natCast_mul _ _; omega
  have hb : (m : Int) * m ≤ 1048576 ∧ 0 ≤ (m : Int) * m := by omega
  have v1 : IntKind.i64.wrap ((m : Int) * m) = (m : Int) * m := IntWalk.i64_in _ (by omega)
  have hmk : ∀ w : World, (Instr.makeSlice 23 (.int .i64 ((m : Int) * m)) (.int .i64 ((m : Int) * m))).run Tryz.prog w = .ok (.slice (some ⟨w.heap.size, 0, none⟩) (m * m) (m * m)) (w.alloc (.cells (IL (List.replicate (m * m) 0)) 3)) := fun w => by
    have := run_make_ints (m * m) (by omega) w
    rwa [Int.natCast_mul] at this
  have HC := Lib.hid (fun (P c : Nat) (w : World) (hc : m * m ≤ c) => cutRows_any P c m w hc (by omega) (by omega))
  have HSM := Lib.hid (show S.size = m * m by omega)
  have hSs : S.size ≤ 1048576 := by omega
  have HSz := Lib.hid hSz
  clear hS hD hmm hSat h hSz
  go_enter Tryz.func36, Tryz.ntmps36
  go_wp2_with (go_at_call 74; with_reducible refine HR.out.mono ?_; rintro e w2 ⟨rfl, h2⟩)
  obtain ⟨P, hP⟩ : ∃ P, P = w2.heap.size := ⟨_, rfl⟩
  obtain ⟨w3, hw3⟩ : ∃ w3, w3 = w2.alloc (.cells (IL (List.replicate (m * m) 0)) 3) := ⟨_, rfl⟩
  have hR3 : Row w3 P (zfill [] (m * m)) := by rw [hw3, hP]; exact heap_alloc_new w2 _
  have h3 : Below w.heap.size w w3 := by rw [hw3]; exact h2.alloc h2.size _
  have hPw : w.heap.size ≤ P := by rw [hP]; exact h2.size
  rw [← hw3]
  try rw [← hP]
  clear hmk hP hw3
  go_loopw [8, 22] (fun _ iv wr => ∃ k : Nat, k ≤ m * m ∧ iv = .int .i64 (k : Int) ∧ Row wr P (zfill (dgP (D.take k)) (m * m)) ∧ Below w.heap.size w wr) (fun _ iv _ => ((m : Int) * m - intOf iv).toNat)
  case atStart => exact ⟨0, by omega, rfl, hR3, h3⟩
  case round =>
    obtain ⟨k, hk, rfl, hrow, hbel⟩ := hrel
    clear hR3 h3 h2
    have hcast := Lib.hid (show ((m * m : Nat) : Int) = (m : Int) * m from Int.natCast_mul _ _)
    by_cases hlt : k < m * m
    · have hlti : (k : Int) < (m : Int) * m := by have := hcast.out; omega
      have hkS : k < S.size := by have := HSM.out; omega
      have hkD : k < D.length := by have := HSM.out; have := HSz.out; omega
      have hlen := zfill_len (L := dgP (D.take k)) (n := m * m) (by rw [dgP_len, List.length_take]; omega)
      have hln : (dgP (D.take k)).length = k := by rw [dgP_len, List.length_take]; omega
      have c1 := hrow.cellM (j := k) (by omega)
      have f1 := hrow.free k
      obtain ⟨x, hx⟩ : ∃ x, S[k] = x := ⟨_, rfl⟩
      have hxD : D[k] = x := (HAT.out k hkS hkD).symm.trans hx
      have hS2 := Lib.hid (show (zfill (dgP (D.take k)) (m * m)).set k ((x.toNat : Int) - 48) = zfill (dgP (D.take (k + 1))) (m * m) by
        have := zfill_set (L := dgP (D.take k)) (n := m * m) ((x.toNat : Int) - 48) (by omega)
        rw [hln] at this
        rw [this, dgP_take hkD, hxD])
      have hb8 := UInt8.toNat_lt x
      have HR2 := Lib.hid hrow
      clear hrow hlen hln hxD hkD
      go_wp2
      go_roundw
      case rel => exact ⟨k + 1, by omega, rfl, by rw [← hS2.out]; exact HR2.out.set _ _, hbel.setCell (by simp; omega) _⟩
      case measure => simp [intOf]; omega
    · have e : k = m * m := by omega
      have hlti : ¬ (k : Int) < (m : Int) * m := by have := hcast.out; omega
      rw [e, List.take_of_length_le (by have := HSM.out; have := HSz.out; omega), zfill_all (by rw [dgP_len]; have := HSM.out; have := HSz.out; omega)] at hrow
      have HR2 := Lib.hid hrow
      clear hrow e
      go_wp2_with (go_at_call 75; with_reducible refine (HC.out P (m * m) _ (Nat.le_refl _)).mono ?_; rintro e w5 ⟨rfl, h5, hb5⟩)
      go_ret2
      exact ⟨_, P, rfl, h5, HR2.out.below hb5 HR2.out.lt, hPw, HR2.out.lt, hbel.trans (hb5.mono hbel.size)⟩
end Go.Proofs.YtpophjloedpcfaaGreatDoor
