import Derived.Test.YtbellklaoecpbabL3
namespace Go.Proofs.Ytbellklaoecpbab
open Go.RowKit

theorem grown_trans {a b c : World} {row : Option Nat} (h : a.grownBy b row) (k : b.grownBy c row) : a.grownBy c row :=
  ⟨k.os.trans h.os, k.tape.trans h.tape, k.output.trans h.output, Nat.le_trans h.size k.size, fun i hi hne => (k.block i (Nat.lt_of_lt_of_le hi h.size) hne).trans (h.block i hi hne)⟩
/-- k, k + 1 .. -/
def markL (k : Int) (n : Nat) : List Int := (List.range n).map fun (j : Nat) => k + j
theorem markL_len (k : Int) (n : Nat) : (markL k n).length = n := by simp [markL]
theorem markL_nth (k : Int) (n : Nat) {i : Int} (i0 : 0 ≤ i) (i1 : i < n) : nth (markL k n) i = k + i := by
  have h : i.toNat < n := by omega
  unfold nth markL
  simp [List.getD, h, Int.toNat_of_nonneg i0]
def markTo (L : List Int) (k : Int) (i : Nat) : List Int := markL k i ++ L.drop i
theorem markTo_len (L : List Int) (k : Int) (i : Nat) (h : i ≤ L.length) : (markTo L k i).length = L.length := by simp [markTo, markL]; omega
theorem markTo_set (L : List Int) (k : Int) (i : Nat) (h : i < L.length) : (markTo L k i).set i (k + i) = markTo L k (i + 1) := by
  unfold markTo markL
  rw [List.range_succ, List.map_append, List.append_assoc, List.set_append_right (h := by simp)]
  simp only [List.length_map, List.length_range, Nat.sub_self]
  congr 1
  rw [List.drop_eq_getElem_cons h]
  rfl
theorem markTo_all (L : List Int) (k : Int) : markTo L k L.length = markL k L.length := by simp [markTo]
section
variable {B : Nat} {w : World} {g cap : Nat} {L : List Int}
theorem Own.cellAt (h : Own B w (.slice (some ⟨g, 0, none⟩) L.length cap) L) {x : Int} (x0 : 0 ≤ x) (x1 : x < L.length) : w.cell? ⟨g, x.toNat, none⟩ = some (.int .i64 (nth L x)) := by
  rw [World.ownsRow.cellAt h x.toNat (by omega)]
  unfold nth
  simp [show x.toNat < L.length by omega]
theorem Own.freeAt (h : Own B w (.slice (some ⟨g, 0, none⟩) L.length cap) L) (j : Nat) : w.frozen? ⟨g, j, none⟩ = false := World.ownsRow.frozenAt h j
theorem Own.stored (h : Own B w (.slice (some ⟨g, 0, none⟩) L.length cap) L) (j : Nat) (u : Int) :
    Own B (w.setCell ⟨g, j, none⟩ (.int .i64 u)) (.slice (some ⟨g, 0, none⟩) (L.set j u).length cap) (L.set j u) ∧ w.grownBy (w.setCell ⟨g, j, none⟩ (.int .i64 u)) (some g) := by
  obtain ⟨a, b⟩ := World.ownsRow.stored h j (.int .i64 u)
  refine ⟨?_, b⟩
  unfold Own
  rw [List.map_set, List.length_set]
  exact a
theorem Own.shape {v : Value} (h : Own B w v L) : (v = .slice none 0 0 ∧ L = []) ∨ ∃ g cap, v = .slice (some ⟨g, 0, none⟩) L.length cap ∧ B ≤ g ∧ g < w.heap.size := by
  rcases h.2 with ⟨h1, h2⟩ | ⟨g, cap, cur, h1, h2, h3, _⟩
  · exact .inl ⟨h1, List.length_eq_zero_iff.1 h2⟩
  · exact .inr ⟨g, cap, h1, h2, lt_of_block h3⟩
end
/-- A slice of the call's own is handed back, its value written out. -/
def RetSl (B : Nat) (L : List Int) (w : World) (e : Ending) (w' : World) : Prop := ∃ a cap, e = .returned (.slice a L.length cap) ∧ Own B w' (.slice a L.length cap) L ∧ Below w.heap.size w w'
theorem RetOwn.sl {B : Nat} {L : List Int} {w w' : World} {e : Ending} (h : RetOwn B L w e w') : RetSl B L w e w' := by
  obtain ⟨v, he, ho, hb⟩ := h
  obtain ⟨a, cap, hv, _⟩ := ho.slice
  subst hv
  exact ⟨a, cap, he, ho, hb⟩
theorem Own.rd {B : Nat} {w : World} {a : Option Addr} {cap : Nat} {L : List Int} (h : Own B w (.slice a L.length cap) L) : Rd w a L := by
  obtain ⟨a', c', hv, hr⟩ := h.slice
  simp only [Value.slice.injEq] at hv
  rw [hv.1]; exact hr

set_option maxHeartbeats 1000000 in
/-- laws.markIntS -/
theorem markIntS_any {B : Nat} (a : Option Addr) (cap : Nat) (L : List Int) (k : Int) (w : World) (hown : Own B w (.slice a L.length cap) L) (k0 : 0 ≤ k) (k1 : k ≤ 1125899906842624) (hm : L.length ≤ 1073741824) :
    Calls Try.prog 18 #[.slice a L.length cap, .int .i64 k] w fun e w' => e = .returned (.int .i64 (k + L.length)) ∧ Own B w' (.slice a L.length cap) (markL k L.length) ∧ w.grownBy w' (Value.slice a L.length cap).ownBlock := by
  rcases hown.shape with ⟨hv, rfl⟩ | ⟨g, c, hv, _, _⟩
  · simp only [Value.slice.injEq] at hv
    obtain ⟨rfl, _, rfl⟩ := hv
    go_enter Try.func18, Try.ntmps18
    go_wp2
    refine wp_loop_rounds 1 ?_
    rw [rounds_succ]
    go_wp2
    go_ret
    exact ⟨ret_int (by simp), hown, World.grownBy.refl _ _⟩
  · simp only [Value.slice.injEq] at hv
    obtain ⟨rfl, _, rfl⟩ := hv
    go_enter Try.func18, Try.ntmps18
    go_wp2
    go_loopw [1, 5] (fun m i wr => ∃ j : Int, 0 ≤ j ∧ j ≤ L.length ∧ i = .int .i64 j ∧ m = .int .i64 (k + j) ∧ Own B wr (.slice (some ⟨g, 0, none⟩) (markTo L k j.toNat).length cap) (markTo L k j.toNat) ∧ w.grownBy wr (some g)) (fun _ i _ => ((L.length : Int) - intOf i).toNat)
    case atStart => exact ⟨0, by omega, by omega, rfl, by simp, hown, World.grownBy.refl _ _⟩
    case round =>
      obtain ⟨j, j0, j1, rfl, rfl, ho, hg⟩ := hrel
      have hlen := markTo_len L k j.toNat (by omega)
      by_cases hj : j < L.length
      · have c0 := ho.cellAt j0 (by rw [hlen]; exact hj)
        have f0 := ho.freeAt j.toNat
        have hst := Lib.hid (ho.stored j.toNat (k + j))
        have hse := Lib.hid (markTo_set L k j.toNat (by omega))
        clear hlen hown
        go_wp2
        go_roundw
        case rel =>
          obtain ⟨s1, s2⟩ := hst.out
          have e := hse.out
          rw [Int.toNat_of_nonneg j0] at e
          rw [e] at s1
          exact ⟨j + 1, by omega, by omega, rfl, by rw [Int.add_assoc], by rw [show (j + 1).toNat = j.toNat + 1 by omega]; exact s1, grown_trans hg s2⟩
        case measure => simp [intOf]; omega
      · have e : j = L.length := by omega
        have hl := Lib.hid hlen
        clear hlen hown
        subst e
        go_wp2
        go_ret
        refine ⟨rfl, ?_, hg⟩
        have := hl.out
        rw [Int.toNat_natCast] at ho this
        rw [this, markTo_all] at ho
        exact ho

set_option maxHeartbeats 1000000 in
/-- laws.heldIntS, of what markIntS has written -/
theorem heldIntS_any (a : Option Addr) (cap n : Nat) (k : Int) (w : World) (hr : Rd w a (markL k n)) (k0 : 0 ≤ k) (k1 : k ≤ 1073741824) (hm : n ≤ 1073741824) :
    Calls Try.prog 19 #[.slice a n cap, .int .i64 k] w fun e w' => e = .returned (.int .i64 (k + n)) ∧ w = w' := by
  have hl := markL_len k n
  go_enter Try.func19, Try.ntmps19
  go_wp2
  go_loop [1, 5] (fun m i => ∃ j : Int, 0 ≤ j ∧ j ≤ n ∧ i = .int .i64 j ∧ m = .int .i64 (k + j)) (fun _ i => ((n : Int) - intOf i).toNat)
  case atStart => exact ⟨0, by omega, by omega, rfl, by simp⟩
  case round =>
    obtain ⟨j, j0, j1, rfl, rfl⟩ := hrel
    by_cases hj : j < n
    · obtain ⟨b, off, rfl, hc⟩ := hr (by intro e; rw [e] at hl; simp at hl; omega)
      have c0 := hc.at j j0 (by unfold num; rw [hl]; exact hj)
      rw [markL_nth k n j0 hj] at c0
      clear hl
      go_wp2
      go_round
      case rel => exact ⟨j + 1, by omega, by omega, rfl, by rw [Int.add_assoc]⟩
      case measure => simp [intOf]; omega
    · have e : j = n := by omega
      subst e
      clear hl
      go_wp2
      go_ret
      exact ⟨rfl, rfl⟩
end Go.Proofs.Ytbellklaoecpbab
