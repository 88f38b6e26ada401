import Derived.Test.YtbellklaoecpbaaL3
namespace Go.Proofs.Ytbellklaoecpbaa
open Go.RowKit

theorem grown_trans {a b c : World} {row : Option Nat} (h : a.grownBy b row) (k : b.grownBy c row) : a.grownBy c row :=
  ⟨k.os.trans h.os, k.tape.trans h.tape, k.output.trans h.output, Nat.le_trans h.size k.size, fun i hi hne => (k.block i (Nat.lt_of_lt_of_le hi h.size) hne).trans (h.block i hi hne)⟩
/-- k, k + 1 .. -/
def markL (k : Int) (n : Nat) : List Int := (List.range n).map fun (j : Nat) => k + j
theorem markL_len (k : Int) (n : Nat) : (markL k n).length = n := by simp [markL]
theorem markL_nth (k : Int) (n : Nat) {i : Int} (i0 : 0 ≤ i) (i1 : i < n) : nth (markL k n) i = k + i := by
  have h : i.toNat < n := by omega
  unfold nth markL
  simp [List.getD, h, Int.toNat_of_nonneg i0]
def markTo (L : List Int) (k : Int) (i : Nat) : List Int := markL k i ++ L.drop i
theorem markTo_len (L : List Int) (k : Int) (i : Nat) (h : i ≤ L.length) : (markTo L k i).length = L.length := by simp [markTo, markL]; omega
theorem markTo_set (L : List Int) (k : Int) (i : Nat) (h : i < L.length) : (markTo L k i).set i (k + i) = markTo L k (i + 1) := by
  unfold markTo markL
  rw [List.range_succ, List.map_append, List.append_assoc, List.set_append_right (h := by simp)]
  simp only [List.length_map, List.length_range, Nat.sub_self]
  congr 1
  rw [List.drop_eq_getElem_cons h]
  rfl
theorem markTo_all (L : List Int) (k : Int) : markTo L k L.length = markL k L.length := by simp [markTo]
section
variable {B : Nat} {w : World} {g cap : Nat} {L : List Int}
theorem Own.cellAt (h : Own B w (.slice (some ⟨g, 0, none⟩) L.length cap) L) {x : Int} (x0 : 0 ≤ x) (x1 : x < L.length) : w.cell? ⟨g, x.toNat, none⟩ = some (.int .i64 (nth L x)) := by
  rw [World.ownsRow.cellAt h x.toNat (by omega)]
  unfold nth
  simp [show x.toNat < L.length by omega]
theorem Own.freeAt (h : Own B w (.slice (some ⟨g, 0, none⟩) L.length cap) L) (j : Nat) : w.frozen? ⟨g, j, none⟩ = false := World.ownsRow.frozenAt h j
theorem Own.stored (h : Own B w (.slice (some ⟨g, 0, none⟩) L.length cap) L) (j : Nat) (u : Int) :
    Own B (w.setCell ⟨g, j, none⟩ (.int .i64 u)) (.slice (some ⟨g, 0, none⟩) (L.set j u).length cap) (L.set j u) ∧ w.grownBy (w.setCell ⟨g, j, none⟩ (.int .i64 u)) (some g) := by
  obtain ⟨a, b⟩ := World.ownsRow.stored h j (.int .i64 u)
  refine ⟨?_, b⟩
  unfold Own
  rw [List.map_set, List.length_set]
  exact a
theorem Own.shape {v : Value} (h : Own B w v L) : (v = .slice none 0 0 ∧ L = []) ∨ ∃ g cap, v = .slice (some ⟨g, 0, none⟩) L.length cap ∧ B ≤ g ∧ g < w.heap.size := by
  rcases h.2 with ⟨h1, h2⟩ | ⟨g, cap, cur, h1, h2, h3, _⟩
  · exact .inl ⟨h1, List.length_eq_zero_iff.1 h2⟩
  · exact .inr ⟨g, cap, h1, h2, lt_of_block h3⟩
end
/-- A slice of the call's own is handed back, its value written out. -/
def RetSl (B : Nat) (L : List Int) (w : World) (e : Ending) (w' : World) : Prop := ∃ a cap, e = .returned (.slice a L.length cap) ∧ Own B w' (.slice a L.length cap) L ∧ Below w.heap.size w w'
theorem RetOwn.sl {B : Nat} {L : List Int} {w w' : World} {e : Ending} (h : RetOwn B L w e w') : RetSl B L w e w' := by
  obtain ⟨v, he, ho, hb⟩ := h
  obtain ⟨a, cap, hv, _⟩ := ho.slice
  subst hv
  exact ⟨a, cap, he, ho, hb⟩
theorem Own.rd {B : Nat} {w : World} {a : Option Addr} {cap : Nat} {L : List Int} (h : Own B w (.slice a L.length cap) L) : Rd w a L := by
  obtain ⟨a', c', hv, hr⟩ := h.slice
  simp only [Value.slice.injEq] at hv
  rw [hv.1]; exact hr

end Go.Proofs.Ytbellklaoecpbaa
