import Derived.Test.YtbellklaoecpbabL2
namespace Go.Proofs.Ytbellklaoecpbab
open Go.RowKit

/-- v is a slice of the call's own, from block B on, that reads as the list. -/
def Own (B : Nat) (w : World) (v : Value) (L : List Int) : Prop := w.ownsRow B 3 1 v L.length (L.map fun x => Value.int .i64 x)
/-- Such a slice is handed back. -/
def RetOwn (B : Nat) (L : List Int) (w : World) (e : Ending) (w' : World) : Prop := ∃ v, e = .returned v ∧ Own B w' v L ∧ Below w.heap.size w w'
section
variable {B : Nat} {w : World} {v : Value} {L : List Int}
theorem Own.slice (h : Own B w v L) : ∃ a cap, v = .slice a L.length cap ∧ Rd w a L := by
  obtain ⟨_, h⟩ := h
  rcases h with ⟨rfl, hn⟩ | ⟨g, cap, cur, rfl, _, hg, hc, _, hs, ht⟩
  · refine ⟨none, 0, by rw [hn], fun hne => absurd (List.length_eq_zero_iff.1 hn) hne⟩
  · refine ⟨_, cap, rfl, fun _ => ⟨g, 0, rfl, fun j hj => ?_⟩⟩
    rw [Nat.zero_add, cell_of_row w g j _ _ _ hg]
    have h1 : (cur.toList.take (L.length * 1))[j]? = (L.map fun x => Value.int .i64 x)[j]? := by rw [ht]
    rw [List.getElem?_take, if_pos (by omega), Array.getElem?_toList] at h1
    rw [h1]
    unfold nth
    simp [hj]
theorem Own.alloc (h : Own B w v L) (o : Obj) : Own B (w.alloc o) v L := World.ownsRow.alloc h o
theorem Own.below (h : Own B w v L) {w' : World} (hb : Below w.heap.size w w') : Own B w' v L := by
  obtain ⟨h1, h⟩ := h
  refine ⟨h1, ?_⟩
  rcases h with h | ⟨g, cap, cur, e1, e2, hg, e3, e4, e5, e6⟩
  · exact .inl h
  · exact .inr ⟨g, cap, cur, e1, e2, (hb.block g (lt_of_block hg)).trans hg, e3, e4, e5, e6⟩
theorem Own.from (h : Own B w v L) {B' : Nat} (hB : B' ≤ B) : Own B' w v L := by
  obtain ⟨h1, h⟩ := h
  refine ⟨h1, ?_⟩
  rcases h with h | ⟨g, cap, cur, e1, e2, e⟩
  · exact .inl h
  · exact .inr ⟨g, cap, cur, e1, by omega, e⟩
theorem Own.nothing (B : Nat) (w : World) : Own B w (.slice none 0 0) [] := ⟨rfl, .inl ⟨rfl, rfl⟩⟩
theorem Own.row {b : Nat} (h : Row w b L) (hB : B ≤ b) (hm : L.length ≤ maxLen) : Own B w (.slice (some ⟨b, 0, none⟩) L.length L.length) L :=
  ⟨by simp, .inr ⟨b, L.length, IL L, rfl, hB, h, Nat.le_refl _, hm, by simp [IL], by simp [IL, List.take_of_length_le]⟩⟩
end

/-- the rows of a chain, up to a place -/
def chainTo (n k : Int) : List Int := (List.range k.toNat).map fun (i : Nat) => pw n - pw i
theorem chainTo_succ (n k : Int) (h : 0 ≤ k) : chainTo n (k + 1) = chainTo n k ++ [pw n - pw k] := by
  unfold chainTo
  rw [show (k + 1).toNat = k.toNat + 1 by omega, List.range_succ, List.map_append]
  simp [Int.toNat_of_nonneg h]
theorem chainTo_len (n k : Int) (h : 0 ≤ k) : ((chainTo n k).length : Int) = k := by simp [chainTo, Int.toNat_of_nonneg h]

end Go.Proofs.Ytbellklaoecpbab
