import Derived.Test.YtbellklaoecpbaaJ1
import Derived.Test.YtbellklaoecpbaaL1
namespace Go.Proofs.Ytbellklaoecpbaa
open Go.RowKit

theorem latA_0 (n : Int) (g : Int → Int → Bool) (m j : Int → Int → Int) : (latA n g m j)[0]? = some (.int .i64 n) := rfl
theorem latA_g (n : Int) (g : Int → Int → Bool) (m j : Int → Int → Int) {x y : Int} (x0 : 0 ≤ x) (x1 : x < 6) (y0 : 0 ≤ y) (y1 : y < 6) : (latA n g m j)[1 + x.toNat * 6 + y.toNat]? = some (.bool (g x y)) := by
  have h := tab2_get (bv g) x0 x1 y0 y1
  unfold latA
  rw [List.getElem?_toArray, List.getElem?_append_left (by simp [tab2]; omega), List.getElem?_append_left (by simp [tab2]; omega), show 1 + x.toNat * 6 + y.toNat = (x.toNat * 6 + y.toNat) + 1 by omega, List.getElem?_cons_succ, Array.getElem?_toList, h]
  rfl
theorem latA_m (n : Int) (g : Int → Int → Bool) (m j : Int → Int → Int) {x y : Int} (x0 : 0 ≤ x) (x1 : x < 6) (y0 : 0 ≤ y) (y1 : y < 6) : (latA n g m j)[37 + x.toNat * 6 + y.toNat]? = some (.int .i64 (m x y)) := by
  have h := tab2_get (iv m) x0 x1 y0 y1
  unfold latA
  rw [List.getElem?_toArray, List.getElem?_append_left (by simp [tab2]; omega), List.getElem?_append_right (by simp [tab2]; omega), show 37 + x.toNat * 6 + y.toNat - (Value.int .i64 n :: (tab2 (bv g)).toList).length = x.toNat * 6 + y.toNat by simp [tab2]; omega, Array.getElem?_toList, h]
  rfl
theorem latA_j (n : Int) (g : Int → Int → Bool) (m j : Int → Int → Int) {x y : Int} (x0 : 0 ≤ x) (x1 : x < 6) (y0 : 0 ≤ y) (y1 : y < 6) : (latA n g m j)[73 + x.toNat * 6 + y.toNat]? = some (.int .i64 (j x y)) := by
  have h := tab2_get (iv j) x0 x1 y0 y1
  unfold latA
  rw [List.getElem?_toArray, List.getElem?_append_right (by simp [tab2]; omega), show 73 + x.toNat * 6 + y.toNat - ((Value.int .i64 n :: (tab2 (bv g)).toList) ++ (tab2 (iv m)).toList).length = x.toNat * 6 + y.toNat by simp [tab2]; omega, Array.getElem?_toList, h]
  rfl
/-- Block b holds the lattice that the numbers are read as. -/
def LatAt (w : World) (b : Nat) (L : List Int) : Prop := w.heap[b]? = some (.cells (latOf L) 61 (0, 0))
section
variable {w : World} {b : Nat} {L : List Int}
theorem LatAt.lt (h : LatAt w b L) : b < w.heap.size := lt_of_block h
theorem LatAt.size (h : LatAt w b L) : w.cell? ⟨b, 0, none⟩ = some (.int .i64 L.length) := by
  rw [cell_of_row w b 0 _ _ _ h]; rfl
theorem LatAt.g (h : LatAt w b L) {x y : Int} (x0 : 0 ≤ x) (x1 : x < 6) (y0 : 0 ≤ y) (y1 : y < 6) : w.cell? ⟨b, 1 + x.toNat * 6 + y.toNat, none⟩ = some (.bool (ordG L x y)) := by
  rw [cell_of_row w b _ _ _ _ h]; exact latA_g _ _ _ _ x0 x1 y0 y1
theorem LatAt.m (h : LatAt w b L) {x y : Int} (x0 : 0 ≤ x) (x1 : x < 6) (y0 : 0 ≤ y) (y1 : y < 6) : w.cell? ⟨b, 37 + x.toNat * 6 + y.toNat, none⟩ = some (.int .i64 (tabT (ordG L) L.length x y)) := by
  rw [cell_of_row w b _ _ _ _ h]; exact latA_m _ _ _ _ x0 x1 y0 y1
theorem LatAt.j (h : LatAt w b L) {x y : Int} (x0 : 0 ≤ x) (x1 : x < 6) (y0 : 0 ≤ y) (y1 : y < 6) : w.cell? ⟨b, 73 + x.toNat * 6 + y.toNat, none⟩ = some (.int .i64 (tabT (revG (ordG L)) L.length x y)) := by
  rw [cell_of_row w b _ _ _ _ h]; exact latA_j _ _ _ _ x0 x1 y0 y1
theorem LatAt.below (h : LatAt w b L) {w' : World} {C : Nat} (hb : Below C w w') (hB : b < C) : LatAt w' b L := by
  unfold LatAt; rw [hb.block b hB]; exact h
theorem LatAt.new (w : World) (L : List Int) : LatAt (w.alloc (.cells (latOf L) 61)) w.heap.size L := heap_alloc_new w _
end
theorem mt_pos {L : List Int} (h : latB L = true) {x y : Int} (x0 : 0 ≤ x) (x1 : x < num L) (y0 : 0 ≤ y) (y1 : y < num L) : 0 ≤ mt L x y ∧ 0 ≤ jn L x y := by
  unfold latB at h
  rw [Bool.and_eq_true] at h
  have := (allI_iff _ _).1 ((allI_iff _ _).1 h.2 x x0 x1) y y0 y1
  unfold latXY at this
  simp only [Bool.not_eq_true', Bool.or_eq_false_iff, decide_eq_false_iff_not] at this
  omega
theorem tabT_meet {L : List Int} (h : latB L = true) {x y : Int} (x0 : 0 ≤ x) (x1 : x < num L) (y0 : 0 ≤ y) (y1 : y < num L) : tabT (ordG L) L.length x y = mt L x y := by
  have p := (mt_pos h x0 x1 y0 y1).1
  unfold tabT fmI
  rw [if_pos ⟨x1, y1⟩, show firstI (L.length : Int) (fmQ (ordG L) L.length x y) = mt L x y from first_meet x1 y1, if_neg (by omega)]
theorem tabT_join {L : List Int} (h : latB L = true) {x y : Int} (x0 : 0 ≤ x) (x1 : x < num L) (y0 : 0 ≤ y) (y1 : y < num L) : tabT (revG (ordG L)) L.length x y = jn L x y := by
  have p := (mt_pos h x0 x1 y0 y1).2
  unfold tabT fmI
  rw [if_pos ⟨x1, y1⟩, show firstI (L.length : Int) (fmQ (revG (ordG L)) L.length x y) = jn L x y from first_join x1 y1, if_neg (by omega)]

end Go.Proofs.Ytbellklaoecpbaa
