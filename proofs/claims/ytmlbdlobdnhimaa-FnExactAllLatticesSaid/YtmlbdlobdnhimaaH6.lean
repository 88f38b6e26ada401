import Derived.Test.YtmlbdlobdnhimaaH5
namespace Go.Proofs.Ytmlbdlobdnhimaa
open Go.RowKit

/-- what the array of implications holds when the loops are at x, y and z -/
def itG (L : List Int) (T : List (List Int)) (x y z a b : Int) : Int :=
  if a < num L ∧ b < num L then (if a < x ∨ (a = x ∧ b < y) then imp L T a b else if a = x ∧ b = y then impTo L T x y z else 0) else 0
theorem itG_start (L : List Int) (T : List (List Int)) (a b : Int) (a0 : 0 ≤ a) (b0 : 0 ≤ b) : iv zeroI a b = iv (itG L T 0 0 0) a b := by
  unfold iv itG
  congr 1
  show (0 : Int) = _
  split
  · rw [if_neg (by omega)]
    split
    · rfl
    · rfl
  · rfl
theorem itG_set {L : List Int} {T : List (List Int)} {x y z : Int} {v : Int} (hx : x < num L) (hy : y < num L) (hv : v = impTo L T x y (z + 1)) (a b : Int) : upd2 (iv (itG L T x y z)) x y (.int .i64 v) a b = iv (itG L T x y (z + 1)) a b := by
  unfold upd2 iv
  by_cases e : a = x ∧ b = y
  · rw [if_pos e, e.1, e.2]
    congr 1
    unfold itG
    rw [if_pos ⟨hx, hy⟩, if_neg (by omega), if_pos ⟨rfl, rfl⟩, hv]
  · rw [if_neg e]
    congr 1
    unfold itG
    split
    · split
      · rfl
      · rfl
    · rfl
theorem itG_skip {L : List Int} {T : List (List Int)} {x y z : Int} (hv : impTo L T x y (z + 1) = impTo L T x y z) (a b : Int) : iv (itG L T x y z) a b = iv (itG L T x y (z + 1)) a b := by
  unfold iv itG; rw [hv]
theorem itG_y {L : List Int} {T : List (List Int)} {x y : Int} (a b : Int) : iv (itG L T x y (num L)) a b = iv (itG L T x (y + 1) 0) a b := by
  unfold iv itG
  congr 1
  split
  · by_cases h : a < x ∨ (a = x ∧ b < y)
    · rw [if_pos h, if_pos (by omega)]
    · rw [if_neg h]
      by_cases e : a = x ∧ b = y
      · rw [if_pos e, if_pos (by omega), e.1, e.2]; rfl
      · rw [if_neg e, if_neg (by omega)]
        split
        · rfl
        · rfl
  · rfl
theorem itG_x {L : List Int} {T : List (List Int)} {x : Int} (a b : Int) (b0 : 0 ≤ b) : iv (itG L T x (num L) 0) a b = iv (itG L T (x + 1) 0 0) a b := by
  unfold iv itG
  congr 1
  split
  · by_cases h : a < x ∨ (a = x ∧ b < num L)
    · rw [if_pos h, if_pos (by omega)]
    · rw [if_neg h, if_neg (by omega), if_neg (by omega)]
      split
      · rfl
      · rfl
  · rfl
theorem itG_end {L : List Int} {T : List (List Int)} (a b : Int) : iv (itG L T (num L) 0 0) a b = iv (impG L T) a b := by
  unfold iv itG impG
  congr 1
  split
  · rw [if_pos (by omega)]
  · rfl
/-- the results of a function that hands back a table -/
theorem results_tab {fn : Func} {p : Tmp} (h : fn.results = #[.cell p 56]) (tmps : Array Value) (w : World) (g : Nat) (hp : tmps.getD p undef = .pointer (some ⟨g, 0, none⟩))
    (f : Int → Int → Value) (hg : w.heap[g]? = some (.cells (tab2 f) 56 (0, 0))) :
    (results fn tmps).run Try.prog w = .ok (.agg (tab2 f)) w :=
  results_cell_row h _ _ g _ _ _ _ hp hg Try.underlying56 rfl (size_table _)

end Go.Proofs.Ytmlbdlobdnhimaa
