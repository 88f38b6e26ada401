import Derived.Test.YtjcambkjcagcoaaGreatTM11
namespace Go.Proofs.YtjcambkjcagcoaaGreat
open Go.RowKit
set_option linter.unusedVariables false

theorem rowAt_one (t : List Int) : rowAt [t] ((0 : Nat) : Int) = t := rfl
theorem tmCells_one {w : World} {tb : Nat} {at_ : Option Addr} {ct : Nat} {t : List Int} (hc : w.cell? ⟨tb, 0, none⟩ = some (.slice at_ t.length ct)) (hr : Rd w at_ t) (h1 : t.length ≤ ct) (h2 : t.length ≤ 1048576) : TmCells w tb [t] := fun j hj => by
  have : j = 0 := by simp at hj; omega
  subst this
  exact ⟨at_, ct, hc, hr, h1, h2⟩
theorem all_one {t : List Int} : (∀ j : Nat, j < [t].length → vtB (rowAt [t] j) = true) ↔ vtB t = true := by
  refine ⟨fun h => h 0 (by simp), fun h j hj => ?_⟩
  have : j = 0 := by simp at hj; omega
  subst this
  exact h
theorem nmB_has (L N : List Int) : nmB L N = (withB L N && decide (num N = 3)) := by
  unfold nmB withB
  congr 1
  refine allI_congr fun i i0 i1 => ?_
  unfold nmR inE
  congr 1
  have hn : num L = L.length := rfl
  by_cases h : nth N i < (L.length : Int)
  · rw [decide_eq_true h, decide_eq_true (by omega)]
  · rw [decide_eq_false h, decide_eq_false (by omega)]
/-- an algebra and one term are read, by a caller -/
theorem readAT_one (a b : Option Addr) (ca cb : Nat) (L : List Int) (T : List (List Int)) (at_ : Option Addr) (ct : Nat) (t : List Int) (w : World) (hr : Rd w a L) (hT : RdT w b T) (ht : Rd w at_ t) (hct : t.length ≤ ct) (hmt : t.length ≤ 1048576) :
    Calls Tryz.prog 63 #[.agg #[.slice a L.length ca, .slice b T.length cb], .slice (some ⟨w.heap.size, 0, none⟩) 1 1] (w.alloc (.cells #[.slice at_ t.length ct] 23)) fun e w' =>
      (algB L T = true ∧ vtB t = true ∧ ∃ nb, e = .returned (.tuple #[.agg (algOf L T), .slice (some ⟨nb, 0, none⟩) 1 1, .bool true]) ∧ w.heap.size ≤ nb ∧ NdAt w' nb [tmV t.length t] ∧ Below w.heap.size w w') ∨
      ((algB L T && vtB t) = false ∧ e = .returned (.tuple #[.agg zeroAlg, .slice none 0 0, .bool false]) ∧ Below w.heap.size w w') := by
  have hb : Below w.heap.size w (w.alloc (.cells #[.slice at_ t.length ct] 23)) := (Below.refl _ _).alloc (Nat.le_refl _) _
  have hc : (w.alloc (.cells #[.slice at_ t.length ct] 23)).cell? ⟨w.heap.size, 0, none⟩ = some (.slice at_ t.length ct) := by rw [cell_of_row _ w.heap.size 0 _ _ _ (heap_alloc_new w _)]; rfl
  have hs : w.heap.size ≤ (w.alloc (.cells #[.slice at_ t.length ct] 23)).heap.size := hb.size
  refine (readAT_any a b ca cb L T w.heap.size 1 [t] _ (hr.below hb) (hT.below hb) (tmCells_one hc (ht.below hb) hct hmt) (by simp)).mono fun e w' h => ?_
  rcases h with ⟨h1, h2, nb, he, hn, hN, hbb⟩ | ⟨h1, he, hbb⟩
  · exact .inl ⟨h1, all_one.1 h2, nb, he, Nat.le_trans hs hn, hN, hb.trans (hbb.mono hs)⟩
  · refine .inr ⟨?_, he, hb.trans (hbb.mono hs)⟩
    rw [Bool.eq_false_iff]
    intro h
    rw [Bool.and_eq_true] at h
    exact h1 ⟨h.1, all_one.2 h.2⟩
end Go.Proofs.YtjcambkjcagcoaaGreat
