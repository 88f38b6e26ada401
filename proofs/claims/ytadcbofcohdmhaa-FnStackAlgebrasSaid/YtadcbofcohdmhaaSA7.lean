import Derived.Test.YtadcbofcohdmhaaSL0
import Derived.Test.YtadcbofcohdmhaaN7
namespace Go.Proofs.Ytadcbofcohdmhaa
open Go.RowKit

/-- a number is drawn -/
def RetV (C g : Nat) (m lo hi : Int) (w : World) (e : Ending) (w' : World) : Prop := ∃ v : Int, lo ≤ v ∧ v ≤ hi ∧ e = .returned (.int .i64 v) ∧ w.grownBy w' (some g) ∧ Rdr w' C g m
theorem RetV.fin {C g : Nat} {m m' lo hi : Int} {w w1 w' : World} {e : Ending} (h : RetV C g m lo hi w1 e w') (hg : w.grownBy w1 (some g)) (hm : m ≤ m') : RetV C g m' lo hi w e w' := by
  obtain ⟨v, v0, v1, rfl, hg2, hr⟩ := h
  exact ⟨v, v0, v1, rfl, grown_trans hg hg2, hr.more hm⟩
theorem full_in {L : List Int} {T : List (List Int)} (ha : algB L T = true) : pw (num L) - 1 ∈ fls L T := by
  rw [fls_mem]
  have p := pw_pos (num L)
  have e : ∀ x, 0 ≤ x → x < num L → ib (pw (num L) - 1) x = true := fun x h1 h2 => full_ib h1 h2
  refine ⟨by omega, by omega, ?_⟩
  have n1 := (lat_len (alg_lat ha)).1
  unfold filB
  rw [Bool.and_eq_true, all2_iff]
  refine ⟨e _ (by omega) (by omega), fun x y x0 x1 y0 y1 => ?_⟩
  have h := tv_el ha (show El L x from ⟨x0, x1⟩) (show El L y from ⟨y0, y1⟩)
  unfold filXY
  rw [e x x0 x1, e y y0 y1, e _ h.1 h.2]; rfl
end Go.Proofs.Ytadcbofcohdmhaa
