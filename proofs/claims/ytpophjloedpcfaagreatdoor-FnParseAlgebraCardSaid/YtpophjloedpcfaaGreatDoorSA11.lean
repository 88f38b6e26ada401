import Derived.Test.YtpophjloedpcfaaGreatDoorSL0
import Derived.Test.YtpophjloedpcfaaGreatDoorN7
import Derived.Test.YtpophjloedpcfaaGreatDoorOF
namespace Go.Proofs.YtpophjloedpcfaaGreatDoor
open Go.RowKit

/-- a number is drawn -/
def RetV (C g : Nat) (m lo hi : Int) (w : World) (e : Ending) (w' : World) : Prop := ∃ v : Int, lo ≤ v ∧ v ≤ hi ∧ e = .returned (.int .i64 v) ∧ w.grownBy w' (some g) ∧ Rdr w' C g m
theorem RetV.fin {C g : Nat} {m m' lo hi : Int} {w w1 w' : World} {e : Ending} (h : RetV C g m lo hi w1 e w') (hg : w.grownBy w1 (some g)) (hm : m ≤ m') : RetV C g m' lo hi w e w' := by
  obtain ⟨v, v0, v1, rfl, hg2, hr⟩ := h
  exact ⟨v, v0, v1, rfl, grown_trans hg hg2, hr.more hm⟩
theorem full_in {L : List Int} {T : List (List Int)} (ha : algB L T = true) : pw (num L) - 1 ∈ fls L T := by
  rw [fls_mem]
  have p := pw_pos (num L)
  have e : ∀ x, 0 ≤ x → x < num L → ib (pw (num L) - 1) x = true := fun x h1 h2 => full_ib h1 h2
  refine ⟨by omega, by omega, ?_⟩
  have n1 := (lat_len (alg_lat ha)).1
  unfold filB
  rw [Bool.and_eq_true, all2_iff]
  refine ⟨e _ (by omega) (by omega), fun x y x0 x1 y0 y1 => ?_⟩
  have h := tv_el ha (show El L x from ⟨x0, x1⟩) (show El L y from ⟨y0, y1⟩)
  unfold filXY
  rw [e x x0 x1, e y y0 y1, e _ h.1 h.2]; rfl
end Go.Proofs.YtpophjloedpcfaaGreatDoor

namespace Go.Proofs.YtpophjloedpcfaaGreatDoor
open Go.RowKit

def RetDAs (w : World) (e : Ending) (w' : World) : Prop := ∃ (L : List Int) (T : List (List Int)) (a : Option Addr) (ca : Nat) (b : Option Addr) (cb : Nat) (s : ByteArray), e = .returned (.tuple #[.string s, .agg #[.slice a L.length ca, .slice b T.length cb]]) ∧ s ∈ prNames ∧ DrA w L T a b w'
theorem results_tmp_Alg {fn : Func} {p u : Tmp} (h : fn.results = #[.tmp u, .cell p 26]) (tmps : Array Value) (w : World) (g : Nat) (hp : tmps.getD p undef = .pointer (some ⟨g, 0, none⟩))
    (s t : Value) {v : Value} (hg : w.heap[g]? = some (.cells #[s, t] 26 (0, 0))) (hu : tmps.getD u undef = v) :
    (results fn tmps).run Tryz.prog w = .ok (.tuple #[v, .agg #[s, t]]) w := by
  have hp' : tmps[p]?.getD undef = .pointer (some ⟨g, 0, none⟩) := by simpa using hp
  have hu' : tmps[u]?.getD undef = v := by simpa using hu
  have hl := run_loadVar_row (P := Tryz.prog) w g _ 26 _ _ _ hg Tryz.underlying26 rfl (size_Alg _ _)
  simp [results, h, hp', hu', asAddr, hl]
end Go.Proofs.YtpophjloedpcfaaGreatDoor
