import Derived.Test.YtjcambkjcagcoaaGreatTM9
namespace Go.Proofs.YtjcambkjcagcoaaGreat
open Go.RowKit
set_option linter.unusedVariables false

def nmR (L N : List Int) (x : Int) : Bool := decide (0 ≤ nth N x) && decide (nth N x ≤ num L - 1)
/-- elements are given to all names -/
def nmB (L N : List Int) : Bool := allI (num N) (nmR L N) && decide ((N.length : Int) = 3)
/-- the value of numbers -/
def vofI (L : List Int) (T : List (List Int)) (t N : List Int) : Int := if algB L T && (vtB t && nmB L N) then vlI L T N t.length t else -1
theorem nmB_parts {L N : List Int} (h : nmB L N = true) : N.length = 3 ∧ ∀ i, 0 ≤ i → i < 3 → El L (nth N i) := by
  unfold nmB at h
  rw [Bool.and_eq_true, decide_eq_true_eq, allI_iff] at h
  refine ⟨by omega, fun i i0 i1 => ?_⟩
  have := h.1 i i0 (by show i < (N.length : Int); omega)
  unfold nmR at this
  rw [Bool.and_eq_true, decide_eq_true_eq, decide_eq_true_eq] at this
  exact ⟨this.1, by omega⟩
theorem rd_some {w : World} {a : Option Addr} {L : List Int} (h : Rd w a L) (hn : L ≠ []) : ∃ b o, a = some ⟨b, o, none⟩ := by
  obtain ⟨b, o, e, _⟩ := h hn
  exact ⟨b, o, e⟩
theorem rdT_some {w : World} {b : Option Addr} {T : List (List Int)} {L : List Int} (h : RdT w b T) (ha : algB L T = true) : ∃ b' o, b = some ⟨b', o, none⟩ := by
  obtain ⟨B, off, e, _⟩ := tab_of h (alg_shape ha) (lat_len (alg_lat ha)).1
  exact ⟨B, off, e⟩
end Go.Proofs.YtjcambkjcagcoaaGreat
