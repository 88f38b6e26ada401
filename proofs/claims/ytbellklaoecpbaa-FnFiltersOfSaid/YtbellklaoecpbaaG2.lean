import Derived.Test.YtbellklaoecpbaaG0
import Derived.StillTailTactics
namespace Go.Proofs.Ytbellklaoecpbaa
open Go.RowKit

set_option maxRecDepth 100000 in
set_option maxHeartbeats 1000000 in
/-- spec.validAlgebra: no lattice, or the wrong number of rows -/
theorem validAlgebra_len (a b : Option Addr) (ca cb : Nat) (L : List Int) (T : List (List Int)) (w : World) (hr : Rd w a L) (h : latB L = false ∨ (T.length : Int) ≠ L.length) :
    Calls Try.prog 67 #[.agg #[.slice a L.length ca, .slice b T.length cb]] w fun e w' => e = .returned (.bool false) ∧ Below w.heap.size w w' := by
  have hB : Below w.heap.size w (w.alloc (.cells #[.slice a L.length ca, .slice b T.length cb] 26)) := (Below.refl _ _).alloc (Nat.le_refl _) _
  have hx : (w.alloc (.cells #[.slice a L.length ca, .slice b T.length cb] 26)).heap[w.heap.size]? = some (.cells #[.slice a L.length ca, .slice b T.length cb] 26 (0, 0)) := heap_alloc_new w _
  have hr1 := hr.below hB
  cases hl : latB L with
  | false =>
    have HL := Lib.hid hl; clear hl h
    go_enter Try.func67, Try.ntmps67
    go_wp2_with (first | go_skip | (go_at_call 112; refine (validLattice_any _ _ L _ hr1).mono ?_; rw [HL.out]; rintro e w1 ⟨rfl, hd⟩))
    go_ret
    exact ⟨rfl, hB.trans (hd.below _)⟩
  | true =>
    have HL := Lib.hid hl
    have hne : ((T.length : Int) != (L.length : Int)) = true := by
      rcases h with h | h
      · rw [hl] at h; cases h
      · rw [bne_iff_ne]; exact h
    clear hl h
    go_enter Try.func67, Try.ntmps67
    go_wp2_with (first | go_skip | (go_at_call 112; refine (validLattice_any _ _ L _ hr1).mono ?_; rw [HL.out]; rintro e w1 ⟨rfl, hd⟩; obtain ⟨k, rfl⟩ := hd))
    go_ret
    exact ⟨rfl, hB.trans (Dr.below ⟨k, rfl⟩ _)⟩
end Go.Proofs.Ytbellklaoecpbaa
