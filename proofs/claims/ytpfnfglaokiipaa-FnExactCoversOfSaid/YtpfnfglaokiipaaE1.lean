import Derived.Test.YtpfnfglaokiipaaT4
import Derived.Test.YtpfnfglaokiipaaM4
namespace Go.Proofs.Ytpfnfglaokiipaa
open Go.RowKit

theorem readOne_no (a : Option Addr) (cap : Nat) (L : List Int) (x : Int) (w : World) (hr : Rd w a L) (h : goodB L x x = false) :
    Calls Try.prog 50 #[.slice a L.length cap, .slice (some ⟨w.heap.size, 0, none⟩) 1 1] (w.alloc (.cells #[.int .i64 x] 3)) fun e w' => e = .returned (.tuple #[.agg zeroLat, .bool false]) ∧ Below w.heap.size w w' := by
  have hb : Below w.heap.size w (w.alloc (.cells #[.int .i64 x] 3)) := (Below.refl _ _).alloc (Nat.le_refl _) _
  have hrow : Row (w.alloc (.cells #[.int .i64 x] 3)) w.heap.size [x] := heap_alloc_new w _
  cases hl : latB L with
  | false => exact (readWith_bad a (some ⟨w.heap.size, 0, none⟩) cap 1 L [x] _ (hr.below hb) hl).mono fun _ _ h => ⟨h.1, hb.trans (h.2.mono (by simp))⟩
  | true =>
    have h2 : withB L [x] = false := by
      rw [good_two, hl, Bool.true_and, withB_two] at h
      unfold withB
      rw [show ((List.length [x] : Nat) : Int) = 0 + 1 from rfl, allI_succ _ (by omega), allI_zero]
      simpa [inE, nth] using h
    have := readWith_lat a (some ⟨w.heap.size, 0, none⟩) cap 1 L [x] _ (hr.below hb) hrow.rd (by simp) hl
    rw [withA_f h2, h2] at this
    exact this.mono fun _ _ h => ⟨h.1, hb.trans (h.2.mono (by simp))⟩
theorem readOne_yes (a : Option Addr) (cap : Nat) (L : List Int) (x : Int) (w : World) (hr : Rd w a L) (h : goodB L x x = true) :
    Calls Try.prog 50 #[.slice a L.length cap, .slice (some ⟨w.heap.size, 0, none⟩) 1 1] (w.alloc (.cells #[.int .i64 x] 3)) fun e w' => e = .returned (.tuple #[.agg (latOf L), .bool true]) ∧ Below w.heap.size w w' := by
  have hb : Below w.heap.size w (w.alloc (.cells #[.int .i64 x] 3)) := (Below.refl _ _).alloc (Nat.le_refl _) _
  have hrow : Row (w.alloc (.cells #[.int .i64 x] 3)) w.heap.size [x] := heap_alloc_new w _
  obtain ⟨hl, _, _, _, x0, x1, _⟩ := goodB_parts h
  have h2 : withB L [x] = true := by
    unfold withB
    rw [show ((List.length [x] : Nat) : Int) = 0 + 1 from rfl, allI_succ _ (by omega), allI_zero]
    unfold num at x1
    simp [inE, nth, x0, x1]
  have := readWith_lat a (some ⟨w.heap.size, 0, none⟩) cap 1 L [x] _ (hr.below hb) hrow.rd (by simp) hl
  rw [withA_t h2, h2] at this
  exact this.mono fun _ _ h => ⟨h.1, hb.trans (h.2.mono (by simp))⟩
end Go.Proofs.Ytpfnfglaokiipaa
