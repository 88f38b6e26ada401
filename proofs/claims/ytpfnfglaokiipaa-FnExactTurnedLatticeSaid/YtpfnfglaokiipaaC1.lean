import Derived.Test.YtpfnfglaokiipaaL4
namespace Go.Proofs.Ytpfnfglaokiipaa
open Go.RowKit

def leG (x y : Int) : Bool := decide (x ≤ y)
set_option maxRecDepth 100000 in
set_option maxHeartbeats 2000000 in
/-- impl.upOf at the closure of chain -/
theorem upOf_chain (n : Int) (w : World) (n0 : 0 ≤ n) (n6 : n ≤ 6) :
    Calls Try.prog 64 #[.int .i64 n, .func (.func 68) #[] #[]] w fun e w' => e = .returned (.slice (some ⟨w.heap.size, 0, none⟩) n.toNat n.toNat) ∧ Row w' w.heap.size (upL leG n) ∧ Below w.heap.size w w' := by
  have hmk := run_make_ints n.toNat (by omega)
  rw [Int.toNat_of_nonneg n0] at hmk
  go_enter Try.func64, Try.ntmps64
  go_wp2
  clear hmk
  go_loopw [6, 7, 11] (fun _ _ c wr => ∃ x : Int, 0 ≤ x ∧ x ≤ n ∧ c = .int .i64 x ∧ Row wr w.heap.size (upTo leG n x 0) ∧ Below w.heap.size w wr) (fun _ _ c _ => (6 - intOf c).toNat)
  case atStart => exact ⟨0, by omega, by omega, rfl, by rw [upTo_zero]; exact heap_alloc_new w _, (Below.refl _ _).alloc (Nat.le_refl _) _⟩
  case round =>
    obtain ⟨x, x0, x1, rfl, hrow, hbel⟩ := hrel
    by_cases hx : x < n
    · go_wp2
      obtain ⟨w1, rfl⟩ : ∃ w1 : World, w1 = wr := ⟨_, rfl⟩
      go_loopw [7, 15] (fun _ c wr => ∃ y : Int, 0 ≤ y ∧ y ≤ n ∧ c = .int .i64 y ∧ Row wr w.heap.size (upTo leG n x y) ∧ Below w.heap.size w wr) (fun _ c _ => (6 - intOf c).toNat)
      case atStart => exact ⟨0, by omega, by omega, rfl, hrow, hbel⟩
      case round =>
        obtain ⟨y, y0, y1, rfl, hrow, hbel⟩ := hrel
        by_cases hy : y < n
        · have hlen := upTo_len leG n x y
          have hc0 := hrow.cell x0 (by rw [hlen]; omega)
          rw [upTo_nth _ x0 hx] at hc0
          have hf0 := hrow.free x.toNat
          have hpw := wrap_pwI y (by omega)
          have hxl : x.toNat < n.toNat := by omega
          clear hlen
          cases hq : leG x y with
          | false =>
            have hs := Lib.hid (upTo_skip leG (n := n) (x := x) y0 hq)
            unfold leG at hq
            have hq2 : y < x := by simpa using hq
            clear hq
            go_wp2
            go_roundw
            case rel => exact ⟨y + 1, by omega, by omega, rfl, by rw [hs.out]; exact hrow, hbel⟩
            case measure => simp [intOf]; omega
          | true =>
            have hs := Lib.hid (upTo_next leG (n := n) (y := y) x0)
            have ho := rowTo_or (leG x) y0 (by omega) hq
            unfold leG at hq
            have hq2 : x ≤ y := by simpa using hq
            clear hq
            go_wp2
            go_region
            go_wp2
            go_roundw
            case rel => exact ⟨y + 1, by omega, by omega, rfl, by rw [← hs.out]; exact (hrow.set _ _).dr ⟨1, rfl⟩, (hbel.setCell (by simp) _).drew⟩
            case measure => simp [intOf]; omega
        · have e : y = n := by omega
          subst e
          go_wp2
          go_roundw
          case rel => exact ⟨x + 1, by omega, by omega, rfl, by rw [← upTo_row]; exact hrow, hbel⟩
          case measure => simp [intOf]; omega
    · have e : x = n := by omega
      subst e
      go_wp2
      go_ret
      exact ⟨rfl, by rw [← upTo_all]; exact hrow, hbel⟩

end Go.Proofs.Ytpfnfglaokiipaa
