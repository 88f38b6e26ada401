import Derived.Test.YtpfnfglaokiipaaT2
import Derived.Test.YtpfnfglaokiipaaL5
namespace Go.Proofs.Ytpfnfglaokiipaa
open Go.RowKit

set_option maxRecDepth 100000 in
set_option maxHeartbeats 1000000 in
/-- the closure of impl.TurnedLattice -/
theorem turnClo_any (L : List Int) (b6 b7 : Nat) (x y : Int) (w : World) (hL : LatAt w b6 L) (h7 : w.heap[b7]? = some (.cells #[.int .i64 (L.length - 1)] 3 (0, 0))) (h6 : num L ≤ 6) (x0 : 0 ≤ x) (x1 : x < num L) (y0 : 0 ≤ y) (y1 : y < num L) {r : Bool} (hr : turnG L x y = r) :
    Calls Try.prog 65 #[.int .i64 x, .int .i64 y, .pointer (some ⟨b6, 0, none⟩), .pointer (some ⟨b7, 0, none⟩)] w fun e w' => e = .returned (.bool r) ∧ Dr w w' := by
  have c7 := cell_of_one h7
  have hn : num L = L.length := rfl
  have x2 : x < L.length := by omega
  have y2 : y < L.length := by omega
  have l6 : (L.length : Int) ≤ 6 := by omega
  have d0 := hL.g (x := (L.length : Int) - 1 - y) (y := (L.length : Int) - 1 - x) (by omega) (by omega) (by omega) (by omega)
  have ho : ordG L ((L.length : Int) - 1 - y) ((L.length : Int) - 1 - x) = r := by rw [← hr, ordG_in (by omega) (by omega)]; rfl
  rw [ho] at d0
  have k1 : IntKind.i64.wrap ((L.length : Int) - 1 - y) = L.length - 1 - y := IntWalk.i64_in _ (by omega)
  have k2 : IntKind.i64.wrap ((L.length : Int) - 1 - x) = L.length - 1 - x := IntWalk.i64_in _ (by omega)
  have k3 : (0 : Int) ≤ L.length - 1 - y := by omega
  have k4 : (0 : Int) ≤ L.length - 1 - x := by omega
  have k5 : (L.length : Int) - 1 - y < 6 := by omega
  have k6 : (L.length : Int) - 1 - x < 6 := by omega
  have k7 : ((L.length : Int) - 1 - y).toNat = L.length - 1 - y.toNat := by omega
  have k8 : ((L.length : Int) - 1 - x).toNat = L.length - 1 - x.toNat := by omega
  have d1 := d0
  rw [k7, k8] at d1
  clear hn ho hr
  go_enter Try.func65, Try.ntmps65
  go_wp2
  go_quiet (fail)
  go_wp2
  go_ret
  exact ⟨rfl, ⟨_, rfl⟩⟩

set_option maxRecDepth 100000 in
set_option maxHeartbeats 2000000 in
/-- impl.upOf at the closure of turn -/
theorem upOf_turn (L : List Int) (b6 b7 : Nat) (n : Int) (w : World) (n0 : 0 ≤ n) (n6 : n ≤ 6) (hn : n = num L) (hL : LatAt w b6 L) (h7 : w.heap[b7]? = some (.cells #[.int .i64 (L.length - 1)] 3 (0, 0))) :
    Calls Try.prog 64 #[.int .i64 n, .func (.func 65) #[] #[.pointer (some ⟨b6, 0, none⟩), .pointer (some ⟨b7, 0, none⟩)]] w fun e w' => e = .returned (.slice (some ⟨w.heap.size, 0, none⟩) n.toNat n.toNat) ∧ Row w' w.heap.size (upL (turnG L) n) ∧ Below w.heap.size w w' := by
  have hnn : n ≤ num L ∧ num L ≤ n := by omega
  have hnn1 := hnn.1
  have hnn2 := hnn.2
  clear hn hnn
  have hmk := run_make_ints n.toNat (by omega)
  rw [Int.toNat_of_nonneg n0] at hmk
  go_enter Try.func64, Try.ntmps64
  go_wp2
  clear hmk
  go_loopw [6, 7, 11] (fun _ _ c wr => ∃ x : Int, 0 ≤ x ∧ x ≤ n ∧ c = .int .i64 x ∧ Row wr w.heap.size (upTo (turnG L) n x 0) ∧ Below w.heap.size w wr) (fun _ _ c _ => (6 - intOf c).toNat)
  case atStart => exact ⟨0, by omega, by omega, rfl, by rw [upTo_zero]; exact heap_alloc_new w _, (Below.refl _ _).alloc (Nat.le_refl _) _⟩
  case round =>
    obtain ⟨x, x0, x1, rfl, hrow, hbel⟩ := hrel
    by_cases hx : x < n
    · go_wp2
      obtain ⟨w1, rfl⟩ : ∃ w1 : World, w1 = wr := ⟨_, rfl⟩
      go_loopw [7, 15] (fun _ c wr => ∃ y : Int, 0 ≤ y ∧ y ≤ n ∧ c = .int .i64 y ∧ Row wr w.heap.size (upTo (turnG L) n x y) ∧ Below w.heap.size w wr) (fun _ c _ => (6 - intOf c).toNat)
      case atStart => exact ⟨0, by omega, by omega, rfl, hrow, hbel⟩
      case round =>
        obtain ⟨y, y0, y1, rfl, hrow, hbel⟩ := hrel
        by_cases hy : y < n
        · have hlen := upTo_len (turnG L) n x y
          have hcc : ∀ wz, Row wz w.heap.size (upTo (turnG L) n x y) → wz.cell? ⟨w.heap.size, x.toNat, none⟩ = some (.int .i64 (rowTo ((turnG L) x) y)) := fun wz hz => by
            have := hz.cell x0 (by rw [hlen]; omega)
            rwa [upTo_nth _ x0 hx] at this
          have HCC := Lib.hid hcc
          have hpw := wrap_pwI y (by omega)
          have hxl : x.toNat < n.toNat := by omega
          clear hlen hcc
          have eL := hL.below hbel hL.lt
          have e7 : wr.heap[b7]? = some (.cells #[.int .i64 (L.length - 1)] 3 (0, 0)) := (hbel.block _ (lt_of_block h7)).trans h7
          cases hq : (turnG L) x y with
          | false =>
            have hs := Lib.hid (upTo_skip (turnG L) (n := n) (x := x) y0 hq)
            have HQ := Lib.hid hq
            clear hq
            go_wp2_with (go_at_call 65; refine (turnClo_any L b6 b7 x y wr eL e7 (by omega) x0 (by omega) y0 (by omega) HQ.out).mono ?_; rintro e w9 ⟨rfl, hd⟩)
            go_roundw
            case rel => exact ⟨y + 1, by omega, by omega, rfl, by rw [hs.out]; exact hrow.dr hd, hbel.trans (hd.below _)⟩
            case measure => simp [intOf]; omega
          | true =>
            have hs := Lib.hid (upTo_next (turnG L) (n := n) (y := y) x0)
            have ho := rowTo_or ((turnG L) x) y0 (by omega) hq
            have HQ := Lib.hid hq
            clear hq
            go_wp2_with (go_at_call 65; refine (turnClo_any L b6 b7 x y wr eL e7 (by omega) x0 (by omega) y0 (by omega) HQ.out).mono ?_; rintro e w9 ⟨rfl, hd⟩; have hrow9 := hrow.dr hd; have hc0 := HCC.out w9 hrow9; have hf0 := hrow9.free x.toNat)
            go_region
            go_wp2
            go_roundw
            case rel => exact ⟨y + 1, by omega, by omega, rfl, by rw [← hs.out]; exact (hrow9.set _ _).dr ⟨1, rfl⟩, ((hbel.trans (hd.below _)).setCell (by simp) _).drew⟩
            case measure => simp [intOf]; omega
        · have e : y = n := by omega
          subst e
          go_wp2
          go_roundw
          case rel => exact ⟨x + 1, by omega, by omega, rfl, by rw [← upTo_row]; exact hrow, hbel⟩
          case measure => simp [intOf]; omega
    · have e : x = n := by omega
      subst e
      go_wp2
      go_ret
      exact ⟨rfl, by rw [← upTo_all]; exact hrow, hbel⟩

end Go.Proofs.Ytpfnfglaokiipaa
