import Derived.Test.YtpfnfglaokiipaaT1
namespace Go.Proofs.Ytpfnfglaokiipaa
open Go.RowKit

set_option maxRecDepth 100000 in
set_option maxHeartbeats 2000000 in
/-- spec.turned -/
theorem turned_any (b off cap : Nat) (L : List Int) (w : World) (hc : Cells w b off L) (hs : Small L) (h1 : 1 ≤ num L) :
    Calls Try.prog 63 #[.slice (some ⟨b, off, none⟩) L.length cap] w fun e w' => e = .returned (.slice (some ⟨w.heap.size, 0, none⟩) L.length L.length) ∧ Row w' w.heap.size (turnL L) ∧ Below w.heap.size w w' := by
  have h6 := hs.len
  have hlt := hc.lt h1
  have hc0 := hc
  have hn : num L = L.length := rfl
  have HN := Lib.hid hn; clear hn
  have hn1 : num L ≤ L.length := by rw [HN.out]; omega
  have hn2 : (L.length : Int) ≤ num L := by rw [HN.out]; omega
  have hmk := run_make_ints L.length (by omega)
  go_enter Try.func63, Try.ntmps63
  go_wp2
  clear hmk
  go_loopw [5] (fun c wr => ∃ x : Int, 0 ≤ x ∧ x ≤ num L ∧ c = .int .i64 x ∧ Row wr w.heap.size (tnTo L x 0) ∧ Below w.heap.size w wr) (fun c _ => (6 - intOf c).toNat)
  case atStart => exact ⟨0, by omega, by omega, rfl, by rw [tnTo_zero]; exact heap_alloc_new w _, (Below.refl _ _).alloc (Nat.le_refl _) _⟩
  case round =>
    obtain ⟨x, x0, x1, rfl, hrow, hbel⟩ := hrel
    by_cases hx : x < num L
    · have hxl : x < L.length := by omega
      go_wp2
      obtain ⟨w1, rfl⟩ : ∃ w1 : World, w1 = wr := ⟨_, rfl⟩
      go_loopw [6] (fun c wr => ∃ y : Int, 0 ≤ y ∧ y ≤ num L ∧ c = .int .i64 y ∧ Row wr w.heap.size (tnTo L x y) ∧ Below w.heap.size w wr) (fun c _ => (6 - intOf c).toNat)
      case atStart => exact ⟨0, by omega, by omega, rfl, hrow, hbel⟩
      case round =>
        obtain ⟨y, y0, y1, rfl, hrow, hbel⟩ := hrel
        by_cases hy : y < num L
        · have hyl : y < L.length := by omega
          replace hc : Cells wr b off L := hc0.below hbel hlt
          cases hq : bl L x y with
          | false =>
            have hsk := Lib.hid (tnTo_skip (y := y) x0 hq)
            go_wp2_with (go_at_call 49; refine (below_any _ _ _ L _ _ _ hc hs x0 hx y0 (by omega)).mono ?_; rintro e w' ⟨rfl, rfl⟩)
            go_roundw
            case rel => exact ⟨y + 1, by omega, by omega, rfl, by rw [hsk.out]; exact hrow, hbel⟩
            case measure => simp [intOf]; omega
          | true =>
            have hnx := Lib.hid (tnTo_next x0 hy hq)
            have hlen := tnTo_len L x y
            have z0 : 0 ≤ num L - 1 - y := by omega
            have hc1 := hrow.cell z0 (by rw [hlen]; omega)
            rw [tnTo_nth y0 hy] at hc1
            have hf1 := hrow.free (num L - 1 - y).toNat
            have eN : (num L - 1 - y).toNat = L.length - 1 - y.toNat := by have := HN.out; omega
            rw [eN] at hnx
            have eP : num L - 1 - x = L.length - 1 - x := by have := HN.out; omega
            rw [eP] at hnx
            obtain ⟨q0, q1⟩ := dnTo_bound (fun a => bl L a y) x0 (by omega : x ≤ num L)
            have p1 := pw_30 (num L) (by omega)
            have p2 := pw_30 ((L.length : Int) - 1 - x) (by omega)
            have p3 := pw_pos ((L.length : Int) - 1 - x)
            have eM : num L - 1 - y = L.length - 1 - y := by have := HN.out; omega
            rw [eM] at hc1 hf1
            have k1 : IntKind.i64.wrap ((L.length : Int) - 1) = L.length - 1 := IntWalk.i64_in _ (by omega)
            have k2 : IntKind.i64.wrap ((L.length : Int) - 1 - y) = L.length - 1 - y := IntWalk.i64_in _ (by omega)
            have k3 : IntKind.i64.wrap ((L.length : Int) - 1 - x) = L.length - 1 - x := IntWalk.i64_in _ (by omega)
            have k4 : IntKind.i64.wrap (dnTo (fun a => bl L a y) (num L) x + pw ((L.length : Int) - 1 - x)) = dnTo (fun a => bl L a y) (num L) x + pw ((L.length : Int) - 1 - x) := IntWalk.i64_in _ (by omega)
            have k5 : (0 : Int) ≤ L.length - 1 - y := by omega
            have k6 : (L.length : Int) - 1 - y < L.length := by omega
            have k7 : y ≤ (L.length : Int) - 1 := by omega
            have k8 : ((L.length : Int) - 1 - y).toNat = L.length - 1 - y.toNat := by omega
            have hc2 := hc1
            have hf2 := hf1
            rw [k8] at hc2 hf2
            clear hlen eN eP eM
            go_wp2_with (go_at_call 49; refine (below_any _ _ _ L _ _ _ hc hs x0 hx y0 (by omega)).mono ?_; rintro e w' ⟨rfl, rfl⟩)
            go_region_with (go_at_call 88; refine (power_any _ _ (by omega) (by omega)).mono ?_; rintro e w' ⟨rfl, rfl⟩)
            all_goals
              clear k1 k2 k3 k4 k5 k6 k7 k8
              go_wp2
              go_roundw
              case rel => exact ⟨y + 1, by omega, by omega, rfl, by rw [← hnx.out]; exact (hrow.set _ _).dr ⟨1, rfl⟩, (hbel.setCell (by simp) _).drew⟩
              case measure => simp [intOf]; omega
        · have e : y = num L := by omega
          subst e
          go_wp2
          go_roundw
          case rel => exact ⟨x + 1, by omega, by omega, rfl, by rw [← tnTo_row]; exact hrow, hbel⟩
          case measure => simp [intOf]; omega
    · have e : x = num L := by omega
      have hall := Lib.hid (tnTo_all L)
      subst e
      go_wp2
      go_ret
      exact ⟨rfl, by rw [← hall.out]; exact hrow, hbel⟩
end Go.Proofs.Ytpfnfglaokiipaa
