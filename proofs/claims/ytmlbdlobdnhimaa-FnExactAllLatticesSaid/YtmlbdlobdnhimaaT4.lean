import Derived.Test.YtmlbdlobdnhimaaL4
import Derived.Test.YtmlbdlobdnhimaaW4
import Derived.StillTailTactics
import Derived.Deep.RegionWith
import Derived.Test.YtmlbdlobdnhimaaL5
import Derived.Test.YtmlbdlobdnhimaaC3
import Derived.Test.YtmlbdlobdnhimaaR3
namespace Go.Proofs.Ytmlbdlobdnhimaa
open Go.RowKit

/-- the order upside down -/
def turnG (L : List Int) (x y : Int) : Bool := bl L (num L - 1 - y) (num L - 1 - x)
def turnL (L : List Int) : List Int := upL (turnG L) (num L)
/-- the sum of pw (n - 1 - j) over the j below k that q lets by -/
def dnTo (q : Int → Bool) (n k : Int) : Int := (List.range k.toNat).foldl (fun s (j : Nat) => if q j then s + pw (n - 1 - j) else s) 0
theorem dnTo_zero (q : Int → Bool) (n : Int) : dnTo q n 0 = 0 := rfl
theorem dnTo_succ (q : Int → Bool) (n k : Int) (h : 0 ≤ k) : dnTo q n (k + 1) = if q k then dnTo q n k + pw (n - 1 - k) else dnTo q n k := by
  unfold dnTo
  rw [show (k + 1).toNat = k.toNat + 1 by omega, List.range_succ, List.foldl_append]
  simp [Int.toNat_of_nonneg h]
theorem dn_up (q : Int → Bool) (n : Int) : ∀ k : Nat, (k : Int) ≤ n → dnTo q n k + rowTo (fun y => q (n - 1 - y)) (n - k) = rowTo (fun y => q (n - 1 - y)) n
  | 0, _ => by
    have e : ((0 : Nat) : Int) = 0 := rfl
    rw [e, dnTo_zero, Int.sub_zero, Int.zero_add]
  | k + 1, h => by
    have e : ((k + 1 : Nat) : Int) = (k : Int) + 1 := rfl
    rw [e] at h ⊢
    have ih := dn_up q n k (by omega)
    have h1 : n - (k : Int) = (n - ((k : Int) + 1)) + 1 := by omega
    rw [h1, rowTo_succ _ _ (by omega)] at ih
    rw [dnTo_succ q n k (by omega), ← ih]
    have h2 : n - 1 - (n - ((k : Int) + 1)) = k := by omega
    have h3 : n - ((k : Int) + 1) = n - 1 - k := by omega
    simp only [h2]
    rw [h3]
    split <;> omega
theorem dn_all (q : Int → Bool) {n : Int} (n0 : 0 ≤ n) : dnTo q n n = rowTo (fun y => q (n - 1 - y)) n := by
  have := dn_up q n n.toNat (by omega)
  rw [Int.toNat_of_nonneg n0, Int.sub_self, rowTo_zero, Int.add_zero] at this
  exact this
theorem dnTo_bound (q : Int → Bool) {n k : Int} (k0 : 0 ≤ k) (h : k ≤ n) : 0 ≤ dnTo q n k ∧ dnTo q n k ≤ pw n := by
  have h1 := dn_up q n k.toNat (by omega)
  rw [Int.toNat_of_nonneg k0] at h1
  have h2 := rowTo_bound (fun y => q (n - 1 - y)) (show 0 ≤ n - k by omega)
  have h3 := rowTo_bound (fun y => q (n - 1 - y)) (show 0 ≤ n by omega)
  refine ⟨?_, by omega⟩
  have : ∀ j : Nat, 0 ≤ dnTo q n j := by
    intro j
    induction j with
    | zero => exact Int.le_refl _
    | succ j ih =>
      have e : ((j + 1 : Nat) : Int) = (j : Int) + 1 := rfl
      rw [e, dnTo_succ q n j (by omega)]
      have := pw_pos (n - 1 - j)
      split <;> omega
  have := this k.toNat
  rwa [Int.toNat_of_nonneg k0] at this
/-- what spec.turned has written when it is at x and y -/
def tnTo (L : List Int) (x y : Int) : List Int := (List.range L.length).map fun (i : Nat) => dnTo (fun a => bl L a (num L - 1 - i)) (num L) (if num L - 1 - i < y then x + 1 else x)
theorem tnTo_len (L : List Int) (x y : Int) : (tnTo L x y).length = L.length := by simp [tnTo]
theorem tnTo_zero (L : List Int) : tnTo L 0 0 = List.replicate L.length 0 := by
  apply List.ext_getElem
  · simp [tnTo]
  · intro i h1 h2
    simp only [tnTo, List.getElem_map, List.getElem_range, List.getElem_replicate]
    rw [tnTo_len] at h1
    rw [if_neg (by unfold num; omega)]
    rfl
theorem tnTo_nth {L : List Int} {x y : Int} (y0 : 0 ≤ y) (y1 : y < num L) : nth (tnTo L x y) (num L - 1 - y) = dnTo (fun a => bl L a y) (num L) x := by
  have h : (num L - 1 - y).toNat < L.length := by unfold num at *; omega
  have e : (((num L - 1 - y).toNat : Nat) : Int) = num L - 1 - y := by omega
  unfold nth tnTo
  simp only [List.getD_eq_getElem?_getD, List.getElem?_map, List.getElem?_range h, Option.map_some, Option.getD_some, e]
  rw [show num L - 1 - (num L - 1 - y) = y by omega, if_neg (by omega)]
theorem tnTo_next {L : List Int} {x y : Int} (x0 : 0 ≤ x) (y1 : y < num L) (h : bl L x y = true) : (tnTo L x y).set (num L - 1 - y).toNat (dnTo (fun a => bl L a y) (num L) x + pw (num L - 1 - x)) = tnTo L x (y + 1) := by
  apply List.ext_getElem
  · simp [tnTo]
  · intro i h1 h2
    rw [tnTo_len] at h2
    rw [List.getElem_set]
    simp only [tnTo, List.getElem_map, List.getElem_range]
    by_cases e : (num L - 1 - y).toNat = i
    · have e2 : num L - 1 - (i : Int) = y := by omega
      rw [if_pos e, e2, if_pos (by omega), dnTo_succ _ _ _ x0, h]; rfl
    · rw [if_neg e]
      have : (num L - 1 - (i : Int) < y) ↔ (num L - 1 - (i : Int) < y + 1) := by unfold num at *; omega
      simp only [this]
theorem tnTo_skip {L : List Int} {x y : Int} (x0 : 0 ≤ x) (h : bl L x y = false) : tnTo L x (y + 1) = tnTo L x y := by
  unfold tnTo
  refine List.map_congr_left fun i _ => ?_
  by_cases e : num L - 1 - (i : Int) = y
  · rw [e, if_pos (by omega), if_neg (by omega), dnTo_succ _ _ _ x0, h]; rfl
  · have : (num L - 1 - (i : Int) < y + 1) ↔ (num L - 1 - (i : Int) < y) := by omega
    simp only [this]
theorem tnTo_row (L : List Int) (x : Int) : tnTo L x (num L) = tnTo L (x + 1) 0 := by
  unfold tnTo
  refine List.map_congr_left fun i hi => ?_
  have := List.mem_range.1 hi
  rw [if_pos (by unfold num; omega), if_neg (by unfold num; omega)]
theorem tnTo_all (L : List Int) : tnTo L (num L) 0 = turnL L := by
  unfold tnTo turnL upL
  have e : (num L).toNat = L.length := by unfold num; omega
  rw [e]
  refine List.map_congr_left fun i hi => ?_
  have := List.mem_range.1 hi
  rw [if_neg (by unfold num; omega), dn_all _ (by unfold num; omega)]
  rfl
end Go.Proofs.Ytmlbdlobdnhimaa

namespace Go.Proofs.Ytmlbdlobdnhimaa
open Go.RowKit

set_option maxRecDepth 100000 in
set_option maxHeartbeats 2000000 in
/-- spec.turned -/
theorem turned_any (b off cap : Nat) (L : List Int) (w : World) (hc : Cells w b off L) (hs : Small L) (h1 : 1 ≤ num L) :
    Calls Try.prog 78 #[.slice (some ⟨b, off, none⟩) L.length cap] w fun e w' => e = .returned (.slice (some ⟨w.heap.size, 0, none⟩) L.length L.length) ∧ Row w' w.heap.size (turnL L) ∧ Below w.heap.size w w' := by
  have h6 := hs.len
  have hlt := hc.lt h1
  have hc0 := hc
  have hn : num L = L.length := rfl
  have HN := Lib.hid hn; clear hn
  have hn1 : num L ≤ L.length := by rw [HN.out]; omega
  have hn2 : (L.length : Int) ≤ num L := by rw [HN.out]; omega
  have hmk := run_make_ints L.length (by omega)
  go_enter Try.func78, Try.ntmps78
  go_wp2
  clear hmk
  go_loopw [5] (fun c wr => ∃ x : Int, 0 ≤ x ∧ x ≤ num L ∧ c = .int .i64 x ∧ Row wr w.heap.size (tnTo L x 0) ∧ Below w.heap.size w wr) (fun c _ => (6 - intOf c).toNat)
  case atStart => exact ⟨0, by omega, by omega, rfl, by rw [tnTo_zero]; exact heap_alloc_new w _, (Below.refl _ _).alloc (Nat.le_refl _) _⟩
  case round =>
    obtain ⟨x, x0, x1, rfl, hrow, hbel⟩ := hrel
    by_cases hx : x < num L
    · have hxl : x < L.length := by omega
      go_wp2
      obtain ⟨w1, rfl⟩ : ∃ w1 : World, w1 = wr := ⟨_, rfl⟩
      go_loopw [6] (fun c wr => ∃ y : Int, 0 ≤ y ∧ y ≤ num L ∧ c = .int .i64 y ∧ Row wr w.heap.size (tnTo L x y) ∧ Below w.heap.size w wr) (fun c _ => (6 - intOf c).toNat)
      case atStart => exact ⟨0, by omega, by omega, rfl, hrow, hbel⟩
      case round =>
        obtain ⟨y, y0, y1, rfl, hrow, hbel⟩ := hrel
        by_cases hy : y < num L
        · have hyl : y < L.length := by omega
          replace hc : Cells wr b off L := hc0.below hbel hlt
          cases hq : bl L x y with
          | false =>
            have hsk := Lib.hid (tnTo_skip (y := y) x0 hq)
            go_wp2_with (go_at_call 67; refine (below_any _ _ _ L _ _ _ hc hs x0 hx y0 (by omega)).mono ?_; rintro e w' ⟨rfl, rfl⟩)
            go_roundw
            case rel => exact ⟨y + 1, by omega, by omega, rfl, by rw [hsk.out]; exact hrow, hbel⟩
            case measure => simp [intOf]; omega
          | true =>
            have hnx := Lib.hid (tnTo_next x0 hy hq)
            have hlen := tnTo_len L x y
            have z0 : 0 ≤ num L - 1 - y := by omega
            have hc1 := hrow.cell z0 (by rw [hlen]; omega)
            rw [tnTo_nth y0 hy] at hc1
            have hf1 := hrow.free (num L - 1 - y).toNat
            have eN : (num L - 1 - y).toNat = L.length - 1 - y.toNat := by have := HN.out; omega
            rw [eN] at hnx
            have eP : num L - 1 - x = L.length - 1 - x := by have := HN.out; omega
            rw [eP] at hnx
            obtain ⟨q0, q1⟩ := dnTo_bound (fun a => bl L a y) x0 (by omega : x ≤ num L)
            have p1 := pw_30 (num L) (by omega)
            have p2 := pw_30 ((L.length : Int) - 1 - x) (by omega)
            have p3 := pw_pos ((L.length : Int) - 1 - x)
            have eM : num L - 1 - y = L.length - 1 - y := by have := HN.out; omega
            rw [eM] at hc1 hf1
            have k1 : IntKind.i64.wrap ((L.length : Int) - 1) = L.length - 1 := IntWalk.i64_in _ (by omega)
            have k2 : IntKind.i64.wrap ((L.length : Int) - 1 - y) = L.length - 1 - y := IntWalk.i64_in _ (by omega)
            have k3 : IntKind.i64.wrap ((L.length : Int) - 1 - x) = L.length - 1 - x := IntWalk.i64_in _ (by omega)
            have k4 : IntKind.i64.wrap (dnTo (fun a => bl L a y) (num L) x + pw ((L.length : Int) - 1 - x)) = dnTo (fun a => bl L a y) (num L) x + pw ((L.length : Int) - 1 - x) := IntWalk.i64_in _ (by omega)
            have k5 : (0 : Int) ≤ L.length - 1 - y := by omega
            have k6 : (L.length : Int) - 1 - y < L.length := by omega
            have k7 : y ≤ (L.length : Int) - 1 := by omega
            have k8 : ((L.length : Int) - 1 - y).toNat = L.length - 1 - y.toNat := by omega
            have hc2 := hc1
            have hf2 := hf1
            rw [k8] at hc2 hf2
            clear hlen eN eP eM
            go_wp2_with (go_at_call 67; refine (below_any _ _ _ L _ _ _ hc hs x0 hx y0 (by omega)).mono ?_; rintro e w' ⟨rfl, rfl⟩)
            go_region_with (go_at_call 108; refine (power_any _ _ (by omega) (by omega)).mono ?_; rintro e w' ⟨rfl, rfl⟩)
            all_goals
              clear k1 k2 k3 k4 k5 k6 k7 k8
              go_wp2
              go_roundw
              case rel => exact ⟨y + 1, by omega, by omega, rfl, by rw [← hnx.out]; exact (hrow.set _ _).dr ⟨1, rfl⟩, (hbel.setCell (by simp) _).drew⟩
              case measure => simp [intOf]; omega
        · have e : y = num L := by omega
          subst e
          go_wp2
          go_roundw
          case rel => exact ⟨x + 1, by omega, by omega, rfl, by rw [← tnTo_row]; exact hrow, hbel⟩
          case measure => simp [intOf]; omega
    · have e : x = num L := by omega
      have hall := Lib.hid (tnTo_all L)
      subst e
      go_wp2
      go_ret
      exact ⟨rfl, by rw [← hall.out]; exact hrow, hbel⟩
end Go.Proofs.Ytmlbdlobdnhimaa

namespace Go.Proofs.Ytmlbdlobdnhimaa
open Go.RowKit

set_option maxRecDepth 100000 in
set_option maxHeartbeats 1000000 in
/-- the closure of impl.TurnedLattice -/
theorem turnClo_any (L : List Int) (b6 b7 : Nat) (x y : Int) (w : World) (hL : LatAt w b6 L) (h7 : w.heap[b7]? = some (.cells #[.int .i64 (L.length - 1)] 3 (0, 0))) (h6 : num L ≤ 6) (x0 : 0 ≤ x) (x1 : x < num L) (y0 : 0 ≤ y) (y1 : y < num L) {r : Bool} (hr : turnG L x y = r) :
    Calls Try.prog 64 #[.int .i64 x, .int .i64 y, .pointer (some ⟨b6, 0, none⟩), .pointer (some ⟨b7, 0, none⟩)] w fun e w' => e = .returned (.bool r) ∧ Dr w w' := by
  have c7 := cell_of_one h7
  have hn : num L = L.length := rfl
  have x2 : x < L.length := by omega
  have y2 : y < L.length := by omega
  have l6 : (L.length : Int) ≤ 6 := by omega
  have d0 := hL.g (x := (L.length : Int) - 1 - y) (y := (L.length : Int) - 1 - x) (by omega) (by omega) (by omega) (by omega)
  have ho : ordG L ((L.length : Int) - 1 - y) ((L.length : Int) - 1 - x) = r := by rw [← hr, ordG_in (by omega) (by omega)]; rfl
  rw [ho] at d0
  have k1 : IntKind.i64.wrap ((L.length : Int) - 1 - y) = L.length - 1 - y := IntWalk.i64_in _ (by omega)
  have k2 : IntKind.i64.wrap ((L.length : Int) - 1 - x) = L.length - 1 - x := IntWalk.i64_in _ (by omega)
  have k3 : (0 : Int) ≤ L.length - 1 - y := by omega
  have k4 : (0 : Int) ≤ L.length - 1 - x := by omega
  have k5 : (L.length : Int) - 1 - y < 6 := by omega
  have k6 : (L.length : Int) - 1 - x < 6 := by omega
  have k7 : ((L.length : Int) - 1 - y).toNat = L.length - 1 - y.toNat := by omega
  have k8 : ((L.length : Int) - 1 - x).toNat = L.length - 1 - x.toNat := by omega
  have d1 := d0
  rw [k7, k8] at d1
  clear hn ho hr
  go_enter Try.func64, Try.ntmps64
  go_wp2
  go_quiet (fail)
  go_wp2
  go_ret
  exact ⟨rfl, ⟨_, rfl⟩⟩

set_option maxRecDepth 100000 in
set_option maxHeartbeats 2000000 in
/-- impl.upOf at the closure of turn -/
theorem upOf_turn (L : List Int) (b6 b7 : Nat) (n : Int) (w : World) (n0 : 0 ≤ n) (n6 : n ≤ 6) (hn : n = num L) (hL : LatAt w b6 L) (h7 : w.heap[b7]? = some (.cells #[.int .i64 (L.length - 1)] 3 (0, 0))) :
    Calls Try.prog 63 #[.int .i64 n, .func (.func 64) #[] #[.pointer (some ⟨b6, 0, none⟩), .pointer (some ⟨b7, 0, none⟩)]] w fun e w' => e = .returned (.slice (some ⟨w.heap.size, 0, none⟩) n.toNat n.toNat) ∧ Row w' w.heap.size (upL (turnG L) n) ∧ Below w.heap.size w w' := by
  have hnn : n ≤ num L ∧ num L ≤ n := by omega
  have hnn1 := hnn.1
  have hnn2 := hnn.2
  clear hn hnn
  have hmk := run_make_ints n.toNat (by omega)
  rw [Int.toNat_of_nonneg n0] at hmk
  go_enter Try.func63, Try.ntmps63
  go_wp2
  clear hmk
  go_loopw [6, 7, 11] (fun _ _ c wr => ∃ x : Int, 0 ≤ x ∧ x ≤ n ∧ c = .int .i64 x ∧ Row wr w.heap.size (upTo (turnG L) n x 0) ∧ Below w.heap.size w wr) (fun _ _ c _ => (6 - intOf c).toNat)
  case atStart => exact ⟨0, by omega, by omega, rfl, by rw [upTo_zero]; exact heap_alloc_new w _, (Below.refl _ _).alloc (Nat.le_refl _) _⟩
  case round =>
    obtain ⟨x, x0, x1, rfl, hrow, hbel⟩ := hrel
    by_cases hx : x < n
    · go_wp2
      obtain ⟨w1, rfl⟩ : ∃ w1 : World, w1 = wr := ⟨_, rfl⟩
      go_loopw [7, 15] (fun _ c wr => ∃ y : Int, 0 ≤ y ∧ y ≤ n ∧ c = .int .i64 y ∧ Row wr w.heap.size (upTo (turnG L) n x y) ∧ Below w.heap.size w wr) (fun _ c _ => (6 - intOf c).toNat)
      case atStart => exact ⟨0, by omega, by omega, rfl, hrow, hbel⟩
      case round =>
        obtain ⟨y, y0, y1, rfl, hrow, hbel⟩ := hrel
        by_cases hy : y < n
        · have hlen := upTo_len (turnG L) n x y
          have hcc : ∀ wz, Row wz w.heap.size (upTo (turnG L) n x y) → wz.cell? ⟨w.heap.size, x.toNat, none⟩ = some (.int .i64 (rowTo ((turnG L) x) y)) := fun wz hz => by
            have := hz.cell x0 (by rw [hlen]; omega)
            rwa [upTo_nth _ x0 hx] at this
          have HCC := Lib.hid hcc
          have hpw := wrap_pwI y (by omega)
          have hxl : x.toNat < n.toNat := by omega
          clear hlen hcc
          have eL := hL.below hbel hL.lt
          have e7 : wr.heap[b7]? = some (.cells #[.int .i64 (L.length - 1)] 3 (0, 0)) := (hbel.block _ (lt_of_block h7)).trans h7
          cases hq : (turnG L) x y with
          | false =>
            have hs := Lib.hid (upTo_skip (turnG L) (n := n) (x := x) y0 hq)
            have HQ := Lib.hid hq
            clear hq
            go_wp2_with (go_at_call 64; refine (turnClo_any L b6 b7 x y wr eL e7 (by omega) x0 (by omega) y0 (by omega) HQ.out).mono ?_; rintro e w9 ⟨rfl, hd⟩)
            go_roundw
            case rel => exact ⟨y + 1, by omega, by omega, rfl, by rw [hs.out]; exact hrow.dr hd, hbel.trans (hd.below _)⟩
            case measure => simp [intOf]; omega
          | true =>
            have hs := Lib.hid (upTo_next (turnG L) (n := n) (y := y) x0)
            have ho := rowTo_or ((turnG L) x) y0 (by omega) hq
            have HQ := Lib.hid hq
            clear hq
            go_wp2_with (go_at_call 64; refine (turnClo_any L b6 b7 x y wr eL e7 (by omega) x0 (by omega) y0 (by omega) HQ.out).mono ?_; rintro e w9 ⟨rfl, hd⟩; have hrow9 := hrow.dr hd; have hc0 := HCC.out w9 hrow9; have hf0 := hrow9.free x.toNat)
            go_region
            go_wp2
            go_roundw
            case rel => exact ⟨y + 1, by omega, by omega, rfl, by rw [← hs.out]; exact (hrow9.set _ _).dr ⟨1, rfl⟩, ((hbel.trans (hd.below _)).setCell (by simp) _).drew⟩
            case measure => simp [intOf]; omega
        · have e : y = n := by omega
          subst e
          go_wp2
          go_roundw
          case rel => exact ⟨x + 1, by omega, by omega, rfl, by rw [← upTo_row]; exact hrow, hbel⟩
          case measure => simp [intOf]; omega
    · have e : x = n := by omega
      subst e
      go_wp2
      go_ret
      exact ⟨rfl, by rw [← upTo_all]; exact hrow, hbel⟩

end Go.Proofs.Ytmlbdlobdnhimaa

namespace Go.Proofs.Ytmlbdlobdnhimaa
open Go.RowKit

def turnedI (L : List Int) : List Int := if latB L then turnL L else []
theorem turnedI_t {L : List Int} (h : latB L = true) : turnedI L = turnL L := if_pos h
theorem turnedI_f {L : List Int} (h : latB L = false) : turnedI L = [] := if_neg (by rw [h]; decide)
theorem turnL_len (L : List Int) : (turnL L).length = L.length := by simp [turnL, upL, num]
theorem turnedI_len (L : List Int) : (turnedI L).length ≤ 6 := by
  cases h : latB L with
  | false => rw [turnedI_f h]; simp
  | true => rw [turnedI_t h, turnL_len]; have := (latB_parts h).2.1; unfold num at this; omega

set_option maxHeartbeats 400000 in
/-- spec.TurnedLattice -/
theorem specTurnedLattice_any (a : Option Addr) (cap : Nat) (L : List Int) (w : World) (hr : Rd w a L) :
    Calls Try.prog 42 #[.slice a L.length cap] w (RetSl w.heap.size (turnedI L) w) := by
  cases hA : latB L with
  | false =>
    have hv := Lib.hid (turnedI_f hA)
    go_enter Try.func42, Try.ntmps42
    go_wp2_with (go_at_call 60; refine (validLattice_any _ _ _ _ hr).mono ?_; rintro e w1 ⟨rfl, hd⟩)
    go_ret
    rw [hv.out]
    exact ⟨none, 0, rfl, Own.nothing _ _, hd.below _⟩
  | true =>
    obtain ⟨h1, h6, hs⟩ := latB_parts hA
    obtain ⟨b, off, rfl, hc⟩ := hr.pos h1
    have hv := Lib.hid (turnedI_t hA)
    have hl := Lib.hid (turnL_len L)
    have hm : L.length ≤ 6 := by unfold num at h6; omega
    go_enter Try.func42, Try.ntmps42
    go_wp2_with (first | (go_at_call 60; refine (validLattice_any _ _ _ _ hr).mono ?_; rintro e w1 ⟨rfl, hd⟩) | (go_at_call 78; refine (turned_any _ _ _ L _ (hd.cells hc) hs h1).mono ?_; rintro e w2 ⟨rfl, hrow, hb⟩))
    go_ret
    rw [hv.out]
    have ho := Own.row hrow (hd.below 0).size (by rw [hl.out]; unfold maxLen; omega)
    refine ⟨_, _, by rw [hl.out]; rfl, ?_, (hd.below _).trans (hb.mono (hd.below 0).size)⟩
    rw [hl.out] at ho ⊢
    exact ho

set_option maxRecDepth 100000 in
set_option maxHeartbeats 1000000 in
/-- impl.TurnedLattice -/
theorem implTurnedLattice_any (a : Option Addr) (cap : Nat) (L : List Int) (w : World) (hr : Rd w a L) :
    Calls Try.prog 19 #[.slice a L.length cap] w (RetSl w.heap.size (turnedI L) w) := by
  cases hB : latB L with
  | false =>
    have hv := Lib.hid (turnedI_f hB)
    have HB := Lib.hid hB; clear hB
    go_enter Try.func19, Try.ntmps19
    go_wp2_with (first
      | (go_at_call 59; refine (readLattice_no _ _ _ _ hr HB.out).mono ?_; rintro e w1 ⟨rfl, h1⟩)
      | (refine wpList_store_row rfl 58 _ _ rfl w1.heap.size zeroLat rfl rfl _ _ (heap_alloc_new w1 (.cells zeroLat 58)) (size_lat _ _ _ _) rfl (one_lat _ _ _ _) ?_; rw [World.setRow_alloc_new]))
    go_ret
    rw [hv.out]
    exact ⟨none, 0, rfl, Own.nothing _ _, h1.alloc h1.size _⟩
  | true =>
    obtain ⟨p1, p6, _⟩ := latB_parts hB
    have hv := Lib.hid (turnedI_t hB)
    have hl := Lib.hid (turnL_len L)
    have hm : L.length ≤ 6 := by unfold num at p6; omega
    have hm1 : (L.length : Int) ≤ 6 := by omega
    have hm2 : 1 ≤ (L.length : Int) := p1
    have HB := Lib.hid hB; clear hB
    go_enter Try.func19, Try.ntmps19
    go_wp2_with (first
      | (go_at_call 59; refine (readLattice_yes _ _ _ _ hr HB.out).mono ?_; rintro e w1 ⟨rfl, h1⟩)
      | (refine wpList_store_row rfl 58 _ _ rfl w1.heap.size (latOf L) rfl rfl _ _ (heap_alloc_new w1 (.cells zeroLat 58)) (size_lat _ _ _ _) rfl (one_lat _ _ _ _) ?_; rw [World.setRow_alloc_new]; obtain ⟨b6, hb6⟩ : ∃ b6, b6 = w1.heap.size := ⟨_, rfl⟩; obtain ⟨w2, hw2⟩ : ∃ w2, w2 = w1.alloc (.cells (latOf L) 58) := ⟨_, rfl⟩; rw [← hw2, ← hb6]; have hL : LatAt w2 b6 L := (by rw [hw2, hb6]; exact LatAt.new w1 L); replace h1 : Below w.heap.size w w2 := (by rw [hw2]; exact h1.alloc h1.size _); clear hw2 hb6; have c0 := hL.size; have hlt6 := hL.lt)
      | (refine wpList_load_row_w rfl 58 _ rfl b6 rfl _ _ _ _ hL Try.underlying58 rfl (size_lat _ _ _ _) ?_)
      | (go_at_call 62; refine (greatest_any L _ hm1).mono ?_; rintro e w3 ⟨rfl, h3⟩; replace hL := hL.below h3 hL.lt; replace h1 := h1.trans (h3.mono h1.size); clear c0 hlt6 h3; have c0 := hL.size; have hlt6 := hL.lt)
      | (go_at_call 63; refine (upOf_turn L b6 w3.heap.size L.length _ (by omega) hm1 rfl (hL.below ((Below.refl _ _).alloc (Nat.le_refl _) _) hL.lt) (heap_alloc_new w3 _)).mono ?_; rintro e w9 ⟨rfl, hrow, hb⟩))
    go_ret
    rw [hv.out]
    have hz := h1.size
    have ho := Own.row (B := w.heap.size) hrow (by simp; omega) (by rw [show upL (turnG L) L.length = turnL L from rfl, hl.out]; unfold maxLen; omega)
    rw [show upL (turnG L) L.length = turnL L from rfl, hl.out] at ho
    have e9 : ∀ o, (w3.alloc o).heap.size = w3.heap.size + 1 := fun o => by simp
    rw [e9] at ho
    refine ⟨_, _, by rw [hl.out]; rfl, ?_, (h1.alloc h1.size _).trans (hb.mono (by simp; omega))⟩
    rw [hl.out]
    exact ho

end Go.Proofs.Ytmlbdlobdnhimaa
