import Derived.Test.YtdjhnbofnmhpaaaH4
import Derived.Test.YtdjhnbofnmhpaaaC3
import Derived.Test.YtdjhnbofnmhpaaaG11
import Derived.Test.YtdjhnbofnmhpaaaW4
import Derived.StillTailTactics
import Derived.Deep.RegionWith
import Derived.Test.YtdjhnbofnmhpaaaL5
import Derived.Test.YtdjhnbofnmhpaaaG6
import Derived.Test.YtdjhnbofnmhpaaaA5
namespace Go.Proofs.Ytdjhnbofnmhpaaa
open Go.RowKit

set_option maxRecDepth 100000 in
set_option maxHeartbeats 2000000 in
/-- impl.upOf at whatever closure -/
theorem upOf_any (f : Nat) (env : Array Value) (n : Int) (g : Int → Int → Bool) (w : World) (n0 : 0 ≤ n) (n6 : n ≤ 6) (he : Enters f)
    (H : ∀ (x y : Int) (wr : World), 0 ≤ x → x < n → 0 ≤ y → y < n → Below w.heap.size w wr → Calls Try.prog f (#[.int .i64 x, .int .i64 y] ++ env) wr fun e w' => e = .returned (.bool (g x y)) ∧ Dr wr w') :
    Calls Try.prog 45 #[.int .i64 n, .func (.func f) #[] env] w fun e w' => e = .returned (.slice (some ⟨w.heap.size, 0, none⟩) n.toNat n.toNat) ∧ Row w' w.heap.size (upL g n) ∧ Below w.heap.size w w' := by
  have hmk := run_make_ints n.toNat (by omega)
  rw [Int.toNat_of_nonneg n0] at hmk
  have HH := Lib.hid H; clear H
  have HE := Lib.hid (show ∀ (args : Array Value) (w : World), (callFunc f args).run Try.prog w = .ok (.enter f args) w from he); clear he
  go_enter Try.func45, Try.ntmps45
  go_wp2
  clear hmk
  go_loopw [6, 7, 11] (fun _ _ c wr => ∃ x : Int, 0 ≤ x ∧ x ≤ n ∧ c = .int .i64 x ∧ Row wr w.heap.size (upTo g n x 0) ∧ Below w.heap.size w wr) (fun _ _ c _ => (6 - intOf c).toNat)
  case atStart => exact ⟨0, by omega, by omega, rfl, by rw [upTo_zero]; exact heap_alloc_new w _, (Below.refl _ _).alloc (Nat.le_refl _) _⟩
  case round =>
    obtain ⟨x, x0, x1, rfl, hrow, hbel⟩ := hrel
    by_cases hx : x < n
    · go_wp2
      obtain ⟨w1, rfl⟩ : ∃ w1 : World, w1 = wr := ⟨_, rfl⟩
      go_loopw [7, 15] (fun _ c wr => ∃ y : Int, 0 ≤ y ∧ y ≤ n ∧ c = .int .i64 y ∧ Row wr w.heap.size (upTo g n x y) ∧ Below w.heap.size w wr) (fun _ c _ => (6 - intOf c).toNat)
      case atStart => exact ⟨0, by omega, by omega, rfl, hrow, hbel⟩
      case round =>
        obtain ⟨y, y0, y1, rfl, hrow, hbel⟩ := hrel
        by_cases hy : y < n
        · have hlen := upTo_len g n x y
          have hcc : ∀ wz, Row wz w.heap.size (upTo g n x y) → wz.cell? ⟨w.heap.size, x.toNat, none⟩ = some (.int .i64 (rowTo (g x) y)) := fun wz hz => by
            have := hz.cell x0 (by rw [hlen]; omega)
            rwa [upTo_nth _ x0 hx] at this
          have HCC := Lib.hid hcc
          have hpw := wrap_pwI y (by omega)
          have hxl : x.toNat < n.toNat := by omega
          have hC := HH.out x y wr x0 hx y0 hy hbel
          clear hlen hcc
          cases hq : g x y with
          | false =>
            rw [hq] at hC
            have HC := Lib.hid hC
            have hs := Lib.hid (upTo_skip g (n := n) (x := x) y0 hq)
            clear hq hC
            go_wp2_with (rw [HE.out]; refine (HC.out).mono ?_; rintro e w9 ⟨rfl, hd⟩)
            go_roundw
            case rel => exact ⟨y + 1, by omega, by omega, rfl, by rw [hs.out]; exact hrow.dr hd, hbel.trans (hd.below _)⟩
            case measure => simp [intOf]; omega
          | true =>
            rw [hq] at hC
            have HC := Lib.hid hC
            have hs := Lib.hid (upTo_next g (n := n) (y := y) x0)
            have ho := rowTo_or (g x) y0 (by omega) hq
            clear hq hC
            go_wp2_with (rw [HE.out]; refine (HC.out).mono ?_; rintro e w9 ⟨rfl, hd⟩; have hrow9 := hrow.dr hd; have hc0 := HCC.out w9 hrow9; have hf0 := hrow9.free x.toNat)
            go_region
            go_wp2
            go_roundw
            case rel => exact ⟨y + 1, by omega, by omega, rfl, by rw [← hs.out]; exact (hrow9.set _ _).dr ⟨1, rfl⟩, ((hbel.trans (hd.below _)).setCell (by simp) _).drew⟩
            case measure => simp [intOf]; omega
        · have e : y = n := by omega
          subst e
          go_wp2
          go_roundw
          case rel => exact ⟨x + 1, by omega, by omega, rfl, by rw [← upTo_row]; exact hrow, hbel⟩
          case measure => simp [intOf]; omega
    · have e : x = n := by omega
      subst e
      go_wp2
      go_ret
      exact ⟨rfl, by rw [← upTo_all]; exact hrow, hbel⟩

/-- the order of pairs -/
def crossG (A B : List Int) (p q : Int) : Bool := bl A (p / num B) (q / num B) && bl B (p % num B) (q % num B)
theorem div_fits {p m n : Int} (p0 : 0 ≤ p) (m1 : 1 ≤ m) (h : p < n * m) : 0 ≤ p / m ∧ p / m < n ∧ 0 ≤ p % m ∧ p % m < m :=
  ⟨Int.ediv_nonneg p0 (by omega), Int.ediv_lt_of_lt_mul (by omega) h, Int.emod_nonneg _ (by omega), Int.emod_lt_of_pos _ (by omega)⟩
end Go.Proofs.Ytdjhnbofnmhpaaa

namespace Go.Proofs.Ytdjhnbofnmhpaaa
open Go.RowKit

/-- the order upside down -/
def turnG (L : List Int) (x y : Int) : Bool := bl L (num L - 1 - y) (num L - 1 - x)
def turnL (L : List Int) : List Int := upL (turnG L) (num L)
/-- the sum of pw (n - 1 - j) over the j below k that q lets by -/
def dnTo (q : Int → Bool) (n k : Int) : Int := (List.range k.toNat).foldl (fun s (j : Nat) => if q j then s + pw (n - 1 - j) else s) 0
theorem dnTo_zero (q : Int → Bool) (n : Int) : dnTo q n 0 = 0 := rfl
theorem dnTo_succ (q : Int → Bool) (n k : Int) (h : 0 ≤ k) : dnTo q n (k + 1) = if q k then dnTo q n k + pw (n - 1 - k) else dnTo q n k := by
  unfold dnTo
  rw [show (k + 1).toNat = k.toNat + 1 by omega, List.range_succ, List.foldl_append]
  simp [Int.toNat_of_nonneg h]
theorem dn_up (q : Int → Bool) (n : Int) : ∀ k : Nat, (k : Int) ≤ n → dnTo q n k + rowTo (fun y => q (n - 1 - y)) (n - k) = rowTo (fun y => q (n - 1 - y)) n
  | 0, _ => by
    have e : ((0 : Nat) : Int) = 0 := rfl
    rw [e, dnTo_zero, Int.sub_zero, Int.zero_add]
  | k + 1, h => by
    have e : ((k + 1 : Nat) : Int) = (k : Int) + 1 := rfl
    rw [e] at h ⊢
    have ih := dn_up q n k (by omega)
    have h1 : n - (k : Int) = (n - ((k : Int) + 1)) + 1 := by omega
    rw [h1, rowTo_succ _ _ (by omega)] at ih
    rw [dnTo_succ q n k (by omega), ← ih]
    have h2 : n - 1 - (n - ((k : Int) + 1)) = k := by omega
    have h3 : n - ((k : Int) + 1) = n - 1 - k := by omega
    simp only [h2]
    rw [h3]
    split <;> omega
theorem dn_all (q : Int → Bool) {n : Int} (n0 : 0 ≤ n) : dnTo q n n = rowTo (fun y => q (n - 1 - y)) n := by
  have := dn_up q n n.toNat (by omega)
  rw [Int.toNat_of_nonneg n0, Int.sub_self, rowTo_zero, Int.add_zero] at this
  exact this
theorem dnTo_bound (q : Int → Bool) {n k : Int} (k0 : 0 ≤ k) (h : k ≤ n) : 0 ≤ dnTo q n k ∧ dnTo q n k ≤ pw n := by
  have h1 := dn_up q n k.toNat (by omega)
  rw [Int.toNat_of_nonneg k0] at h1
  have h2 := rowTo_bound (fun y => q (n - 1 - y)) (show 0 ≤ n - k by omega)
  have h3 := rowTo_bound (fun y => q (n - 1 - y)) (show 0 ≤ n by omega)
  refine ⟨?_, by omega⟩
  have : ∀ j : Nat, 0 ≤ dnTo q n j := by
    intro j
    induction j with
    | zero => exact Int.le_refl _
    | succ j ih =>
      have e : ((j + 1 : Nat) : Int) = (j : Int) + 1 := rfl
      rw [e, dnTo_succ q n j (by omega)]
      have := pw_pos (n - 1 - j)
      split <;> omega
  have := this k.toNat
  rwa [Int.toNat_of_nonneg k0] at this
/-- what spec.turned has written when it is at x and y -/
def tnTo (L : List Int) (x y : Int) : List Int := (List.range L.length).map fun (i : Nat) => dnTo (fun a => bl L a (num L - 1 - i)) (num L) (if num L - 1 - i < y then x + 1 else x)
theorem tnTo_len (L : List Int) (x y : Int) : (tnTo L x y).length = L.length := by simp [tnTo]
theorem tnTo_zero (L : List Int) : tnTo L 0 0 = List.replicate L.length 0 := by
  apply List.ext_getElem
  · simp [tnTo]
  · intro i h1 h2
    simp only [tnTo, List.getElem_map, List.getElem_range, List.getElem_replicate]
    rw [tnTo_len] at h1
    rw [if_neg (by unfold num; omega)]
    rfl
theorem tnTo_nth {L : List Int} {x y : Int} (y0 : 0 ≤ y) (y1 : y < num L) : nth (tnTo L x y) (num L - 1 - y) = dnTo (fun a => bl L a y) (num L) x := by
  have h : (num L - 1 - y).toNat < L.length := by unfold num at *; omega
  have e : (((num L - 1 - y).toNat : Nat) : Int) = num L - 1 - y := by omega
  unfold nth tnTo
  simp only [List.getD_eq_getElem?_getD, List.getElem?_map, List.getElem?_range h, Option.map_some, Option.getD_some, e]
  rw [show num L - 1 - (num L - 1 - y) = y by omega, if_neg (by omega)]
theorem tnTo_next {L : List Int} {x y : Int} (x0 : 0 ≤ x) (y1 : y < num L) (h : bl L x y = true) : (tnTo L x y).set (num L - 1 - y).toNat (dnTo (fun a => bl L a y) (num L) x + pw (num L - 1 - x)) = tnTo L x (y + 1) := by
  apply List.ext_getElem
  · simp [tnTo]
  · intro i h1 h2
    rw [tnTo_len] at h2
    rw [List.getElem_set]
    simp only [tnTo, List.getElem_map, List.getElem_range]
    by_cases e : (num L - 1 - y).toNat = i
    · have e2 : num L - 1 - (i : Int) = y := by omega
      rw [if_pos e, e2, if_pos (by omega), dnTo_succ _ _ _ x0, h]; rfl
    · rw [if_neg e]
      have : (num L - 1 - (i : Int) < y) ↔ (num L - 1 - (i : Int) < y + 1) := by unfold num at *; omega
      simp only [this]
theorem tnTo_skip {L : List Int} {x y : Int} (x0 : 0 ≤ x) (h : bl L x y = false) : tnTo L x (y + 1) = tnTo L x y := by
  unfold tnTo
  refine List.map_congr_left fun i _ => ?_
  by_cases e : num L - 1 - (i : Int) = y
  · rw [e, if_pos (by omega), if_neg (by omega), dnTo_succ _ _ _ x0, h]; rfl
  · have : (num L - 1 - (i : Int) < y + 1) ↔ (num L - 1 - (i : Int) < y) := by omega
    simp only [this]
theorem tnTo_row (L : List Int) (x : Int) : tnTo L x (num L) = tnTo L (x + 1) 0 := by
  unfold tnTo
  refine List.map_congr_left fun i hi => ?_
  have := List.mem_range.1 hi
  rw [if_pos (by unfold num; omega), if_neg (by unfold num; omega)]
theorem tnTo_all (L : List Int) : tnTo L (num L) 0 = turnL L := by
  unfold tnTo turnL upL
  have e : (num L).toNat = L.length := by unfold num; omega
  rw [e]
  refine List.map_congr_left fun i hi => ?_
  have := List.mem_range.1 hi
  rw [if_neg (by unfold num; omega), dn_all _ (by unfold num; omega)]
  rfl
end Go.Proofs.Ytdjhnbofnmhpaaa

namespace Go.Proofs.Ytdjhnbofnmhpaaa
open Go.RowKit

end Go.Proofs.Ytdjhnbofnmhpaaa

namespace Go.Proofs.Ytdjhnbofnmhpaaa
open Go.RowKit

end Go.Proofs.Ytdjhnbofnmhpaaa

namespace Go.Proofs.Ytdjhnbofnmhpaaa
open Go.RowKit

def turnedI (L : List Int) : List Int := if latB L then turnL L else []
theorem turnedI_t {L : List Int} (h : latB L = true) : turnedI L = turnL L := if_pos h
theorem turnedI_f {L : List Int} (h : latB L = false) : turnedI L = [] := if_neg (by rw [h]; decide)
theorem turnL_len (L : List Int) : (turnL L).length = L.length := by simp [turnL, upL, num]
theorem turnedI_len (L : List Int) : (turnedI L).length ≤ 6 := by
  cases h : latB L with
  | false => rw [turnedI_f h]; simp
  | true => rw [turnedI_t h, turnL_len]; have := (latB_parts h).2.1; unfold num at this; omega

end Go.Proofs.Ytdjhnbofnmhpaaa

namespace Go.Proofs.Ytdjhnbofnmhpaaa
open Go.RowKit

theorem mul_le36 {x y : Int} (x0 : 0 ≤ x) (x6 : x ≤ 6) (y0 : 0 ≤ y) (y6 : y ≤ 6) : 0 ≤ x * y ∧ x * y ≤ 36 :=
  ⟨Int.mul_nonneg x0 y0, by have := Int.mul_le_mul x6 y6 y0 (by omega : (0 : Int) ≤ 6); omega⟩
def crossI (A B : List Int) : List Int := if latB A && latB B && decide ((A.length : Int) * B.length ≤ 6) then upL (crossG A B) ((A.length : Int) * B.length) else []
theorem crossI_a {A B : List Int} (h : latB A = false) : crossI A B = [] := by unfold crossI; rw [h]; rfl
theorem crossI_b {A B : List Int} (h : latB B = false) : crossI A B = [] := by unfold crossI; rw [h, Bool.and_false]; rfl
theorem crossI_c {A B : List Int} (h : ¬ (A.length : Int) * B.length ≤ 6) : crossI A B = [] := by unfold crossI; rw [decide_eq_false h, Bool.and_false]; rfl
theorem crossI_t {A B : List Int} (h1 : latB A = true) (h2 : latB B = true) (h : (A.length : Int) * B.length ≤ 6) : crossI A B = upL (crossG A B) ((A.length : Int) * B.length) := by unfold crossI; rw [h1, h2, decide_eq_true h]; rfl
theorem upL_len (g : Int → Int → Bool) (n : Int) : (upL g n).length = n.toNat := by simp [upL]
theorem crossI_len (A B : List Int) : (crossI A B).length ≤ 6 := by
  unfold crossI
  split
  · rename_i h
    simp only [Bool.and_eq_true, decide_eq_true_eq] at h
    rw [upL_len]; omega
  · simp
end Go.Proofs.Ytdjhnbofnmhpaaa

namespace Go.Proofs.Ytdjhnbofnmhpaaa
open Go.RowKit

/-- the rows of an order up to one -/
def upP (g : Int → Int → Bool) (n p : Int) : List Int := (List.range p.toNat).map fun (i : Nat) => rowTo (g i) n
theorem upP_succ (g : Int → Int → Bool) (n p : Int) (h : 0 ≤ p) : upP g n (p + 1) = upP g n p ++ [rowTo (g p) n] := by
  unfold upP
  rw [show (p + 1).toNat = p.toNat + 1 by omega, List.range_succ, List.map_append]
  simp [Int.toNat_of_nonneg h]
theorem upP_len (g : Int → Int → Bool) (n p : Int) : (upP g n p).length = p.toNat := by simp [upP]

end Go.Proofs.Ytdjhnbofnmhpaaa
