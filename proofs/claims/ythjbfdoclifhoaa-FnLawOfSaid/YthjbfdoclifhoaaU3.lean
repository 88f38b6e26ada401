import Derived.Test.YthjbfdoclifhoaaH4
import Derived.Test.YthjbfdoclifhoaaC3
import Derived.Test.YthjbfdoclifhoaaG11
import Derived.Test.YthjbfdoclifhoaaW4
import Derived.StillTailTactics
import Derived.Deep.RegionWith
import Derived.Test.YthjbfdoclifhoaaL5
import Derived.Test.YthjbfdoclifhoaaG6
import Derived.Test.YthjbfdoclifhoaaA5
namespace Go.Proofs.Ythjbfdoclifhoaa
open Go.RowKit

set_option maxRecDepth 100000 in
set_option maxHeartbeats 2000000 in
/-- impl.upOf at whatever closure -/
theorem upOf_any (f : Nat) (env : Array Value) (n : Int) (g : Int → Int → Bool) (w : World) (n0 : 0 ≤ n) (n6 : n ≤ 6) (he : Enters f)
    (H : ∀ (x y : Int) (wr : World), 0 ≤ x → x < n → 0 ≤ y → y < n → Below w.heap.size w wr → Calls Try.prog f (#[.int .i64 x, .int .i64 y] ++ env) wr fun e w' => e = .returned (.bool (g x y)) ∧ Dr wr w') :
    Calls Try.prog 32 #[.int .i64 n, .func (.func f) #[] env] w fun e w' => e = .returned (.slice (some ⟨w.heap.size, 0, none⟩) n.toNat n.toNat) ∧ Row w' w.heap.size (upL g n) ∧ Below w.heap.size w w' := by
  have hmk := run_make_ints n.toNat (by omega)
  rw [Int.toNat_of_nonneg n0] at hmk
  have HH := Lib.hid H; clear H
  have HE := Lib.hid (show ∀ (args : Array Value) (w : World), (callFunc f args).run Try.prog w = .ok (.enter f args) w from he); clear he
  go_enter Try.func32, Try.ntmps32
  go_wp2
  clear hmk
  go_loopw [6, 7, 11] (fun _ _ c wr => ∃ x : Int, 0 ≤ x ∧ x ≤ n ∧ c = .int .i64 x ∧ Row wr w.heap.size (upTo g n x 0) ∧ Below w.heap.size w wr) (fun _ _ c _ => (6 - intOf c).toNat)
  case atStart => exact ⟨0, by omega, by omega, rfl, by rw [upTo_zero]; exact heap_alloc_new w _, (Below.refl _ _).alloc (Nat.le_refl _) _⟩
  case round =>
    obtain ⟨x, x0, x1, rfl, hrow, hbel⟩ := hrel
    by_cases hx : x < n
    · go_wp2
      obtain ⟨w1, rfl⟩ : ∃ w1 : World, w1 = wr := ⟨_, rfl⟩
      go_loopw [7, 15] (fun _ c wr => ∃ y : Int, 0 ≤ y ∧ y ≤ n ∧ c = .int .i64 y ∧ Row wr w.heap.size (upTo g n x y) ∧ Below w.heap.size w wr) (fun _ c _ => (6 - intOf c).toNat)
      case atStart => exact ⟨0, by omega, by omega, rfl, hrow, hbel⟩
      case round =>
        obtain ⟨y, y0, y1, rfl, hrow, hbel⟩ := hrel
        by_cases hy : y < n
        · have hlen := upTo_len g n x y
          have hcc : ∀ wz, Row wz w.heap.size (upTo g n x y) → wz.cell? ⟨w.heap.size, x.toNat, none⟩ = some (.int .i64 (rowTo (g x) y)) := fun wz hz => by
            have := hz.cell x0 (by rw [hlen]; omega)
            rwa [upTo_nth _ x0 hx] at this
          have HCC := Lib.hid hcc
          have hpw := wrap_pwI y (by omega)
          have hxl : x.toNat < n.toNat := by omega
          have hC := HH.out x y wr x0 hx y0 hy hbel
          clear hlen hcc
          cases hq : g x y with
          | false =>
            rw [hq] at hC
            have HC := Lib.hid hC
            have hs := Lib.hid (upTo_skip g (n := n) (x := x) y0 hq)
            clear hq hC
            go_wp2_with (rw [HE.out]; refine (HC.out).mono ?_; rintro e w9 ⟨rfl, hd⟩)
            go_roundw
            case rel => exact ⟨y + 1, by omega, by omega, rfl, by rw [hs.out]; exact hrow.dr hd, hbel.trans (hd.below _)⟩
            case measure => simp [intOf]; omega
          | true =>
            rw [hq] at hC
            have HC := Lib.hid hC
            have hs := Lib.hid (upTo_next g (n := n) (y := y) x0)
            have ho := rowTo_or (g x) y0 (by omega) hq
            clear hq hC
            go_wp2_with (rw [HE.out]; refine (HC.out).mono ?_; rintro e w9 ⟨rfl, hd⟩; have hrow9 := hrow.dr hd; have hc0 := HCC.out w9 hrow9; have hf0 := hrow9.free x.toNat)
            go_region
            go_wp2
            go_roundw
            case rel => exact ⟨y + 1, by omega, by omega, rfl, by rw [← hs.out]; exact (hrow9.set _ _).dr ⟨1, rfl⟩, ((hbel.trans (hd.below _)).setCell (by simp) _).drew⟩
            case measure => simp [intOf]; omega
        · have e : y = n := by omega
          subst e
          go_wp2
          go_roundw
          case rel => exact ⟨x + 1, by omega, by omega, rfl, by rw [← upTo_row]; exact hrow, hbel⟩
          case measure => simp [intOf]; omega
    · have e : x = n := by omega
      subst e
      go_wp2
      go_ret
      exact ⟨rfl, by rw [← upTo_all]; exact hrow, hbel⟩

/-- the order of pairs -/
def crossG (A B : List Int) (p q : Int) : Bool := bl A (p / num B) (q / num B) && bl B (p % num B) (q % num B)
theorem div_fits {p m n : Int} (p0 : 0 ≤ p) (m1 : 1 ≤ m) (h : p < n * m) : 0 ≤ p / m ∧ p / m < n ∧ 0 ≤ p % m ∧ p % m < m :=
  ⟨Int.ediv_nonneg p0 (by omega), Int.ediv_lt_of_lt_mul (by omega) h, Int.emod_nonneg _ (by omega), Int.emod_lt_of_pos _ (by omega)⟩
theorem enters_cross : Enters 54 := enters_of Try.func54 (by kernel_rfl) rfl

set_option maxRecDepth 100000 in
set_option maxHeartbeats 2000000 in
theorem crossClo_any (A B : List Int) (ba bb bn : Nat) (p q : Int) (w : World) (hA : LatAt w ba A) (hB : LatAt w bb B) (hn : w.heap[bn]? = some (.cells #[.int .i64 B.length] 3 (0, 0))) (a6 : num A ≤ 6) (b1 : 1 ≤ num B) (b6 : num B ≤ 6) (p0 : 0 ≤ p) (p1 : p < num A * num B) (q0 : 0 ≤ q) (q1 : q < num A * num B) :
    Calls Try.prog 54 #[.int .i64 p, .int .i64 q, .pointer (some ⟨ba, 0, none⟩), .pointer (some ⟨bn, 0, none⟩), .pointer (some ⟨bb, 0, none⟩)] w fun e w' => e = .returned (.bool (crossG A B p q)) ∧ Dr w w' := by
  have cn := cell_of_one hn
  obtain ⟨x0, x1, u0, u1⟩ := div_fits p0 b1 p1
  obtain ⟨y0, y1, v0, v1⟩ := div_fits q0 b1 q1
  have hnb : num B = B.length := rfl
  have d0 := hA.g x0 (by omega : p / num B < 6) y0 (by omega : q / num B < 6)
  have d1 := hB.g u0 (by omega : p % num B < 6) v0 (by omega : q % num B < 6)
  rw [ordG_in x1 y1] at d0
  rw [ordG_in u1 v1] at d1
  have hv := Lib.hid (show crossG A B p q = (bl A (p / num B) (q / num B) && bl B (p % num B) (q % num B)) from rfl)
  have t1 : p.tdiv (B.length : Int) = p / num B := Int.tdiv_eq_ediv_of_nonneg p0
  have t2 : q.tdiv (B.length : Int) = q / num B := Int.tdiv_eq_ediv_of_nonneg q0
  have t3 : p.tmod (B.length : Int) = p % num B := Int.tmod_eq_emod_of_nonneg p0
  have t4 : q.tmod (B.length : Int) = q % num B := Int.tmod_eq_emod_of_nonneg q0
  have t5 : IntKind.i64.wrap (p / num B) = p / num B := IntWalk.i64_in _ (by omega)
  have t6 : IntKind.i64.wrap (q / num B) = q / num B := IntWalk.i64_in _ (by omega)
  have t7 : IntKind.i64.wrap (p % num B) = p % num B := IntWalk.i64_in _ (by omega)
  have t8 : IntKind.i64.wrap (q % num B) = q % num B := IntWalk.i64_in _ (by omega)
  have hz : ((B.length : Int) == 0) = false := by rw [beq_eq_false_iff_ne]; omega
  have hz2 : (B.length : Int) ≠ 0 := by omega
  obtain ⟨X, hX⟩ : ∃ X, X = p / num B := ⟨_, rfl⟩
  obtain ⟨Y, hY⟩ : ∃ Y, Y = q / num B := ⟨_, rfl⟩
  obtain ⟨U, hU⟩ : ∃ U, U = p % num B := ⟨_, rfl⟩
  obtain ⟨Z, hZ⟩ : ∃ Z, Z = q % num B := ⟨_, rfl⟩
  rw [← hX] at x0 x1 d0 t1 t5 hv
  rw [← hY] at y0 y1 d0 t2 t6 hv
  rw [← hU] at u0 u1 d1 t3 t7 hv
  rw [← hZ] at v0 v1 d1 t4 t8 hv
  have x6 : X < 6 := by omega
  have y6 : Y < 6 := by omega
  have u6 : U < 6 := by omega
  have z6 : Z < 6 := by omega
  clear hX hY hU hZ hnb p1 q1
  cases hC : bl A X Y <;> cases hD : bl B U Z
  all_goals
    rw [hC] at d0
    rw [hD] at d1
    rw [hC, hD] at hv
    go_enter Try.func54, Try.ntmps54
    go_wp2
    go_quiet (fail)
    go_wp2
    go_ret
    exact ⟨ret_bool (by rw [hv.out]; rfl), ⟨_, rfl⟩⟩
end Go.Proofs.Ythjbfdoclifhoaa

namespace Go.Proofs.Ythjbfdoclifhoaa
open Go.RowKit

/-- the order upside down -/
def turnG (L : List Int) (x y : Int) : Bool := bl L (num L - 1 - y) (num L - 1 - x)
def turnL (L : List Int) : List Int := upL (turnG L) (num L)
/-- the sum of pw (n - 1 - j) over the j below k that q lets by -/
def dnTo (q : Int → Bool) (n k : Int) : Int := (List.range k.toNat).foldl (fun s (j : Nat) => if q j then s + pw (n - 1 - j) else s) 0
theorem dnTo_zero (q : Int → Bool) (n : Int) : dnTo q n 0 = 0 := rfl
theorem dnTo_succ (q : Int → Bool) (n k : Int) (h : 0 ≤ k) : dnTo q n (k + 1) = if q k then dnTo q n k + pw (n - 1 - k) else dnTo q n k := by
  unfold dnTo
  rw [show (k + 1).toNat = k.toNat + 1 by omega, List.range_succ, List.foldl_append]
  simp [Int.toNat_of_nonneg h]
theorem dn_up (q : Int → Bool) (n : Int) : ∀ k : Nat, (k : Int) ≤ n → dnTo q n k + rowTo (fun y => q (n - 1 - y)) (n - k) = rowTo (fun y => q (n - 1 - y)) n
  | 0, _ => by
    have e : ((0 : Nat) : Int) = 0 := rfl
    rw [e, dnTo_zero, Int.sub_zero, Int.zero_add]
  | k + 1, h => by
    have e : ((k + 1 : Nat) : Int) = (k : Int) + 1 := rfl
    rw [e] at h ⊢
    have ih := dn_up q n k (by omega)
    have h1 : n - (k : Int) = (n - ((k : Int) + 1)) + 1 := by omega
    rw [h1, rowTo_succ _ _ (by omega)] at ih
    rw [dnTo_succ q n k (by omega), ← ih]
    have h2 : n - 1 - (n - ((k : Int) + 1)) = k := by omega
    have h3 : n - ((k : Int) + 1) = n - 1 - k := by omega
    simp only [h2]
    rw [h3]
    split <;> omega
theorem dn_all (q : Int → Bool) {n : Int} (n0 : 0 ≤ n) : dnTo q n n = rowTo (fun y => q (n - 1 - y)) n := by
  have := dn_up q n n.toNat (by omega)
  rw [Int.toNat_of_nonneg n0, Int.sub_self, rowTo_zero, Int.add_zero] at this
  exact this
theorem dnTo_bound (q : Int → Bool) {n k : Int} (k0 : 0 ≤ k) (h : k ≤ n) : 0 ≤ dnTo q n k ∧ dnTo q n k ≤ pw n := by
  have h1 := dn_up q n k.toNat (by omega)
  rw [Int.toNat_of_nonneg k0] at h1
  have h2 := rowTo_bound (fun y => q (n - 1 - y)) (show 0 ≤ n - k by omega)
  have h3 := rowTo_bound (fun y => q (n - 1 - y)) (show 0 ≤ n by omega)
  refine ⟨?_, by omega⟩
  have : ∀ j : Nat, 0 ≤ dnTo q n j := by
    intro j
    induction j with
    | zero => exact Int.le_refl _
    | succ j ih =>
      have e : ((j + 1 : Nat) : Int) = (j : Int) + 1 := rfl
      rw [e, dnTo_succ q n j (by omega)]
      have := pw_pos (n - 1 - j)
      split <;> omega
  have := this k.toNat
  rwa [Int.toNat_of_nonneg k0] at this
/-- what spec.turned has written when it is at x and y -/
def tnTo (L : List Int) (x y : Int) : List Int := (List.range L.length).map fun (i : Nat) => dnTo (fun a => bl L a (num L - 1 - i)) (num L) (if num L - 1 - i < y then x + 1 else x)
theorem tnTo_len (L : List Int) (x y : Int) : (tnTo L x y).length = L.length := by simp [tnTo]
theorem tnTo_zero (L : List Int) : tnTo L 0 0 = List.replicate L.length 0 := by
  apply List.ext_getElem
  · simp [tnTo]
  · intro i h1 h2
    simp only [tnTo, List.getElem_map, List.getElem_range, List.getElem_replicate]
    rw [tnTo_len] at h1
    rw [if_neg (by unfold num; omega)]
    rfl
theorem tnTo_nth {L : List Int} {x y : Int} (y0 : 0 ≤ y) (y1 : y < num L) : nth (tnTo L x y) (num L - 1 - y) = dnTo (fun a => bl L a y) (num L) x := by
  have h : (num L - 1 - y).toNat < L.length := by unfold num at *; omega
  have e : (((num L - 1 - y).toNat : Nat) : Int) = num L - 1 - y := by omega
  unfold nth tnTo
  simp only [List.getD_eq_getElem?_getD, List.getElem?_map, List.getElem?_range h, Option.map_some, Option.getD_some, e]
  rw [show num L - 1 - (num L - 1 - y) = y by omega, if_neg (by omega)]
theorem tnTo_next {L : List Int} {x y : Int} (x0 : 0 ≤ x) (y1 : y < num L) (h : bl L x y = true) : (tnTo L x y).set (num L - 1 - y).toNat (dnTo (fun a => bl L a y) (num L) x + pw (num L - 1 - x)) = tnTo L x (y + 1) := by
  apply List.ext_getElem
  · simp [tnTo]
  · intro i h1 h2
    rw [tnTo_len] at h2
    rw [List.getElem_set]
    simp only [tnTo, List.getElem_map, List.getElem_range]
    by_cases e : (num L - 1 - y).toNat = i
    · have e2 : num L - 1 - (i : Int) = y := by omega
      rw [if_pos e, e2, if_pos (by omega), dnTo_succ _ _ _ x0, h]; rfl
    · rw [if_neg e]
      have : (num L - 1 - (i : Int) < y) ↔ (num L - 1 - (i : Int) < y + 1) := by unfold num at *; omega
      simp only [this]
theorem tnTo_skip {L : List Int} {x y : Int} (x0 : 0 ≤ x) (h : bl L x y = false) : tnTo L x (y + 1) = tnTo L x y := by
  unfold tnTo
  refine List.map_congr_left fun i _ => ?_
  by_cases e : num L - 1 - (i : Int) = y
  · rw [e, if_pos (by omega), if_neg (by omega), dnTo_succ _ _ _ x0, h]; rfl
  · have : (num L - 1 - (i : Int) < y + 1) ↔ (num L - 1 - (i : Int) < y) := by omega
    simp only [this]
theorem tnTo_row (L : List Int) (x : Int) : tnTo L x (num L) = tnTo L (x + 1) 0 := by
  unfold tnTo
  refine List.map_congr_left fun i hi => ?_
  have := List.mem_range.1 hi
  rw [if_pos (by unfold num; omega), if_neg (by unfold num; omega)]
theorem tnTo_all (L : List Int) : tnTo L (num L) 0 = turnL L := by
  unfold tnTo turnL upL
  have e : (num L).toNat = L.length := by unfold num; omega
  rw [e]
  refine List.map_congr_left fun i hi => ?_
  have := List.mem_range.1 hi
  rw [if_neg (by unfold num; omega), dn_all _ (by unfold num; omega)]
  rfl
end Go.Proofs.Ythjbfdoclifhoaa

namespace Go.Proofs.Ythjbfdoclifhoaa
open Go.RowKit

end Go.Proofs.Ythjbfdoclifhoaa

namespace Go.Proofs.Ythjbfdoclifhoaa
open Go.RowKit

end Go.Proofs.Ythjbfdoclifhoaa

namespace Go.Proofs.Ythjbfdoclifhoaa
open Go.RowKit

def turnedI (L : List Int) : List Int := if latB L then turnL L else []
theorem turnedI_t {L : List Int} (h : latB L = true) : turnedI L = turnL L := if_pos h
theorem turnedI_f {L : List Int} (h : latB L = false) : turnedI L = [] := if_neg (by rw [h]; decide)
theorem turnL_len (L : List Int) : (turnL L).length = L.length := by simp [turnL, upL, num]
theorem turnedI_len (L : List Int) : (turnedI L).length ≤ 6 := by
  cases h : latB L with
  | false => rw [turnedI_f h]; simp
  | true => rw [turnedI_t h, turnL_len]; have := (latB_parts h).2.1; unfold num at this; omega

end Go.Proofs.Ythjbfdoclifhoaa

namespace Go.Proofs.Ythjbfdoclifhoaa
open Go.RowKit

theorem mul_le36 {x y : Int} (x0 : 0 ≤ x) (x6 : x ≤ 6) (y0 : 0 ≤ y) (y6 : y ≤ 6) : 0 ≤ x * y ∧ x * y ≤ 36 :=
  ⟨Int.mul_nonneg x0 y0, by have := Int.mul_le_mul x6 y6 y0 (by omega : (0 : Int) ≤ 6); omega⟩
def crossI (A B : List Int) : List Int := if latB A && latB B && decide ((A.length : Int) * B.length ≤ 6) then upL (crossG A B) ((A.length : Int) * B.length) else []
theorem crossI_a {A B : List Int} (h : latB A = false) : crossI A B = [] := by unfold crossI; rw [h]; rfl
theorem crossI_b {A B : List Int} (h : latB B = false) : crossI A B = [] := by unfold crossI; rw [h, Bool.and_false]; rfl
theorem crossI_c {A B : List Int} (h : ¬ (A.length : Int) * B.length ≤ 6) : crossI A B = [] := by unfold crossI; rw [decide_eq_false h, Bool.and_false]; rfl
theorem crossI_t {A B : List Int} (h1 : latB A = true) (h2 : latB B = true) (h : (A.length : Int) * B.length ≤ 6) : crossI A B = upL (crossG A B) ((A.length : Int) * B.length) := by unfold crossI; rw [h1, h2, decide_eq_true h]; rfl
theorem upL_len (g : Int → Int → Bool) (n : Int) : (upL g n).length = n.toNat := by simp [upL]
theorem crossI_len (A B : List Int) : (crossI A B).length ≤ 6 := by
  unfold crossI
  split
  · rename_i h
    simp only [Bool.and_eq_true, decide_eq_true_eq] at h
    rw [upL_len]; omega
  · simp
theorem upOf_cross (A B : List Int) (ba bb bn : Nat) (w : World) (hA : LatAt w ba A) (hB : LatAt w bb B) (hn : w.heap[bn]? = some (.cells #[.int .i64 B.length] 3 (0, 0))) (a6 : num A ≤ 6) (b1 : 1 ≤ num B) (b6 : num B ≤ 6) (h0 : 0 ≤ (A.length : Int) * B.length) (h6 : (A.length : Int) * B.length ≤ 6) :
    Calls Try.prog 32 #[.int .i64 ((A.length : Int) * B.length), .func (.func 54) #[] #[.pointer (some ⟨ba, 0, none⟩), .pointer (some ⟨bn, 0, none⟩), .pointer (some ⟨bb, 0, none⟩)]] w fun e w' => e = .returned (.slice (some ⟨w.heap.size, 0, none⟩) ((A.length : Int) * B.length).toNat ((A.length : Int) * B.length).toNat) ∧ Row w' w.heap.size (upL (crossG A B) ((A.length : Int) * B.length)) ∧ Below w.heap.size w w' :=
  upOf_any _ _ _ (crossG A B) w h0 h6 enters_cross fun x y wr x0 x1 y0 y1 hb => by
    rw [append23]
    exact crossClo_any A B ba bb bn x y wr (hA.below hb hA.lt) (hB.below hb hB.lt) ((hb.block _ (lt_of_block hn)).trans hn) a6 b1 b6 x0 x1 y0 y1

set_option maxRecDepth 100000 in
set_option maxHeartbeats 2000000 in
theorem implCross_ff (a b : Option Addr) (ca cb : Nat) (A B : List Int) (w : World) (hrA : Rd w a A) (hrB : Rd w b B) (ha : latB A = false) (hb : latB B = false) :
    Calls Try.prog 25 #[.slice a A.length ca, .slice b B.length cb] w (RetSl w.heap.size (crossI A B) w) := by
  have hv := Lib.hid (crossI_a (B := B) ha)
  have HA := Lib.hid ha
  have HB := Lib.hid hb
  clear ha hb
  go_enter Try.func25, Try.ntmps25
  go_wp2_with (first
    | go_skip
    | (go_at_call 50; refine (readLattice_no b cb B _ hrB2 HB.out).mono ?_; rintro e w3 ⟨rfl, h3⟩; have z3 : Below w.heap.size w w3 := z2.trans (h3.mono z2.size))
    | (go_at_call 50; refine (readLattice_no a ca A _ hrA HA.out).mono ?_; rintro e w1 ⟨rfl, h1⟩)
    | (refine wpList_store_row rfl 56 _ _ rfl w1.heap.size zeroLat rfl rfl _ _ (heap_alloc_new w1 (.cells zeroLat 56)) (size_lat _ _ _ _) rfl (one_lat _ _ _ _) ?_; rw [World.setRow_alloc_new]; obtain ⟨b5, hb5⟩ : ∃ b5, b5 = w1.heap.size := ⟨_, rfl⟩; obtain ⟨w2, hw2⟩ : ∃ w2, w2 = w1.alloc (.cells zeroLat 56) := ⟨_, rfl⟩; rw [← hw2, ← hb5]; have qw2 : Below w1.heap.size w1 w2 := (by rw [hw2]; exact (Below.refl _ _).alloc (Nat.le_refl _) _); clear hw2 hb5; have z2 : Below w.heap.size w w2 := h1.trans (qw2.mono h1.size); have hrB2 := hrB.below z2)
    | (refine wpList_store_row rfl 56 _ _ rfl w3.heap.size zeroLat rfl rfl _ _ (heap_alloc_new w3 (.cells zeroLat 56)) (size_lat _ _ _ _) rfl (one_lat _ _ _ _) ?_; rw [World.setRow_alloc_new]; obtain ⟨b7, hb7⟩ : ∃ b7, b7 = w3.heap.size := ⟨_, rfl⟩; obtain ⟨w4, hw4⟩ : ∃ w4, w4 = w3.alloc (.cells zeroLat 56) := ⟨_, rfl⟩; rw [← hw4, ← hb7]; have qw4 : Below w3.heap.size w3 w4 := (by rw [hw4]; exact (Below.refl _ _).alloc (Nat.le_refl _) _); clear hw4 hb7; have z4 : Below w.heap.size w w4 := z3.trans (qw4.mono z3.size)))
  go_ret
  rw [hv.out]
  exact ⟨none, 0, rfl, Own.nothing _ _, z4⟩

set_option maxRecDepth 100000 in
set_option maxHeartbeats 2000000 in
theorem implCross_ft (a b : Option Addr) (ca cb : Nat) (A B : List Int) (w : World) (hrA : Rd w a A) (hrB : Rd w b B) (ha : latB A = false) (hb : latB B = true) :
    Calls Try.prog 25 #[.slice a A.length ca, .slice b B.length cb] w (RetSl w.heap.size (crossI A B) w) := by
  have hv := Lib.hid (crossI_a (B := B) ha)
  have HA := Lib.hid ha
  have HB := Lib.hid hb
  clear ha hb
  go_enter Try.func25, Try.ntmps25
  go_wp2_with (first
    | go_skip
    | (go_at_call 50; refine (readLattice_yes b cb B _ hrB2 HB.out).mono ?_; rintro e w3 ⟨rfl, h3⟩; have z3 : Below w.heap.size w w3 := z2.trans (h3.mono z2.size))
    | (go_at_call 50; refine (readLattice_no a ca A _ hrA HA.out).mono ?_; rintro e w1 ⟨rfl, h1⟩)
    | (refine wpList_store_row rfl 56 _ _ rfl w1.heap.size zeroLat rfl rfl _ _ (heap_alloc_new w1 (.cells zeroLat 56)) (size_lat _ _ _ _) rfl (one_lat _ _ _ _) ?_; rw [World.setRow_alloc_new]; obtain ⟨b5, hb5⟩ : ∃ b5, b5 = w1.heap.size := ⟨_, rfl⟩; obtain ⟨w2, hw2⟩ : ∃ w2, w2 = w1.alloc (.cells zeroLat 56) := ⟨_, rfl⟩; rw [← hw2, ← hb5]; have qw2 : Below w1.heap.size w1 w2 := (by rw [hw2]; exact (Below.refl _ _).alloc (Nat.le_refl _) _); clear hw2 hb5; have z2 : Below w.heap.size w w2 := h1.trans (qw2.mono h1.size); have hrB2 := hrB.below z2)
    | (refine wpList_store_row rfl 56 _ _ rfl w3.heap.size (latOf B) rfl rfl _ _ (heap_alloc_new w3 (.cells zeroLat 56)) (size_lat _ _ _ _) rfl (one_lat _ _ _ _) ?_; rw [World.setRow_alloc_new]; obtain ⟨b7, hb7⟩ : ∃ b7, b7 = w3.heap.size := ⟨_, rfl⟩; obtain ⟨w4, hw4⟩ : ∃ w4, w4 = w3.alloc (.cells (latOf B) 56) := ⟨_, rfl⟩; rw [← hw4, ← hb7]; have qw4 : Below w3.heap.size w3 w4 := (by rw [hw4]; exact (Below.refl _ _).alloc (Nat.le_refl _) _); have hLB : LatAt w4 b7 B := (by rw [hw4, hb7]; exact LatAt.new w3 B); clear hw4 hb7; have z4 : Below w.heap.size w w4 := z3.trans (qw4.mono z3.size)))
  go_ret
  rw [hv.out]
  exact ⟨none, 0, rfl, Own.nothing _ _, z4⟩

set_option maxRecDepth 100000 in
set_option maxHeartbeats 2000000 in
theorem implCross_tf (a b : Option Addr) (ca cb : Nat) (A B : List Int) (w : World) (hrA : Rd w a A) (hrB : Rd w b B) (ha : latB A = true) (hb : latB B = false) :
    Calls Try.prog 25 #[.slice a A.length ca, .slice b B.length cb] w (RetSl w.heap.size (crossI A B) w) := by
  have hv := Lib.hid (crossI_b (A := A) hb)
  have HA := Lib.hid ha
  have HB := Lib.hid hb
  clear ha hb
  go_enter Try.func25, Try.ntmps25
  go_wp2_with (first
    | go_skip
    | (go_at_call 50; refine (readLattice_no b cb B _ hrB2 HB.out).mono ?_; rintro e w3 ⟨rfl, h3⟩; have z3 : Below w.heap.size w w3 := z2.trans (h3.mono z2.size))
    | (go_at_call 50; refine (readLattice_yes a ca A _ hrA HA.out).mono ?_; rintro e w1 ⟨rfl, h1⟩)
    | (refine wpList_store_row rfl 56 _ _ rfl w1.heap.size (latOf A) rfl rfl _ _ (heap_alloc_new w1 (.cells zeroLat 56)) (size_lat _ _ _ _) rfl (one_lat _ _ _ _) ?_; rw [World.setRow_alloc_new]; obtain ⟨b5, hb5⟩ : ∃ b5, b5 = w1.heap.size := ⟨_, rfl⟩; obtain ⟨w2, hw2⟩ : ∃ w2, w2 = w1.alloc (.cells (latOf A) 56) := ⟨_, rfl⟩; rw [← hw2, ← hb5]; have qw2 : Below w1.heap.size w1 w2 := (by rw [hw2]; exact (Below.refl _ _).alloc (Nat.le_refl _) _); have hLA : LatAt w2 b5 A := (by rw [hw2, hb5]; exact LatAt.new w1 A); clear hw2 hb5; have z2 : Below w.heap.size w w2 := h1.trans (qw2.mono h1.size); have hrB2 := hrB.below z2)
    | (refine wpList_store_row rfl 56 _ _ rfl w3.heap.size zeroLat rfl rfl _ _ (heap_alloc_new w3 (.cells zeroLat 56)) (size_lat _ _ _ _) rfl (one_lat _ _ _ _) ?_; rw [World.setRow_alloc_new]; obtain ⟨b7, hb7⟩ : ∃ b7, b7 = w3.heap.size := ⟨_, rfl⟩; obtain ⟨w4, hw4⟩ : ∃ w4, w4 = w3.alloc (.cells zeroLat 56) := ⟨_, rfl⟩; rw [← hw4, ← hb7]; have qw4 : Below w3.heap.size w3 w4 := (by rw [hw4]; exact (Below.refl _ _).alloc (Nat.le_refl _) _); clear hw4 hb7; have z4 : Below w.heap.size w w4 := z3.trans (qw4.mono z3.size); have hLA4 := (hLA.below h3 hLA.lt).below qw4 (Nat.lt_of_lt_of_le hLA.lt h3.size)))
  go_ret
  rw [hv.out]
  exact ⟨none, 0, rfl, Own.nothing _ _, z4⟩

set_option maxRecDepth 100000 in
set_option maxHeartbeats 2000000 in
theorem implCross_tt_out (a b : Option Addr) (ca cb : Nat) (A B : List Int) (w : World) (hrA : Rd w a A) (hrB : Rd w b B) (ha : latB A = true) (hb : latB B = true) (hm : ¬ (A.length : Int) * B.length ≤ 6) :
    Calls Try.prog 25 #[.slice a A.length ca, .slice b B.length cb] w (RetSl w.heap.size (crossI A B) w) := by
  have hv := Lib.hid (crossI_c (A := A) (B := B) hm)
  have HA := Lib.hid ha
  have HB := Lib.hid hb
  obtain ⟨a1, a6, _⟩ := latB_parts ha
  obtain ⟨b1, b6, _⟩ := latB_parts hb
  have hna : num A = A.length := rfl
  have hnb : num B = B.length := rfl
  obtain ⟨m0, m36⟩ := mul_le36 (x := (A.length : Int)) (y := (B.length : Int)) (by omega) (by omega) (by omega) (by omega)
  have kmul : IntKind.i64.wrap ((A.length : Int) * B.length) = (A.length : Int) * B.length := IntWalk.i64_in _ (by omega)
  have hm2 : decide ((6 : Int) < (A.length : Int) * B.length) = true := decide_eq_true (by omega)
  clear ha hb
  go_enter Try.func25, Try.ntmps25
  go_wp2_with (first
    | go_skip
    | (go_at_call 50; refine (readLattice_yes b cb B _ hrB2 HB.out).mono ?_; rintro e w3 ⟨rfl, h3⟩; have z3 : Below w.heap.size w w3 := z2.trans (h3.mono z2.size))
    | (go_at_call 50; refine (readLattice_yes a ca A _ hrA HA.out).mono ?_; rintro e w1 ⟨rfl, h1⟩)
    | (refine wpList_store_row rfl 56 _ _ rfl w1.heap.size (latOf A) rfl rfl _ _ (heap_alloc_new w1 (.cells zeroLat 56)) (size_lat _ _ _ _) rfl (one_lat _ _ _ _) ?_; rw [World.setRow_alloc_new]; obtain ⟨b5, hb5⟩ : ∃ b5, b5 = w1.heap.size := ⟨_, rfl⟩; obtain ⟨w2, hw2⟩ : ∃ w2, w2 = w1.alloc (.cells (latOf A) 56) := ⟨_, rfl⟩; rw [← hw2, ← hb5]; have qw2 : Below w1.heap.size w1 w2 := (by rw [hw2]; exact (Below.refl _ _).alloc (Nat.le_refl _) _); have hLA : LatAt w2 b5 A := (by rw [hw2, hb5]; exact LatAt.new w1 A); clear hw2 hb5; have z2 : Below w.heap.size w w2 := h1.trans (qw2.mono h1.size); have hrB2 := hrB.below z2)
    | (refine wpList_store_row rfl 56 _ _ rfl w3.heap.size (latOf B) rfl rfl _ _ (heap_alloc_new w3 (.cells zeroLat 56)) (size_lat _ _ _ _) rfl (one_lat _ _ _ _) ?_; rw [World.setRow_alloc_new]; obtain ⟨b7, hb7⟩ : ∃ b7, b7 = w3.heap.size := ⟨_, rfl⟩; obtain ⟨w4, hw4⟩ : ∃ w4, w4 = w3.alloc (.cells (latOf B) 56) := ⟨_, rfl⟩; rw [← hw4, ← hb7]; have qw4 : Below w3.heap.size w3 w4 := (by rw [hw4]; exact (Below.refl _ _).alloc (Nat.le_refl _) _); have hLB : LatAt w4 b7 B := (by rw [hw4, hb7]; exact LatAt.new w3 B); clear hw4 hb7; have z4 : Below w.heap.size w w4 := z3.trans (qw4.mono z3.size); have hLA4 := (hLA.below h3 hLA.lt).below qw4 (Nat.lt_of_lt_of_le hLA.lt h3.size); have c0 := hLA4.size; have c1 := hLB.size; have hlt5 := hLA4.lt; have hlt7 := hLB.lt))
  go_ret
  rw [hv.out]
  exact ⟨none, 0, rfl, Own.nothing _ _, z4⟩

set_option maxRecDepth 100000 in
set_option maxHeartbeats 2000000 in
theorem implCross_tt_in (a b : Option Addr) (ca cb : Nat) (A B : List Int) (w : World) (hrA : Rd w a A) (hrB : Rd w b B) (ha : latB A = true) (hb : latB B = true) (hm : (A.length : Int) * B.length ≤ 6) :
    Calls Try.prog 25 #[.slice a A.length ca, .slice b B.length cb] w (RetSl w.heap.size (crossI A B) w) := by
  have hv := Lib.hid (crossI_t ha hb hm)
  have HA := Lib.hid ha
  have HB := Lib.hid hb
  obtain ⟨a1, a6, _⟩ := latB_parts ha
  obtain ⟨b1, b6, _⟩ := latB_parts hb
  have hna : num A = A.length := rfl
  have hnb : num B = B.length := rfl
  obtain ⟨m0, m36⟩ := mul_le36 (x := (A.length : Int)) (y := (B.length : Int)) (by omega) (by omega) (by omega) (by omega)
  have kmul : IntKind.i64.wrap ((A.length : Int) * B.length) = (A.length : Int) * B.length := IntWalk.i64_in _ (by omega)
  have hm2 : decide ((6 : Int) < (A.length : Int) * B.length) = false := decide_eq_false (by omega)
  clear ha hb
  go_enter Try.func25, Try.ntmps25
  go_wp2_with (first
    | go_skip
    | (go_at_call 50; refine (readLattice_yes b cb B _ hrB2 HB.out).mono ?_; rintro e w3 ⟨rfl, h3⟩; have z3 : Below w.heap.size w w3 := z2.trans (h3.mono z2.size))
    | (go_at_call 50; refine (readLattice_yes a ca A _ hrA HA.out).mono ?_; rintro e w1 ⟨rfl, h1⟩)
    | (refine wpList_store_row rfl 56 _ _ rfl w1.heap.size (latOf A) rfl rfl _ _ (heap_alloc_new w1 (.cells zeroLat 56)) (size_lat _ _ _ _) rfl (one_lat _ _ _ _) ?_; rw [World.setRow_alloc_new]; obtain ⟨b5, hb5⟩ : ∃ b5, b5 = w1.heap.size := ⟨_, rfl⟩; obtain ⟨w2, hw2⟩ : ∃ w2, w2 = w1.alloc (.cells (latOf A) 56) := ⟨_, rfl⟩; rw [← hw2, ← hb5]; have qw2 : Below w1.heap.size w1 w2 := (by rw [hw2]; exact (Below.refl _ _).alloc (Nat.le_refl _) _); have hLA : LatAt w2 b5 A := (by rw [hw2, hb5]; exact LatAt.new w1 A); clear hw2 hb5; have z2 : Below w.heap.size w w2 := h1.trans (qw2.mono h1.size); have hrB2 := hrB.below z2)
    | (refine wpList_store_row rfl 56 _ _ rfl w3.heap.size (latOf B) rfl rfl _ _ (heap_alloc_new w3 (.cells zeroLat 56)) (size_lat _ _ _ _) rfl (one_lat _ _ _ _) ?_; rw [World.setRow_alloc_new]; obtain ⟨b7, hb7⟩ : ∃ b7, b7 = w3.heap.size := ⟨_, rfl⟩; obtain ⟨w4, hw4⟩ : ∃ w4, w4 = w3.alloc (.cells (latOf B) 56) := ⟨_, rfl⟩; rw [← hw4, ← hb7]; have qw4 : Below w3.heap.size w3 w4 := (by rw [hw4]; exact (Below.refl _ _).alloc (Nat.le_refl _) _); have hLB : LatAt w4 b7 B := (by rw [hw4, hb7]; exact LatAt.new w3 B); clear hw4 hb7; have z4 : Below w.heap.size w w4 := z3.trans (qw4.mono z3.size); have hLA4 := (hLA.below h3 hLA.lt).below qw4 (Nat.lt_of_lt_of_le hLA.lt h3.size); have c0 := hLA4.size; have c1 := hLB.size; have hlt5 := hLA4.lt; have hlt7 := hLB.lt)
    | (go_at_call 32; refine (upOf_cross A B b5 b7 w4.heap.size _ (hLA4.below ((Below.refl _ _).alloc (Nat.le_refl _) _) hLA4.lt) (hLB.below ((Below.refl _ _).alloc (Nat.le_refl _) _) hLB.lt) (heap_alloc_new w4 _) a6 b1 b6 m0 hm).mono ?_; rintro e w9 ⟨rfl, hrow, h9⟩))
  go_ret
  rw [hv.out]
  have hz := z4.size
  have hlu := upL_len (crossG A B) ((A.length : Int) * B.length)
  have ho := Own.row (B := w.heap.size) hrow (by simp; omega) (by rw [hlu]; unfold maxLen; omega)
  refine ⟨_, _, by rw [hlu]; rfl, ?_, (z4.alloc z4.size _).trans (h9.mono (by simp; omega))⟩
  have e9 : ∀ o, (w4.alloc o).heap.size = w4.heap.size + 1 := fun o => by simp
  rw [hlu] at ho ⊢
  rw [e9] at ho
  exact ho

theorem implCrossLattices_any (a b : Option Addr) (ca cb : Nat) (A B : List Int) (w : World) (hrA : Rd w a A) (hrB : Rd w b B) :
    Calls Try.prog 25 #[.slice a A.length ca, .slice b B.length cb] w (RetSl w.heap.size (crossI A B) w) := by
  cases ha : latB A <;> cases hb : latB B
  · exact implCross_ff a b ca cb A B w hrA hrB ha hb
  · exact implCross_ft a b ca cb A B w hrA hrB ha hb
  · exact implCross_tf a b ca cb A B w hrA hrB ha hb
  · by_cases hm : (A.length : Int) * B.length ≤ 6
    · exact implCross_tt_in a b ca cb A B w hrA hrB ha hb hm
    · exact implCross_tt_out a b ca cb A B w hrA hrB ha hb hm
end Go.Proofs.Ythjbfdoclifhoaa

namespace Go.Proofs.Ythjbfdoclifhoaa
open Go.RowKit

/-- the rows of an order up to one -/
def upP (g : Int → Int → Bool) (n p : Int) : List Int := (List.range p.toNat).map fun (i : Nat) => rowTo (g i) n
theorem upP_succ (g : Int → Int → Bool) (n p : Int) (h : 0 ≤ p) : upP g n (p + 1) = upP g n p ++ [rowTo (g p) n] := by
  unfold upP
  rw [show (p + 1).toNat = p.toNat + 1 by omega, List.range_succ, List.map_append]
  simp [Int.toNat_of_nonneg h]
theorem upP_len (g : Int → Int → Bool) (n p : Int) : (upP g n p).length = p.toNat := by simp [upP]

end Go.Proofs.Ythjbfdoclifhoaa
