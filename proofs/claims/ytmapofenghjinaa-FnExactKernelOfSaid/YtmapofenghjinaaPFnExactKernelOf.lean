/- FnExactKernelOf: the law answers true whatever its arguments, and each argument reads behind the call as it read before. No condition. -/
import Derived.Test.YtmapofenghjinaaL3
import Derived.RegionTactic
import Derived.BigRegion
import Derived.Test.YtmapofenghjinaaB5
import Derived.Test.YtmapofenghjinaaN2
import Derived.Test.YtmapofenghjinaaB26
import Derived.Test.YtmapofenghjinaaD2
import Derived.Test.YtmapofenghjinaaD3
import Derived.Test.YtmapofenghjinaaL6
import Derived.Test.YtmapofenghjinaaRows
import Derived.WalkKit
import Derived.Test.YtmapofenghjinaaL2
import Derived.ProofKit
import Derived.OpenShut
import Derived.ShutString
import Derived.ChangeOld
import Derived.Below
namespace Go.Proofs.Ytmapofenghjinaa
open Go.RowKit

/-- the sum of 2 to each j below k that p lets by -/
def rowTo (p : Int → Bool) (k : Int) : Int := (List.range k.toNat).foldl (fun s (j : Nat) => if p j then s + pw j else s) 0
theorem rowTo_zero (p : Int → Bool) : rowTo p 0 = 0 := rfl
theorem rowTo_succ (p : Int → Bool) (k : Int) (h : 0 ≤ k) : rowTo p (k + 1) = if p k then rowTo p k + pw k else rowTo p k := by
  unfold rowTo
  rw [show (k + 1).toNat = k.toNat + 1 by omega, List.range_succ, List.foldl_append]
  simp [Int.toNat_of_nonneg h]
theorem rowTo_range (p : Int → Bool) : ∀ k : Nat, 0 ≤ rowTo p k ∧ rowTo p k < pw k
  | 0 => ⟨Int.le_refl _, by show (0 : Int) < pw 0; decide⟩
  | k + 1 => by
    have ih := rowTo_range p k
    have h2 := pw_succ (k : Int) (by omega)
    have h1 := pw_pos (k : Int)
    have e : ((k + 1 : Nat) : Int) = (k : Int) + 1 := rfl
    rw [e, rowTo_succ p k (by omega), h2]
    split <;> omega
theorem rowTo_bound (p : Int → Bool) {k : Int} (h : 0 ≤ k) : 0 ≤ rowTo p k ∧ rowTo p k < pw k := by
  have := rowTo_range p k.toNat
  rwa [Int.toNat_of_nonneg h] at this
theorem rowTo_congr {p q : Int → Bool} {k : Int} (h : ∀ j, 0 ≤ j → j < k → p j = q j) : rowTo p k = rowTo q k := by
  unfold rowTo
  have : ∀ (l : List Nat) (s : Int), (∀ j ∈ l, (j : Int) < k) → l.foldl (fun s (j : Nat) => if p j then s + pw j else s) s = l.foldl (fun s (j : Nat) => if q j then s + pw j else s) s := by
    intro l
    induction l with
    | nil => intro s _; rfl
    | cons a l ih =>
      intro s hl
      rw [List.foldl_cons, List.foldl_cons, h a (by omega) (hl a (List.mem_cons_self ..))]
      exact ih _ fun j hj => hl j (List.mem_cons_of_mem _ hj)
  exact this _ _ fun j hj => by have := List.mem_range.1 hj; omega
theorem bits_or_i64 (a b : Nat) (ha : a < 1073741824) (hb : b < 1073741824) : bits .or .i64 (a : Int) (b : Int) = ((a ||| b : Nat) : Int) := by
  have hx : a ||| b < 2 ^ 30 := Nat.or_lt_two_pow (by omega) (by omega)
  have h1 : (BitVec.ofInt 64 (a : Int)).toNat = a := by
    rw [BitVec.ofInt_natCast, BitVec.toNat_ofNat]; exact Nat.mod_eq_of_lt (by omega)
  have h2 : (BitVec.ofInt 64 (b : Int)).toNat = b := by
    rw [BitVec.ofInt_natCast, BitVec.toNat_ofNat]; exact Nat.mod_eq_of_lt (by omega)
  show IntKind.i64.wrap ((BitVec.ofInt 64 (a : Int) ||| BitVec.ofInt 64 (b : Int)).toNat : Int) = _
  rw [BitVec.toNat_or, h1, h2, IntKind.wrap_i64]
  omega
theorem or_pw {v k : Int} (k0 : 0 ≤ k) (k6 : k < 30) (v0 : 0 ≤ v) (v1 : v < pw k) : bits .or .i64 v (pw k) = v + pw k := by
  obtain ⟨a, rfl⟩ := Int.eq_ofNat_of_zero_le v0
  have hk : pw k = ((2 ^ k.toNat : Nat) : Int) := by unfold pw; simp
  rw [hk] at v1 ⊢
  have hlt : a < 2 ^ k.toNat := by exact_mod_cast v1
  have h30 : 2 ^ k.toNat < 1073741824 := by
    have := Nat.pow_lt_pow_right (a := 2) (by decide) (show k.toNat < 30 by omega)
    simpa using this
  rw [bits_or_i64 a _ (by omega) h30]
  have := Nat.two_pow_add_eq_or_of_lt hlt 1
  rw [Nat.mul_one] at this
  rw [Nat.or_comm, ← this]
  omega
/-- the numbers of an order, as upOf writes them: the rows up to x whole, of the next one the sum up to y -/
def upTo (g : Int → Int → Bool) (n x y : Int) : List Int := (List.range n.toNat).map fun (i : Nat) => if (i : Int) < x then rowTo (g i) n else if (i : Int) = x then rowTo (g i) y else 0
def upL (g : Int → Int → Bool) (n : Int) : List Int := (List.range n.toNat).map fun (i : Nat) => rowTo (g i) n
theorem upTo_len (g : Int → Int → Bool) (n x y : Int) : (upTo g n x y).length = n.toNat := by simp [upTo]
theorem upTo_zero (g : Int → Int → Bool) (n : Int) : upTo g n 0 0 = List.replicate n.toNat 0 := by
  apply List.ext_getElem
  · simp [upTo]
  · intro i h1 h2
    simp only [upTo, List.getElem_map, List.getElem_range, List.getElem_replicate]
    rw [if_neg (by omega)]
    split <;> rfl
theorem upTo_nth (g : Int → Int → Bool) {n x y : Int} (x0 : 0 ≤ x) (x1 : x < n) : nth (upTo g n x y) x = rowTo (g x) y := by
  have h : x.toNat < n.toNat := by omega
  unfold nth upTo
  simp [List.getD, h, Int.toNat_of_nonneg x0]
theorem upTo_next (g : Int → Int → Bool) {n x y : Int} (x0 : 0 ≤ x) : (upTo g n x y).set x.toNat (rowTo (g x) (y + 1)) = upTo g n x (y + 1) := by
  apply List.ext_getElem
  · simp [upTo]
  · intro i h1 h2
    rw [List.getElem_set]
    simp only [upTo, List.getElem_map, List.getElem_range]
    by_cases e : x.toNat = i
    · have e2 : (i : Int) = x := by omega
      rw [if_pos e, if_neg (by omega), if_pos e2, e2]
    · rw [if_neg e]
      by_cases h3 : (i : Int) < x
      · rw [if_pos h3, if_pos h3]
      · rw [if_neg h3, if_neg h3, if_neg (by omega), if_neg (by omega)]
theorem upTo_skip (g : Int → Int → Bool) {n x y : Int} (y0 : 0 ≤ y) (h : g x y = false) : upTo g n x (y + 1) = upTo g n x y := by
  unfold upTo
  refine List.map_congr_left fun i _ => ?_
  by_cases e : (i : Int) = x
  · rw [e, rowTo_succ _ _ y0, h]; rfl
  · rw [if_neg e, if_neg e]
theorem upTo_row (g : Int → Int → Bool) (n x : Int) : upTo g n x n = upTo g n (x + 1) 0 := by
  unfold upTo
  refine List.map_congr_left fun i _ => ?_
  by_cases h : (i : Int) < x
  · rw [if_pos h, if_pos (by omega)]
  · rw [if_neg h]
    by_cases e : (i : Int) = x
    · rw [if_pos e, if_pos (by omega)]
    · rw [if_neg e, if_neg (by omega)]
      split <;> rfl
theorem upTo_all (g : Int → Int → Bool) (n : Int) : upTo g n n 0 = upL g n := by
  unfold upTo upL
  refine List.map_congr_left fun i hi => ?_
  have := List.mem_range.1 hi
  rw [if_pos (by omega)]
theorem wrap_pwI (y : Int) (h : y ≤ 30) : wrap64 (2 ^ y.toNat) = pw y := by
  have p1 := pw_30 y h
  have p2 := pw_pos y
  show wrap64 (pw y) = pw y
  exact IntWalk.wrap64_in _ ⟨by omega, by omega⟩
theorem rowTo_or (p : Int → Bool) {k : Int} (k0 : 0 ≤ k) (k6 : k < 30) (h : p k = true) : bits .or .i64 (rowTo p k) (pw k) = rowTo p (k + 1) := by
  obtain ⟨a, b⟩ := rowTo_bound p k0
  rw [or_pw k0 k6 a b, rowTo_succ p k k0, h]; rfl
end Go.Proofs.Ytmapofenghjinaa

namespace Go.Proofs.Ytmapofenghjinaa
open Go.RowKit

/-- what either set has -/
def orI (a b : Int) : Int := ((a.toNat ||| b.toNat : Nat) : Int)
/-- the set of the numbers of a list -/
def setL (F : List Int) : Int := F.foldl (fun s x => orI s (pw x)) 0
theorem bits_orI {a b : Int} (a0 : 0 ≤ a) (a1 : a < 1073741824) (b0 : 0 ≤ b) (b1 : b < 1073741824) : bits .or .i64 a b = orI a b := by
  have := bits_or_i64 a.toNat b.toNat (by omega) (by omega)
  rw [Int.toNat_of_nonneg a0, Int.toNat_of_nonneg b0] at this
  exact this
theorem setL_snoc (F : List Int) (x : Int) : setL (F ++ [x]) = orI (setL F) (pw x) := by unfold setL; rw [List.foldl_append]; rfl
theorem orI_64 {a b : Int} (a1 : a < 64) (b1 : b < 64) : 0 ≤ orI a b ∧ orI a b < 64 := by
  unfold orI
  have := Nat.or_lt_two_pow (n := 6) (x := a.toNat) (y := b.toNat) (by omega) (by omega)
  omega
theorem pw_64 {x : Int} (h : x < 6) : pw x < 64 := by
  have := pw_mono x 5 (by omega)
  have e : pw 5 = 32 := rfl
  omega
theorem foldl_64 : ∀ (F : List Int) (s : Int), 0 ≤ s → s < 64 → (∀ x ∈ F, x < 6) → 0 ≤ F.foldl (fun s x => orI s (pw x)) s ∧ F.foldl (fun s x => orI s (pw x)) s < 64
  | [], s, h0, h1, _ => ⟨h0, h1⟩
  | x :: F, s, _, h1, hF => by
    have := orI_64 h1 (pw_64 (hF x List.mem_cons_self))
    exact foldl_64 F _ this.1 this.2 fun y hy => hF y (List.mem_cons_of_mem _ hy)
theorem setL_64 {F : List Int} (hF : ∀ k, 0 ≤ k → k < num F → 0 ≤ nth F k ∧ nth F k < 6) (k : Nat) : 0 ≤ setL (F.take k) ∧ setL (F.take k) < 64 := by
  refine foldl_64 _ 0 (by omega) (by omega) fun x hx => ?_
  obtain ⟨i, hi, e⟩ := List.getElem_of_mem (List.mem_of_mem_take hx)
  have := hF i (by omega) (by unfold num; omega)
  unfold nth at this
  rw [Int.toNat_natCast, List.getD_eq_getElem?_getD, List.getElem?_eq_getElem hi] at this
  simp at this
  rw [← e]; exact this.2
theorem setL_next {F : List Int} (hF : ∀ k, 0 ≤ k → k < num F → 0 ≤ nth F k ∧ nth F k < 6) {k : Int} (k0 : 0 ≤ k) (k1 : k < F.length) : bits .or .i64 (setL (F.take k.toNat)) (pw (nth F k)) = setL (F.take (k + 1).toNat) := by
  obtain ⟨a, b⟩ := setL_64 hF k.toNat
  obtain ⟨c, d⟩ := hF k k0 k1
  have := pw_64 d
  have := pw_pos (nth F k)
  rw [take_next F k0 k1, setL_snoc, bits_orI a (by omega) (by omega) (by omega)]
/-- the set of those that p lets by -/
theorem setL_filt (p : Int → Bool) : ∀ k : Nat, (k : Int) ≤ 6 → setL (filtTo p k) = rowTo p k
  | 0, _ => rfl
  | k + 1, h => by
    have ih := setL_filt p k (by omega)
    have r := rowTo_bound p (show 0 ≤ (k : Int) by omega)
    have q := pw_30 (k : Int) (by omega)
    have q0 := pw_pos (k : Int)
    rw [show ((k + 1 : Nat) : Int) = (k : Int) + 1 by omega, filtTo_succ p k (by omega), rowTo_succ p k (by omega)]
    by_cases hp : p k = true
    · rw [if_pos hp, if_pos hp, setL_snoc, ih, ← bits_orI r.1 (by omega) (by omega) (by have := pw_64 (show (k : Int) < 6 by omega); omega)]
      exact or_pw (by omega) (by omega) r.1 r.2
    · rw [if_neg hp, if_neg hp, ih]
set_option maxRecDepth 100000 in
set_option maxHeartbeats 1000000 in
/-- impl.setOf -/
theorem setOf_any (a : Option Addr) (c : Nat) (F : List Int) (w : World) (hr : Rd w a F) (hF : ∀ k, 0 ≤ k → k < num F → 0 ≤ nth F k ∧ nth F k < 6) (hl : F.length ≤ 1048576) :
    Calls Try.prog 91 #[.slice a F.length c] w fun e w' => e = .returned (.int .i64 (setL F)) ∧ w = w' := by
  have HF := Lib.hid hF
  clear hF
  go_enter Try.func91, Try.ntmps91
  go_wp2
  go_loopw [3, 5, 8] (fun s _ c wr => ∃ k v : Int, 0 ≤ k ∧ k ≤ F.length ∧ c = .int .i64 k ∧ s = .int .i64 v ∧ v = setL (F.take k.toNat) ∧ w = wr) (fun _ _ c _ => ((F.length : Int) - intOf c).toNat)
  case atStart => exact ⟨0, 0, by omega, by omega, rfl, rfl, rfl, rfl⟩
  case round =>
    obtain ⟨k, v, k0, k1, rfl, rfl, hv, rfl⟩ := hrel
    by_cases hk : k < F.length
    · obtain ⟨fb, fo, rfl, hc⟩ := hr (by intro e; rw [e] at hk; simp at hk; omega)
      have d0 := hc.at k k0 hk
      obtain ⟨x0, x1⟩ := HF.out k k0 hk
      have kw := wrap_pwT (nth F k) (by omega)
      have ko := setL_next HF.out k0 hk
      rw [← hv] at ko
      have KO := Lib.hid ko
      clear hv ko hc
      have hn0 : ¬ nth F k < 0 := by omega
      go_wp2
      go_roundw
      case rel => exact ⟨k + 1, _, by omega, by omega, rfl, rfl, by first | exact KO.out | (rw [kw]; exact KO.out), trivial⟩
      case measure => simp [intOf]; omega
    · have hv2 := Lib.hid (show v = setL F by rw [hv, take_end F (by omega)])
      clear hv
      go_wp2
      go_ret
      exact ⟨ret_int hv2.out, rfl⟩
set_option maxRecDepth 100000 in
set_option maxHeartbeats 1000000 in
/-- spec.imageOf -/
theorem specImageOfL_any (a : Option Addr) (c : Nat) (F : List Int) (w : World) (hr : Rd w a F) (hF : ∀ k, 0 ≤ k → k < num F → 0 ≤ nth F k ∧ nth F k < 6) (hl : F.length ≤ 1048576) :
    Calls Try.prog 94 #[.slice a F.length c] w fun e w' => e = .returned (.int .i64 (setL F)) ∧ w = w' := by
  have HF := Lib.hid hF
  clear hF
  go_enter Try.func94, Try.ntmps94
  go_wp2
  go_loopw [3, 4] (fun s c wr => ∃ k v : Int, 0 ≤ k ∧ k ≤ F.length ∧ c = .int .i64 k ∧ s = .int .i64 v ∧ v = setL (F.take k.toNat) ∧ w = wr) (fun _ c _ => ((F.length : Int) - intOf c).toNat)
  case atStart => exact ⟨0, 0, by omega, by omega, rfl, rfl, rfl, rfl⟩
  case round =>
    obtain ⟨k, v, k0, k1, rfl, rfl, hv, rfl⟩ := hrel
    by_cases hk : k < F.length
    · obtain ⟨fb, fo, rfl, hc⟩ := hr (by intro e; rw [e] at hk; simp at hk; omega)
      have d0 := hc.at k k0 hk
      obtain ⟨x0, x1⟩ := HF.out k k0 hk
      have ko := setL_next HF.out k0 hk
      rw [← hv] at ko
      have KO := Lib.hid ko
      clear hv ko hc
      go_wp2_with (go_at_call 90; refine (power_any _ _ (by omega) (by omega)).mono ?_; rintro e w9 ⟨rfl, rfl⟩)
      go_roundw
      case rel => exact ⟨k + 1, _, by omega, by omega, rfl, rfl, KO.out, trivial⟩
      case measure => simp [intOf]; omega
    · have hv2 := Lib.hid (show v = setL F by rw [hv, take_end F (by omega)])
      clear hv
      go_wp2
      go_ret
      exact ⟨ret_int hv2.out, rfl⟩
end Go.Proofs.Ytmapofenghjinaa

namespace Go.Proofs.Ytmapofenghjinaa
open Go.RowKit

def kerQ (M F : List Int) (x : Int) : Bool := nth F x == num M - 1
def kerI (L : List Int) (T : List (List Int)) (M : List Int) (U : List (List Int)) (F : List Int) : Int := if isMapB L T M U F then rowTo (kerQ M F) (num F) else -1
def imgI (L : List Int) (T : List (List Int)) (M : List Int) (U : List (List Int)) (F : List Int) : Int := if isMapB L T M U F then setL F else -1
theorem isMap_parts {L : List Int} {T : List (List Int)} {M : List Int} {U : List (List Int)} {F : List Int} (h : isMapB L T M U F = true) : algB L T = true ∧ algB M U = true ∧ mpB L T M U F = true ∧ num F = num L ∧ ∀ x, 0 ≤ x → x < num F → 0 ≤ nth F x ∧ nth F x < num M := by
  unfold isMapB at h
  rw [Bool.and_eq_true, Bool.and_eq_true] at h
  have h3 := h.2.2
  unfold mpB at h3
  rw [Bool.and_eq_true, Bool.and_eq_true, decide_eq_true_eq, mpR_all] at h3
  exact ⟨h.1, h.2.1, h.2.2, h3.1, fun x x0 x1 => h3.2.1 x x0 (by rw [← h3.1]; exact x1)⟩
set_option maxRecDepth 100000 in
set_option maxHeartbeats 4000000 in
theorem specKernelOf_no (a b : Option Addr) (ca cb : Nat) (L : List Int) (T : List (List Int)) (a2 b2 : Option Addr) (ca2 cb2 : Nat) (M : List Int) (U : List (List Int)) (af : Option Addr) (cf : Nat) (F : List Int) (w : World) (hr : Rd w a L) (hT : RdT w b T) (hr2 : Rd w a2 M) (hT2 : RdT w b2 U) (hf : Rd w af F) (h : isMapB L T M U F = false) :
    Calls Try.prog 36 #[.agg #[.slice a L.length ca, .slice b T.length cb], .agg #[.slice a2 M.length ca2, .slice b2 U.length cb2], .slice af F.length cf] w fun e w' => e = .returned (.int .i64 (kerI L T M U F)) ∧ Below w.heap.size w w' := by
  obtain ⟨w1, hw1⟩ : ∃ w1, w1 = (w.alloc (.cells #[.slice a L.length ca, .slice b T.length cb] 28)).alloc (.cells #[.slice a2 M.length ca2, .slice b2 U.length cb2] 28) := ⟨_, rfl⟩
  have hB : Below w.heap.size w w1 := by rw [hw1]; exact ((Below.refl _ _).alloc (Nat.le_refl _) _).alloc (by simp) _
  have hx : w1.heap[w.heap.size]? = some (.cells #[.slice a L.length ca, .slice b T.length cb] 28 (0, 0)) := by rw [hw1, Below.heap_alloc _ _ _ (by simp)]; exact heap_alloc_new w _
  have hx2 : w1.heap[w.heap.size + 1]? = some (.cells #[.slice a2 M.length ca2, .slice b2 U.length cb2] 28 (0, 0)) := by rw [hw1]; exact heap_alloc2_new _ _ _
  have Kx := Lib.hid (show ∀ wz, Below w1.heap.size w1 wz → wz.heap[w.heap.size]? = some (.cells #[.slice a L.length ca, .slice b T.length cb] 28 (0, 0)) from fun wz h => (h.block _ (lt_of_block hx)).trans hx)
  have Kx2 := Lib.hid (show ∀ wz, Below w1.heap.size w1 wz → wz.heap[w.heap.size + 1]? = some (.cells #[.slice a2 M.length ca2, .slice b2 U.length cb2] 28 (0, 0)) from fun wz h => (h.block _ (lt_of_block hx2)).trans hx2)
  have KR := Lib.hid (show ∀ wz, Below w1.heap.size w1 wz → Rd wz a L from fun wz h => (hr.below hB).below h)
  have KT := Lib.hid (show ∀ wz, Below w1.heap.size w1 wz → RdT wz b T from fun wz h => (hT.below hB).below h)
  have KR2 := Lib.hid (show ∀ wz, Below w1.heap.size w1 wz → Rd wz a2 M from fun wz h => (hr2.below hB).below h)
  have KT2 := Lib.hid (show ∀ wz, Below w1.heap.size w1 wz → RdT wz b2 U from fun wz h => (hT2.below hB).below h)
  have KF := Lib.hid (show ∀ wz, Below w1.heap.size w1 wz → Rd wz af F from fun wz h => (hf.below hB).below h)
  have z1 : Below w1.heap.size w1 w1 := Below.refl _ _
  clear hr hT hr2 hT2 hf hx hx2
  have hv := Lib.hid (show kerI L T M U F = -1 by unfold kerI; rw [h]; rfl)
  unfold isMapB at h
  cases hA : algB L T <;> cases hA2 : algB M U <;> cases hM : mpB L T M U F
  all_goals first
    | (exfalso; rw [hA, hA2, hM] at h; cases h; done)
    | (have HA := Lib.hid hA
       have HA2 := Lib.hid hA2
       have HM := Lib.hid hM
       clear hA hA2 hM h
       go_enter Try.func36, Try.ntmps36
       go_wp2_with (first
         | go_skip
         | (rw [← hw1]; clear hw1)
         | (refine wpList_load_row_w rfl 28 _ rfl w.heap.size rfl _ _ _ _ (Kx.out _ (by assumption)) Try.underlying28 rfl (size_Alg _ _) ?_)
         | (refine wpList_load_row_w rfl 28 _ rfl (w.heap.size + 1) rfl _ _ _ _ (Kx2.out _ (by assumption)) Try.underlying28 rfl (size_Alg _ _) ?_)
         | (go_at_call_of 50 (Value.agg #[.slice a L.length ca, .slice b T.length cb]); refine (ret_below (validAlgebra_any _ _ _ _ L T _ (KR.out _ z1) (KT.out _ z1)) HA.out).mono ?_; rintro e w2 ⟨rfl, h2⟩; have z2 : Below w1.heap.size w1 w2 := h2; clear h2)
         | (go_at_call 50; refine (ret_below (validAlgebra_any _ _ _ _ M U _ (KR2.out _ z2) (KT2.out _ z2)) HA2.out).mono ?_; rintro e w3 ⟨rfl, h3⟩; have z3 : Below w1.heap.size w1 w3 := z2.trans (h3.mono z2.size); clear h3)
         | (go_at_call 86; refine (ret_below (specIsMapM_any _ _ _ _ L T _ _ _ _ M U af cf F _ (KR.out _ z3) (KT.out _ z3) (KR2.out _ z3) (KT2.out _ z3) (KF.out _ z3) HA.out HA2.out) HM.out).mono ?_; rintro e w4 ⟨rfl, h4⟩; have z4 : Below w1.heap.size w1 w4 := z3.trans (h4.mono z3.size)))
       go_ret
       exact ⟨ret_int (by rw [hv.out]), hB.trans (Below.mono (by assumption) hB.size)⟩)
set_option maxRecDepth 100000 in
set_option maxHeartbeats 4000000 in
theorem specImageOf_no (a b : Option Addr) (ca cb : Nat) (L : List Int) (T : List (List Int)) (a2 b2 : Option Addr) (ca2 cb2 : Nat) (M : List Int) (U : List (List Int)) (af : Option Addr) (cf : Nat) (F : List Int) (w : World) (hr : Rd w a L) (hT : RdT w b T) (hr2 : Rd w a2 M) (hT2 : RdT w b2 U) (hf : Rd w af F) (h : isMapB L T M U F = false) :
    Calls Try.prog 38 #[.agg #[.slice a L.length ca, .slice b T.length cb], .agg #[.slice a2 M.length ca2, .slice b2 U.length cb2], .slice af F.length cf] w fun e w' => e = .returned (.int .i64 (imgI L T M U F)) ∧ Below w.heap.size w w' := by
  obtain ⟨w1, hw1⟩ : ∃ w1, w1 = (w.alloc (.cells #[.slice a L.length ca, .slice b T.length cb] 28)).alloc (.cells #[.slice a2 M.length ca2, .slice b2 U.length cb2] 28) := ⟨_, rfl⟩
  have hB : Below w.heap.size w w1 := by rw [hw1]; exact ((Below.refl _ _).alloc (Nat.le_refl _) _).alloc (by simp) _
  have hx : w1.heap[w.heap.size]? = some (.cells #[.slice a L.length ca, .slice b T.length cb] 28 (0, 0)) := by rw [hw1, Below.heap_alloc _ _ _ (by simp)]; exact heap_alloc_new w _
  have hx2 : w1.heap[w.heap.size + 1]? = some (.cells #[.slice a2 M.length ca2, .slice b2 U.length cb2] 28 (0, 0)) := by rw [hw1]; exact heap_alloc2_new _ _ _
  have Kx := Lib.hid (show ∀ wz, Below w1.heap.size w1 wz → wz.heap[w.heap.size]? = some (.cells #[.slice a L.length ca, .slice b T.length cb] 28 (0, 0)) from fun wz h => (h.block _ (lt_of_block hx)).trans hx)
  have Kx2 := Lib.hid (show ∀ wz, Below w1.heap.size w1 wz → wz.heap[w.heap.size + 1]? = some (.cells #[.slice a2 M.length ca2, .slice b2 U.length cb2] 28 (0, 0)) from fun wz h => (h.block _ (lt_of_block hx2)).trans hx2)
  have KR := Lib.hid (show ∀ wz, Below w1.heap.size w1 wz → Rd wz a L from fun wz h => (hr.below hB).below h)
  have KT := Lib.hid (show ∀ wz, Below w1.heap.size w1 wz → RdT wz b T from fun wz h => (hT.below hB).below h)
  have KR2 := Lib.hid (show ∀ wz, Below w1.heap.size w1 wz → Rd wz a2 M from fun wz h => (hr2.below hB).below h)
  have KT2 := Lib.hid (show ∀ wz, Below w1.heap.size w1 wz → RdT wz b2 U from fun wz h => (hT2.below hB).below h)
  have KF := Lib.hid (show ∀ wz, Below w1.heap.size w1 wz → Rd wz af F from fun wz h => (hf.below hB).below h)
  have z1 : Below w1.heap.size w1 w1 := Below.refl _ _
  clear hr hT hr2 hT2 hf hx hx2
  have hv := Lib.hid (show imgI L T M U F = -1 by unfold imgI; rw [h]; rfl)
  unfold isMapB at h
  cases hA : algB L T <;> cases hA2 : algB M U <;> cases hM : mpB L T M U F
  all_goals first
    | (exfalso; rw [hA, hA2, hM] at h; cases h; done)
    | (have HA := Lib.hid hA
       have HA2 := Lib.hid hA2
       have HM := Lib.hid hM
       clear hA hA2 hM h
       go_enter Try.func38, Try.ntmps38
       go_wp2_with (first
         | go_skip
         | (rw [← hw1]; clear hw1)
         | (refine wpList_load_row_w rfl 28 _ rfl w.heap.size rfl _ _ _ _ (Kx.out _ (by assumption)) Try.underlying28 rfl (size_Alg _ _) ?_)
         | (refine wpList_load_row_w rfl 28 _ rfl (w.heap.size + 1) rfl _ _ _ _ (Kx2.out _ (by assumption)) Try.underlying28 rfl (size_Alg _ _) ?_)
         | (go_at_call_of 50 (Value.agg #[.slice a L.length ca, .slice b T.length cb]); refine (ret_below (validAlgebra_any _ _ _ _ L T _ (KR.out _ z1) (KT.out _ z1)) HA.out).mono ?_; rintro e w2 ⟨rfl, h2⟩; have z2 : Below w1.heap.size w1 w2 := h2; clear h2)
         | (go_at_call 50; refine (ret_below (validAlgebra_any _ _ _ _ M U _ (KR2.out _ z2) (KT2.out _ z2)) HA2.out).mono ?_; rintro e w3 ⟨rfl, h3⟩; have z3 : Below w1.heap.size w1 w3 := z2.trans (h3.mono z2.size); clear h3)
         | (go_at_call 86; refine (ret_below (specIsMapM_any _ _ _ _ L T _ _ _ _ M U af cf F _ (KR.out _ z3) (KT.out _ z3) (KR2.out _ z3) (KT2.out _ z3) (KF.out _ z3) HA.out HA2.out) HM.out).mono ?_; rintro e w4 ⟨rfl, h4⟩; have z4 : Below w1.heap.size w1 w4 := z3.trans (h4.mono z3.size)))
       go_ret
       exact ⟨ret_int (by rw [hv.out]), hB.trans (Below.mono (by assumption) hB.size)⟩)
set_option maxRecDepth 100000 in
set_option maxHeartbeats 4000000 in
theorem specImageOf_yes (a b : Option Addr) (ca cb : Nat) (L : List Int) (T : List (List Int)) (a2 b2 : Option Addr) (ca2 cb2 : Nat) (M : List Int) (U : List (List Int)) (af : Option Addr) (cf : Nat) (F : List Int) (w : World) (hr : Rd w a L) (hT : RdT w b T) (hr2 : Rd w a2 M) (hT2 : RdT w b2 U) (hf : Rd w af F) (h : isMapB L T M U F = true) (hl : F.length ≤ 1048576) :
    Calls Try.prog 38 #[.agg #[.slice a L.length ca, .slice b T.length cb], .agg #[.slice a2 M.length ca2, .slice b2 U.length cb2], .slice af F.length cf] w fun e w' => e = .returned (.int .i64 (imgI L T M U F)) ∧ Below w.heap.size w w' := by
  obtain ⟨w1, hw1⟩ : ∃ w1, w1 = (w.alloc (.cells #[.slice a L.length ca, .slice b T.length cb] 28)).alloc (.cells #[.slice a2 M.length ca2, .slice b2 U.length cb2] 28) := ⟨_, rfl⟩
  have hB : Below w.heap.size w w1 := by rw [hw1]; exact ((Below.refl _ _).alloc (Nat.le_refl _) _).alloc (by simp) _
  have hx : w1.heap[w.heap.size]? = some (.cells #[.slice a L.length ca, .slice b T.length cb] 28 (0, 0)) := by rw [hw1, Below.heap_alloc _ _ _ (by simp)]; exact heap_alloc_new w _
  have hx2 : w1.heap[w.heap.size + 1]? = some (.cells #[.slice a2 M.length ca2, .slice b2 U.length cb2] 28 (0, 0)) := by rw [hw1]; exact heap_alloc2_new _ _ _
  have Kx := Lib.hid (show ∀ wz, Below w1.heap.size w1 wz → wz.heap[w.heap.size]? = some (.cells #[.slice a L.length ca, .slice b T.length cb] 28 (0, 0)) from fun wz h => (h.block _ (lt_of_block hx)).trans hx)
  have Kx2 := Lib.hid (show ∀ wz, Below w1.heap.size w1 wz → wz.heap[w.heap.size + 1]? = some (.cells #[.slice a2 M.length ca2, .slice b2 U.length cb2] 28 (0, 0)) from fun wz h => (h.block _ (lt_of_block hx2)).trans hx2)
  have KR := Lib.hid (show ∀ wz, Below w1.heap.size w1 wz → Rd wz a L from fun wz h => (hr.below hB).below h)
  have KT := Lib.hid (show ∀ wz, Below w1.heap.size w1 wz → RdT wz b T from fun wz h => (hT.below hB).below h)
  have KR2 := Lib.hid (show ∀ wz, Below w1.heap.size w1 wz → Rd wz a2 M from fun wz h => (hr2.below hB).below h)
  have KT2 := Lib.hid (show ∀ wz, Below w1.heap.size w1 wz → RdT wz b2 U from fun wz h => (hT2.below hB).below h)
  have KF := Lib.hid (show ∀ wz, Below w1.heap.size w1 wz → Rd wz af F from fun wz h => (hf.below hB).below h)
  have z1 : Below w1.heap.size w1 w1 := Below.refl _ _
  clear hr hT hr2 hT2 hf hx hx2
  have hv := Lib.hid (show imgI L T M U F = setL F by unfold imgI; rw [h]; rfl)
  obtain ⟨hA, hA2, hM, hlen, hR⟩ := isMap_parts h
  have m6 := (lat_len (alg_lat hA2)).2
  have HA := Lib.hid hA
  have HA2 := Lib.hid hA2
  have HM := Lib.hid hM
  have HR := Lib.hid (show ∀ k, 0 ≤ k → k < num F → 0 ≤ nth F k ∧ nth F k < 6 from fun k k0 k1 => by have := hR k k0 k1; omega)
  clear hA hA2 hM h hR
  go_enter Try.func38, Try.ntmps38
  go_wp2_with (first
    | go_skip
    | (rw [← hw1]; clear hw1)
    | (refine wpList_load_row_w rfl 28 _ rfl w.heap.size rfl _ _ _ _ (Kx.out _ (by assumption)) Try.underlying28 rfl (size_Alg _ _) ?_)
    | (refine wpList_load_row_w rfl 28 _ rfl (w.heap.size + 1) rfl _ _ _ _ (Kx2.out _ (by assumption)) Try.underlying28 rfl (size_Alg _ _) ?_)
    | (go_at_call_of 50 (Value.agg #[.slice a L.length ca, .slice b T.length cb]); refine (ret_below (validAlgebra_any _ _ _ _ L T _ (KR.out _ z1) (KT.out _ z1)) HA.out).mono ?_; rintro e w2 ⟨rfl, h2⟩; have z2 : Below w1.heap.size w1 w2 := h2; clear h2)
    | (go_at_call 50; refine (ret_below (validAlgebra_any _ _ _ _ M U _ (KR2.out _ z2) (KT2.out _ z2)) HA2.out).mono ?_; rintro e w3 ⟨rfl, h3⟩; have z3 : Below w1.heap.size w1 w3 := z2.trans (h3.mono z2.size); clear h3)
    | (go_at_call 86; refine (ret_below (specIsMapM_any _ _ _ _ L T _ _ _ _ M U af cf F _ (KR.out _ z3) (KT.out _ z3) (KR2.out _ z3) (KT2.out _ z3) (KF.out _ z3) HA.out HA2.out) HM.out).mono ?_; rintro e w4 ⟨rfl, h4⟩; have z4 : Below w1.heap.size w1 w4 := z3.trans (h4.mono z3.size))
    | (go_at_call 94; refine (specImageOfL_any _ _ F _ (KF.out _ z4) HR.out hl).mono ?_; rintro e w5 ⟨rfl, rfl⟩))
  go_ret
  exact ⟨ret_int (by rw [hv.out]), hB.trans (z4.mono hB.size)⟩
theorem specImageOf_any (a b : Option Addr) (ca cb : Nat) (L : List Int) (T : List (List Int)) (a2 b2 : Option Addr) (ca2 cb2 : Nat) (M : List Int) (U : List (List Int)) (af : Option Addr) (cf : Nat) (F : List Int) (w : World) (hr : Rd w a L) (hT : RdT w b T) (hr2 : Rd w a2 M) (hT2 : RdT w b2 U) (hf : Rd w af F) (hl : F.length ≤ 1048576) :
    Calls Try.prog 38 #[.agg #[.slice a L.length ca, .slice b T.length cb], .agg #[.slice a2 M.length ca2, .slice b2 U.length cb2], .slice af F.length cf] w fun e w' => e = .returned (.int .i64 (imgI L T M U F)) ∧ Below w.heap.size w w' := by
  by_cases h : isMapB L T M U F = true
  · exact specImageOf_yes a b ca cb L T a2 b2 ca2 cb2 M U af cf F w hr hT hr2 hT2 hf h hl
  · exact specImageOf_no a b ca cb L T a2 b2 ca2 cb2 M U af cf F w hr hT hr2 hT2 hf (by simpa using h)
set_option maxRecDepth 100000 in
set_option maxHeartbeats 4000000 in
theorem specKernelOf_yes (a b : Option Addr) (ca cb : Nat) (L : List Int) (T : List (List Int)) (a2 b2 : Option Addr) (ca2 cb2 : Nat) (M : List Int) (U : List (List Int)) (af : Option Addr) (cf : Nat) (F : List Int) (w : World) (hr : Rd w a L) (hT : RdT w b T) (hr2 : Rd w a2 M) (hT2 : RdT w b2 U) (hf : Rd w af F) (h : isMapB L T M U F = true) :
    Calls Try.prog 36 #[.agg #[.slice a L.length ca, .slice b T.length cb], .agg #[.slice a2 M.length ca2, .slice b2 U.length cb2], .slice af F.length cf] w fun e w' => e = .returned (.int .i64 (kerI L T M U F)) ∧ Below w.heap.size w w' := by
  obtain ⟨w1, hw1⟩ : ∃ w1, w1 = (w.alloc (.cells #[.slice a L.length ca, .slice b T.length cb] 28)).alloc (.cells #[.slice a2 M.length ca2, .slice b2 U.length cb2] 28) := ⟨_, rfl⟩
  have hB : Below w.heap.size w w1 := by rw [hw1]; exact ((Below.refl _ _).alloc (Nat.le_refl _) _).alloc (by simp) _
  have hx : w1.heap[w.heap.size]? = some (.cells #[.slice a L.length ca, .slice b T.length cb] 28 (0, 0)) := by rw [hw1, Below.heap_alloc _ _ _ (by simp)]; exact heap_alloc_new w _
  have hx2 : w1.heap[w.heap.size + 1]? = some (.cells #[.slice a2 M.length ca2, .slice b2 U.length cb2] 28 (0, 0)) := by rw [hw1]; exact heap_alloc2_new _ _ _
  have Kx := Lib.hid (show ∀ wz, Below w1.heap.size w1 wz → wz.heap[w.heap.size]? = some (.cells #[.slice a L.length ca, .slice b T.length cb] 28 (0, 0)) from fun wz h => (h.block _ (lt_of_block hx)).trans hx)
  have Kx2 := Lib.hid (show ∀ wz, Below w1.heap.size w1 wz → wz.heap[w.heap.size + 1]? = some (.cells #[.slice a2 M.length ca2, .slice b2 U.length cb2] 28 (0, 0)) from fun wz h => (h.block _ (lt_of_block hx2)).trans hx2)
  have KR := Lib.hid (show ∀ wz, Below w1.heap.size w1 wz → Rd wz a L from fun wz h => (hr.below hB).below h)
  have KT := Lib.hid (show ∀ wz, Below w1.heap.size w1 wz → RdT wz b T from fun wz h => (hT.below hB).below h)
  have KR2 := Lib.hid (show ∀ wz, Below w1.heap.size w1 wz → Rd wz a2 M from fun wz h => (hr2.below hB).below h)
  have KT2 := Lib.hid (show ∀ wz, Below w1.heap.size w1 wz → RdT wz b2 U from fun wz h => (hT2.below hB).below h)
  have KF := Lib.hid (show ∀ wz, Below w1.heap.size w1 wz → Rd wz af F from fun wz h => (hf.below hB).below h)
  have z1 : Below w1.heap.size w1 w1 := Below.refl _ _
  clear hr hT hr2 hT2 hf hx hx2
  have hv := Lib.hid (show kerI L T M U F = rowTo (kerQ M F) (num F) by unfold kerI; rw [h]; rfl)
  obtain ⟨hA, hA2, hM, hlen, hR⟩ := isMap_parts h
  have n1 := (lat_len (alg_lat hA)).1
  have n6 := (lat_len (alg_lat hA)).2
  have m1 := (lat_len (alg_lat hA2)).1
  have m6 := (lat_len (alg_lat hA2)).2
  have hnf : num F = F.length := rfl
  have hnm : num M = M.length := rfl
  have k1 : IntKind.i64.wrap ((M.length : Int) - 1) = (M.length : Int) - 1 := IntWalk.i64_in _ (by omega)
  obtain ⟨fb, fo, rfl, hcf⟩ := (KF.out _ z1).pos (show 1 ≤ num F by omega)
  have HCF := Lib.hid (show ∀ wz, Below w1.heap.size w1 wz → Cells wz fb fo F from fun wz h => hcf.below h (hcf.lt (show 1 ≤ num F by omega)))
  have HA := Lib.hid hA
  have HA2 := Lib.hid hA2
  have HM := Lib.hid hM
  clear hA hA2 hM h hR hcf
  go_enter Try.func36, Try.ntmps36
  go_wp2_with (first
    | go_skip
    | (rw [← hw1]; clear hw1)
    | (refine wpList_load_row_w rfl 28 _ rfl w.heap.size rfl _ _ _ _ (Kx.out _ (by assumption)) Try.underlying28 rfl (size_Alg _ _) ?_)
    | (refine wpList_load_row_w rfl 28 _ rfl (w.heap.size + 1) rfl _ _ _ _ (Kx2.out _ (by assumption)) Try.underlying28 rfl (size_Alg _ _) ?_)
    | (go_at_call_of 50 (Value.agg #[.slice a L.length ca, .slice b T.length cb]); refine (ret_below (validAlgebra_any _ _ _ _ L T _ (KR.out _ z1) (KT.out _ z1)) HA.out).mono ?_; rintro e w2 ⟨rfl, h2⟩; have z2 : Below w1.heap.size w1 w2 := h2; clear h2)
    | (go_at_call 50; refine (ret_below (validAlgebra_any _ _ _ _ M U _ (KR2.out _ z2) (KT2.out _ z2)) HA2.out).mono ?_; rintro e w3 ⟨rfl, h3⟩; have z3 : Below w1.heap.size w1 w3 := z2.trans (h3.mono z2.size); clear h3)
    | (go_at_call 86; refine (ret_below (specIsMapM_any _ _ _ _ L T _ _ _ _ M U _ cf F _ (KR.out _ z3) (KT.out _ z3) (KR2.out _ z3) (KT2.out _ z3) (KF.out _ z3) HA.out HA2.out) HM.out).mono ?_; rintro e w4 ⟨rfl, h4⟩; have z4 : Below w1.heap.size w1 w4 := z3.trans (h4.mono z3.size)))
  go_loopw [7, 8] (fun s c wr => ∃ x v : Int, 0 ≤ x ∧ x ≤ num F ∧ c = .int .i64 x ∧ s = .int .i64 v ∧ v = rowTo (kerQ M F) x ∧ Below w1.heap.size w1 wr) (fun _ c _ => (6 - intOf c).toNat)
  case atStart => exact ⟨0, 0, by omega, by omega, rfl, rfl, rfl, z4⟩
  case round =>
    clear z4 z3 z2 z1
    obtain ⟨x, v, x0, x1, rfl, rfl, hvv, z3⟩ := hrel
    obtain ⟨e0, e1⟩ := bx_cells (Kx2.out _ z3)
    by_cases hx : x < num F
    · have hxf : x < F.length := by omega
      have df := (HCF.out _ z3).at x x0 hx
      have rb := rowTo_bound (kerQ M F) x0
      have p1 := pw_30 x (by omega)
      have p0 := pw_pos x
      have hsu := Lib.hid (rowTo_succ (kerQ M F) x x0)
      have hq := Lib.hid (show kerQ M F x = (nth F x == (M.length : Int) - 1) from rfl)
      have kv : IntKind.i64.wrap (v + pw x) = v + pw x := IntWalk.i64_in _ (by rw [hvv]; omega)
      have HV := Lib.hid hvv
      clear hvv
      cases hC : nth F x == (M.length : Int) - 1 with
      | true =>
        rw [hC] at hq
        go_wp2
        go_quiet (fail)
        go_wp2_with (go_at_call 90; refine (power_any _ _ (by omega) (by omega)).mono ?_; rintro e w9 ⟨rfl, rfl⟩)
        go_roundw
        case rel => exact ⟨x + 1, _, by omega, by omega, rfl, rfl, by rw [hsu.out, hq.out, HV.out]; rfl, z3.trans (Dr.below ⟨_, rfl⟩ _)⟩
        case measure => simp [intOf]; omega
      | false =>
        rw [hC] at hq
        go_wp2
        go_quiet (fail)
        go_wp2
        go_roundw
        case rel => exact ⟨x + 1, _, by omega, by omega, rfl, rfl, by rw [hsu.out, hq.out, HV.out]; rfl, z3.trans (Dr.below ⟨_, rfl⟩ _)⟩
        case measure => simp [intOf]; omega
    · have e : x = num F := by omega
      have HV := Lib.hid (e ▸ hvv : v = rowTo (kerQ M F) (num F))
      clear hvv
      go_wp2
      go_ret
      exact ⟨ret_int (by rw [hv.out, HV.out]), hB.trans (z3.mono hB.size)⟩
theorem specKernelOf_any (a b : Option Addr) (ca cb : Nat) (L : List Int) (T : List (List Int)) (a2 b2 : Option Addr) (ca2 cb2 : Nat) (M : List Int) (U : List (List Int)) (af : Option Addr) (cf : Nat) (F : List Int) (w : World) (hr : Rd w a L) (hT : RdT w b T) (hr2 : Rd w a2 M) (hT2 : RdT w b2 U) (hf : Rd w af F) (_ : F.length ≤ 1048576) :
    Calls Try.prog 36 #[.agg #[.slice a L.length ca, .slice b T.length cb], .agg #[.slice a2 M.length ca2, .slice b2 U.length cb2], .slice af F.length cf] w fun e w' => e = .returned (.int .i64 (kerI L T M U F)) ∧ Below w.heap.size w w' := by
  by_cases h : isMapB L T M U F = true
  · exact specKernelOf_yes a b ca cb L T a2 b2 ca2 cb2 M U af cf F w hr hT hr2 hT2 hf h
  · exact specKernelOf_no a b ca cb L T a2 b2 ca2 cb2 M U af cf F w hr hT hr2 hT2 hf (by simpa using h)
set_option maxRecDepth 100000 in
set_option maxHeartbeats 4000000 in
theorem implImageOf_any (a b : Option Addr) (ca cb : Nat) (L : List Int) (T : List (List Int)) (a2 b2 : Option Addr) (ca2 cb2 : Nat) (M : List Int) (U : List (List Int)) (af : Option Addr) (cf : Nat) (F : List Int) (w : World) (hr : Rd w a L) (hT : RdT w b T) (hr2 : Rd w a2 M) (hT2 : RdT w b2 U) (hf : Rd w af F) (hl : F.length ≤ 1048576) :
    Calls Try.prog 39 #[.agg #[.slice a L.length ca, .slice b T.length cb], .agg #[.slice a2 M.length ca2, .slice b2 U.length cb2], .slice af F.length cf] w fun e w' => e = .returned (.int .i64 (imgI L T M U F)) ∧ Below w.heap.size w w' := by
  obtain ⟨w1, hw1⟩ : ∃ w1, w1 = (w.alloc (.cells #[.slice a L.length ca, .slice b T.length cb] 28)).alloc (.cells #[.slice a2 M.length ca2, .slice b2 U.length cb2] 28) := ⟨_, rfl⟩
  have hB : Below w.heap.size w w1 := by rw [hw1]; exact ((Below.refl _ _).alloc (Nat.le_refl _) _).alloc (by simp) _
  have hx : w1.heap[w.heap.size]? = some (.cells #[.slice a L.length ca, .slice b T.length cb] 28 (0, 0)) := by rw [hw1, Below.heap_alloc _ _ _ (by simp)]; exact heap_alloc_new w _
  have hx2 : w1.heap[w.heap.size + 1]? = some (.cells #[.slice a2 M.length ca2, .slice b2 U.length cb2] 28 (0, 0)) := by rw [hw1]; exact heap_alloc2_new _ _ _
  have Kx := Lib.hid (show ∀ wz, Below w1.heap.size w1 wz → wz.heap[w.heap.size]? = some (.cells #[.slice a L.length ca, .slice b T.length cb] 28 (0, 0)) from fun wz h => (h.block _ (lt_of_block hx)).trans hx)
  have Kx2 := Lib.hid (show ∀ wz, Below w1.heap.size w1 wz → wz.heap[w.heap.size + 1]? = some (.cells #[.slice a2 M.length ca2, .slice b2 U.length cb2] 28 (0, 0)) from fun wz h => (h.block _ (lt_of_block hx2)).trans hx2)
  have KR := Lib.hid (show ∀ wz, Below w1.heap.size w1 wz → Rd wz a L from fun wz h => (hr.below hB).below h)
  have KT := Lib.hid (show ∀ wz, Below w1.heap.size w1 wz → RdT wz b T from fun wz h => (hT.below hB).below h)
  have KR2 := Lib.hid (show ∀ wz, Below w1.heap.size w1 wz → Rd wz a2 M from fun wz h => (hr2.below hB).below h)
  have KT2 := Lib.hid (show ∀ wz, Below w1.heap.size w1 wz → RdT wz b2 U from fun wz h => (hT2.below hB).below h)
  have KF := Lib.hid (show ∀ wz, Below w1.heap.size w1 wz → Rd wz af F from fun wz h => (hf.below hB).below h)
  have z1 : Below w1.heap.size w1 w1 := Below.refl _ _
  clear hr hT hr2 hT2 hf hx hx2
  cases hI : isMapB L T M U F with
  | false =>
    have hv := Lib.hid (show imgI L T M U F = -1 by unfold imgI; rw [hI]; rfl)
    have HI := Lib.hid hI
    clear hI
    go_enter Try.func39, Try.ntmps39
    go_wp2_with (first
      | go_skip
      | (rw [← hw1]; clear hw1)
      | (refine wpList_load_row_w rfl 28 _ rfl w.heap.size rfl _ _ _ _ (Kx.out _ (by assumption)) Try.underlying28 rfl (size_Alg _ _) ?_)
      | (refine wpList_load_row_w rfl 28 _ rfl (w.heap.size + 1) rfl _ _ _ _ (Kx2.out _ (by assumption)) Try.underlying28 rfl (size_Alg _ _) ?_)
      | (go_at_call 35; refine (ret_below (implIsMap_any _ _ _ _ L T _ _ _ _ M U _ cf F _ (KR.out _ z1) (KT.out _ z1) (KR2.out _ z1) (KT2.out _ z1) (KF.out _ z1) hl) HI.out).mono ?_; rintro e w2 ⟨rfl, h2⟩; have z2 : Below w1.heap.size w1 w2 := h2))
    go_ret
    exact ⟨ret_int (by rw [hv.out]), hB.trans (z2.mono hB.size)⟩
  | true =>
    have hv := Lib.hid (show imgI L T M U F = setL F by unfold imgI; rw [hI]; rfl)
    obtain ⟨_, hA2, _, hlen, hR⟩ := isMap_parts hI
    have m6 := (lat_len (alg_lat hA2)).2
    have HR := Lib.hid (show ∀ k, 0 ≤ k → k < num F → 0 ≤ nth F k ∧ nth F k < 6 from fun k k0 k1 => by have := hR k k0 k1; omega)
    have HI := Lib.hid hI
    clear hI hR hA2
    go_enter Try.func39, Try.ntmps39
    go_wp2_with (first
      | go_skip
      | (rw [← hw1]; clear hw1)
      | (refine wpList_load_row_w rfl 28 _ rfl w.heap.size rfl _ _ _ _ (Kx.out _ (by assumption)) Try.underlying28 rfl (size_Alg _ _) ?_)
      | (refine wpList_load_row_w rfl 28 _ rfl (w.heap.size + 1) rfl _ _ _ _ (Kx2.out _ (by assumption)) Try.underlying28 rfl (size_Alg _ _) ?_)
      | (go_at_call 35; refine (ret_below (implIsMap_any _ _ _ _ L T _ _ _ _ M U _ cf F _ (KR.out _ z1) (KT.out _ z1) (KR2.out _ z1) (KT2.out _ z1) (KF.out _ z1) hl) HI.out).mono ?_; rintro e w2 ⟨rfl, h2⟩; have z2 : Below w1.heap.size w1 w2 := h2)
      | (go_at_call 91; refine (setOf_any _ _ F _ (KF.out _ z2) HR.out hl).mono ?_; rintro e w5 ⟨rfl, rfl⟩))
    go_ret
    exact ⟨ret_int (by rw [hv.out]), hB.trans (z2.mono hB.size)⟩
theorem enters_ker : Enters 93 := enters_of Try.func93 (by kernel_rfl) rfl
theorem append1p (a b c : Value) : (#[a] ++ #[b, c] : Array Value) = #[a, b, c] := rfl
set_option maxRecDepth 100000 in
set_option maxHeartbeats 2000000 in
theorem kerClo_any (M F : List Int) (bf bg : Nat) (af : Option Addr) (cf : Nat) (x : Int) (w : World) (hs : w.heap[bf]? = some (.cells #[.slice af F.length cf] 22 (0, 0))) (hg : w.heap[bg]? = some (.cells #[.int .i64 ((M.length : Int) - 1)] 3 (0, 0))) (hf : Rd w af F) (x0 : 0 ≤ x) (x1 : x < num F) :
    Calls Try.prog 93 #[.int .i64 x, .pointer (some ⟨bf, 0, none⟩), .pointer (some ⟨bg, 0, none⟩)] w fun e w' => e = .returned (.bool (kerQ M F x)) ∧ Dr w w' := by
  have cs := cell_of_one hs
  have cg := cell_of_one hg
  have hnf : num F = F.length := rfl
  have hxf : x < F.length := by omega
  obtain ⟨fb, fo, rfl, hc⟩ := hf.pos (show 1 ≤ num F by omega)
  have d0 := hc.at x x0 x1
  have hq := Lib.hid (show kerQ M F x = (nth F x == (M.length : Int) - 1) from rfl)
  clear hc
  go_enter Try.func93, Try.ntmps93
  go_wp2
  go_quiet (fail)
  go_wp2
  go_ret
  exact ⟨ret_bool (by rw [hq.out]), ⟨_, rfl⟩⟩
set_option maxRecDepth 100000 in
set_option maxHeartbeats 4000000 in
theorem implKernelOf_any (a b : Option Addr) (ca cb : Nat) (L : List Int) (T : List (List Int)) (a2 b2 : Option Addr) (ca2 cb2 : Nat) (M : List Int) (U : List (List Int)) (af : Option Addr) (cf : Nat) (F : List Int) (w : World) (hr : Rd w a L) (hT : RdT w b T) (hr2 : Rd w a2 M) (hT2 : RdT w b2 U) (hf : Rd w af F) (hl : F.length ≤ 1048576) :
    Calls Try.prog 37 #[.agg #[.slice a L.length ca, .slice b T.length cb], .agg #[.slice a2 M.length ca2, .slice b2 U.length cb2], .slice af F.length cf] w fun e w' => e = .returned (.int .i64 (kerI L T M U F)) ∧ Below w.heap.size w w' := by
  obtain ⟨w1, hw1⟩ : ∃ w1, w1 = ((w.alloc (.cells #[.slice a L.length ca, .slice b T.length cb] 28)).alloc (.cells #[.slice a2 M.length ca2, .slice b2 U.length cb2] 28)).alloc (.cells #[.slice af F.length cf] 22) := ⟨_, rfl⟩
  have hB : Below w.heap.size w w1 := by rw [hw1]; exact (((Below.refl _ _).alloc (Nat.le_refl _) _).alloc (by simp) _).alloc (by simp; omega) _
  have hx : w1.heap[w.heap.size]? = some (.cells #[.slice a L.length ca, .slice b T.length cb] 28 (0, 0)) := by rw [hw1, Below.heap_alloc _ _ _ (by simp; omega), Below.heap_alloc _ _ _ (by simp)]; exact heap_alloc_new w _
  have hx2 : w1.heap[w.heap.size + 1]? = some (.cells #[.slice a2 M.length ca2, .slice b2 U.length cb2] 28 (0, 0)) := by rw [hw1, Below.heap_alloc _ _ _ (by simp)]; exact heap_alloc2_new _ _ _
  have hx3 : w1.heap[w.heap.size + 1 + 1]? = some (.cells #[.slice af F.length cf] 22 (0, 0)) := by
    have := heap_alloc_new ((w.alloc (.cells #[.slice a L.length ca, .slice b T.length cb] 28)).alloc (.cells #[.slice a2 M.length ca2, .slice b2 U.length cb2] 28)) (.cells #[.slice af F.length cf] 22)
    rw [hw1]; simpa using this
  have Kx3 := Lib.hid (show ∀ wz, Below w1.heap.size w1 wz → wz.heap[w.heap.size + 1 + 1]? = some (.cells #[.slice af F.length cf] 22 (0, 0)) from fun wz h => (h.block _ (lt_of_block hx3)).trans hx3)
  have Kx := Lib.hid (show ∀ wz, Below w1.heap.size w1 wz → wz.heap[w.heap.size]? = some (.cells #[.slice a L.length ca, .slice b T.length cb] 28 (0, 0)) from fun wz h => (h.block _ (lt_of_block hx)).trans hx)
  have Kx2 := Lib.hid (show ∀ wz, Below w1.heap.size w1 wz → wz.heap[w.heap.size + 1]? = some (.cells #[.slice a2 M.length ca2, .slice b2 U.length cb2] 28 (0, 0)) from fun wz h => (h.block _ (lt_of_block hx2)).trans hx2)
  have KR := Lib.hid (show ∀ wz, Below w1.heap.size w1 wz → Rd wz a L from fun wz h => (hr.below hB).below h)
  have KT := Lib.hid (show ∀ wz, Below w1.heap.size w1 wz → RdT wz b T from fun wz h => (hT.below hB).below h)
  have KR2 := Lib.hid (show ∀ wz, Below w1.heap.size w1 wz → Rd wz a2 M from fun wz h => (hr2.below hB).below h)
  have KT2 := Lib.hid (show ∀ wz, Below w1.heap.size w1 wz → RdT wz b2 U from fun wz h => (hT2.below hB).below h)
  have KF := Lib.hid (show ∀ wz, Below w1.heap.size w1 wz → Rd wz af F from fun wz h => (hf.below hB).below h)
  have z1 : Below w1.heap.size w1 w1 := Below.refl _ _
  clear hr hT hr2 hT2 hf hx hx2
  have c3 := cell_of_one (Kx3.out _ z1)
  cases hI : isMapB L T M U F with
  | false =>
    have hv := Lib.hid (show kerI L T M U F = -1 by unfold kerI; rw [hI]; rfl)
    have HI := Lib.hid hI
    clear hI
    go_enter Try.func37, Try.ntmps37
    go_wp2_with (first
      | go_skip
      | (rw [← hw1]; clear hw1)
      | (refine wpList_load_row_w rfl 28 _ rfl w.heap.size rfl _ _ _ _ (Kx.out _ (by assumption)) Try.underlying28 rfl (size_Alg _ _) ?_)
      | (refine wpList_load_row_w rfl 28 _ rfl (w.heap.size + 1) rfl _ _ _ _ (Kx2.out _ (by assumption)) Try.underlying28 rfl (size_Alg _ _) ?_)
      | (go_at_call 35; refine (ret_below (implIsMap_any _ _ _ _ L T _ _ _ _ M U _ cf F _ (KR.out _ z1) (KT.out _ z1) (KR2.out _ z1) (KT2.out _ z1) (KF.out _ z1) hl) HI.out).mono ?_; rintro e w2 ⟨rfl, h2⟩; have z2 : Below w1.heap.size w1 w2 := h2))
    go_ret
    exact ⟨ret_int (by rw [hv.out]), hB.trans (z2.mono hB.size)⟩
  | true =>
    have hv := Lib.hid (show kerI L T M U F = rowTo (kerQ M F) (num F) by unfold kerI; rw [hI]; rfl)
    obtain ⟨hA, hA2, _, hlen, hR⟩ := isMap_parts hI
    have n1 := (lat_len (alg_lat hA)).1
    have n6 := (lat_len (alg_lat hA)).2
    have m1 := (lat_len (alg_lat hA2)).1
    have m6 := (lat_len (alg_lat hA2)).2
    have hnf : num F = F.length := rfl
    have hnm : num M = M.length := rfl
    have k1 : IntKind.i64.wrap ((M.length : Int) - 1) = (M.length : Int) - 1 := IntWalk.i64_in _ (by omega)
    have HSF := Lib.hid (show setL (filtTo (kerQ M F) (F.length : Int)) = rowTo (kerQ M F) (num F) from setL_filt (kerQ M F) F.length (by omega))
    have HEL := Lib.hid (show ∀ k, 0 ≤ k → k < num (filtTo (kerQ M F) (F.length : Int)) → 0 ≤ nth (filtTo (kerQ M F) (F.length : Int)) k ∧ nth (filtTo (kerQ M F) (F.length : Int)) k < 6 from fun k k0 k1 => by
      have hm := (filtTo_mem (kerQ M F) (F.length : Int) _).1 (nth_mem (filtTo (kerQ M F) (F.length : Int)) k0 k1)
      exact ⟨hm.1, by omega⟩)
    have HLN := Lib.hid (show (filtTo (kerQ M F) (F.length : Int)).length ≤ 1048576 from by have := filtTo_len (kerQ M F) (F.length : Int); omega)
    have HI := Lib.hid hI
    clear hI hR hA hA2
    go_enter Try.func37, Try.ntmps37
    go_wp2_with (first
      | go_skip
      | (rw [← hw1]; clear hw1)
      | (refine wpList_load_row_w rfl 28 _ rfl w.heap.size rfl _ _ _ _ (Kx.out _ (by assumption)) Try.underlying28 rfl (size_Alg _ _) ?_)
      | (refine wpList_load_row_w rfl 28 _ rfl (w.heap.size + 1) rfl _ _ _ _ (Kx2.out _ (by assumption)) Try.underlying28 rfl (size_Alg _ _) ?_)
      | (go_at_call 35; refine (ret_below (implIsMap_any _ _ _ _ L T _ _ _ _ M U _ cf F _ (KR.out _ z1) (KT.out _ z1) (KR2.out _ z1) (KT2.out _ z1) (KF.out _ z1) hl) HI.out).mono ?_; rintro e w2 ⟨rfl, h2⟩; have z2 : Below w1.heap.size w1 w2 := h2; obtain ⟨e0, e1⟩ := bx_cells (Kx2.out _ z2); have c4 := cell_of_one (Kx3.out _ z2); obtain ⟨w3, hw3⟩ : ∃ x, x = w2.alloc (.cells #[.int .i64 ((M.length : Int) - 1)] 3) := ⟨_, rfl⟩; have z3 : Below w1.heap.size w1 w3 := (by rw [hw3]; exact z2.alloc z2.size _); have hg3 : w3.heap[w2.heap.size]? = some (.cells #[.int .i64 ((M.length : Int) - 1)] 3 (0, 0)) := (by rw [hw3]; exact heap_alloc_new w2 _); have c5 := cell_of_one (Kx3.out _ z3))
      | (rw [← hw3]; clear hw3)
      | (go_at_call 92; refine (elementsThat_any 93 #[.pointer (some ⟨w.heap.size + 1 + 1, 0, none⟩), .pointer (some ⟨w2.heap.size, 0, none⟩)] (F.length : Int) (kerQ M F) _ (by omega) (by omega) enters_ker fun x wr x0 x1 hb => (by rw [append1p]; exact (kerClo_any M F _ _ _ cf x wr (Kx3.out _ (z3.trans (hb.mono z3.size))) ((hb.block _ (lt_of_block hg3)).trans hg3) (KF.out _ (z3.trans (hb.mono z3.size))) x0 x1).mono fun _ _ h => ⟨h.1, h.2.below _⟩)).mono ?_; rintro e w6 hret; obtain ⟨a6, c6, rfl, o6, h6⟩ := hret.sl; have z6 := z3.trans (h6.mono z3.size))
      | (go_at_call 91; refine (setOf_any _ _ _ _ o6.rd HEL.out HLN.out).mono ?_; rintro e w7 ⟨rfl, rfl⟩))
    go_ret
    exact ⟨ret_int (by rw [hv.out, HSF.out]), hB.trans (z6.mono hB.size)⟩
end Go.Proofs.Ytmapofenghjinaa

namespace Go.Proofs.Ytmapofenghjinaa
open Go.RowKit
theorem enters_toA_KernelOf : Enters 17 := enters_of Try.func17 (by kernel_rfl) rfl
theorem enters_toI_KernelOf : Enters 21 := enters_of Try.func21 (by kernel_rfl) rfl
theorem enters_sp_KernelOf : Enters 36 := enters_of Try.func36 (by kernel_rfl) rfl

set_option maxRecDepth 100000 in
set_option maxHeartbeats 4000000 in
/-- the law -/
theorem lawKernelOf (a0 b0 : Option Addr) (ca0 cb0 : Nat) (L0 : List Int) (T0 : List (List Int)) (a1 b1 : Option Addr) (ca1 cb1 : Nat) (L1 : List Int) (T1 : List (List Int)) (a2 : Option Addr) (ca2 : Nat) (L2 : List Int) (w : World) (hr0 : Rd w a0 L0) (ht0 : RdT w b0 T0) (hL0 : L0.length ≤ maxLen) (hn0 : T0.length ≤ maxLen) (hm0 : ∀ j : Nat, j < T0.length → (rowAt T0 j).length ≤ maxLen) (hr1 : Rd w a1 L1) (ht1 : RdT w b1 T1) (hL1 : L1.length ≤ maxLen) (hn1 : T1.length ≤ maxLen) (hm1 : ∀ j : Nat, j < T1.length → (rowAt T1 j).length ≤ maxLen) (hr2 : Rd w a2 L2) (hL2 : L2.length ≤ maxLen) :
    Calls Try.prog 9 #[.agg #[.slice a0 L0.length ca0, .slice b0 T0.length cb0], .agg #[.slice a1 L1.length ca1, .slice b1 T1.length cb1], .slice a2 L2.length ca2] w fun e w' => e = .returned (.bool true) ∧ Below w.heap.size w w' := by
  unfold maxLen at *
  have HM0 := Lib.hid (show ∀ j : Nat, j < T0.length → ((rowAt T0 j).length : Int) ≤ 9223372036854775807 from fun j hj => by have := hm0 j hj; omega)
  have hLL0 : (L0.length : Int) ≤ 9223372036854775807 := by omega
  have hnn0 : (T0.length : Int) ≤ 9223372036854775807 := by omega
  have HM1 := Lib.hid (show ∀ j : Nat, j < T1.length → ((rowAt T1 j).length : Int) ≤ 9223372036854775807 from fun j hj => by have := hm1 j hj; omega)
  have hLL1 : (L1.length : Int) ≤ 9223372036854775807 := by omega
  have hnn1 : (T1.length : Int) ≤ 9223372036854775807 := by omega
  obtain ⟨w1, hw1⟩ : ∃ w1, w1 = ((w.alloc (.cells #[.slice a0 L0.length ca0, .slice b0 T0.length cb0] 25)).alloc (.cells #[.slice a1 L1.length ca1, .slice b1 T1.length cb1] 25)) := ⟨_, rfl⟩
  have hB : Below w.heap.size w w1 := by rw [hw1]; exact (((Below.refl _ _).alloc (Nat.le_refl _) _).alloc (by simp; try omega) _)
  have hx0 : w1.heap[w.heap.size]? = some (.cells #[.slice a0 L0.length ca0, .slice b0 T0.length cb0] 25 (0, 0)) := by rw [hw1, Below.heap_alloc _ _ _ (by simp)]; exact heap_alloc_new w _
  have Kx0 := Lib.hid (show ∀ wz, Below w1.heap.size w1 wz → wz.heap[w.heap.size]? = some (.cells #[.slice a0 L0.length ca0, .slice b0 T0.length cb0] 25 (0, 0)) from fun wz h => (h.block _ (lt_of_block hx0)).trans hx0)
  have HR0 := Lib.hid (hr0.below hB)
  have HT0 := Lib.hid (ht0.below hB)
  have hx1 : w1.heap[(w.heap.size + 1)]? = some (.cells #[.slice a1 L1.length ca1, .slice b1 T1.length cb1] 25 (0, 0)) := by rw [hw1]; exact heap_alloc2_new _ _ _
  have Kx1 := Lib.hid (show ∀ wz, Below w1.heap.size w1 wz → wz.heap[(w.heap.size + 1)]? = some (.cells #[.slice a1 L1.length ca1, .slice b1 T1.length cb1] 25 (0, 0)) from fun wz h => (h.block _ (lt_of_block hx1)).trans hx1)
  have HR1 := Lib.hid (hr1.below hB)
  have HT1 := Lib.hid (ht1.below hB)
  have HR2 := Lib.hid (hr2.below hB)
  have z0 : Below w1.heap.size w1 w1 := Below.refl _ _
  by_cases hb2 : 1048576 < L2.length
  · have hc2 : (1048576 : Int) < (L2.length : Int) := by omega
    go_enter Try.func9, Try.ntmps9
    go_wp2_with (rw [← hw1]; clear hw1)
    go_ret
    exact ⟨rfl, hB⟩
  have hs2 : L2.length ≤ 1048576 := by omega
  have hss2 : (L2.length : Int) ≤ 1048576 := by omega
  clear hb2
  obtain ⟨V, hV⟩ : ∃ V, V = kerI L0 T0 L1 T1 L2 := ⟨_, rfl⟩
  have HS := Lib.hid (show ∀ (a0 b0 a1 b1 a2 : Option Addr) (ca0 cb0 ca1 cb1 ca2 : Nat) (w : World), Rd w a0 L0 → RdT w b0 T0 → Rd w a1 L1 → RdT w b1 T1 → Rd w a2 L2 → Calls Try.prog 36 #[.agg #[.slice a0 L0.length ca0, .slice b0 T0.length cb0], .agg #[.slice a1 L1.length ca1, .slice b1 T1.length cb1], .slice a2 L2.length ca2] w fun e w' => e = .returned (.int .i64 V) ∧ Below w.heap.size w w' from fun a0 b0 a1 b1 a2 ca0 cb0 ca1 cb1 ca2 w h0 h1 h2 h3 h4 => by rw [hV]; exact specKernelOf_any a0 b0 ca0 cb0 L0 T0 a1 b1 ca1 cb1 L1 T1 a2 ca2 L2 w h0 h1 h2 h3 h4 hs2)
  have HI := Lib.hid (show ∀ (a0 b0 a1 b1 a2 : Option Addr) (ca0 cb0 ca1 cb1 ca2 : Nat) (w : World), Rd w a0 L0 → RdT w b0 T0 → Rd w a1 L1 → RdT w b1 T1 → Rd w a2 L2 → Calls Try.prog 37 #[.agg #[.slice a0 L0.length ca0, .slice b0 T0.length cb0], .agg #[.slice a1 L1.length ca1, .slice b1 T1.length cb1], .slice a2 L2.length ca2] w fun e w' => e = .returned (.int .i64 V) ∧ Below w.heap.size w w' from fun a0 b0 a1 b1 a2 ca0 cb0 ca1 cb1 ca2 w h0 h1 h2 h3 h4 => by rw [hV]; exact implKernelOf_any a0 b0 ca0 cb0 L0 T0 a1 b1 ca1 cb1 L1 T1 a2 ca2 L2 w h0 h1 h2 h3 h4 hs2)
  clear hV hm0 ht0 hx0 hm1 ht1 hx1 hr0 hr1 hr2
  go_enter Try.func9, Try.ntmps9
  go_wp2_with (first | (rw [← hw1]; clear hw1) | (refine wpList_load_row_w rfl 25 _ rfl w.heap.size rfl _ _ _ _ (Kx0.out _ (by first | assumption | exact (by assumption : Below _ w1 _).alloc (Below.size (by assumption)) _)) Try.underlying25 rfl (size_LAlg _ _) ?_) | (refine wpList_load_row_w rfl 25 _ rfl (w.heap.size + 1) rfl _ _ _ _ (Kx1.out _ (by first | assumption | exact (by assumption : Below _ w1 _).alloc (Below.size (by assumption)) _)) Try.underlying25 rfl (size_LAlg _ _) ?_))
  refine (szAlgebra_any _ _ _ _ L0 T0 1048576 _ (HT0.out.below z0) (by omega) (by omega) hLL0 HM0.out hnn0).mono ?_
  rintro e s0w ⟨⟨v0, rfl, p0, q0, r0⟩, hbs0⟩
  have z21 := z0.trans (hbs0.mono z0.size)
  clear z0 hbs0
  by_cases hv0 : v0 < 0
  · go_wp2
    go_ret
    exact ⟨rfl, hB.trans (z21.mono hB.size)⟩
  obtain ⟨s1, s2, s3⟩ := r0 (by omega)
  have S10 : L0.length ≤ 1048576 := by omega
  have S20 : T0.length ≤ 1048576 := by omega
  have S30 := Lib.hid (show ∀ j : Nat, j < T0.length → (rowAt T0 j).length ≤ 1048576 from fun j hj => by have := s3 j hj; omega)
  clear s1 s2 s3 r0
  go_wp2_with (first | (refine wpList_load_row_w rfl 25 _ rfl w.heap.size rfl _ _ _ _ (Kx0.out _ (by first | assumption | exact (by assumption : Below _ w1 _).alloc (Below.size (by assumption)) _)) Try.underlying25 rfl (size_LAlg _ _) ?_) | (refine wpList_load_row_w rfl 25 _ rfl (w.heap.size + 1) rfl _ _ _ _ (Kx1.out _ (by first | assumption | exact (by assumption : Below _ w1 _).alloc (Below.size (by assumption)) _)) Try.underlying25 rfl (size_LAlg _ _) ?_))
  refine (szAlgebra_any _ _ _ _ L1 T1 v0 _ (HT1.out.below z21) (by omega) (by omega) hLL1 HM1.out hnn1).mono ?_
  rintro e s1w ⟨⟨v1, rfl, p1, q1, r1⟩, hbs1⟩
  have z22 := z21.trans (hbs1.mono z21.size)
  clear z21 hbs1
  by_cases hv1 : v1 < 0
  · go_wp2
    go_ret
    exact ⟨rfl, hB.trans (z22.mono hB.size)⟩
  obtain ⟨s1, s2, s3⟩ := r1 (by omega)
  have S11 : L1.length ≤ 1048576 := by omega
  have S21 : T1.length ≤ 1048576 := by omega
  have S31 := Lib.hid (show ∀ j : Nat, j < T1.length → (rowAt T1 j).length ≤ 1048576 from fun j hj => by have := s3 j hj; omega)
  clear s1 s2 s3 r1
  go_wp2_with (first | (refine wpList_load_row_w rfl 25 _ rfl w.heap.size rfl _ _ _ _ (Kx0.out _ (by first | assumption | exact (by assumption : Below _ w1 _).alloc (Below.size (by assumption)) _)) Try.underlying25 rfl (size_LAlg _ _) ?_) | (refine wpList_load_row_w rfl 25 _ rfl (w.heap.size + 1) rfl _ _ _ _ (Kx1.out _ (by first | assumption | exact (by assumption : Below _ w1 _).alloc (Below.size (by assumption)) _)) Try.underlying25 rfl (size_LAlg _ _) ?_))
  refine wp_region_any (by kernel_rfl) ?_
  refine any_of_C (C := fun wz => Below w1.heap.size w1 wz) _ _ _ _ ?_
  refine anyC_take (i := 0) (v := .agg #[.slice a0 L0.length ca0, .slice b0 T0.length cb0]) rfl (by kernel_rfl) (by kernel_rfl) (by kernel_rfl) (fun _ _ _ h => h) (.inl ⟨rfl, fun wz hz => runs_load (C := fun wz => Below w1.heap.size w1 wz) 25 _ rfl w.heap.size rfl _ _ _ _ (fun w hw => Kx0.out _ hw) Try.underlying25 rfl (size_LAlg _ _) wz hz⟩) ?_
  refine anyC_take (i := 2) (v := .agg #[.slice a1 L1.length ca1, .slice b1 T1.length cb1]) rfl (by kernel_rfl) (by kernel_rfl) (by kernel_rfl) (fun _ _ _ h => h) (.inl ⟨rfl, fun wz hz => runs_load (C := fun wz => Below w1.heap.size w1 wz) 25 _ rfl (w.heap.size + 1) rfl _ _ _ _ (fun w hw => Kx1.out _ hw) Try.underlying25 rfl (size_LAlg _ _) wz hz⟩) ?_
  refine anyC_take (i := 4) (v := .slice a2 L2.length ca2) rfl (by kernel_rfl) (by kernel_rfl) (by kernel_rfl) (fun _ _ _ h => h) (.inl ⟨rfl, fun wz hz => by apply runs_move <;> rfl⟩) ?_
  have zd : Below w1.heap.size w1 (s1w.drewN 1) := z22.trans (Dr.below ⟨1, rfl⟩ _)
  clear z22
  refine anyC_call (i := 1) (o := _) (f := 17) (args := #[.agg #[.slice a0 L0.length ca0, .slice b0 T0.length cb0]]) rfl (by kernel_rfl) rfl (by apply runs_call1 (he := enters_toA_KernelOf) <;> rfl) zd ?_
  refine (toAlgebra_any _ _ _ _ L0 T0 _ (HR0.out.below zd) (HT0.out.below zd) S10 S20 S30.out).mono ?_
  rintro e m0w ⟨bum0, Bm0, Rm0, rfl, lom0, hbBm0, rowm0, ownm0, hbm0⟩
  have z23 := zd.trans (hbm0.mono zd.size)
  clear hbm0
  refine ⟨_, rfl, ?_⟩
  refine anyC_call (i := 3) (o := _) (f := 17) (args := #[.agg #[.slice a1 L1.length ca1, .slice b1 T1.length cb1]]) rfl (by kernel_rfl) rfl (by apply runs_call1 (he := enters_toA_KernelOf) <;> rfl) z23 ?_
  refine (toAlgebra_any _ _ _ _ L1 T1 _ (HR1.out.below z23) (HT1.out.below z23) S11 S21 S31.out).mono ?_
  rintro e m1w ⟨bum1, Bm1, Rm1, rfl, lom1, hbBm1, rowm1, ownm1, hbm1⟩
  have z24 := z23.trans (hbm1.mono z23.size)
  replace rowm0 := rowm0.below hbm1 rowm0.lt
  replace ownm0 := ownm0.below hbm1
  clear hbm1
  refine ⟨_, rfl, ?_⟩
  refine anyC_call (i := 5) (o := _) (f := 21) (args := #[.slice a2 L2.length ca2]) rfl (by kernel_rfl) rfl (by apply runs_call1 (he := enters_toI_KernelOf) <;> rfl) z24 ?_
  refine (toIntS_any _ _ L2 _ (HR2.out.below z24) hs2).mono ?_
  rintro e m2w ⟨rfl, rowm2, hbm2⟩
  have z25 := z24.trans (hbm2.mono z24.size)
  replace rowm0 := rowm0.below hbm2 rowm0.lt
  replace ownm0 := ownm0.below hbm2
  replace rowm1 := rowm1.below hbm2 rowm1.lt
  replace ownm1 := ownm1.below hbm2
  clear hbm2
  refine ⟨_, rfl, ?_⟩
  refine anyC_call (i := 6) (o := _) (f := 36) (args := #[.agg #[.slice (some ⟨bum0, 0, none⟩) L0.length L0.length, .slice (some ⟨Bm0, 0, none⟩) T0.length T0.length], .agg #[.slice (some ⟨bum1, 0, none⟩) L1.length L1.length, .slice (some ⟨Bm1, 0, none⟩) T1.length T1.length], .slice (some ⟨m1w.heap.size, 0, none⟩) L2.length L2.length]) rfl (by kernel_rfl) rfl (by apply runs_call3 (he := enters_sp_KernelOf) <;> rfl) z25 ?_
  refine (HS.out _ _ _ _ _ _ _ _ _ _ _ rowm0.rd ownm0.rd rowm1.rd ownm1.rd rowm2.rd).mono ?_
  rintro e wS ⟨rfl, hbS⟩
  have z26 := z25.trans (hbS.mono z25.size)
  clear z25 hbS
  clear rowm0 ownm0 rowm1 ownm1 rowm2
  refine ⟨_, rfl, ?_⟩
  refine anyC_take (i := 7) (v := .int .i64 V) rfl (by kernel_rfl) (by kernel_rfl) (by kernel_rfl) (fun _ _ _ h => h) (.inl ⟨rfl, fun wz hz => by apply runs_assign <;> rfl⟩) ?_
  refine anyC_done (by kernel_rfl) z26 ?_ _
  simp only [List.getElem_toArray, List.getElem_cons_zero, List.getElem_cons_succ, Act.put, List.setIfInBounds_toArray, List.set_cons_succ, List.set_cons_zero]
  go_wp2_with (first | (refine wpList_load_row_w rfl 25 _ rfl w.heap.size rfl _ _ _ _ (Kx0.out _ (by first | assumption | exact (by assumption : Below _ w1 _).alloc (Below.size (by assumption)) _)) Try.underlying25 rfl (size_LAlg _ _) ?_) | (refine wpList_load_row_w rfl 25 _ rfl (w.heap.size + 1) rfl _ _ _ _ (Kx1.out _ (by first | assumption | exact (by assumption : Below _ w1 _).alloc (Below.size (by assumption)) _)) Try.underlying25 rfl (size_LAlg _ _) ?_))
  refine (toAlgebra_any _ _ _ _ L0 T0 _ (HR0.out.below z26) (HT0.out.below z26) S10 S20 S30.out).mono ?_
  rintro e x0w ⟨bux0, Bx0, Rx0, rfl, lox0, hbBx0, rowx0, ownx0, hbx0⟩
  have z27 := z26.trans (hbx0.mono z26.size)
  clear z26 hbx0
  go_wp2_with (first | (refine wpList_load_row_w rfl 25 _ rfl w.heap.size rfl _ _ _ _ (Kx0.out _ (by first | assumption | exact (by assumption : Below _ w1 _).alloc (Below.size (by assumption)) _)) Try.underlying25 rfl (size_LAlg _ _) ?_) | (refine wpList_load_row_w rfl 25 _ rfl (w.heap.size + 1) rfl _ _ _ _ (Kx1.out _ (by first | assumption | exact (by assumption : Below _ w1 _).alloc (Below.size (by assumption)) _)) Try.underlying25 rfl (size_LAlg _ _) ?_))
  obtain ⟨g0, hg0⟩ : ∃ g, g = x0w.heap.size := ⟨_, rfl⟩
  obtain ⟨X0w, hX0⟩ : ∃ x, x = x0w.alloc (.cells #[.slice (some ⟨bux0, 0, none⟩) L0.length L0.length, .slice (some ⟨Bx0, 0, none⟩) T0.length T0.length] 28) := ⟨_, rfl⟩
  rw [← hX0, ← hg0]
  have hbX0 : Below x0w.heap.size x0w X0w := by rw [hX0]; exact (Below.refl _ _).alloc (Nat.le_refl _) _
  have hxx0 : X0w.heap[g0]? = some (.cells #[.slice (some ⟨bux0, 0, none⟩) L0.length L0.length, .slice (some ⟨Bx0, 0, none⟩) T0.length T0.length] 28 (0, 0)) := by rw [hX0, hg0]; exact heap_alloc_new x0w _
  have KX0 := Lib.hid (show ∀ wz, Below X0w.heap.size X0w wz → wz.heap[g0]? = some (.cells #[.slice (some ⟨bux0, 0, none⟩) L0.length L0.length, .slice (some ⟨Bx0, 0, none⟩) T0.length T0.length] 28 (0, 0)) from fun wz h => (h.block _ (lt_of_block hxx0)).trans hxx0)
  have row0 := Lib.hid (rowx0.below hbX0 rowx0.lt)
  have own0 := Lib.hid (ownx0.below hbX0)
  clear rowx0 ownx0 hX0 hg0 hxx0
  have z28 := z27.trans (hbX0.mono z27.size)
  clear z27 hbX0
  have y0z0 : Below X0w.heap.size X0w X0w := Below.refl _ _
  go_wp2_with (first | (refine wpList_load_row_w rfl 25 _ rfl w.heap.size rfl _ _ _ _ (Kx0.out _ (by first | assumption | exact (by assumption : Below _ w1 _).alloc (Below.size (by assumption)) _)) Try.underlying25 rfl (size_LAlg _ _) ?_) | (refine wpList_load_row_w rfl 25 _ rfl (w.heap.size + 1) rfl _ _ _ _ (Kx1.out _ (by first | assumption | exact (by assumption : Below _ w1 _).alloc (Below.size (by assumption)) _)) Try.underlying25 rfl (size_LAlg _ _) ?_) | (refine wpList_load_row_w rfl 28 _ rfl g0 rfl _ _ _ _ (KX0.out _ (by assumption)) Try.underlying28 rfl (size_Alg _ _) ?_))
  refine (toAlgebra_any _ _ _ _ L1 T1 _ (HR1.out.below z28) (HT1.out.below z28) S11 S21 S31.out).mono ?_
  rintro e x1w ⟨bux1, Bx1, Rx1, rfl, lox1, hbBx1, rowx1, ownx1, hbx1⟩
  have z29 := z28.trans (hbx1.mono z28.size)
  have y0z29 := y0z0.trans (hbx1.mono y0z0.size)
  clear z28 y0z0 hbx1
  go_wp2_with (first | (refine wpList_load_row_w rfl 25 _ rfl w.heap.size rfl _ _ _ _ (Kx0.out _ (by first | assumption | exact (by assumption : Below _ w1 _).alloc (Below.size (by assumption)) _)) Try.underlying25 rfl (size_LAlg _ _) ?_) | (refine wpList_load_row_w rfl 25 _ rfl (w.heap.size + 1) rfl _ _ _ _ (Kx1.out _ (by first | assumption | exact (by assumption : Below _ w1 _).alloc (Below.size (by assumption)) _)) Try.underlying25 rfl (size_LAlg _ _) ?_) | (refine wpList_load_row_w rfl 28 _ rfl g0 rfl _ _ _ _ (KX0.out _ (by assumption)) Try.underlying28 rfl (size_Alg _ _) ?_))
  obtain ⟨g1, hg1⟩ : ∃ g, g = x1w.heap.size := ⟨_, rfl⟩
  obtain ⟨X1w, hX1⟩ : ∃ x, x = x1w.alloc (.cells #[.slice (some ⟨bux1, 0, none⟩) L1.length L1.length, .slice (some ⟨Bx1, 0, none⟩) T1.length T1.length] 28) := ⟨_, rfl⟩
  rw [← hX1, ← hg1]
  have hbX1 : Below x1w.heap.size x1w X1w := by rw [hX1]; exact (Below.refl _ _).alloc (Nat.le_refl _) _
  have hxx1 : X1w.heap[g1]? = some (.cells #[.slice (some ⟨bux1, 0, none⟩) L1.length L1.length, .slice (some ⟨Bx1, 0, none⟩) T1.length T1.length] 28 (0, 0)) := by rw [hX1, hg1]; exact heap_alloc_new x1w _
  have KX1 := Lib.hid (show ∀ wz, Below X1w.heap.size X1w wz → wz.heap[g1]? = some (.cells #[.slice (some ⟨bux1, 0, none⟩) L1.length L1.length, .slice (some ⟨Bx1, 0, none⟩) T1.length T1.length] 28 (0, 0)) from fun wz h => (h.block _ (lt_of_block hxx1)).trans hxx1)
  have row1 := Lib.hid (rowx1.below hbX1 rowx1.lt)
  have own1 := Lib.hid (ownx1.below hbX1)
  clear rowx1 ownx1 hX1 hg1 hxx1
  have z30 := z29.trans (hbX1.mono z29.size)
  have y0z30 := y0z29.trans (hbX1.mono y0z29.size)
  clear z29 y0z29 hbX1
  have y1z0 : Below X1w.heap.size X1w X1w := Below.refl _ _
  go_wp2_with (first | (refine wpList_load_row_w rfl 25 _ rfl w.heap.size rfl _ _ _ _ (Kx0.out _ (by first | assumption | exact (by assumption : Below _ w1 _).alloc (Below.size (by assumption)) _)) Try.underlying25 rfl (size_LAlg _ _) ?_) | (refine wpList_load_row_w rfl 25 _ rfl (w.heap.size + 1) rfl _ _ _ _ (Kx1.out _ (by first | assumption | exact (by assumption : Below _ w1 _).alloc (Below.size (by assumption)) _)) Try.underlying25 rfl (size_LAlg _ _) ?_) | (refine wpList_load_row_w rfl 28 _ rfl g0 rfl _ _ _ _ (KX0.out _ (by assumption)) Try.underlying28 rfl (size_Alg _ _) ?_) | (refine wpList_load_row_w rfl 28 _ rfl g1 rfl _ _ _ _ (KX1.out _ (by assumption)) Try.underlying28 rfl (size_Alg _ _) ?_))
  refine (toIntS_any _ _ L2 _ (HR2.out.below z30) hs2).mono ?_
  rintro e x2w ⟨rfl, rowx2, hbx2⟩
  have z31 := z30.trans (hbx2.mono z30.size)
  have y0z31 := y0z30.trans (hbx2.mono y0z30.size)
  have y1z31 := y1z0.trans (hbx2.mono y1z0.size)
  clear z30 y0z30 y1z0 hbx2
  have row2 := Lib.hid rowx2
  clear rowx2
  have y2z0 : Below x2w.heap.size x2w x2w := Below.refl _ _
  go_wp2_with (first | (refine wpList_load_row_w rfl 25 _ rfl w.heap.size rfl _ _ _ _ (Kx0.out _ (by first | assumption | exact (by assumption : Below _ w1 _).alloc (Below.size (by assumption)) _)) Try.underlying25 rfl (size_LAlg _ _) ?_) | (refine wpList_load_row_w rfl 25 _ rfl (w.heap.size + 1) rfl _ _ _ _ (Kx1.out _ (by first | assumption | exact (by assumption : Below _ w1 _).alloc (Below.size (by assumption)) _)) Try.underlying25 rfl (size_LAlg _ _) ?_) | (refine wpList_load_row_w rfl 28 _ rfl g0 rfl _ _ _ _ (KX0.out _ (by assumption)) Try.underlying28 rfl (size_Alg _ _) ?_) | (refine wpList_load_row_w rfl 28 _ rfl g1 rfl _ _ _ _ (KX1.out _ (by assumption)) Try.underlying28 rfl (size_Alg _ _) ?_))
  refine (HI.out _ _ _ _ _ _ _ _ _ _ _ (row0.out.below y0z31 row0.out.lt).rd (own0.out.below y0z31).rd (row1.out.below y1z31 row1.out.lt).rd (own1.out.below y1z31).rd (row2.out.below y2z0 row2.out.lt).rd).mono ?_
  rintro e wI ⟨rfl, hbI⟩
  have z32 := z31.trans (hbI.mono z31.size)
  have y0z32 := y0z31.trans (hbI.mono y0z31.size)
  have y1z32 := y1z31.trans (hbI.mono y1z31.size)
  have y2z32 := y2z0.trans (hbI.mono y2z0.size)
  clear z31 y0z31 y1z31 y2z0 hbI
  have hne : (V != V) = false := by simp
  obtain ⟨c0, c1⟩ := bxL_cells (Kx0.out _ z32)
  obtain ⟨d0, d1⟩ := bx_cells (KX0.out _ y0z32)
  go_wp2
  go_region_with (first
    | (go_at_call 17; refine (toAlgebra_any _ _ _ _ L0 T0 _ (HR0.out.below z32.drew) (HT0.out.below z32.drew) S10 S20 S30.out).mono ?_; rintro e e0w ⟨bue, Be, Re, rfl, _, _, rowe, owne, hbe0⟩; have z33 := z32.drew.trans (hbe0.mono z32.drew.size); have y0z33 := y0z32.drew.trans (hbe0.mono y0z32.drew.size); have y1z33 := y1z32.drew.trans (hbe0.mono y1z32.drew.size); have y2z33 := y2z32.drew.trans (hbe0.mono y2z32.drew.size); obtain ⟨e0, e1⟩ := bx_cells (KX0.out _ y0z33))
    | (go_at_call 19; refine (eqAlgebra_same _ _ _ _ _ _ _ _ L0 T0 _ (row0.out.below y0z33 row0.out.lt).rd rowe.rd (own0.out.below y0z33).rd owne.rd (by omega) (fun j hj => Nat.le_trans (S30.out j hj) (by decide)) (by omega)).mono ?_; rintro e f0w ⟨rfl, hbf0⟩; have z34 := z33.trans (hbf0.mono z33.size); have y0z34 := y0z33.trans (hbf0.mono y0z33.size); have y1z34 := y1z33.trans (hbf0.mono y1z33.size); have y2z34 := y2z33.trans (hbf0.mono y2z33.size)))
  all_goals
    clear c0 c1 d0 d1 e0 e1 rowe owne hbe0 hbf0 z32 y0z32 y1z32 y2z32 z33 y0z33 y1z33 y2z33
    obtain ⟨c0, c1⟩ := bxL_cells (Kx1.out _ z34)
    obtain ⟨d0, d1⟩ := bx_cells (KX1.out _ y1z34)
    go_wp2
    go_region_with (first
      | (go_at_call 17; refine (toAlgebra_any _ _ _ _ L1 T1 _ (HR1.out.below z34.drew) (HT1.out.below z34.drew) S11 S21 S31.out).mono ?_; rintro e e1w ⟨bue, Be, Re, rfl, _, _, rowe, owne, hbe1⟩; have z35 := z34.drew.trans (hbe1.mono z34.drew.size); have y0z35 := y0z34.drew.trans (hbe1.mono y0z34.drew.size); have y1z35 := y1z34.drew.trans (hbe1.mono y1z34.drew.size); have y2z35 := y2z34.drew.trans (hbe1.mono y2z34.drew.size); obtain ⟨e0, e1⟩ := bx_cells (KX1.out _ y1z35))
      | (go_at_call 19; refine (eqAlgebra_same _ _ _ _ _ _ _ _ L1 T1 _ (row1.out.below y1z35 row1.out.lt).rd rowe.rd (own1.out.below y1z35).rd owne.rd (by omega) (fun j hj => Nat.le_trans (S31.out j hj) (by decide)) (by omega)).mono ?_; rintro e f1w ⟨rfl, hbf1⟩; have z36 := z35.trans (hbf1.mono z35.size); have y0z36 := y0z35.trans (hbf1.mono y0z35.size); have y1z36 := y1z35.trans (hbf1.mono y1z35.size); have y2z36 := y2z35.trans (hbf1.mono y2z35.size)))
    all_goals
      clear c0 c1 d0 d1 e0 e1 rowe owne hbe1 hbf1 z34 y0z34 y1z34 y2z34 z35 y0z35 y1z35 y2z35
      go_wp2_with (first | (refine wpList_load_row_w rfl 25 _ rfl w.heap.size rfl _ _ _ _ (Kx0.out _ (by first | assumption | exact (by assumption : Below _ w1 _).alloc (Below.size (by assumption)) _)) Try.underlying25 rfl (size_LAlg _ _) ?_) | (refine wpList_load_row_w rfl 25 _ rfl (w.heap.size + 1) rfl _ _ _ _ (Kx1.out _ (by first | assumption | exact (by assumption : Below _ w1 _).alloc (Below.size (by assumption)) _)) Try.underlying25 rfl (size_LAlg _ _) ?_) | (refine wpList_load_row_w rfl 28 _ rfl g0 rfl _ _ _ _ (KX0.out _ (by assumption)) Try.underlying28 rfl (size_Alg _ _) ?_) | (refine wpList_load_row_w rfl 28 _ rfl g1 rfl _ _ _ _ (KX1.out _ (by assumption)) Try.underlying28 rfl (size_Alg _ _) ?_))
      refine (toIntS_any _ _ L2 _ (HR2.out.below z36) hs2).mono ?_
      rintro e t2w ⟨rfl, rowt, hbt2⟩
      have z37 := z36.trans (hbt2.mono z36.size)
      have y0z37 := y0z36.trans (hbt2.mono y0z36.size)
      have y1z37 := y1z36.trans (hbt2.mono y1z36.size)
      have y2z37 := y2z36.trans (hbt2.mono y2z36.size)
      clear z36 y0z36 y1z36 y2z36 hbt2
      go_wp2_with fail
      refine (eqIntS_same _ _ _ _ L2 _ (row2.out.below y2z37 row2.out.lt).rd rowt.rd (by omega)).mono ?_
      rintro e u2w ⟨rfl, hdu2⟩
      have hbu2 := hdu2.below t2w.heap.size
      have z38 := z37.trans (hbu2.mono z37.size)
      have y0z38 := y0z37.trans (hbu2.mono y0z37.size)
      have y1z38 := y1z37.trans (hbu2.mono y1z37.size)
      have y2z38 := y2z37.trans (hbu2.mono y2z37.size)
      clear z37 y0z37 y1z37 y2z37 hbu2
      clear rowt hdu2
      go_wp2
      go_ret
      exact ⟨rfl, hB.trans (z38.mono hB.size)⟩
end Go.Proofs.Ytmapofenghjinaa


namespace Go.Proofs.Ytmapofenghjinaa.fnExactKernelOf
open Go.ChangeShapes Go.WideShapes Go.ChangeAt Go.RowKit
open Go.ChangeMaps (open_string shut_string)
set_option linter.unusedVariables false

theorem own : ownKnob Try.prog.godebug = none := by kernel_rfl
theorem laidOut : laidOutB Try.prog = true := by kernel_rfl

def IsRow (k : IntKind) (w : World) (a : Option Addr) (len cap : Nat) (zs : List Int) : Prop :=
  (a = none ∧ len = 0 ∧ cap = 0 ∧ zs = []) ∨
  ∃ x, a = some x ∧ len ≤ cap ∧ cap ≤ maxLen ∧ zs.length = cap ∧ (∀ i, i < zs.length → w.cell? (x.add i) = some (.int k (zs.getD i 0))) ∧ ∀ n ∈ zs, (Lit.int k n).wf = true

theorem walk (a0 : Option Addr) (n0 ca0 : Nat) (b0 : Option Addr) (m0 cb0 : Nat) (L0 : List Int) (T0 : List (List Int)) (a1 : Option Addr) (n1 ca1 : Nat) (b1 : Option Addr) (m1 cb1 : Nat) (L1 : List Int) (T1 : List (List Int)) (a2 : Option Addr) (len2 cap2 : Nat) (z2 : List Int) (w : World) (hr0 : Rd w a0 L0) (hl0 : L0.length = n0) (hx0 : n0 ≤ maxLen) (ht0 : RdT w b0 T0) (hy0 : T0.length = m0) (hz0 : m0 ≤ maxLen) (hu0 : ∀ j : Nat, j < T0.length → (rowAt T0 j).length ≤ maxLen) (hr1 : Rd w a1 L1) (hl1 : L1.length = n1) (hx1 : n1 ≤ maxLen) (ht1 : RdT w b1 T1) (hy1 : T1.length = m1) (hz1 : m1 ≤ maxLen) (hu1 : ∀ j : Nat, j < T1.length → (rowAt T1 j).length ≤ maxLen) (w2 : IsRow .i64 w a2 len2 cap2 z2) :
    Calls Try.prog 9 #[.agg #[.slice a0 n0 ca0, .slice b0 m0 cb0], .agg #[.slice a1 n1 ca1, .slice b1 m1 cb1], .slice a2 len2 cap2] w fun e w' => e = .returned (.bool true) ∧ Below w.heap.size w w' := by
  subst hl0 hy0
  subst hl1 hy1
  obtain ⟨hrd2, hlen2, hm2⟩ := rd_of_row w2
  have := lawKernelOf a0 b0 ca0 cb0 L0 T0 a1 b1 ca1 cb1 L1 T1 a2 cap2 (z2.take len2) w hr0 ht0 hx0 hz0 hu0 hr1 ht1 hx1 hz1 hu1 hrd2 (by rw [hlen2]; exact hm2)
  rwa [hlen2] at this

set_option maxRecDepth 100000 in
theorem lifted (os : Os) (started : os.Started) (H : Type) (enc : TypeId × Value → H) :
    ReturnsInHanded {} Try.checked os 9 .any (Rows.fnExactKernelOfSpec.pre6 enc Try.prog Try.f9 Rows.fnExactKernelOfRow.domain false) (Rows.fnExactKernelOfSpec.post enc Try.prog Try.f9 false true false false) := by
  refine returnsInHanded_of_change (C := Try.checked) own started (by kernel_rfl) Try.func9
    (ChangeSpec.witness6 (enc := enc) (C := Try.checked) false ⟨#[], #[.agg #[.slice none 0 0, .slice none 0 0], .agg #[.slice none 0 0, .slice none 0 0], .slice none 0 0], []⟩ 8 (by kernel_rfl) (by kernel_rfl) (by kernel_rfl) (by kernel_rfl)) ?_
  intro W base args ds gs before hval0 hW hcnd _
  have hval : ∀ (j : Nat) t v, Try.f9.params[j]? = some t → args[j]? = some v → Value.okWide Try.prog W .any base t v := hval0
  have hW' := hW
  obtain ⟨p, q, hA0, hV, rfl, hfz, hnd⟩ := hW
  have hA : DataW.TrodAll enc Try.prog W 0 (fun _ => true) true Try.f9.params.toList args.toList ds p := hA0
  rw [Try.params9] at hA hval
  obtain ⟨v0, vs0, d0, ds0, p0, q0, hargs, rfl, rfl, h0, r0⟩ := trodAll_cons hA
  obtain ⟨v1, vs1, d1, ds1, p1, q1, rfl, rfl, rfl, h1, r1⟩ := trodAll_cons r0
  obtain ⟨v2, vs2, d2, ds2, p2, q2, rfl, rfl, rfl, h2, r2⟩ := trodAll_cons r1
  obtain ⟨rfl, rfl, rfl⟩ := trodAll_nil r2
  obtain rfl : args = #[v0, v1, v2] := by cases args; simp_all
  obtain ⟨rfl, rfl⟩ := trodVars_none hV
  have k0 := h0
  have lt0 : ∀ x ∈ p0, x.block < W.heap.size := by obtain ⟨m, hm⟩ := k0; exact DataW.trod_lt m _ _ _ hm
  obtain ⟨a0, n0, ca0, b0, m0, cb0, L0, T0, rfl, hr0, hl0, hx0, ht0, hy0, hz0, hu0⟩ := open_alg (hval 0 25 v0 rfl rfl) h0
  have k1 := h1
  have lt1 : ∀ x ∈ p1, x.block < W.heap.size := by obtain ⟨m, hm⟩ := k1; exact DataW.trod_lt m _ _ _ hm
  obtain ⟨a1, n1, ca1, b1, m1, cb1, L1, T1, rfl, hr1, hl1, hx1, ht1, hy1, hz1, hu1⟩ := open_alg (hval 1 25 v1 rfl rfl) h1
  obtain ⟨a2, len2, cap2, rfl⟩ := okWide_slice Try.underlying22 (hval 2 22 v2 rfl rfl)
  have k2 := h2
  have lt2 : ∀ x ∈ p2, x.block < W.heap.size := by obtain ⟨m, hm⟩ := k2; exact DataW.trod_lt m _ _ _ hm
  obtain ⟨z2, w2⟩ : ∃ zs, IsRow .i64 W a2 len2 cap2 zs := by
    obtain ⟨fuel, hf⟩ := h2
    rcases open_ints Try.underlying22 Try.underlying3 (by kernel_rfl) hf with ⟨hcs, _⟩ | ⟨x, l, c, zs, hcs, _, hl, hm, hz, _, hcell, hwz⟩
    · simp [Value.cells] at hcs
      obtain ⟨rfl, rfl, rfl⟩ := hcs
      exact ⟨[], .inl ⟨rfl, rfl, rfl, rfl⟩⟩
    · simp [Value.cells] at hcs
      obtain ⟨rfl, rfl, rfl⟩ := hcs
      exact ⟨zs, .inr ⟨_, rfl, hl, hm, by simpa using hz, hcell, hwz⟩⟩
  clear hA0 hval0
  refine (walk a0 n0 ca0 b0 m0 cb0 L0 T0 a1 n1 ca1 b1 m1 cb1 L1 T1 a2 len2 cap2 z2 W hr0 hl0 hx0 ht0 hy0 hz0 hu0 hr1 hl1 hx1 ht1 hy1 hz1 hu1 w2).mono fun e W' ⟨he, bel⟩ => ?_
  subst he
  exact ⟨_, rfl, _, _, _, [], _, [], hW', trodAll_mk1 (shut_bool Try.underlying4 _), (trodAll_cons_mk (Below.trod laidOut (by kernel_rfl) (of_decide_eq_true (by kernel_rfl)) k0 bel lt0) (trodAll_cons_mk (Below.trod laidOut (by kernel_rfl) (of_decide_eq_true (by kernel_rfl)) k1 bel lt1) (trodAll_cons_mk (Below.trod laidOut (by kernel_rfl) (of_decide_eq_true (by kernel_rfl)) k2 bel lt2) trodAll_mk0))), rfl, bel.frame _, fun h => by cases h⟩

set_option maxRecDepth 100000 in
set_option maxHeartbeats 40000000 in
theorem closed : joinedFacts Try.pinned.checked.prog 9 Try.f9 Rows.fnExactKernelOfSpec Rows.fnExactKernelOfRow = true := by
  simp only [joinedFacts, Bool.and_eq_true]
  repeat' apply And.intro
  all_goals (as_aux_lemma => kernel_rfl)

theorem over : Rows.fnExactKernelOfRow.holds Try.pinned (OpenSpec.ofChange Rows.fnExactKernelOfSpec) :=
  OpenClaim.holds_of_wide 9 Try.f9 rfl rfl rfl rfl rfl rfl rfl ⟨rfl, rfl, rfl, rfl, rfl⟩ rfl rfl rfl rfl rfl (by kernel_rfl) Try.func9 closed
    (of_decide_eq_true (by kernel_rfl)) (by unfold Func.isWrapper; first | (rw [if_pos (by decide +kernel)]; kernel_rfl) | (rw [if_neg (by decide +kernel)]; exact ⟨rfl, rfl⟩))
    (fun os started H enc _ => lifted os started H enc)

theorem proved : Rows.FnExactKernelOfSaid := over
end Go.Proofs.Ytmapofenghjinaa.fnExactKernelOf
