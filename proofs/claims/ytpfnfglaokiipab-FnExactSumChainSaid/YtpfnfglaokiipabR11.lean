import Derived.Test.YtpfnfglaokiipabL3
import Derived.RegionTactic
import Derived.BigRegion
import Derived.Test.YtpfnfglaokiipabL5
import Derived.Test.YtpfnfglaokiipabD2
import Derived.Test.YtpfnfglaokiipabG11
import Derived.Test.YtpfnfglaokiipabG10
import Derived.Test.YtpfnfglaokiipabH1
import Derived.Lib.SliceRun
namespace Go.Proofs.Ytpfnfglaokiipab
open Go.RowKit

/-- the sum of 2 to each j below k that p lets by -/
def rowTo (p : Int → Bool) (k : Int) : Int := (List.range k.toNat).foldl (fun s (j : Nat) => if p j then s + pw j else s) 0
theorem rowTo_zero (p : Int → Bool) : rowTo p 0 = 0 := rfl
theorem rowTo_succ (p : Int → Bool) (k : Int) (h : 0 ≤ k) : rowTo p (k + 1) = if p k then rowTo p k + pw k else rowTo p k := by
  unfold rowTo
  rw [show (k + 1).toNat = k.toNat + 1 by omega, List.range_succ, List.foldl_append]
  simp [Int.toNat_of_nonneg h]
theorem rowTo_range (p : Int → Bool) : ∀ k : Nat, 0 ≤ rowTo p k ∧ rowTo p k < pw k
  | 0 => ⟨Int.le_refl _, by show (0 : Int) < pw 0; decide⟩
  | k + 1 => by
    have ih := rowTo_range p k
    have h2 := pw_succ (k : Int) (by omega)
    have h1 := pw_pos (k : Int)
    have e : ((k + 1 : Nat) : Int) = (k : Int) + 1 := rfl
    rw [e, rowTo_succ p k (by omega), h2]
    split <;> omega
theorem rowTo_bound (p : Int → Bool) {k : Int} (h : 0 ≤ k) : 0 ≤ rowTo p k ∧ rowTo p k < pw k := by
  have := rowTo_range p k.toNat
  rwa [Int.toNat_of_nonneg h] at this
theorem rowTo_congr {p q : Int → Bool} {k : Int} (h : ∀ j, 0 ≤ j → j < k → p j = q j) : rowTo p k = rowTo q k := by
  unfold rowTo
  have : ∀ (l : List Nat) (s : Int), (∀ j ∈ l, (j : Int) < k) → l.foldl (fun s (j : Nat) => if p j then s + pw j else s) s = l.foldl (fun s (j : Nat) => if q j then s + pw j else s) s := by
    intro l
    induction l with
    | nil => intro s _; rfl
    | cons a l ih =>
      intro s hl
      rw [List.foldl_cons, List.foldl_cons, h a (by omega) (hl a (List.mem_cons_self ..))]
      exact ih _ fun j hj => hl j (List.mem_cons_of_mem _ hj)
  exact this _ _ fun j hj => by have := List.mem_range.1 hj; omega
theorem bits_or_i64 (a b : Nat) (ha : a < 1073741824) (hb : b < 1073741824) : bits .or .i64 (a : Int) (b : Int) = ((a ||| b : Nat) : Int) := by
  have hx : a ||| b < 2 ^ 30 := Nat.or_lt_two_pow (by omega) (by omega)
  have h1 : (BitVec.ofInt 64 (a : Int)).toNat = a := by
    rw [BitVec.ofInt_natCast, BitVec.toNat_ofNat]; exact Nat.mod_eq_of_lt (by omega)
  have h2 : (BitVec.ofInt 64 (b : Int)).toNat = b := by
    rw [BitVec.ofInt_natCast, BitVec.toNat_ofNat]; exact Nat.mod_eq_of_lt (by omega)
  show IntKind.i64.wrap ((BitVec.ofInt 64 (a : Int) ||| BitVec.ofInt 64 (b : Int)).toNat : Int) = _
  rw [BitVec.toNat_or, h1, h2, IntKind.wrap_i64]
  omega
theorem or_pw {v k : Int} (k0 : 0 ≤ k) (k6 : k < 30) (v0 : 0 ≤ v) (v1 : v < pw k) : bits .or .i64 v (pw k) = v + pw k := by
  obtain ⟨a, rfl⟩ := Int.eq_ofNat_of_zero_le v0
  have hk : pw k = ((2 ^ k.toNat : Nat) : Int) := by unfold pw; simp
  rw [hk] at v1 ⊢
  have hlt : a < 2 ^ k.toNat := by exact_mod_cast v1
  have h30 : 2 ^ k.toNat < 1073741824 := by
    have := Nat.pow_lt_pow_right (a := 2) (by decide) (show k.toNat < 30 by omega)
    simpa using this
  rw [bits_or_i64 a _ (by omega) h30]
  have := Nat.two_pow_add_eq_or_of_lt hlt 1
  rw [Nat.mul_one] at this
  rw [Nat.or_comm, ← this]
  omega
/-- the numbers of an order, as upOf writes them: the rows up to x whole, of the next one the sum up to y -/
def upTo (g : Int → Int → Bool) (n x y : Int) : List Int := (List.range n.toNat).map fun (i : Nat) => if (i : Int) < x then rowTo (g i) n else if (i : Int) = x then rowTo (g i) y else 0
def upL (g : Int → Int → Bool) (n : Int) : List Int := (List.range n.toNat).map fun (i : Nat) => rowTo (g i) n
theorem upTo_len (g : Int → Int → Bool) (n x y : Int) : (upTo g n x y).length = n.toNat := by simp [upTo]
theorem upTo_zero (g : Int → Int → Bool) (n : Int) : upTo g n 0 0 = List.replicate n.toNat 0 := by
  apply List.ext_getElem
  · simp [upTo]
  · intro i h1 h2
    simp only [upTo, List.getElem_map, List.getElem_range, List.getElem_replicate]
    rw [if_neg (by omega)]
    split <;> rfl
theorem upTo_nth (g : Int → Int → Bool) {n x y : Int} (x0 : 0 ≤ x) (x1 : x < n) : nth (upTo g n x y) x = rowTo (g x) y := by
  have h : x.toNat < n.toNat := by omega
  unfold nth upTo
  simp [List.getD, h, Int.toNat_of_nonneg x0]
theorem upTo_next (g : Int → Int → Bool) {n x y : Int} (x0 : 0 ≤ x) : (upTo g n x y).set x.toNat (rowTo (g x) (y + 1)) = upTo g n x (y + 1) := by
  apply List.ext_getElem
  · simp [upTo]
  · intro i h1 h2
    rw [List.getElem_set]
    simp only [upTo, List.getElem_map, List.getElem_range]
    by_cases e : x.toNat = i
    · have e2 : (i : Int) = x := by omega
      rw [if_pos e, if_neg (by omega), if_pos e2, e2]
    · rw [if_neg e]
      by_cases h3 : (i : Int) < x
      · rw [if_pos h3, if_pos h3]
      · rw [if_neg h3, if_neg h3, if_neg (by omega), if_neg (by omega)]
theorem upTo_skip (g : Int → Int → Bool) {n x y : Int} (y0 : 0 ≤ y) (h : g x y = false) : upTo g n x (y + 1) = upTo g n x y := by
  unfold upTo
  refine List.map_congr_left fun i _ => ?_
  by_cases e : (i : Int) = x
  · rw [e, rowTo_succ _ _ y0, h]; rfl
  · rw [if_neg e, if_neg e]
theorem upTo_row (g : Int → Int → Bool) (n x : Int) : upTo g n x n = upTo g n (x + 1) 0 := by
  unfold upTo
  refine List.map_congr_left fun i _ => ?_
  by_cases h : (i : Int) < x
  · rw [if_pos h, if_pos (by omega)]
  · rw [if_neg h]
    by_cases e : (i : Int) = x
    · rw [if_pos e, if_pos (by omega)]
    · rw [if_neg e, if_neg (by omega)]
      split <;> rfl
theorem upTo_all (g : Int → Int → Bool) (n : Int) : upTo g n n 0 = upL g n := by
  unfold upTo upL
  refine List.map_congr_left fun i hi => ?_
  have := List.mem_range.1 hi
  rw [if_pos (by omega)]
theorem wrap_pwI (y : Int) (h : y ≤ 30) : wrap64 (2 ^ y.toNat) = pw y := by
  have p1 := pw_30 y h
  have p2 := pw_pos y
  show wrap64 (pw y) = pw y
  exact IntWalk.wrap64_in _ ⟨by omega, by omega⟩
theorem rowTo_or (p : Int → Bool) {k : Int} (k0 : 0 ≤ k) (k6 : k < 30) (h : p k = true) : bits .or .i64 (rowTo p k) (pw k) = rowTo p (k + 1) := by
  obtain ⟨a, b⟩ := rowTo_bound p k0
  rw [or_pw k0 k6 a b, rowTo_succ p k k0, h]; rfl
end Go.Proofs.Ytpfnfglaokiipab

namespace Go.Proofs.Ytpfnfglaokiipab
open Go.RowKit

def leG (x y : Int) : Bool := decide (x ≤ y)
set_option maxRecDepth 100000 in
set_option maxHeartbeats 2000000 in
/-- impl.upOf at the closure of chain -/
theorem upOf_chain (n : Int) (w : World) (n0 : 0 ≤ n) (n6 : n ≤ 6) :
    Calls Try.prog 87 #[.int .i64 n, .func (.func 109) #[] #[]] w fun e w' => e = .returned (.slice (some ⟨w.heap.size, 0, none⟩) n.toNat n.toNat) ∧ Row w' w.heap.size (upL leG n) ∧ Below w.heap.size w w' := by
  have hmk := run_make_ints n.toNat (by omega)
  rw [Int.toNat_of_nonneg n0] at hmk
  go_enter Try.func87, Try.ntmps87
  go_wp2
  clear hmk
  go_loopw [6, 7, 11] (fun _ _ c wr => ∃ x : Int, 0 ≤ x ∧ x ≤ n ∧ c = .int .i64 x ∧ Row wr w.heap.size (upTo leG n x 0) ∧ Below w.heap.size w wr) (fun _ _ c _ => (6 - intOf c).toNat)
  case atStart => exact ⟨0, by omega, by omega, rfl, by rw [upTo_zero]; exact heap_alloc_new w _, (Below.refl _ _).alloc (Nat.le_refl _) _⟩
  case round =>
    obtain ⟨x, x0, x1, rfl, hrow, hbel⟩ := hrel
    by_cases hx : x < n
    · go_wp2
      obtain ⟨w1, rfl⟩ : ∃ w1 : World, w1 = wr := ⟨_, rfl⟩
      go_loopw [7, 15] (fun _ c wr => ∃ y : Int, 0 ≤ y ∧ y ≤ n ∧ c = .int .i64 y ∧ Row wr w.heap.size (upTo leG n x y) ∧ Below w.heap.size w wr) (fun _ c _ => (6 - intOf c).toNat)
      case atStart => exact ⟨0, by omega, by omega, rfl, hrow, hbel⟩
      case round =>
        obtain ⟨y, y0, y1, rfl, hrow, hbel⟩ := hrel
        by_cases hy : y < n
        · have hlen := upTo_len leG n x y
          have hc0 := hrow.cell x0 (by rw [hlen]; omega)
          rw [upTo_nth _ x0 hx] at hc0
          have hf0 := hrow.free x.toNat
          have hpw := wrap_pwI y (by omega)
          have hxl : x.toNat < n.toNat := by omega
          clear hlen
          cases hq : leG x y with
          | false =>
            have hs := Lib.hid (upTo_skip leG (n := n) (x := x) y0 hq)
            unfold leG at hq
            have hq2 : y < x := by simpa using hq
            clear hq
            go_wp2
            go_roundw
            case rel => exact ⟨y + 1, by omega, by omega, rfl, by rw [hs.out]; exact hrow, hbel⟩
            case measure => simp [intOf]; omega
          | true =>
            have hs := Lib.hid (upTo_next leG (n := n) (y := y) x0)
            have ho := rowTo_or (leG x) y0 (by omega) hq
            unfold leG at hq
            have hq2 : x ≤ y := by simpa using hq
            clear hq
            go_wp2
            go_region
            go_wp2
            go_roundw
            case rel => exact ⟨y + 1, by omega, by omega, rfl, by rw [← hs.out]; exact (hrow.set _ _).dr ⟨1, rfl⟩, (hbel.setCell (by simp) _).drew⟩
            case measure => simp [intOf]; omega
        · have e : y = n := by omega
          subst e
          go_wp2
          go_roundw
          case rel => exact ⟨x + 1, by omega, by omega, rfl, by rw [← upTo_row]; exact hrow, hbel⟩
          case measure => simp [intOf]; omega
    · have e : x = n := by omega
      subst e
      go_wp2
      go_ret
      exact ⟨rfl, by rw [← upTo_all]; exact hrow, hbel⟩

end Go.Proofs.Ytpfnfglaokiipab

namespace Go.Proofs.Ytpfnfglaokiipab
open Go.RowKit

def chainI (n : Int) : List Int := if 1 ≤ n ∧ n ≤ 6 then chainTo n n else []
theorem chainI_in {n : Int} (h : 1 ≤ n ∧ n ≤ 6) : chainI n = chainTo n n := if_pos h
theorem chainI_out {n : Int} (h : ¬ (1 ≤ n ∧ n ≤ 6)) : chainI n = [] := if_neg h
theorem rowTo_le (x : Int) (x0 : 0 ≤ x) : ∀ k : Nat, rowTo (leG x) k = if (k : Int) ≤ x then 0 else pw k - pw x
  | 0 => by rw [if_pos (by omega)]; rfl
  | k + 1 => by
    have e : ((k + 1 : Nat) : Int) = (k : Int) + 1 := rfl
    rw [e, rowTo_succ _ _ (by omega), rowTo_le x x0 k, pw_succ _ (by omega)]
    unfold leG
    by_cases h1 : (k : Int) + 1 ≤ x
    · rw [if_pos h1, decide_eq_false (by omega), if_neg (by decide), if_pos (by omega)]
    · rw [if_neg h1, decide_eq_true (by omega), if_pos rfl]
      by_cases h2 : (k : Int) ≤ x
      · rw [if_pos h2]
        have : x = k := by omega
        rw [this]; omega
      · rw [if_neg h2]; omega
theorem upL_chain (n : Int) (n0 : 0 ≤ n) : upL leG n = chainTo n n := by
  unfold upL chainTo
  refine List.map_congr_left fun i hi => ?_
  have hi := List.mem_range.1 hi
  have := rowTo_le i (by omega) n.toNat
  rw [Int.toNat_of_nonneg n0, if_neg (by omega)] at this
  exact this
theorem chainI_len (n : Int) : (chainI n).length ≤ 6 := by
  by_cases h : 1 ≤ n ∧ n ≤ 6
  · rw [chainI_in h]; have := chainTo_len n n (by omega); omega
  · rw [chainI_out h]; simp

set_option maxHeartbeats 400000 in
/-- impl.ChainOf -/
theorem implChainOf_any (n : Int) (w : World) : Calls Try.prog 81 #[.int .i64 n] w (RetSl w.heap.size (chainI n) w) := by
  by_cases h : 1 ≤ n ∧ n ≤ 6
  · have hl := Lib.hid (chainI_in h)
    have hlen := chainTo_len n n (by omega)
    have hle := Lib.hid (show (chainTo n n).length = n.toNat by omega)
    have hu := Lib.hid (upL_chain n (by omega))
    clear hlen
    obtain ⟨h1, h6⟩ := h
    go_enter Try.func81, Try.ntmps81
    go_wp2_with (go_at_call 87; refine (upOf_chain n _ (by omega) h6).mono ?_; rintro e w1 ⟨rfl, hrow, hb⟩)
    go_ret
    rw [hu.out] at hrow
    rw [hl.out]
    have ho := Own.row hrow (Nat.le_refl _) (by rw [hle.out]; unfold maxLen; omega)
    rw [hle.out] at ho
    refine ⟨_, _, by rw [hle.out]; rfl, ?_, hb⟩
    rw [hle.out]
    exact ho
  · have hl := Lib.hid (chainI_out h)
    by_cases h1 : n < 1
    · clear h
      go_enter Try.func81, Try.ntmps81
      go_wp2
      go_ret
      rw [hl.out]
      exact ⟨none, 0, rfl, Own.nothing _ _, Below.refl _ _⟩
    · have h2 : 6 < n := by omega
      clear h
      go_enter Try.func81, Try.ntmps81
      go_wp2
      go_ret
      rw [hl.out]
      exact ⟨none, 0, rfl, Own.nothing _ _, Below.refl _ _⟩
end Go.Proofs.Ytpfnfglaokiipab

namespace Go.Proofs.Ytpfnfglaokiipab
open Go.RowKit

/-- Nothing that was there has turned but the blocks from lo up to hi. -/
structure Mid (lo hi : Nat) (w w' : World) : Prop where
  os : w'.os = w.os
  tape : w'.tape = w.tape
  output : w'.output = w.output
  size : w.heap.size ≤ w'.heap.size
  block : ∀ k, k < w.heap.size → (k < lo ∨ hi ≤ k) → w'.heap[k]? = w.heap[k]?
section
variable {lo hi : Nat} {w w' : World}
theorem Mid.refl (lo hi : Nat) (w : World) : Mid lo hi w w := ⟨rfl, rfl, rfl, Nat.le_refl _, fun _ _ _ => rfl⟩
theorem Mid.trans {a b c : World} (h : Mid lo hi a b) (k : Mid lo hi b c) : Mid lo hi a c :=
  ⟨k.os.trans h.os, k.tape.trans h.tape, k.output.trans h.output, Nat.le_trans h.size k.size, fun i hi' hne => (k.block i (Nat.lt_of_lt_of_le hi' h.size) hne).trans (h.block i hi' hne)⟩
theorem Mid.wide {lo2 hi2 : Nat} (h : Mid lo hi w w') (h1 : lo2 ≤ lo) (h2 : hi ≤ hi2) : Mid lo2 hi2 w w' :=
  ⟨h.os, h.tape, h.output, h.size, fun k hk hn => h.block k hk (by omega)⟩
theorem Mid.setCell {a : World} (h : Mid lo hi a w) {p : Addr} (h1 : lo ≤ p.block) (h2 : p.block < hi) (v : Value) : Mid lo hi a (w.setCell p v) := by
  have hb : Below p.block w (w.setCell p v) := (Below.refl _ _).setCell (Nat.le_refl _) v
  exact ⟨hb.os.trans h.os, hb.tape.trans h.tape, hb.output.trans h.output, Nat.le_trans h.size hb.size, fun k hk hn => by rw [heap_setCell_other w p k v (by omega)]; exact h.block k hk hn⟩
theorem Mid.of {C : Nat} (h : Below C w w') (hC : w.heap.size ≤ C) : Mid lo hi w w' := ⟨h.os, h.tape, h.output, h.size, fun k hk _ => h.block k (by omega)⟩
theorem Mid.below (h : Mid lo hi w w') {C : Nat} (h1 : C ≤ lo) (h2 : C ≤ w.heap.size) : Below C w w' := ⟨h.os, h.tape, h.output, h.size, fun k hk => h.block k (by omega) (.inl (by omega))⟩
theorem Row.mid {b : Nat} {L : List Int} (h : Row w b L) (hm : Mid lo hi w w') (hb : b < lo ∨ hi ≤ b) : Row w' b L := (hm.block b h.lt hb).trans h
theorem Own.mid {B : Nat} {v : Value} {L : List Int} (h : Own B w v L) (hm : Mid lo hi w w') (hq : ∀ q, v.ownBlock = some q → q < lo ∨ hi ≤ q) : Own B w' v L := by
  obtain ⟨h1, h⟩ := h
  refine ⟨h1, ?_⟩
  rcases h with h | ⟨g, cap, cur, e1, e2, hg, e3, e4, e5, e6⟩
  · exact .inl h
  · exact .inr ⟨g, cap, cur, e1, e2, (hm.block g (lt_of_block hg) (hq g (by rw [e1]; rfl))).trans hg, e3, e4, e5, e6⟩
end

set_option maxHeartbeats 1000000 in
/-- laws.markIntS of a block of its own -/
theorem markRow_any (b : Nat) (L : List Int) (k : Int) (w : World) (hr : Row w b L) (k0 : 0 ≤ k) (k1 : k ≤ 4611686018427387904) (hm : L.length ≤ 1073741824) :
    Calls Try.prog 36 #[.slice (some ⟨b, 0, none⟩) L.length L.length, .int .i64 k] w fun e w' => e = .returned (.int .i64 (k + L.length)) ∧ Row w' b (markL k L.length) ∧ Mid b (b + 1) w w' := by
  go_enter Try.func36, Try.ntmps36
  go_wp2
  go_loopw [1, 5] (fun m i wr => ∃ j : Int, 0 ≤ j ∧ j ≤ L.length ∧ i = .int .i64 j ∧ m = .int .i64 (k + j) ∧ Row wr b (markTo L k j.toNat) ∧ Mid b (b + 1) w wr) (fun _ i _ => ((L.length : Int) - intOf i).toNat)
  case atStart => exact ⟨0, by omega, by omega, rfl, by simp, hr, Mid.refl _ _ _⟩
  case round =>
    obtain ⟨j, j0, j1, rfl, rfl, ho, hg⟩ := hrel
    by_cases hj : j < L.length
    · have hlen := markTo_len L k j.toNat (by omega)
      have c0 := ho.cell j0 (by rw [hlen]; exact hj)
      have f0 := ho.free j.toNat
      have hse := Lib.hid (markTo_set L k j.toNat (by omega))
      clear hlen
      go_wp2
      go_roundw
      case rel =>
        have e := hse.out
        rw [Int.toNat_of_nonneg j0] at e
        exact ⟨j + 1, by omega, by omega, rfl, by rw [Int.add_assoc], by rw [show (j + 1).toNat = j.toNat + 1 by omega, ← e]; exact ho.set _ _, hg.setCell (Nat.le_refl _) (by simp) _⟩
      case measure => simp [intOf]; omega
    · have e : j = L.length := by omega
      subst e
      rw [Int.toNat_natCast, markTo_all] at ho
      go_wp2
      go_ret
      exact ⟨rfl, ho, hg⟩

set_option maxRecDepth 100000 in
set_option maxHeartbeats 1000000 in
/-- laws.markIntSS of a table of the call's own -/
theorem markIntSS_any (lo B : Nat) (R : Nat → Nat) (T : List (List Int)) (k : Int) (w : World) (hown : TabOwn w lo B R T T.length) (hi : Nat) (hR : ∀ j, j < T.length → R j < hi) (k0 : 0 ≤ k) (k1 : k ≤ 1099511627776) (hn : T.length ≤ 1048576) (hm : ∀ j : Nat, j < T.length → (rowAt T j).length ≤ 1048576) :
    Calls Try.prog 70 #[.slice (some ⟨B, 0, none⟩) T.length T.length, .int .i64 k] w fun e w' => (∃ v, e = .returned (.int .i64 v) ∧ k ≤ v) ∧ Mid (B + 1) hi w w' := by
  have HM := Lib.hid hm
  have HO := Lib.hid hown
  have HRR := Lib.hid hR
  clear hm hown hR
  go_enter Try.func70, Try.ntmps70
  go_wp2
  go_loopw [1, 5] (fun m i wr => ∃ j v : Int, 0 ≤ j ∧ j ≤ T.length ∧ i = .int .i64 j ∧ m = .int .i64 v ∧ k ≤ v ∧ v ≤ k + j * 1048576 ∧ (∀ i : Nat, j ≤ i → i < T.length → Row wr (R i) (rowAt T i)) ∧ Mid (B + 1) hi w wr) (fun _ i _ => ((T.length : Int) - intOf i).toNat)
  case atStart => exact ⟨0, k, by omega, by omega, rfl, rfl, by omega, by omega, fun i _ hi => HO.out.row i hi, Mid.refl _ _ _⟩
  case round =>
    obtain ⟨j, v, j0, j1, rfl, rfl, v0, v1, hrows, hg⟩ := hrel
    by_cases hj : j < T.length
    · have hrow := hrows j.toNat (by omega) (by omega)
      have hm2 := HM.out j.toNat (by omega)
      have hup := HO.out.up j.toNat (by omega)
      have hlt := HRR.out j.toNat (by omega)
      rw [Int.toNat_of_nonneg j0] at hrow hm2
      have c0 : wr.cell? ⟨B, j.toNat, none⟩ = some (.slice (some ⟨R j.toNat, 0, none⟩) (rowAt T j).length (rowAt T j).length) := by
        have ht := (hg.block B HO.out.lt (.inl (by omega))).trans HO.out.top
        rw [cell_of_row wr B _ _ _ _ ht, slTo_get _ _ _ _ (by omega), if_pos (by omega), Int.toNat_of_nonneg j0]
      have HR := Lib.hid hrows
      clear hrows
      go_wp2_with fail
      refine (markRow_any _ _ v wr hrow (by omega) (by omega) (by omega)).mono ?_
      rintro e w5 ⟨rfl, _, hm5⟩
      go_wp2
      go_roundw
      case rel =>
        refine ⟨j + 1, v + (rowAt T j).length, by omega, by omega, rfl, rfl, by omega, by omega, fun i hi hi2 => ?_, hg.trans (hm5.wide (by omega) (by omega))⟩
        refine (HR.out i (by omega) hi2).mid hm5 (.inr ?_)
        have := HO.out.inc j.toNat i (by omega) hi2
        omega
      case measure => simp [intOf]; omega
    · go_wp2
      go_ret
      exact ⟨⟨v, rfl, v0⟩, hg⟩

set_option maxRecDepth 100000 in
set_option maxHeartbeats 1000000 in
/-- laws.markAlgebra of an algebra of the call's own -/
theorem markAlgebra_any (bu lo B : Nat) (R : Nat → Nat) (L : List Int) (T : List (List Int)) (k : Int) (w : World) (hrow : Row w bu L) (hb : bu < B) (hown : TabOwn w lo B R T T.length) (hi : Nat) (hR : ∀ j, j < T.length → R j < hi) (hbi : bu < hi) (k0 : 0 ≤ k) (k1 : k ≤ 1073741824) (hL : L.length ≤ 1048576) (hn : T.length ≤ 1048576) (hm : ∀ j : Nat, j < T.length → (rowAt T j).length ≤ 1048576) :
    Calls Try.prog 35 #[.agg #[.slice (some ⟨bu, 0, none⟩) L.length L.length, .slice (some ⟨B, 0, none⟩) T.length T.length], .int .i64 k] w fun e w' => (∃ v, e = .returned (.int .i64 v) ∧ k ≤ v) ∧ Mid bu hi w w' := by
  obtain ⟨w1, hw1⟩ : ∃ w1, w1 = w.alloc (.cells #[.slice (some ⟨bu, 0, none⟩) L.length L.length, .slice (some ⟨B, 0, none⟩) T.length T.length] 28) := ⟨_, rfl⟩
  have hB : Below w.heap.size w w1 := by rw [hw1]; exact (Below.refl _ _).alloc (Nat.le_refl _) _
  have hx : w1.heap[w.heap.size]? = some (.cells #[.slice (some ⟨bu, 0, none⟩) L.length L.length, .slice (some ⟨B, 0, none⟩) T.length T.length] 28 (0, 0)) := by rw [hw1]; exact heap_alloc_new w _
  obtain ⟨c0, c1⟩ := bx_cells hx
  have row1 := hrow.below hB hrow.lt
  have own1 := hown.below hB
  have hlt := hrow.lt
  have hltB := hown.lt
  have HM := Lib.hid hm
  clear hm hrow hown
  go_enter Try.func35, Try.ntmps35
  go_wp2_with (rw [← hw1]; clear hw1)
  refine (markRow_any bu L k w1 row1 k0 (by omega) (by omega)).mono ?_
  rintro e w2 ⟨rfl, _, m2⟩
  have hx2 := (m2.block _ (lt_of_block hx) (.inr (by omega))).trans hx
  have own2 : TabOwn w2 lo B R T T.length := ⟨(m2.block _ own1.lt (.inr (by omega))).trans own1.top, own1.lo, fun j hj => (own1.row j hj).mid m2 (.inr (by have := own1.up j hj; omega)), own1.up, own1.inc⟩
  obtain ⟨d0, d1⟩ := bx_cells hx2
  go_wp2_with fail
  refine (markIntSS_any lo B R T _ w2 own2 hi hR (by omega) (by omega) hn HM.out).mono ?_
  rintro e w3 ⟨⟨v, rfl, hv⟩, m3⟩
  go_wp2
  go_ret
  have hs2 := m2.size
  have hs1 := hB.size
  have hs3 := m3.size
  refine ⟨⟨v, rfl, by omega⟩, m3.os.trans (m2.os.trans hB.os), m3.tape.trans (m2.tape.trans hB.tape), m3.output.trans (m2.output.trans hB.output), by omega, fun i hi2 hne => ?_⟩
  exact (m3.block i (by omega) (by omega)).trans ((m2.block i (by omega) (by omega)).trans (hB.block i hi2))
end Go.Proofs.Ytpfnfglaokiipab

namespace Go.Proofs.Ytpfnfglaokiipab
open Go.RowKit

/-- the table of what a function says of each two -/
def tabL (p : Int → Int → Int) (n : Int) : List (List Int) := (List.range n.toNat).map fun (i : Nat) => lstTo (p i) n
theorem tabL_len (p : Int → Int → Int) (n : Int) : (tabL p n).length = n.toNat := by simp [tabL]
theorem tabL_row (p : Int → Int → Int) {n : Int} {j : Nat} (h : j < n.toNat) : rowAt (tabL p n) j = lstTo (p j) n := by
  unfold rowAt tabL
  simp [h]
theorem tabL_rlen (p : Int → Int → Int) {n : Int} {j : Nat} (h : j < n.toNat) : (rowAt (tabL p n) j).length = n.toNat := by
  rw [tabL_row p h]; simp [lstTo]
theorem tabL_tv (p : Int → Int → Int) {n x y : Int} (x0 : 0 ≤ x) (x1 : x < n) (y0 : 0 ≤ y) (y1 : y < n) : tv (tabL p n) x y = p x y := by
  have h := tabL_row p (n := n) (j := x.toNat) (by omega)
  rw [Int.toNat_of_nonneg x0] at h
  unfold tv
  rw [h]; exact lstTo_nth _ y0 y1
/-- a row under way -/
def mixR (p : Int → Int → Int) (n x y : Int) : List Int := lstTo (p x) y ++ List.replicate (n.toNat - y.toNat) 0
theorem mixR_len (p : Int → Int → Int) {n x y : Int} (y0 : 0 ≤ y) (y1 : y ≤ n) : (mixR p n x y).length = n.toNat := by
  have h := lstTo_len (p x) y y0
  unfold mixR; rw [List.length_append, List.length_replicate]; omega
theorem mixR_zero (p : Int → Int → Int) (n x : Int) : mixR p n x 0 = List.replicate n.toNat 0 := by simp [mixR, lstTo]
theorem mixR_set (p : Int → Int → Int) {n x y : Int} (y0 : 0 ≤ y) (y1 : y < n) : (mixR p n x y).set y.toNat (p x y) = mixR p n x (y + 1) := by
  have h := lstTo_len (p x) y y0
  unfold mixR
  rw [List.set_append_right (h := by omega), lstTo_succ _ _ y0, List.append_assoc]
  congr 1
  have e1 : y.toNat - (lstTo (p x) y).length = 0 := by omega
  have e2 : n.toNat - y.toNat = (n.toNat - (y + 1).toNat) + 1 := by omega
  rw [e1, e2, List.replicate_succ]
  rfl
theorem mixR_all (p : Int → Int → Int) {n x : Int} (_ : 0 ≤ n) : mixR p n x n = lstTo (p x) n := by unfold mixR; simp
theorem runs_callv {P : Program} {o : Oper} {a : Act} (f : FuncId) (env : Array Value) (x y z : Operand) (tys : Array TypeId) (ho : o.op = .call { callee := .value z, args := #[x, y], argTypes := tys }) (hz : a.eval z = .func (.func f) #[] env) (u v : Value) (hx : a.eval x = u) (hy : a.eval y = v) (w : World) (he : ∀ (args : Array Value) (w : World), (callFunc f args).run P w = .ok (.enter f args) w) : (execOp a.eval o).run P w = .ok (.enter f (#[u, v] ++ env)) w := by
  subst hx hy
  have h1 := he (#[a.eval x, a.eval y] ++ env) w
  unfold execOp
  simp [ho, resolve, hz, Deferred.ofValue, invoke]
  simpa using h1
/-- the rows up to x done, row x up to y -/
structure TabIn (w : World) (lo B : Nat) (R : Nat → Nat) (p : Int → Int → Int) (n x y : Int) : Prop where
  top : w.heap[B]? = some (.cells (slTo R (tabL p n) (x.toNat + 1)) 22 (0, 0))
  lo : lo ≤ B
  row : ∀ j, j < x.toNat → Row w (R j) (rowAt (tabL p n) j)
  cur : Row w (R x.toNat) (mixR p n x y)
  up : ∀ j, j ≤ x.toNat → B < R j
  inc : ∀ i j, i < j → j ≤ x.toNat → R i < R j
theorem TabIn.lt {w : World} {lo B : Nat} {R : Nat → Nat} {p : Int → Int → Int} {n x y : Int} (h : TabIn w lo B R p n x y) : B < w.heap.size := lt_of_block h.top
theorem TabIn.below {w w' : World} {lo B : Nat} {R : Nat → Nat} {p : Int → Int → Int} {n x y : Int} (h : TabIn w lo B R p n x y) (hb : Below w.heap.size w w') : TabIn w' lo B R p n x y :=
  ⟨(hb.block _ h.lt).trans h.top, h.lo, fun j hj => (h.row j hj).below hb (h.row j hj).lt, h.cur.below hb h.cur.lt, h.up, h.inc⟩
theorem TabIn.cell {w : World} {lo B : Nat} {R : Nat → Nat} {p : Int → Int → Int} {n x y : Int} (h : TabIn w lo B R p n x y) (x0 : 0 ≤ x) (x1 : x < n) : w.cell? ⟨B, x.toNat, none⟩ = some (.slice (some ⟨R x.toNat, 0, none⟩) n.toNat n.toNat) := by
  rw [cell_of_row w B _ _ _ _ h.top, slTo_get _ _ _ _ (by rw [tabL_len]; omega), if_pos (by omega), tabL_rlen p (by omega)]
theorem TabIn.step {w : World} {lo B : Nat} {R : Nat → Nat} {p : Int → Int → Int} {n x y : Int} (h : TabIn w lo B R p n x y) (y0 : 0 ≤ y) (y1 : y < n) : TabIn (w.setCell ⟨R x.toNat, y.toNat, none⟩ (.int .i64 (p x y))) lo B R p n x (y + 1) := by
  have hu := h.up x.toNat (Nat.le_refl _)
  refine ⟨(heap_setCell_other w _ _ _ (by simp; omega)).trans h.top, h.lo, fun j hj => (h.row j hj).other _ ?_, ?_, h.up, h.inc⟩
  · have := h.inc j x.toNat hj (Nat.le_refl _); simp; omega
  · rw [← mixR_set p y0 y1]; exact h.cur.set _ _
theorem TabIn.done {w : World} {lo B : Nat} {R : Nat → Nat} {p : Int → Int → Int} {n x : Int} (h : TabIn w lo B R p n x n) (x0 : 0 ≤ x) (x1 : x < n) : TabOwn w lo B R (tabL p n) (x.toNat + 1) := by
  refine ⟨h.top, h.lo, fun j hj => ?_, fun j hj => h.up j (by omega), fun i j hij hj => h.inc i j hij (by omega)⟩
  by_cases e : j = x.toNat
  · have hc := h.cur
    rw [mixR_all p (by omega)] at hc
    rw [e, tabL_row p (by omega), Int.toNat_of_nonneg x0]; exact hc
  · exact h.row j (by omega)
end Go.Proofs.Ytpfnfglaokiipab

namespace Go.Proofs.Ytpfnfglaokiipab
open Go.RowKit

theorem TabOwn.start {w : World} {lo B : Nat} {R : Nat → Nat} {p : Int → Int → Int} {n x : Int} (h : TabOwn w lo B R (tabL p n) x.toNat) (x0 : 0 ≤ x) (x1 : x < n) :
    TabIn ((w.alloc (.cells (IL (List.replicate n.toNat 0)) 3)).setCell ⟨B, x.toNat, none⟩ (.slice (some ⟨w.heap.size, 0, none⟩) n.toNat n.toNat)) lo B (fun i => if i = x.toNat then w.heap.size else R i) p n x 0 := by
  have hrow : Row (w.alloc (.cells (IL (List.replicate n.toNat 0)) 3)) w.heap.size (List.replicate n.toNat 0) := heap_alloc_new w _
  have own5 := h.below ((Below.refl _ w).alloc (Nat.le_refl _) (.cells (IL (List.replicate n.toNat 0)) 3))
  obtain ⟨w5, hw5⟩ : ∃ w5, w5 = w.alloc (.cells (IL (List.replicate n.toNat 0)) 3) := ⟨_, rfl⟩
  rw [← hw5] at hrow own5 ⊢
  have hz := h.lt
  have hset := slTo_set R (tabL p n) x.toNat w.heap.size
  rw [tabL_rlen p (show x.toNat < n.toNat by omega)] at hset
  refine ⟨?_, h.lo, fun j hj => ?_, ?_, fun j hj => ?_, fun i j hij hj => ?_⟩
  · rw [setCell_eq_setRow w5 _ _ _ _ _ _ own5.top, setRow_heap w5 _ _ _ _ _ own5.top, hset]
  · show Row _ (if j = x.toNat then w.heap.size else R j) _
    rw [if_neg (by omega)]
    exact (own5.row j hj).other _ (by have := h.up j hj; simp; omega)
  · show Row _ (if x.toNat = x.toNat then w.heap.size else R x.toNat) _
    rw [if_pos rfl, mixR_zero]
    exact hrow.other _ (by simp; omega)
  · show B < (if j = x.toNat then w.heap.size else R j)
    by_cases e : j = x.toNat
    · rw [if_pos e]; exact hz
    · rw [if_neg e]; exact h.up j (by omega)
  · show (if i = x.toNat then w.heap.size else R i) < (if j = x.toNat then w.heap.size else R j)
    rw [if_neg (by omega)]
    by_cases e : j = x.toNat
    · rw [if_pos e]; exact (h.row i (by omega)).lt
    · rw [if_neg e]; exact h.inc i j hij (by omega)

set_option maxRecDepth 100000 in
set_option maxHeartbeats 2000000 in
/-- impl.rowsOf at whatever closure -/
theorem rowsOf_any (f : Nat) (env : Array Value) (n : Int) (p : Int → Int → Int) (w : World) (n0 : 0 ≤ n) (n6 : n ≤ 6) (he : Enters f)
    (H : ∀ (x y : Int) (wr : World), 0 ≤ x → x < n → 0 ≤ y → y < n → Below w.heap.size w wr → Calls Try.prog f (#[.int .i64 x, .int .i64 y] ++ env) wr fun e w' => e = .returned (.int .i64 (p x y)) ∧ Below wr.heap.size wr w') :
    Calls Try.prog 76 #[.int .i64 n, .func (.func f) #[] env] w fun e w' => e = .returned (.slice (some ⟨w.heap.size, 0, none⟩) n.toNat n.toNat) ∧ (∃ R, TabOwn w' w.heap.size w.heap.size R (tabL p n) n.toNat) ∧ Below w.heap.size w w' := by
  have hmk := run_make_ints n.toNat (by omega)
  have hmr := run_make_rows n.toNat (by omega)
  rw [Int.toNat_of_nonneg n0] at hmk hmr
  have HH := Lib.hid H; clear H
  have HE := Lib.hid (show ∀ (args : Array Value) (w : World), (callFunc f args).run Try.prog w = .ok (.enter f args) w from he); clear he
  go_enter Try.func76, Try.ntmps76
  go_wp2
  go_loopw [6, 7, 12] (fun _ _ c wr => ∃ x : Int, 0 ≤ x ∧ x ≤ n ∧ c = .int .i64 x ∧ (∃ R, TabOwn wr w.heap.size w.heap.size R (tabL p n) x.toNat) ∧ Below w.heap.size w wr) (fun _ _ c _ => (6 - intOf c).toNat)
  case atStart => exact ⟨0, by omega, by omega, rfl, ⟨fun _ => 0, by rw [show (0 : Int).toNat = 0 from rfl, slTo_zero, tabL_len]; exact heap_alloc_new w _, Nat.le_refl _, fun j hj => absurd hj (by omega), fun j hj => absurd hj (by omega), fun i j _ hj => absurd hj (by omega)⟩, (Below.refl _ _).alloc (Nat.le_refl _) _⟩
  case round =>
    obtain ⟨x, x0, x1, rfl, ⟨R, hown⟩, hbel⟩ := hrel
    by_cases hx : x < n
    · obtain ⟨w5, hw5⟩ : ∃ w5, w5 = wr.alloc (.cells (IL (List.replicate n.toNat 0)) 3) := ⟨_, rfl⟩
      obtain ⟨w6, hw6⟩ : ∃ w6, w6 = w5.setCell ⟨w.heap.size, x.toNat, none⟩ (.slice (some ⟨wr.heap.size, 0, none⟩) n.toNat n.toNat) := ⟨_, rfl⟩
      have t6 := hown.start x0 hx
      have own5 := hown.below ((Below.refl _ wr).alloc (Nat.le_refl _) (.cells (IL (List.replicate n.toNat 0)) 3))
      have b5 : Below w.heap.size w w5 := by rw [hw5]; exact hbel.alloc hbel.size _
      rw [← hw5] at t6 own5
      rw [← hw6] at t6
      have b6 : Below w.heap.size w w6 := by rw [hw6]; exact b5.setCell (by simp) _
      have cc : w5.cell? ⟨w.heap.size, x.toNat, none⟩ = some (.slice none 0 0) := by rw [cell_of_row w5 _ _ _ _ _ own5.top, slTo_get _ _ _ _ (by rw [tabL_len]; omega), if_neg (by omega)]
      have ff : w5.frozen? ⟨w.heap.size, x.toNat, none⟩ = false := frozen_of_row w5 _ _ _ _ own5.top
      have c6 := t6.cell x0 hx
      simp only [if_true] at c6
      have hlt := t6.lt
      obtain ⟨R', hR'⟩ : ∃ R' : Nat → Nat, R' = fun i => if i = x.toNat then wr.heap.size else R i := ⟨_, rfl⟩
      rw [← hR'] at t6
      have hRx : R' x.toNat = wr.heap.size := by rw [hR']; exact if_pos rfl
      clear hR' own5 hown b5
      go_wp2_with (first
        | (rw [← hw6]; clear hw6 cc ff w5)
        | (rw [← hw5]; clear hw5))
      obtain ⟨wo, rfl⟩ : ∃ wo : World, wo = wr := ⟨_, rfl⟩
      go_loopw [7, 25] (fun _ c wr => ∃ y : Int, 0 ≤ y ∧ y ≤ n ∧ c = .int .i64 y ∧ TabIn wr w.heap.size w.heap.size R' p n x y ∧ Below w.heap.size w wr) (fun _ c _ => (6 - intOf c).toNat)
      case atStart => exact ⟨0, by omega, by omega, rfl, t6, b6⟩
      case round =>
        obtain ⟨y, y0, y1, rfl, ht, hbi⟩ := hrel
        by_cases hy : y < n
        · have hq : ∀ wz, Below wr.heap.size wr wz → wz.cell? ⟨w.heap.size, x.toNat, none⟩ = some (.slice (some ⟨wo.heap.size, 0, none⟩) n.toNat n.toNat) := fun wz hz => by
            have := (ht.below hz).cell x0 hx
            rwa [hRx] at this
          have r0 : ∀ s : In (Below wr.heap.size wr), s.w.cell? ⟨w.heap.size, x.toNat, none⟩ = some (.slice (some ⟨wo.heap.size, 0, none⟩) n.toNat n.toNat) := fun s => hq _ s.h
          have HC := Lib.hid (show ∀ s : In (Below wr.heap.size wr), _ from fun s => HH.out x y s.w x0 hx y0 hy (hbi.trans (s.h.mono hbi.size)))
          have hxl : x.toNat < n.toNat := by omega
          have hyl : y.toNat < n.toNat := by omega
          go_wp2
          refine region_tail 10 (Below wr.heap.size wr) (by kernel_rfl) (by kernel_rfl) (Dr.below ⟨1, rfl⟩ _) fun hne => ?_
          simp only [List.take_succ_cons, List.take_zero, List.drop_succ_cons, List.drop_zero]
          repeat (go_big_quiet_step ((rw [HE.out]; exact ⟨rfl, in_below _ (Nat.le_refl _) (HC.out _)⟩)))
          refine wpQuiet_nil ?_
          intro s
          have hw2 := s.h
          obtain ⟨w7, hw2'⟩ : ∃ w7, w7 = s.w := ⟨_, rfl⟩
          rw [← hw2'] at hw2 ⊢
          clear hw2'
          have t7 := ht.below hw2
          have hup := t7.up x.toNat (Nat.le_refl _)
          have h8 := t7.step y0 hy
          have c7 := t7.cur.cell y0 (by rw [mixR_len p y0 y1]; omega)
          have f7 := t7.cur.free y.toNat
          rw [hRx] at h8 c7 f7 hup
          go_wp2
          exact ⟨⟨y + 1, by omega, by omega, rfl, h8, (hbi.trans (hw2.mono hbi.size)).setCell (by simp; omega) _⟩, by simp [intOf]; omega⟩
        · have e : y = n := by omega
          subst e
          go_wp2
          go_roundw
          case rel => exact ⟨x + 1, by omega, by omega, rfl, ⟨R', by rw [show (x + 1).toNat = x.toNat + 1 by omega]; exact ht.done x0 hx⟩, hbi⟩
          case measure => simp [intOf]; omega
    · have e : x = n := by omega
      subst e
      go_wp2
      go_ret
      exact ⟨rfl, ⟨R, hown⟩, hbel⟩
end Go.Proofs.Ytpfnfglaokiipab

namespace Go.Proofs.Ytpfnfglaokiipab
open Go.RowKit

/-- truncated sums -/
def sumP (n x y : Int) : Int := if x + y + 1 - n < 0 then 0 else x + y + 1 - n
theorem results_Alg_tmp {fn : Func} {p u : Tmp} (h : fn.results = #[.cell p 28, .tmp u]) (tmps : Array Value) (w : World) (g : Nat) (hp : tmps.getD p undef = .pointer (some ⟨g, 0, none⟩))
    (s t : Value) {v : Value} (hg : w.heap[g]? = some (.cells #[s, t] 28 (0, 0))) (hu : tmps.getD u undef = v) :
    (results fn tmps).run Try.prog w = .ok (.tuple #[.agg #[s, t], v]) w := by
  have hp' : tmps[p]?.getD undef = .pointer (some ⟨g, 0, none⟩) := by simpa using hp
  have hu' : tmps[u]?.getD undef = v := by simpa using hu
  have hl := run_loadVar_row (P := Try.prog) w g _ 28 _ _ _ hg Try.underlying28 rfl (size_Alg _ _)
  simp [results, h, hp', hu', asAddr, hl]
/-- an algebra of the call's own memory is handed back, and true -/
def RetAlg (lo : Nat) (L : List Int) (T : List (List Int)) (w : World) (e : Ending) (w' : World) : Prop :=
  ∃ bu B R, e = .returned (.tuple #[.agg #[.slice (some ⟨bu, 0, none⟩) L.length L.length, .slice (some ⟨B, 0, none⟩) T.length T.length], .bool true]) ∧ lo ≤ bu ∧ bu < B ∧ Row w' bu L ∧ TabOwn w' lo B R T T.length ∧ Below w.heap.size w w'
/-- the zero value is handed back, and false -/
def RetNo (w : World) (e : Ending) (w' : World) : Prop := e = .returned (.tuple #[.agg #[.slice none 0 0, .slice none 0 0], .bool false]) ∧ Below w.heap.size w w'

set_option maxHeartbeats 400000 in
theorem implChainOf_good (n : Int) (w : World) (h1 : 1 ≤ n) (h6 : n ≤ 6) : Calls Try.prog 81 #[.int .i64 n] w fun e w' => e = .returned (.slice (some ⟨w.heap.size, 0, none⟩) n.toNat n.toNat) ∧ Row w' w.heap.size (chainTo n n) ∧ Below w.heap.size w w' := by
  have hu := Lib.hid (upL_chain n (by omega))
  go_enter Try.func81, Try.ntmps81
  go_wp2_with (go_at_call 87; refine (upOf_chain n _ (by omega) h6).mono ?_; rintro e w1 ⟨rfl, hrow, hb⟩)
  go_ret
  rw [hu.out] at hrow
  exact ⟨rfl, hrow, hb⟩
set_option maxHeartbeats 400000 in
theorem implChainOf_nil (n : Int) (w : World) (h : ¬ (1 ≤ n ∧ n ≤ 6)) : Calls Try.prog 81 #[.int .i64 n] w fun e w' => e = .returned (.slice none 0 0) ∧ Below w.heap.size w w' := by
  by_cases h1 : n < 1
  · clear h
    go_enter Try.func81, Try.ntmps81
    go_wp2
    go_ret
    exact ⟨rfl, Below.refl _ _⟩
  · have h2 : 6 < n := by omega
    clear h
    go_enter Try.func81, Try.ntmps81
    go_wp2
    go_ret
    exact ⟨rfl, Below.refl _ _⟩

theorem nil_is (w : World) (a : Option Addr) (n c n' c' : Nat) : (binOp .eql 22 (.slice a n c) (.slice none n' c')).run Try.prog w = .ok (.bool a.isNone) w := Lib.run_eql_slice_nil w _ _ a n c n' c' Try.underlying22
theorem enters_sum : Enters 82 := enters_of Try.func82 (by kernel_rfl) rfl
set_option maxHeartbeats 400000 in
theorem sumClo_any (n x y : Int) (bn : Nat) (w : World) (hn : w.heap[bn]? = some (.cells #[.int .i64 n] 3 (0, 0))) (n1 : 1 ≤ n) (n6 : n ≤ 6) (x0 : 0 ≤ x) (x1 : x < n) (y0 : 0 ≤ y) (y1 : y < n) :
    Calls Try.prog 82 #[.int .i64 x, .int .i64 y, .pointer (some ⟨bn, 0, none⟩)] w fun e w' => e = .returned (.int .i64 (sumP n x y)) ∧ Below w.heap.size w w' := by
  have cn := cell_of_one hn
  have h1 : IntKind.i64.wrap (x + y) = x + y := IntWalk.i64_in _ (by omega)
  have h2 : IntKind.i64.wrap (x + y + 1) = x + y + 1 := IntWalk.i64_in _ (by omega)
  have h3 : IntKind.i64.wrap (x + y + 1 - n) = x + y + 1 - n := IntWalk.i64_in _ (by omega)
  go_enter Try.func82, Try.ntmps82
  go_wp2
  all_goals
    go_ret
    refine ⟨?_, Below.refl _ _⟩
    unfold sumP
    first | (rw [if_pos (by omega)]; rfl) | (rw [if_neg (by omega)]; rfl)

set_option maxRecDepth 100000 in
set_option maxHeartbeats 1000000 in
/-- impl.SumChain -/
theorem implSumChain_yes (n : Int) (w : World) (n1 : 1 ≤ n) (n6 : n ≤ 6) : Calls Try.prog 45 #[.int .i64 n] w (RetAlg w.heap.size (chainTo n n) (tabL (sumP n) n) w) := by
  obtain ⟨w1, hw1⟩ : ∃ w1, w1 = (w.alloc (.cells #[.int .i64 n] 3)).alloc (.cells #[.slice none 0 0, .slice none 0 0] 28) := ⟨_, rfl⟩
  have hB : Below w.heap.size w w1 := by rw [hw1]; exact ((Below.refl _ _).alloc (Nat.le_refl _) _).alloc (by simp) _
  have hn : w1.heap[w.heap.size]? = some (.cells #[.int .i64 n] 3 (0, 0)) := by rw [hw1, Below.heap_alloc _ _ _ (by simp)]; exact heap_alloc_new w _
  have hz : w1.heap[w.heap.size + 1]? = some (.cells #[.slice none 0 0, .slice none 0 0] 28 (0, 0)) := by rw [hw1]; exact heap_alloc2_new _ _ _
  have Kn := Lib.hid (show ∀ wz, Below w1.heap.size w1 wz → wz.heap[w.heap.size]? = some (.cells #[.int .i64 n] 3 (0, 0)) from fun wz h => (h.block _ (lt_of_block hn)).trans hn)
  have Kz := Lib.hid (show ∀ wz, Below w1.heap.size w1 wz → wz.heap[w.heap.size + 1]? = some (.cells #[.slice none 0 0, .slice none 0 0] 28 (0, 0)) from fun wz h => (h.block _ (lt_of_block hz)).trans hz)
  have hsz := lt_of_block hz
  have l1 : (chainTo n n).length = n.toNat := by have := chainTo_len n n (by omega); omega
  have l2 := tabL_len (sumP n) n
  have c1 := cell_of_one hn
  have hnil := nil_is
  clear hn hz
  go_enter Try.func45, Try.ntmps45
  go_wp2_with (first
    | (rw [← hw1]; clear hw1)
    | (go_at_call 81; refine (implChainOf_good n _ n1 n6).mono ?_; rintro e w2 ⟨rfl, hrow, hb2⟩; have c2 := cell_of_one (Kn.out _ hb2); obtain ⟨bu, hbu⟩ : ∃ bu, bu = w1.heap.size := ⟨_, rfl⟩; rw [← hbu] at hrow ⊢; have hbu2 : w.heap.size + 1 < bu := (by omega); clear hbu)
    | (go_at_call 76; refine (rowsOf_any 82 #[.pointer (some ⟨w.heap.size, 0, none⟩)] n (sumP n) w2 (by omega) n6 enters_sum (fun x y wr x0 x1 y0 y1 hb => sumClo_any n x y w.heap.size wr (Kn.out _ (hb2.trans (hb.mono hb2.size))) n1 n6 x0 x1 y0 y1)).mono ?_; rintro e w3 ⟨rfl, ⟨R, hown⟩, hb3⟩; have z3 : Below w1.heap.size w1 w3 := hb2.trans (hb3.mono hb2.size); have y3 := Kz.out _ z3; have r3 := hrow.below hb3 hrow.lt; have hlt := hrow.lt)
    | (refine wpList_store_row rfl 28 _ _ rfl (w.heap.size + 1) #[.slice (some ⟨bu, 0, none⟩) n.toNat n.toNat, .slice (some ⟨w2.heap.size, 0, none⟩) n.toNat n.toNat] rfl rfl _ _ y3 (size_Alg _ _) rfl (one_sl2 _ _ _ _ _ _) ?_))
  refine bodyPost_ret (v := .tuple #[.agg #[.slice (some ⟨bu, 0, none⟩) n.toNat n.toNat, .slice (some ⟨w2.heap.size, 0, none⟩) n.toNat n.toNat], .bool true]) (results_Alg_tmp rfl _ _ (w.heap.size + 1) rfl _ _ (setRow_heap _ _ _ _ _ _ y3) rfl) rfl ?_
  exact ⟨bu, w2.heap.size, R, by rw [l1, l2], by omega, hlt, r3.rowOther _ (by omega), by rw [l2]; exact hown.rowOther (by omega) (by omega) _, below_setRow' (hB.trans (z3.mono hB.size)) (by omega) _⟩

set_option maxRecDepth 100000 in
set_option maxHeartbeats 1000000 in
theorem implSumChain_no (n : Int) (w : World) (h : ¬ (1 ≤ n ∧ n ≤ 6)) : Calls Try.prog 45 #[.int .i64 n] w (RetNo w) := by
  obtain ⟨w1, hw1⟩ : ∃ w1, w1 = (w.alloc (.cells #[.int .i64 n] 3)).alloc (.cells #[.slice none 0 0, .slice none 0 0] 28) := ⟨_, rfl⟩
  have hB : Below w.heap.size w w1 := by rw [hw1]; exact ((Below.refl _ _).alloc (Nat.le_refl _) _).alloc (by simp) _
  have hn : w1.heap[w.heap.size]? = some (.cells #[.int .i64 n] 3 (0, 0)) := by rw [hw1, Below.heap_alloc _ _ _ (by simp)]; exact heap_alloc_new w _
  have hz : w1.heap[w.heap.size + 1]? = some (.cells #[.slice none 0 0, .slice none 0 0] 28 (0, 0)) := by rw [hw1]; exact heap_alloc2_new _ _ _
  have Kz := Lib.hid (show ∀ wz, Below w1.heap.size w1 wz → wz.heap[w.heap.size + 1]? = some (.cells #[.slice none 0 0, .slice none 0 0] 28 (0, 0)) from fun wz h => (h.block _ (lt_of_block hz)).trans hz)
  have hsz := lt_of_block hz
  have HN := Lib.hid h
  have c1 := cell_of_one hn
  have hnil := nil_is
  clear hn hz h
  go_enter Try.func45, Try.ntmps45
  go_wp2_with (first
    | (rw [← hw1]; clear hw1)
    | (go_at_call 81; refine (implChainOf_nil n _ HN.out).mono ?_; rintro e w2 ⟨rfl, hb2⟩; have y2 := Kz.out _ hb2)
    | (refine wpList_store_row rfl 28 _ _ rfl (w.heap.size + 1) #[.slice none 0 0, .slice none 0 0] rfl rfl _ _ y2 (size_Alg _ _) rfl (one_sl2 _ _ _ _ _ _) ?_))
  exact bodyPost_ret (v := .tuple #[.agg #[.slice none 0 0, .slice none 0 0], .bool false]) (results_Alg_tmp rfl _ _ (w.heap.size + 1) rfl _ _ (setRow_heap _ _ _ _ _ _ y2) rfl) rfl ⟨rfl, below_setRow' (hB.trans (hb2.mono hB.size)) (by omega) _⟩
end Go.Proofs.Ytpfnfglaokiipab

namespace Go.Proofs.Ytpfnfglaokiipab
open Go.RowKit

/-- a table of the call's own by append: its rows are the call's own as well -/
def RowsAt (B : Nat) (w : World) (v : Value) (T : List (List Int)) : Prop :=
  ∃ vs : List Value, w.ownsRow B 22 1 v T.length vs ∧ ∀ j : Nat, j < T.length → ∃ u, vs[j]? = some u ∧ Own B w u (rowAt T j)
theorem ownsRow_below {w w' : World} {B : Nat} {e : TypeId} {s : Nat} {v : Value} {n : Nat} {xs : List Value} (h : w.ownsRow B e s v n xs) (hb : Below w.heap.size w w') : w'.ownsRow B e s v n xs := by
  obtain ⟨h1, h⟩ := h
  refine ⟨h1, ?_⟩
  rcases h with h | ⟨g, cap, cur, e1, e2, hg, e3, e4, e5, e6⟩
  · exact .inl h
  · exact .inr ⟨g, cap, cur, e1, e2, (hb.block g (lt_of_block hg)).trans hg, e3, e4, e5, e6⟩
/-- blocks of two types are two -/
theorem own_types {w : World} {B B' : Nat} {e e' : TypeId} {s s' n n' : Nat} {v v' : Value} {xs xs' : List Value} (h : w.ownsRow B e s v n xs) (h' : w.ownsRow B' e' s' v' n' xs') (he : e ≠ e') : v.ownBlock = none ∨ v.ownBlock ≠ v'.ownBlock := by
  rcases h.2 with ⟨rfl, _⟩ | ⟨g, cap, cur, rfl, _, hg, _⟩
  · exact .inl rfl
  · right
    rcases h'.2 with ⟨rfl, _⟩ | ⟨g', cap', cur', rfl, _, hg', _⟩
    · simp [Value.ownBlock]
    · simp only [Value.ownBlock, ne_eq, Option.some.injEq]
      intro e
      rw [e, hg'] at hg
      injection hg with hg
      injection hg with _ hg
      exact he hg.symm
theorem RowsAt.nothing (B : Nat) (w : World) : RowsAt B w (.slice none 0 0) [] := ⟨[], World.ownsRow_nil _ _ _ _, fun j hj => absurd hj (by simp)⟩
theorem RowsAt.below {B : Nat} {w w' : World} {v : Value} {T : List (List Int)} (h : RowsAt B w v T) (hb : Below w.heap.size w w') : RowsAt B w' v T := by
  obtain ⟨vs, h1, h2⟩ := h
  exact ⟨vs, ownsRow_below h1 hb, fun j hj => by obtain ⟨u, hu, ho⟩ := h2 j hj; exact ⟨u, hu, ho.below hb⟩⟩
theorem rowAt_old {T : List (List Int)} {r : List Int} {j : Nat} (h : j < T.length) : rowAt (T ++ [r]) j = rowAt T j := by
  unfold rowAt
  simp [List.getElem?_append_left h]
theorem rowAt_new {T : List (List Int)} {r : List Int} : rowAt (T ++ [r]) T.length = r := by
  unfold rowAt
  simp
theorem RowsAt.rd {B : Nat} {w : World} {v : Value} {T : List (List Int)} (h : RowsAt B w v T) : ∃ b cap, v = .slice b T.length cap ∧ RdT w b T := by
  obtain ⟨vs, h1, h2⟩ := h
  rcases h1.2 with ⟨rfl, hn⟩ | ⟨g, cap, cur, rfl, _, hg, hc, _, hs, ht⟩
  · exact ⟨none, 0, by rw [hn], fun hne => absurd (List.length_eq_zero_iff.1 hn) hne⟩
  · refine ⟨_, cap, rfl, fun _ => ⟨g, 0, rfl, fun j hj => ?_⟩⟩
    obtain ⟨u, hu, ho⟩ := h2 j hj
    obtain ⟨a, c, rfl, hr⟩ := ho.slice
    refine ⟨a, c, ?_, hr⟩
    rw [Nat.zero_add, cell_of_row w g j _ _ _ hg]
    rw [← ht, List.getElem?_take, if_pos (by omega), Array.getElem?_toList] at hu
    exact hu
theorem RowsAt.push {B : Nat} {w w' : World} {v v' u : Value} {T : List (List Int)} {r : List Int} {vs : List Value} (h1 : w.ownsRow B 22 1 v T.length vs) (h2 : ∀ j : Nat, j < T.length → ∃ u, vs[j]? = some u ∧ Own B w u (rowAt T j)) (hu : Own B w u r)
    (h3 : w'.ownsRow B 22 1 v' (T.length + 1) (vs ++ [u])) (hg : w.grownBy w' v.ownBlock) : RowsAt B w' v' (T ++ [r]) := by
  have hvl : vs.length = T.length := by have := h1.1; omega
  refine ⟨vs ++ [u], by simpa using h3, fun j hj => ?_⟩
  by_cases e : j < T.length
  · obtain ⟨u', hu', ho⟩ := h2 j e
    refine ⟨u', by rw [List.getElem?_append_left (by omega)]; exact hu', ?_⟩
    rw [rowAt_old e]
    exact World.ownsRow.kept ho hg (own_types ho h1 (by decide))
  · have e2 : j = T.length := by simp at hj; omega
    subst e2
    refine ⟨u, by rw [← hvl]; simp, ?_⟩
    rw [rowAt_new]
    exact World.ownsRow.kept hu hg (own_types hu h1 (by decide))
theorem ownsRow_other {w w' : World} {B : Nat} {e e2 : TypeId} {s : Nat} {v : Value} {n : Nat} {xs : List Value} {G : Nat} {c : Array Value} {fr : Nat × Nat} (h : w.ownsRow B e s v n xs) (hG : w.heap[G]? = some (.cells c e2 fr)) (ne : e ≠ e2) (hk : ∀ k, k ≠ G → w'.heap[k]? = w.heap[k]?) : w'.ownsRow B e s v n xs := by
  obtain ⟨h1, h⟩ := h
  refine ⟨h1, ?_⟩
  rcases h with h | ⟨g, cap, cur, e1, e2, hg, e3, e4, e5, e6⟩
  · exact .inl h
  · refine .inr ⟨g, cap, cur, e1, e2, (hk g fun eg => ?_).trans hg, e3, e4, e5, e6⟩
    rw [eg, hG] at hg
    injection hg with hg
    injection hg with _ hg
    exact ne hg.symm
theorem RowsAt.other {B : Nat} {w w' : World} {v : Value} {T : List (List Int)} {e2 : TypeId} {G : Nat} {c : Array Value} {fr : Nat × Nat} (h : RowsAt B w v T) (hG : w.heap[G]? = some (.cells c e2 fr)) (n1 : 22 ≠ e2) (n2 : 3 ≠ e2) (hk : ∀ k, k ≠ G → w'.heap[k]? = w.heap[k]?) : RowsAt B w' v T := by
  obtain ⟨vs, h1, h2⟩ := h
  exact ⟨vs, ownsRow_other h1 hG n1 hk, fun j hj => by obtain ⟨u, hu, ho⟩ := h2 j hj; exact ⟨u, hu, ownsRow_other ho hG n2 hk⟩⟩
theorem grown_keep {w w' : World} {B : Nat} {e e2 : TypeId} {s : Nat} {v : Value} {n : Nat} {xs : List Value} {G : Nat} {c : Array Value} {fr : Nat × Nat} (hg : w.grownBy w' v.ownBlock) (h : w.ownsRow B e s v n xs) (hG : w.heap[G]? = some (.cells c e2 fr)) (ne : e ≠ e2) : w'.heap[G]? = some (.cells c e2 fr) := by
  refine (hg.block G (lt_of_block hG) fun eq => ?_).trans hG
  rcases h.2 with ⟨rfl, _⟩ | ⟨g, cap, cur, rfl, _, hgg, _⟩
  · simp [Value.ownBlock] at eq
  · simp only [Value.ownBlock, Option.some.injEq] at eq
    rw [← eq, hG] at hgg
    injection hgg with hgg
    injection hgg with _ hgg
    exact ne hgg.symm
/-- the first rows of a table -/
def tabK (p : Int → Int → Int) (n k : Int) : List (List Int) := (List.range k.toNat).map fun (i : Nat) => lstTo (p i) n
theorem tabK_succ (p : Int → Int → Int) (n k : Int) (h : 0 ≤ k) : tabK p n (k + 1) = tabK p n k ++ [lstTo (p k) n] := by
  unfold tabK
  rw [show (k + 1).toNat = k.toNat + 1 by omega, List.range_succ, List.map_append]
  simp [Int.toNat_of_nonneg h]
theorem tabK_len (p : Int → Int → Int) (n k : Int) : (tabK p n k).length = k.toNat := by simp [tabK]
theorem tabK_all (p : Int → Int → Int) (n : Int) : tabK p n n = tabL p n := rfl
end Go.Proofs.Ytpfnfglaokiipab

namespace Go.Proofs.Ytpfnfglaokiipab
open Go.RowKit

/-- an algebra that can be read is handed back -/
def RetRd (L : List Int) (T : List (List Int)) (w : World) (e : Ending) (w' : World) : Prop :=
  ∃ a ca b cb, e = .returned (.agg #[.slice a L.length ca, .slice b T.length cb]) ∧ Own w.heap.size w' (.slice a L.length ca) L ∧ RowsAt w.heap.size w' (.slice b T.length cb) T ∧ Below w.heap.size w w'
theorem ownsRow_from {w : World} {B B' : Nat} {e : TypeId} {s : Nat} {v : Value} {n : Nat} {xs : List Value} (h : w.ownsRow B e s v n xs) (hB : B' ≤ B) : w.ownsRow B' e s v n xs := by
  obtain ⟨h1, h⟩ := h
  refine ⟨h1, ?_⟩
  rcases h with h | ⟨g, cap, cur, e1, e2, e⟩
  · exact .inl h
  · exact .inr ⟨g, cap, cur, e1, by omega, e⟩
theorem RowsAt.from {B B' : Nat} {w : World} {v : Value} {T : List (List Int)} (h : RowsAt B w v T) (hB : B' ≤ B) : RowsAt B' w v T := by
  obtain ⟨vs, h1, h2⟩ := h
  exact ⟨vs, ownsRow_from h1 hB, fun j hj => by obtain ⟨u, hu, ho⟩ := h2 j hj; exact ⟨u, hu, ho.from hB⟩⟩

set_option maxRecDepth 100000 in
set_option maxHeartbeats 2000000 in
/-- spec.sumChain -/
theorem specSum_any (n : Int) (w : World) (n1 : 1 ≤ n) (n6 : n ≤ 6) : Calls Try.prog 80 #[.int .i64 n] w (RetRd (chainTo n n) (tabL (sumP n) n) w) := by
  obtain ⟨i0, hi, hz0, hz1, hz2⟩ := info_parts info_int
  obtain ⟨i1, hi1, hy0, hy1, hy2⟩ := info_parts info_ints
  obtain ⟨w1, hw1⟩ : ∃ w1, w1 = w.alloc (.cells #[.slice none 0 0, .slice none 0 0] 28) := ⟨_, rfl⟩
  have hB : Below w.heap.size w w1 := by rw [hw1]; exact (Below.refl _ _).alloc (Nat.le_refl _) _
  have hz : w1.heap[w.heap.size]? = some (.cells #[.slice none 0 0, .slice none 0 0] 28 (0, 0)) := by rw [hw1]; exact heap_alloc_new w _
  have Kz := Lib.hid (show ∀ wz, Below w1.heap.size w1 wz → wz.heap[w.heap.size]? = some (.cells #[.slice none 0 0, .slice none 0 0] 28 (0, 0)) from fun wz h => (h.block _ (lt_of_block hz)).trans hz)
  have hsz := lt_of_block hz
  clear hz
  go_enter Try.func80, Try.ntmps80
  go_wp2_with (first
    | (rw [← hw1]; clear hw1)
    | (go_at_call 108; refine (chain_any n _ (by omega) (by omega)).mono ?_; intro e w2 hret; obtain ⟨ua, uc, rfl, hu2, hb2⟩ := hret.sl)
    | (refine wpList_store_row rfl 28 _ _ rfl w2.heap.size #[.slice ua (chainTo n n).length uc, .slice none 0 0] rfl rfl _ _ (heap_alloc_new w2 (.cells #[.slice none 0 0, .slice none 0 0] 28)) (size_Alg _ _) rfl (one_sl2 _ _ _ _ _ _) ?_; rw [World.setRow_alloc_new]; obtain ⟨g, hg⟩ : ∃ g, g = w2.heap.size := ⟨_, rfl⟩; obtain ⟨w3, hw3⟩ : ∃ w3, w3 = w2.alloc (.cells #[.slice ua (chainTo n n).length uc, .slice none 0 0] 28) := ⟨_, rfl⟩; rw [← hw3, ← hg]; have hx3 : w3.heap[g]? = some (.cells #[.slice ua (chainTo n n).length uc, .slice none 0 0] 28 (0, 0)) := (by rw [hw3, hg]; exact heap_alloc_new w2 _); have q3 : Below w2.heap.size w2 w3 := (by rw [hw3]; exact (Below.refl _ _).alloc (Nat.le_refl _) _); have hu3 := hu2.below q3; have z3 : Below w1.heap.size w1 w3 := hb2.trans (q3.mono hb2.size); have hgl : w1.heap.size ≤ g := (by rw [hg]; exact hb2.size); clear hw3 hg q3 hu2 hb2))
  clear hret
  go_loopw [4, 5, 6] (fun xv _ _ wr => ∃ x : Int, 0 ≤ x ∧ x ≤ n ∧ xv = .int .i64 x ∧ (∃ v, wr.heap[g]? = some (.cells #[.slice ua (chainTo n n).length uc, v] 28 (0, 0)) ∧ RowsAt w1.heap.size wr v (tabK (sumP n) n x)) ∧ Own w1.heap.size wr (.slice ua (chainTo n n).length uc) (chainTo n n) ∧ Below w1.heap.size w1 wr) (fun xv _ _ _ => (6 - intOf xv).toNat)
  case atStart => exact ⟨0, by omega, by omega, rfl, ⟨_, hx3, RowsAt.nothing _ _⟩, hu3, z3⟩
  case round =>
    obtain ⟨x, x0, x1, rfl, ⟨v, hxg, hrows⟩, hup, hbel⟩ := hrel
    obtain ⟨tb, tc, rfl, _⟩ := hrows.rd
    by_cases hx : x < n
    · obtain ⟨wo, rfl⟩ : ∃ wo : World, wo = wr := ⟨_, rfl⟩
      have hlo := hbel.size
      go_wp2
      go_loopw [5, 6] (fun rv yv wr => ∃ y : Int, 0 ≤ y ∧ y ≤ n ∧ yv = .int .i64 y ∧ Own wo.heap.size wr rv (lstTo (sumP n x) y) ∧ Below wo.heap.size wo wr) (fun _ yv _ => (6 - intOf yv).toNat)
      case atStart => exact ⟨0, by omega, by omega, rfl, Own.row (L := []) (heap_alloc_new wo _) (Nat.le_refl _) (Nat.zero_le _), (Below.refl _ _).alloc (Nat.le_refl _) _⟩
      case round =>
        obtain ⟨y, y0, y1, rfl, hown, hbi⟩ := hrel
        by_cases hy : y < n
        · have h1 : IntKind.i64.wrap (x + y) = x + y := IntWalk.i64_in _ (by omega)
          have h2 : IntKind.i64.wrap (x + y - n) = x + y - n := IntWalk.i64_in _ (by omega)
          have h3 : IntKind.i64.wrap (x + y - n + 1) = x + y - n + 1 := IntWalk.i64_in _ (by omega)
          have hlen := lstTo_len (sumP n x) y y0
          have hsucc := Lib.hid (lstTo_succ (sumP n x) y y0)
          by_cases hs : x + y - n + 1 < 0
          · have hv := Lib.hid (show sumP n x y = 0 by unfold sumP; rw [if_pos (by omega)])
            go_wp2_with (at_builtin; refine wpList_append_own _ rfl _ _ 22 rfl wo.heap.size 3 i0 (.int .i64 0) 1 8 Try.underlying22 hi hz0 hz1 hz2 rfl (by decide) _ _ _ rfl (World.ownsRow.alloc hown _) ⟨wr.heap.size, 0, none⟩ 1 1 [.int .i64 0] rfl rfl (cell_one_new _ _ _) (fun x hx => by simp at hx; subst hx; rfl) (by unfold maxLen; omega) (by omega) (by have := hbi.size; simp; omega) ?_; intro v' w5 hown1 hgrow _)
            exact ⟨⟨y + 1, by omega, by omega, rfl, by unfold Own; rw [hsucc.out, hv.out, List.map_append, List.length_append]; exact hown1, (hbi.alloc hbi.size _).grown hgrow (by have := hbi.size; simp; omega) (fun q hq => (World.ownsRow.lt hown q hq).1)⟩, by simp [intOf]; omega⟩
          · have hv := Lib.hid (show sumP n x y = x + y - n + 1 by unfold sumP; rw [if_neg (by omega)]; omega)
            go_wp2_with (at_builtin; refine wpList_append_own _ rfl _ _ 22 rfl wo.heap.size 3 i0 (.int .i64 0) 1 8 Try.underlying22 hi hz0 hz1 hz2 rfl (by decide) _ _ _ rfl (World.ownsRow.alloc hown _) ⟨wr.heap.size, 0, none⟩ 1 1 [.int .i64 (x + y - n + 1)] rfl rfl (cell_one_new _ _ _) (fun x hx => by simp at hx; subst hx; rfl) (by unfold maxLen; omega) (by omega) (by have := hbi.size; simp; omega) ?_; intro v' w5 hown1 hgrow _)
            exact ⟨⟨y + 1, by omega, by omega, rfl, by unfold Own; rw [hsucc.out, hv.out, List.map_append, List.length_append]; exact hown1, (hbi.alloc hbi.size _).grown hgrow (by have := hbi.size; simp; omega) (fun q hq => (World.ownsRow.lt hown q hq).1)⟩, by simp [intOf]; omega⟩
        · have e : y = n := by omega
          rw [e] at hown
          obtain ⟨ra, rc, rfl, _⟩ := hown.slice
          have hg1 := (hbi.block g (lt_of_block hxg)).trans hxg
          obtain ⟨d0, d1⟩ := bx_cells hg1
          obtain ⟨vs, h1v, h2v⟩ := hrows.below hbi
          obtain ⟨o4, ho4⟩ : ∃ o4, o4 = Obj.cells #[.slice ra (lstTo (sumP n x) n).length rc] 22 := ⟨_, rfl⟩
          have h1a := World.ownsRow.alloc h1v o4
          have h2a := Lib.hid (show ∀ j : Nat, j < (tabK (sumP n) n x).length → ∃ u, vs[j]? = some u ∧ Own w1.heap.size (wr.alloc o4) u (rowAt (tabK (sumP n) n x) j) from fun j hj => by obtain ⟨u, hu, ho⟩ := h2v j hj; exact ⟨u, hu, ho.alloc _⟩)
          have hra := (hown.from hlo).alloc o4
          have hupa := (hup.below hbi).alloc o4
          have hga := (heap_alloc_old wr o4 (lt_of_block hg1)).trans hg1
          have hsz2 := hbi.size
          have hbb : Below w1.heap.size w1 (wr.alloc o4) := (hbel.trans (hbi.mono hlo)).alloc (by omega) _
          have tl := Lib.hid (tabK_len (sumP n) n x)
          rw [ho4] at h1a hra hupa hga hbb
          rw [ho4] at h2a
          clear h2v hup hrows ho4
          go_wp2_with (first
            | (at_builtin; refine wpList_append_own _ rfl _ _ 23 rfl w1.heap.size 22 i1 (.slice none 0 0) 1 24 Try.underlying23 hi1 hy0 hy1 hy2 rfl (by decide) _ _ _ rfl h1a ⟨wr.heap.size, 0, none⟩ 1 1 [.slice ra (lstTo (sumP n x) n).length rc] rfl rfl (cell_one_new _ _ _) (fun x hx => by simp at hx; subst hx; rfl) (by have := tl.out; unfold maxLen; omega) (by have := tl.out; omega) (by simp; omega) ?_; intro v' w5 hown1 hgrow _; have hg5 := grown_keep hgrow h1a hga (by decide); have hr5 := RowsAt.push h1a h2a.out hra hown1 hgrow; obtain ⟨e0, e1⟩ := bx_cells hg5; have ff := frozen_of_row w5 _ 1 _ _ hg5; obtain ⟨nb, nc, rfl, _⟩ := hr5.rd))
          have hup5 := World.ownsRow.kept hupa hgrow (own_types hupa h1a (by decide))
          have hb5 : Below w1.heap.size w1 w5 := hbb.grown hgrow (by simp; omega) (fun q hq => (World.ownsRow.lt h1a q hq).1)
          rw [show (tabK (sumP n) n x ++ [lstTo (sumP n x) n]).length = (tabK (sumP n) n x).length + 1 by simp, ← tabK_succ (sumP n) n x x0] at hr5
          have ho : ∀ k, k ≠ g → (w5.setCell ⟨g, 1, none⟩ (.slice nb ((tabK (sumP n) n x).length + 1) nc)).heap[k]? = w5.heap[k]? := fun k hk => heap_setCell_other w5 _ k _ hk
          refine ⟨⟨x + 1, by omega, by omega, rfl, ⟨.slice nb ((tabK (sumP n) n x).length + 1) nc, ?_, RowsAt.other hr5 hg5 (by decide) (by decide) ho⟩, ownsRow_other hup5 hg5 (by decide) ho, hb5.setCell (by simp; omega) _⟩, by simp [intOf]; omega⟩
          rw [setCell_eq_setRow w5 _ _ _ _ _ _ hg5, setRow_heap w5 _ _ _ _ _ hg5]
          rfl
    · have e : x = n := by omega
      rw [e] at hrows hxg
      have hz := Kz.out _ hbel
      go_wp2_with (first
        | (refine wpList_load_row_w rfl 28 _ rfl g rfl _ _ _ _ hxg Try.underlying28 rfl (size_Alg _ _) ?_)
        | (refine wpList_store_row rfl 28 _ _ rfl w.heap.size #[.slice ua (chainTo n n).length uc, .slice tb (tabK (sumP n) n n).length tc] rfl rfl _ _ hz (size_Alg _ _) rfl (one_sl2 _ _ _ _ _ _) ?_))
      refine bodyPost_ret (results_cell_row rfl _ _ w.heap.size _ _ _ _ rfl (setRow_heap _ _ _ _ _ _ hz) Try.underlying28 rfl (size_Alg _ _)) rfl ?_
      have hr6 := RowsAt.other hrows hz (by decide) (by decide) (fun k hk => setRow_other wr w.heap.size k #[.slice ua (chainTo n n).length uc, .slice tb (tabK (sumP n) n n).length tc] hk)
      have hu6 := ownsRow_other hup hz (by decide) (fun k hk => setRow_other wr w.heap.size k #[.slice ua (chainTo n n).length uc, .slice tb (tabK (sumP n) n n).length tc] hk)
      exact ⟨ua, uc, tb, tc, rfl, ownsRow_from hu6 hB.size, RowsAt.from hr6 hB.size, below_setRow' (hB.trans (hbel.mono hB.size)) (Nat.le_refl _) _⟩

/-- such an algebra and true -/
def RetRdY (L : List Int) (T : List (List Int)) (w : World) (e : Ending) (w' : World) : Prop :=
  ∃ a ca b cb, e = .returned (.tuple #[.agg #[.slice a L.length ca, .slice b T.length cb], .bool true]) ∧ Own w.heap.size w' (.slice a L.length ca) L ∧ RowsAt w.heap.size w' (.slice b T.length cb) T ∧ Below w.heap.size w w'
set_option maxRecDepth 100000 in
set_option maxHeartbeats 1000000 in
/-- spec.SumChain -/
theorem specSumChain_yes (n : Int) (w : World) (n1 : 1 ≤ n) (n6 : n ≤ 6) : Calls Try.prog 44 #[.int .i64 n] w (RetRdY (chainTo n n) (tabL (sumP n) n) w) := by
  have hin : (decide (1 ≤ n) && decide (n ≤ 6)) = true := by rw [decide_eq_true n1, decide_eq_true n6]; rfl
  obtain ⟨w1, hw1⟩ : ∃ w1, w1 = w.alloc (.cells #[.slice none 0 0, .slice none 0 0] 28) := ⟨_, rfl⟩
  have hB : Below w.heap.size w w1 := by rw [hw1]; exact (Below.refl _ _).alloc (Nat.le_refl _) _
  have hz : w1.heap[w.heap.size]? = some (.cells #[.slice none 0 0, .slice none 0 0] 28 (0, 0)) := by rw [hw1]; exact heap_alloc_new w _
  go_enter Try.func44, Try.ntmps44
  go_wp2_with (first
    | (rw [← hw1]; clear hw1)
    | (go_at_call 60; refine (inRange_any _ _ _ _).mono ?_; rintro e w' ⟨rfl, rfl⟩)
    | (go_at_call 80; refine (specSum_any n _ n1 n6).mono ?_; rintro e w2 ⟨a, ca, b, cb, rfl, ho, hr, hb2⟩; have hz2 := (hb2.block _ (lt_of_block hz)).trans hz)
    | (refine wpList_store_row rfl 28 _ _ rfl w.heap.size #[.slice a (chainTo n n).length ca, .slice b (tabL (sumP n) n).length cb] rfl rfl _ _ hz2 (size_Alg _ _) rfl (one_sl2 _ _ _ _ _ _) ?_))
  refine bodyPost_ret (v := .tuple #[.agg #[.slice a (chainTo n n).length ca, .slice b (tabL (sumP n) n).length cb], .bool true]) (results_Alg_tmp rfl _ _ w.heap.size rfl _ _ (setRow_heap _ _ _ _ _ _ hz2) rfl) rfl ?_
  have hk : ∀ k, k ≠ w.heap.size → (w2.setRow w.heap.size #[.slice a (chainTo n n).length ca, .slice b (tabL (sumP n) n).length cb]).heap[k]? = w2.heap[k]? := fun k hk => setRow_other w2 _ k _ hk
  exact ⟨a, ca, b, cb, rfl, ownsRow_from (ownsRow_other ho hz2 (by decide) hk) hB.size, RowsAt.from (RowsAt.other hr hz2 (by decide) (by decide) hk) hB.size, below_setRow' (hB.trans (hb2.mono hB.size)) (Nat.le_refl _) _⟩
set_option maxRecDepth 100000 in
set_option maxHeartbeats 1000000 in
theorem specSumChain_no (n : Int) (w : World) (h : ¬ (1 ≤ n ∧ n ≤ 6)) : Calls Try.prog 44 #[.int .i64 n] w (RetNo w) := by
  have hin : (decide (1 ≤ n) && decide (n ≤ 6)) = false := by
    rw [Bool.eq_false_iff, Ne, Bool.and_eq_true, decide_eq_true_eq, decide_eq_true_eq]; exact h
  obtain ⟨w1, hw1⟩ : ∃ w1, w1 = w.alloc (.cells #[.slice none 0 0, .slice none 0 0] 28) := ⟨_, rfl⟩
  have hB : Below w.heap.size w w1 := by rw [hw1]; exact (Below.refl _ _).alloc (Nat.le_refl _) _
  have hz : w1.heap[w.heap.size]? = some (.cells #[.slice none 0 0, .slice none 0 0] 28 (0, 0)) := by rw [hw1]; exact heap_alloc_new w _
  clear h
  go_enter Try.func44, Try.ntmps44
  go_wp2_with (first
    | (rw [← hw1]; clear hw1)
    | (go_at_call 60; refine (inRange_any _ _ _ _).mono ?_; rintro e w' ⟨rfl, rfl⟩)
    | (refine wpList_store_row rfl 28 _ _ rfl w.heap.size #[.slice none 0 0, .slice none 0 0] rfl rfl _ _ hz (size_Alg _ _) rfl (one_sl2 _ _ _ _ _ _) ?_))
  exact bodyPost_ret (v := .tuple #[.agg #[.slice none 0 0, .slice none 0 0], .bool false]) (results_Alg_tmp rfl _ _ w.heap.size rfl _ _ (setRow_heap _ _ _ _ _ _ hz) rfl) rfl ⟨rfl, below_setRow' hB (Nat.le_refl _) _⟩
end Go.Proofs.Ytpfnfglaokiipab

namespace Go.Proofs.Ytpfnfglaokiipab
open Go.RowKit

/-- the lengths of the first rows -/
def cum (T : List (List Int)) : Nat → Int
  | 0 => 0
  | j + 1 => cum T j + (rowAt T j).length
theorem cum_le (T : List (List Int)) (hm : ∀ j : Nat, j < T.length → (rowAt T j).length ≤ 1048576) : ∀ j : Nat, j ≤ T.length → 0 ≤ cum T j ∧ cum T j ≤ j * 1048576
  | 0, _ => by simp [cum]
  | j + 1, h => by
    have h1 := cum_le T hm j (by omega)
    have h2 := hm j (by omega)
    simp only [cum]
    omega
set_option maxRecDepth 100000 in
set_option maxHeartbeats 1000000 in
/-- laws.markIntSS of a table of the call's own, mark by mark -/
theorem markIntSS_is (lo B : Nat) (R : Nat → Nat) (T : List (List Int)) (k : Int) (w : World) (hown : TabOwn w lo B R T T.length) (hi : Nat) (hR : ∀ j, j < T.length → R j < hi) (k0 : 0 ≤ k) (k1 : k ≤ 1099511627776) (hn : T.length ≤ 1048576) (hm : ∀ j : Nat, j < T.length → (rowAt T j).length ≤ 1048576) :
    Calls Try.prog 70 #[.slice (some ⟨B, 0, none⟩) T.length T.length, .int .i64 k] w fun e w' => e = .returned (.int .i64 (k + cum T T.length)) ∧ (∀ i : Nat, i < T.length → Row w' (R i) (markL (k + cum T i) (rowAt T i).length)) ∧ Mid (B + 1) hi w w' := by
  have HC := Lib.hid (cum_le T hm)
  have HM := Lib.hid hm
  have HO := Lib.hid hown
  have HRR := Lib.hid hR
  clear hm hown hR
  go_enter Try.func70, Try.ntmps70
  go_wp2
  go_loopw [1, 5] (fun m i wr => ∃ j v : Int, 0 ≤ j ∧ j ≤ T.length ∧ i = .int .i64 j ∧ m = .int .i64 v ∧ v = k + cum T j.toNat ∧ (∀ i : Nat, i < j → Row wr (R i) (markL (k + cum T i) (rowAt T i).length)) ∧ (∀ i : Nat, j ≤ i → i < T.length → Row wr (R i) (rowAt T i)) ∧ Mid (B + 1) hi w wr) (fun _ i _ => ((T.length : Int) - intOf i).toNat)
  case atStart => exact ⟨0, k, by omega, by omega, rfl, rfl, by simp [cum], fun i hi => absurd hi (by omega), fun i _ hi => HO.out.row i hi, Mid.refl _ _ _⟩
  case round =>
    obtain ⟨j, v, j0, j1, rfl, rfl, hv, hmk, hrows, hg⟩ := hrel
    by_cases hj : j < T.length
    · have hrow := hrows j.toNat (by omega) (by omega)
      have hm2 := HM.out j.toNat (by omega)
      have hup := HO.out.up j.toNat (by omega)
      have hlt := HRR.out j.toNat (by omega)
      have hcu := HC.out j.toNat (by omega)
      have hcs := Lib.hid (show cum T (j.toNat + 1) = cum T j.toNat + (rowAt T j.toNat).length from rfl)
      rw [Int.toNat_of_nonneg j0] at hrow hm2 hcs
      have c0 : wr.cell? ⟨B, j.toNat, none⟩ = some (.slice (some ⟨R j.toNat, 0, none⟩) (rowAt T j).length (rowAt T j).length) := by
        have ht := (hg.block B HO.out.lt (.inl (by omega))).trans HO.out.top
        rw [cell_of_row wr B _ _ _ _ ht, slTo_get _ _ _ _ (by omega), if_pos (by omega), Int.toNat_of_nonneg j0]
      have HR := Lib.hid hrows
      have HK := Lib.hid hmk
      have HV := Lib.hid hv
      have v0 : 0 ≤ v := by omega
      have v1 : v ≤ 4611686018427387904 - 1048576 := by omega
      clear hrows hmk hv hcu
      go_wp2_with fail
      refine (markRow_any _ _ v wr hrow (by omega) (by omega) (by omega)).mono ?_
      rintro e w5 ⟨rfl, hr5, hm5⟩
      go_wp2
      go_roundw
      case rel =>
        refine ⟨j + 1, v + (rowAt T j).length, by omega, by omega, rfl, rfl, ?_, fun i hi => ?_, fun i hi hi2 => ?_, hg.trans (hm5.wide (by omega) (by omega))⟩
        · rw [show (j + 1).toNat = j.toNat + 1 by omega, hcs.out, HV.out]; omega
        · by_cases e : (i : Int) = j
          · have ei : i = j.toNat := by omega
            have := HV.out
            rw [← ei] at this hr5
            rw [e, ← this]; exact hr5
          · refine (HK.out i (by omega)).mid hm5 (.inl ?_)
            exact HO.out.inc i j.toNat (by omega) (by omega)
        · refine (HR.out i (by omega) hi2).mid hm5 (.inr ?_)
          have := HO.out.inc j.toNat i (by omega) hi2
          omega
      case measure => simp [intOf]; omega
    · have e : j.toNat = T.length := by omega
      rw [e] at hv
      have HV := Lib.hid hv
      have HK := Lib.hid hmk
      clear hv hmk hrows
      go_wp2
      go_ret
      exact ⟨by rw [← HV.out]; rfl, fun i hi => HK.out i (by omega), hg⟩
/-- an algebra of the call's own, marked -/
structure Marked (w : World) (bu B : Nat) (R : Nat → Nat) (L : List Int) (T : List (List Int)) (k : Int) : Prop where
  row : Row w bu (markL k L.length)
  top : w.heap[B]? = some (.cells (slTo R T T.length) 22 (0, 0))
  rows : ∀ i : Nat, i < T.length → Row w (R i) (markL (k + L.length + cum T i) (rowAt T i).length)
theorem Marked.below {w w' : World} {bu B : Nat} {R : Nat → Nat} {L : List Int} {T : List (List Int)} {k : Int} (h : Marked w bu B R L T k) (hb : Below w.heap.size w w') : Marked w' bu B R L T k :=
  ⟨h.row.below hb h.row.lt, (hb.block _ (lt_of_block h.top)).trans h.top, fun i hi => (h.rows i hi).below hb (h.rows i hi).lt⟩
set_option maxRecDepth 100000 in
set_option maxHeartbeats 1000000 in
/-- laws.markAlgebra of an algebra of the call's own, mark by mark -/
theorem markAlgebra_is (bu lo B : Nat) (R : Nat → Nat) (L : List Int) (T : List (List Int)) (k : Int) (w : World) (hrow : Row w bu L) (hb : bu < B) (hown : TabOwn w lo B R T T.length) (hi : Nat) (hR : ∀ j, j < T.length → R j < hi) (hbi : bu < hi) (k0 : 0 ≤ k) (k1 : k ≤ 1073741824) (hL : L.length ≤ 1048576) (hn : T.length ≤ 1048576) (hm : ∀ j : Nat, j < T.length → (rowAt T j).length ≤ 1048576) :
    Calls Try.prog 35 #[.agg #[.slice (some ⟨bu, 0, none⟩) L.length L.length, .slice (some ⟨B, 0, none⟩) T.length T.length], .int .i64 k] w fun e w' => e = .returned (.int .i64 (k + L.length + cum T T.length)) ∧ Marked w' bu B R L T k ∧ Mid bu hi w w' := by
  obtain ⟨w1, hw1⟩ : ∃ w1, w1 = w.alloc (.cells #[.slice (some ⟨bu, 0, none⟩) L.length L.length, .slice (some ⟨B, 0, none⟩) T.length T.length] 28) := ⟨_, rfl⟩
  have hB : Below w.heap.size w w1 := by rw [hw1]; exact (Below.refl _ _).alloc (Nat.le_refl _) _
  have hx : w1.heap[w.heap.size]? = some (.cells #[.slice (some ⟨bu, 0, none⟩) L.length L.length, .slice (some ⟨B, 0, none⟩) T.length T.length] 28 (0, 0)) := by rw [hw1]; exact heap_alloc_new w _
  obtain ⟨c0, c1⟩ := bx_cells hx
  have row1 := hrow.below hB hrow.lt
  have own1 := hown.below hB
  have hlt := hrow.lt
  have hltB := hown.lt
  have HM := Lib.hid hm
  clear hm hrow hown
  go_enter Try.func35, Try.ntmps35
  go_wp2_with (rw [← hw1]; clear hw1)
  refine (markRow_any bu L k w1 row1 k0 (by omega) (by omega)).mono ?_
  rintro e w2 ⟨rfl, row2, m2⟩
  have hx2 := (m2.block _ (lt_of_block hx) (.inr (by omega))).trans hx
  have own2 : TabOwn w2 lo B R T T.length := ⟨(m2.block _ own1.lt (.inr (by omega))).trans own1.top, own1.lo, fun j hj => (own1.row j hj).mid m2 (.inr (by have := own1.up j hj; omega)), own1.up, own1.inc⟩
  obtain ⟨d0, d1⟩ := bx_cells hx2
  go_wp2_with fail
  refine (markIntSS_is lo B R T _ w2 own2 hi hR (by omega) (by omega) hn HM.out).mono ?_
  rintro e w3 ⟨rfl, rows3, m3⟩
  have R3 := Lib.hid rows3
  clear rows3
  go_wp2
  go_ret
  have hs2 := m2.size
  have hs1 := hB.size
  have hs3 := m3.size
  refine ⟨rfl, ⟨row2.mid m3 (.inl (by omega)), (m3.block B own2.lt (.inl (by omega))).trans own2.top, R3.out⟩, m3.os.trans (m2.os.trans hB.os), m3.tape.trans (m2.tape.trans hB.tape), m3.output.trans (m2.output.trans hB.output), by omega, fun i hi2 hne => ?_⟩
  exact (m3.block i (by omega) (by omega)).trans ((m2.block i (by omega) (by omega)).trans (hB.block i hi2))
end Go.Proofs.Ytpfnfglaokiipab

namespace Go.Proofs.Ytpfnfglaokiipab
open Go.RowKit

set_option maxRecDepth 100000 in
set_option maxHeartbeats 1000000 in
/-- laws.heldIntSS of a marked table -/
theorem heldIntSS_is (B : Nat) (R : Nat → Nat) (T : List (List Int)) (k : Int) (w : World) (htop : w.heap[B]? = some (.cells (slTo R T T.length) 22 (0, 0))) (hrows : ∀ i : Nat, i < T.length → Row w (R i) (markL (k + cum T i) (rowAt T i).length)) (k0 : 0 ≤ k) (k1 : k ≤ 1048576) (hn : T.length ≤ 16) (hm : ∀ j : Nat, j < T.length → (rowAt T j).length ≤ 16) :
    Calls Try.prog 79 #[.slice (some ⟨B, 0, none⟩) T.length T.length, .int .i64 k] w fun e w' => e = .returned (.int .i64 (k + cum T T.length)) ∧ w = w' := by
  have HC := Lib.hid (cum_le T (fun j hj => by have := hm j hj; omega))
  have HM := Lib.hid hm
  have HT := Lib.hid htop
  have HR := Lib.hid hrows
  clear hm htop hrows
  go_enter Try.func79, Try.ntmps79
  go_wp2
  go_loopw [1, 5] (fun m i wr => ∃ j v : Int, 0 ≤ j ∧ j ≤ T.length ∧ i = .int .i64 j ∧ m = .int .i64 v ∧ v = k + cum T j.toNat ∧ w = wr) (fun _ i _ => ((T.length : Int) - intOf i).toNat)
  case atStart => exact ⟨0, k, by omega, by omega, rfl, rfl, by simp [cum], rfl⟩
  case round =>
    obtain ⟨j, v, j0, j1, rfl, rfl, hv, rfl⟩ := hrel
    by_cases hj : j < T.length
    · have hrow := HR.out j.toNat (by omega)
      have hm2 := HM.out j.toNat (by omega)
      have hcu := HC.out j.toNat (by omega)
      have hcs := Lib.hid (show cum T (j.toNat + 1) = cum T j.toNat + (rowAt T j.toNat).length from rfl)
      have c0 : w.cell? ⟨B, j.toNat, none⟩ = some (.slice (some ⟨R j.toNat, 0, none⟩) (rowAt T j).length (rowAt T j).length) := by
        rw [cell_of_row w B _ _ _ _ HT.out, slTo_get _ _ _ _ (by omega), if_pos (by omega), Int.toNat_of_nonneg j0]
      rw [← hv] at hrow
      rw [Int.toNat_of_nonneg j0] at hrow hm2 hcs
      have HV := Lib.hid hv
      have v0 : 0 ≤ v := by omega
      have v1 : v ≤ 1073741824 := by omega
      have hlt : ¬ v + ((rowAt T j).length : Int) < 0 := by omega
      have HW := Lib.hid hrow
      clear hv hcu hrow
      go_wp2_with fail
      refine (heldIntS_any _ _ _ _ _ HW.out.rd v0 v1 (by omega)).mono ?_
      rintro e w5 ⟨rfl, rfl⟩
      go_wp2
      go_roundw
      case rel => exact ⟨j + 1, v + (rowAt T j).length, by omega, by omega, rfl, rfl, by rw [show (j + 1).toNat = j.toNat + 1 by omega, hcs.out, HV.out]; omega, trivial⟩
      case measure => simp [intOf]; omega
    · have e : j.toNat = T.length := by omega
      rw [e] at hv
      have HV := Lib.hid hv
      clear hv
      go_wp2
      go_ret
      exact ⟨by rw [← HV.out]; rfl, rfl⟩
set_option maxRecDepth 100000 in
set_option maxHeartbeats 1000000 in
/-- laws.heldAlgebra of a marked algebra -/
theorem heldAlgebra_is (bu B : Nat) (R : Nat → Nat) (L : List Int) (T : List (List Int)) (k : Int) (w : World) (hK : Marked w bu B R L T k) (k0 : 0 ≤ k) (k1 : k ≤ 1024) (hL : L.length ≤ 1024) (hn : T.length ≤ 16) (hm : ∀ j : Nat, j < T.length → (rowAt T j).length ≤ 16) :
    Calls Try.prog 43 #[.agg #[.slice (some ⟨bu, 0, none⟩) L.length L.length, .slice (some ⟨B, 0, none⟩) T.length T.length], .int .i64 k] w fun e w' => e = .returned (.int .i64 (k + L.length + cum T T.length)) ∧ Below w.heap.size w w' := by
  obtain ⟨w1, hw1⟩ : ∃ w1, w1 = w.alloc (.cells #[.slice (some ⟨bu, 0, none⟩) L.length L.length, .slice (some ⟨B, 0, none⟩) T.length T.length] 28) := ⟨_, rfl⟩
  have hB : Below w.heap.size w w1 := by rw [hw1]; exact (Below.refl _ _).alloc (Nat.le_refl _) _
  have hx : w1.heap[w.heap.size]? = some (.cells #[.slice (some ⟨bu, 0, none⟩) L.length L.length, .slice (some ⟨B, 0, none⟩) T.length T.length] 28 (0, 0)) := by rw [hw1]; exact heap_alloc_new w _
  obtain ⟨c0, c1⟩ := bx_cells hx
  have K1 := Lib.hid (hK.below hB)
  have HM := Lib.hid hm
  have hcu := (cum_le T (fun j hj => by have := hm j hj; omega) T.length (Nat.le_refl _)).1
  have h1 : ¬ k + (L.length : Int) < 0 := by omega
  have h2 : ¬ k + (L.length : Int) + cum T T.length < 0 := by omega
  clear hm hK hx
  go_enter Try.func43, Try.ntmps43
  go_wp2_with (rw [← hw1]; clear hw1)
  refine (heldIntS_any _ _ _ _ _ K1.out.row.rd k0 (by omega) (by omega)).mono ?_
  rintro e w2 ⟨rfl, rfl⟩
  go_wp2_with fail
  refine (heldIntSS_is B R T _ _ K1.out.top K1.out.rows (by omega) (by omega) hn HM.out).mono ?_
  rintro e w3 ⟨rfl, rfl⟩
  go_wp2
  go_ret
  exact ⟨rfl, hB⟩
end Go.Proofs.Ytpfnfglaokiipab

namespace Go.Proofs.Ytpfnfglaokiipab
open Go.RowKit

theorem sum_rows (n : Int) (n6 : n ≤ 6) : ∀ j : Nat, j < (tabL (sumP n) n).length → (rowAt (tabL (sumP n) n) j).length ≤ 6 := fun j hj => by
  rw [tabL_len] at hj
  rw [tabL_rlen _ hj]; omega
set_option maxRecDepth 100000 in
set_option maxHeartbeats 4000000 in
theorem lawSumChain_yes (n : Int) (w : World) (n1 : 1 ≤ n) (n6 : n ≤ 6) :
    Calls Try.prog 13 #[.int .i64 n] w fun e w' => e = .returned (.bool true) ∧ Below w.heap.size w w' := by
  have l0 := chainTo_len n n (by omega)
  have t0 := tabL_len (sumP n) n
  have m0 := sum_rows n n6
  have HS := Lib.hid (specSumChain_yes n · n1 n6)
  have HI := Lib.hid (implSumChain_yes n · n1 n6)
  obtain ⟨L, hL⟩ : ∃ L, L = chainTo n n := ⟨_, rfl⟩
  obtain ⟨T, hT⟩ : ∃ T, T = tabL (sumP n) n := ⟨_, rfl⟩
  rw [← hT] at t0 m0
  rw [← hL] at l0
  simp only [← hL, ← hT] at HS HI
  have S1 : L.length ≤ 6 := by omega
  have S2 : T.length ≤ 6 := by omega
  have M6 := Lib.hid m0
  have hcu := (cum_le T (fun j hj => by have := m0 j hj; omega) T.length (Nat.le_refl _)).1
  have hq : ¬ (1 : Int) + (L.length : Int) + cum T T.length < 0 := by omega
  have hne : ((1 : Int) + (L.length : Int) + cum T T.length != 1 + (L.length : Int) + cum T T.length) = false := by simp
  clear hL hT t0 m0 l0 hcu
  go_enter Try.func13, Try.ntmps13
  go_wp2_with fail
  refine (HS.out w).mono ?_
  rintro e w2 ⟨a, ca, b, cb, rfl, ho, hr, hb2⟩
  go_wp2_with (first
    | (refine wpList_store_row rfl 28 _ _ rfl w2.heap.size #[.slice a L.length ca, .slice b T.length cb] rfl rfl _ _ (heap_alloc_new w2 (.cells #[.slice none 0 0, .slice none 0 0] 28)) (size_Alg _ _) rfl (one_sl2 _ _ _ _ _ _) ?_; rw [World.setRow_alloc_new]; obtain ⟨g3, hg3⟩ : ∃ g, g = w2.heap.size := ⟨_, rfl⟩; obtain ⟨w3, hw3⟩ : ∃ w3, w3 = w2.alloc (.cells #[.slice a L.length ca, .slice b T.length cb] 28) := ⟨_, rfl⟩; rw [← hw3, ← hg3]; have hx3 : w3.heap[g3]? = some (.cells #[.slice a L.length ca, .slice b T.length cb] 28 (0, 0)) := (by rw [hw3, hg3]; exact heap_alloc_new w2 _); have q3 : Below w2.heap.size w2 w3 := (by rw [hw3]; exact (Below.refl _ _).alloc (Nat.le_refl _) _); have o3 := ho.below q3; have r3 := hr.below q3; have B3 : Below w.heap.size w w3 := hb2.trans (q3.mono hb2.size); clear hw3 hg3 q3 ho hr hb2))
  have K3 := Lib.hid (show ∀ wz, Below w3.heap.size w3 wz → wz.heap[g3]? = some (.cells #[.slice a L.length ca, .slice b T.length cb] 28 (0, 0)) from fun wz h => (h.block _ (lt_of_block hx3)).trans hx3)
  have KA := Lib.hid (show ∀ wz, Below w3.heap.size w3 wz → Rd wz a L from fun wz h => Own.rd (o3.below h))
  have KB := Lib.hid (show ∀ wz, Below w3.heap.size w3 wz → RdT wz b T from fun wz h => by
    obtain ⟨b', c', he, hrd⟩ := (r3.below h).rd
    injection he with he1 _ _
    rw [he1]; exact hrd)
  have hg3 := lt_of_block hx3
  clear o3 r3 hx3
  refine (HI.out w3).mono ?_
  rintro e w4 ⟨bu, B, R, rfl, hbu, hbB, row4, own4, hb4⟩
  have hR4 := Lib.hid (show ∀ j, j < T.length → R j < w4.heap.size from fun j hj => (own4.row j hj).lt)
  have hlb := row4.lt
  go_wp2_with (first
    | (refine wpList_store_row rfl 28 _ _ rfl w4.heap.size #[.slice (some ⟨bu, 0, none⟩) L.length L.length, .slice (some ⟨B, 0, none⟩) T.length T.length] rfl rfl _ _ (heap_alloc_new w4 (.cells #[.slice none 0 0, .slice none 0 0] 28)) (size_Alg _ _) rfl (one_sl2 _ _ _ _ _ _) ?_; rw [World.setRow_alloc_new]; obtain ⟨g5, hg5⟩ : ∃ g, g = w4.heap.size := ⟨_, rfl⟩; obtain ⟨w5, hw5⟩ : ∃ w5, w5 = w4.alloc (.cells #[.slice (some ⟨bu, 0, none⟩) L.length L.length, .slice (some ⟨B, 0, none⟩) T.length T.length] 28) := ⟨_, rfl⟩; rw [← hw5, ← hg5]; have hx5 : w5.heap[g5]? = some (.cells #[.slice (some ⟨bu, 0, none⟩) L.length L.length, .slice (some ⟨B, 0, none⟩) T.length T.length] 28 (0, 0)) := (by rw [hw5, hg5]; exact heap_alloc_new w4 _); have q5 : Below w4.heap.size w4 w5 := (by rw [hw5]; exact (Below.refl _ _).alloc (Nat.le_refl _) _); have row5 := row4.below q5 row4.lt; have own5 := own4.below q5; have z5 : Below w3.heap.size w3 w5 := hb4.trans (q5.mono hb4.size); have hg5l : w4.heap.size ≤ g5 := Nat.le_of_eq hg5.symm; clear hw5 hg5 q5 row4 own4)
    | (refine wpList_load_row_w rfl 28 _ rfl g5 rfl _ _ _ _ hx5 Try.underlying28 rfl (size_Alg _ _) ?_)
    | (refine wpList_load_row_w rfl 28 _ rfl g3 rfl _ _ _ _ (K3.out _ z5) Try.underlying28 rfl (size_Alg _ _) ?_))
  refine (eqAlgebra_same _ _ _ _ _ _ _ _ L T _ row5.rd (KA.out _ z5) own5.rd (KB.out _ z5) (by omega) (fun j hj => by have := M6.out j hj; omega) (by omega)).mono ?_
  rintro e w6 ⟨rfl, hb6⟩
  have z6 : Below w3.heap.size w3 w6 := z5.trans (hb6.mono z5.size)
  have hx6 := (hb6.block _ (lt_of_block hx5)).trans hx5
  have row6 := row5.below hb6 row5.lt
  have own6 := own5.below hb6
  clear hx5 row5 own5 z5 hb6
  go_wp2_with (first
    | go_skip
    | (refine wpList_load_row_w rfl 28 _ rfl g5 rfl _ _ _ _ hx6 Try.underlying28 rfl (size_Alg _ _) ?_))
  refine (markAlgebra_is bu _ B R L T 1 _ row6 hbB own6 w4.heap.size hR4.out hlb (by omega) (by omega) (by omega) (by omega) (fun j hj => by have := M6.out j hj; omega)).mono ?_
  rintro e w7 ⟨rfl, hK7, m7⟩
  have z7 : Below w3.heap.size w3 w7 := z6.trans (m7.below hbu z6.size)
  have hx7 := (m7.block _ (lt_of_block hx6) (.inr hg5l)).trans hx6
  have K5 := Lib.hid (show ∀ wz, Below w7.heap.size w7 wz → wz.heap[g5]? = some (.cells #[.slice (some ⟨bu, 0, none⟩) L.length L.length, .slice (some ⟨B, 0, none⟩) T.length T.length] 28 (0, 0)) from fun wz h => (h.block _ (lt_of_block hx7)).trans hx7)
  have KM := Lib.hid (show ∀ wz, Below w7.heap.size w7 wz → Marked wz bu B R L T 1 from fun wz h => hK7.below h)
  have y7 : Below w7.heap.size w7 w7 := Below.refl _ _
  clear hx7 hx6 hK7 m7 z6 row6 own6 hR4
  go_wp2_with (refine wpList_load_row_w rfl 28 _ rfl g5 rfl _ _ _ _ (K5.out _ (by assumption)) Try.underlying28 rfl (size_Alg _ _) ?_)
  refine (heldAlgebra_is bu B R L T 1 _ (KM.out _ y7) (by omega) (by omega) (by omega) (by omega) (fun j hj => by have := M6.out j hj; omega)).mono ?_
  rintro e w8 ⟨rfl, hb8⟩
  have z8 := z7.trans (hb8.mono z7.size)
  have y8 : Below w7.heap.size w7 w8 := hb8
  clear y7 z7 hb8
  go_wp2_with fail
  refine (HI.out w8).mono ?_
  rintro e w9 ⟨bu9, B9, R9, rfl, _, _, row9, own9, hb9⟩
  have z9 := z8.trans (hb9.mono z8.size)
  have y9 := y8.trans (hb9.mono y8.size)
  clear z8 y8 hb9
  go_wp2_with (first
    | (refine wpList_store_row rfl 28 _ _ rfl w9.heap.size #[.slice (some ⟨bu9, 0, none⟩) L.length L.length, .slice (some ⟨B9, 0, none⟩) T.length T.length] rfl rfl _ _ (heap_alloc_new w9 (.cells #[.slice none 0 0, .slice none 0 0] 28)) (size_Alg _ _) rfl (one_sl2 _ _ _ _ _ _) ?_; rw [World.setRow_alloc_new]; obtain ⟨g9, hg9⟩ : ∃ g, g = w9.heap.size := ⟨_, rfl⟩; obtain ⟨w10, hw10⟩ : ∃ w10, w10 = w9.alloc (.cells #[.slice (some ⟨bu9, 0, none⟩) L.length L.length, .slice (some ⟨B9, 0, none⟩) T.length T.length] 28) := ⟨_, rfl⟩; rw [← hw10, ← hg9]; have hx10 : w10.heap[g9]? = some (.cells #[.slice (some ⟨bu9, 0, none⟩) L.length L.length, .slice (some ⟨B9, 0, none⟩) T.length T.length] 28 (0, 0)) := (by rw [hw10, hg9]; exact heap_alloc_new w9 _); have q10 : Below w9.heap.size w9 w10 := (by rw [hw10]; exact (Below.refl _ _).alloc (Nat.le_refl _) _); have row10 := row9.below q10 row9.lt; have own10 := own9.below q10; have z10 := z9.trans (q10.mono z9.size); have y10 := y9.trans (q10.mono y9.size); clear hw10 hg9 q10 row9 own9 z9 y9)
    | (refine wpList_load_row_w rfl 28 _ rfl g9 rfl _ _ _ _ hx10 Try.underlying28 rfl (size_Alg _ _) ?_)
    | (refine wpList_load_row_w rfl 28 _ rfl g3 rfl _ _ _ _ (K3.out _ z10) Try.underlying28 rfl (size_Alg _ _) ?_))
  refine (eqAlgebra_same _ _ _ _ _ _ _ _ L T _ row10.rd (KA.out _ z10) own10.rd (KB.out _ z10) (by omega) (fun j hj => by have := M6.out j hj; omega) (by omega)).mono ?_
  rintro e w11 ⟨rfl, hb11⟩
  have z11 := z10.trans (hb11.mono z10.size)
  have y11 := y10.trans (hb11.mono y10.size)
  clear hx10 row10 own10 z10 y10 hb11
  go_wp2_with (first
    | go_skip
    | (refine wpList_load_row_w rfl 28 _ rfl g5 rfl _ _ _ _ (K5.out _ y11) Try.underlying28 rfl (size_Alg _ _) ?_))
  refine (heldAlgebra_is bu B R L T 1 _ (KM.out _ y11) (by omega) (by omega) (by omega) (by omega) (fun j hj => by have := M6.out j hj; omega)).mono ?_
  rintro e w12 ⟨rfl, hb12⟩
  go_wp2
  go_ret
  exact ⟨rfl, (B3.trans (z11.mono B3.size)).trans (hb12.mono (B3.trans (z11.mono B3.size)).size)⟩
set_option maxRecDepth 100000 in
theorem markIntS_nil (k : Int) (w : World) : Calls Try.prog 36 #[.slice none 0 0, .int .i64 k] w fun e w' => e = .returned (.int .i64 k) ∧ w = w' := by
  go_enter Try.func36, Try.ntmps36
  go_wp2
  go_loopw [1, 5] (fun m i wr => i = .int .i64 0 ∧ m = .int .i64 k ∧ w = wr) (fun _ _ _ => 0)
  case atStart => exact ⟨rfl, rfl, rfl⟩
  case round =>
    obtain ⟨rfl, rfl, rfl⟩ := hrel
    go_wp2
    go_ret
    exact ⟨rfl, rfl⟩
set_option maxRecDepth 100000 in
theorem markIntSS_nil (k : Int) (w : World) : Calls Try.prog 70 #[.slice none 0 0, .int .i64 k] w fun e w' => e = .returned (.int .i64 k) ∧ w = w' := by
  go_enter Try.func70, Try.ntmps70
  go_wp2
  go_loopw [1, 5] (fun m i wr => i = .int .i64 0 ∧ m = .int .i64 k ∧ w = wr) (fun _ _ _ => 0)
  case atStart => exact ⟨rfl, rfl, rfl⟩
  case round =>
    obtain ⟨rfl, rfl, rfl⟩ := hrel
    go_wp2
    go_ret
    exact ⟨rfl, rfl⟩
set_option maxRecDepth 100000 in
theorem heldIntSS_nil (k : Int) (w : World) : Calls Try.prog 79 #[.slice none 0 0, .int .i64 k] w fun e w' => e = .returned (.int .i64 k) ∧ w = w' := by
  go_enter Try.func79, Try.ntmps79
  go_wp2
  go_loopw [1, 5] (fun m i wr => i = .int .i64 0 ∧ m = .int .i64 k ∧ w = wr) (fun _ _ _ => 0)
  case atStart => exact ⟨rfl, rfl, rfl⟩
  case round =>
    obtain ⟨rfl, rfl, rfl⟩ := hrel
    go_wp2
    go_ret
    exact ⟨rfl, rfl⟩
set_option maxRecDepth 100000 in
theorem heldIntS_nil (k : Int) (w : World) : Calls Try.prog 37 #[.slice none 0 0, .int .i64 k] w fun e w' => e = .returned (.int .i64 k) ∧ w = w' := by
  go_enter Try.func37, Try.ntmps37
  go_wp2
  go_loopw [1, 5] (fun m i wr => i = .int .i64 0 ∧ m = .int .i64 k ∧ w = wr) (fun _ _ _ => 0)
  case atStart => exact ⟨rfl, rfl, rfl⟩
  case round =>
    obtain ⟨rfl, rfl, rfl⟩ := hrel
    go_wp2
    go_ret
    exact ⟨rfl, rfl⟩
set_option maxRecDepth 100000 in
theorem markAlgebra_nil (k : Int) (w : World) (_ : ¬ k < 0) : Calls Try.prog 35 #[.agg #[.slice none 0 0, .slice none 0 0], .int .i64 k] w fun e w' => e = .returned (.int .i64 k) ∧ Below w.heap.size w w' := by
  obtain ⟨w1, hw1⟩ : ∃ w1, w1 = w.alloc (.cells #[.slice none 0 0, .slice none 0 0] 28) := ⟨_, rfl⟩
  have hB : Below w.heap.size w w1 := by rw [hw1]; exact (Below.refl _ _).alloc (Nat.le_refl _) _
  have hx : w1.heap[w.heap.size]? = some (.cells #[.slice none 0 0, .slice none 0 0] 28 (0, 0)) := by rw [hw1]; exact heap_alloc_new w _
  obtain ⟨c0, c1⟩ := bx_cells hx
  clear hx
  go_enter Try.func35, Try.ntmps35
  go_wp2_with (first
    | (rw [← hw1]; clear hw1)
    | (go_at_call 36; refine (markIntS_nil k _).mono ?_; rintro e w2 ⟨rfl, rfl⟩)
    | (go_at_call 70; refine (markIntSS_nil k _).mono ?_; rintro e w2 ⟨rfl, rfl⟩))
  go_ret
  exact ⟨rfl, hB⟩
set_option maxRecDepth 100000 in
theorem heldAlgebra_nil (k : Int) (w : World) (k0 : ¬ k < 0) : Calls Try.prog 43 #[.agg #[.slice none 0 0, .slice none 0 0], .int .i64 k] w fun e w' => e = .returned (.int .i64 k) ∧ Below w.heap.size w w' := by
  obtain ⟨w1, hw1⟩ : ∃ w1, w1 = w.alloc (.cells #[.slice none 0 0, .slice none 0 0] 28) := ⟨_, rfl⟩
  have hB : Below w.heap.size w w1 := by rw [hw1]; exact (Below.refl _ _).alloc (Nat.le_refl _) _
  have hx : w1.heap[w.heap.size]? = some (.cells #[.slice none 0 0, .slice none 0 0] 28 (0, 0)) := by rw [hw1]; exact heap_alloc_new w _
  obtain ⟨c0, c1⟩ := bx_cells hx
  clear hx
  go_enter Try.func43, Try.ntmps43
  go_wp2_with (first
    | (rw [← hw1]; clear hw1)
    | (go_at_call 37; refine (heldIntS_nil k _).mono ?_; rintro e w2 ⟨rfl, rfl⟩)
    | (go_at_call 79; refine (heldIntSS_nil k _).mono ?_; rintro e w2 ⟨rfl, rfl⟩))
  go_ret
  exact ⟨rfl, hB⟩
set_option maxRecDepth 100000 in
set_option maxHeartbeats 4000000 in
theorem lawSumChain_no (n : Int) (w : World) (h : ¬ (1 ≤ n ∧ n ≤ 6)) :
    Calls Try.prog 13 #[.int .i64 n] w fun e w' => e = .returned (.bool true) ∧ Below w.heap.size w w' := by
  have HS := Lib.hid (specSumChain_no n · h)
  have HI := Lib.hid (implSumChain_no n · h)
  clear h
  have NR : ∀ w : World, Rd w none [] := fun w h => absurd rfl h
  have NT : ∀ w : World, RdT w none [] := fun w h => absurd rfl h
  go_enter Try.func13, Try.ntmps13
  go_wp2_with fail
  refine (HS.out w).mono ?_
  rintro e w2 ⟨rfl, hb2⟩
  go_wp2_with (first
    | (refine wpList_store_row rfl 28 _ _ rfl w2.heap.size #[.slice none 0 0, .slice none 0 0] rfl rfl _ _ (heap_alloc_new w2 (.cells #[.slice none 0 0, .slice none 0 0] 28)) (size_Alg _ _) rfl (one_sl2 _ _ _ _ _ _) ?_; rw [World.setRow_alloc_new]; obtain ⟨g3, hg3⟩ : ∃ g, g = w2.heap.size := ⟨_, rfl⟩; obtain ⟨w3, hw3⟩ : ∃ x, x = w2.alloc (.cells #[.slice none 0 0, .slice none 0 0] 28) := ⟨_, rfl⟩; rw [← hw3, ← hg3]; have xg3 : w3.heap[g3]? = some (.cells #[.slice none 0 0, .slice none 0 0] 28 (0, 0)) := (by rw [hw3, hg3]; exact heap_alloc_new w2 _); have bw3 : Below w.heap.size w w3 := (by rw [hw3]; exact hb2.alloc hb2.size _); have qw3 : Below w2.heap.size w2 w3 := (by rw [hw3]; exact (Below.refl _ _).alloc (Nat.le_refl _) _); clear hw3 hg3))
  refine (HI.out w3).mono ?_
  rintro e w4 ⟨rfl, hb4⟩
  have z4 := bw3.trans (hb4.mono bw3.size)
  replace xg3 := (hb4.block _ (lt_of_block xg3)).trans xg3
  go_wp2_with (first
    | (refine wpList_store_row rfl 28 _ _ rfl w4.heap.size #[.slice none 0 0, .slice none 0 0] rfl rfl _ _ (heap_alloc_new w4 (.cells #[.slice none 0 0, .slice none 0 0] 28)) (size_Alg _ _) rfl (one_sl2 _ _ _ _ _ _) ?_; rw [World.setRow_alloc_new]; obtain ⟨g5, hg5⟩ : ∃ g, g = w4.heap.size := ⟨_, rfl⟩; obtain ⟨w5, hw5⟩ : ∃ x, x = w4.alloc (.cells #[.slice none 0 0, .slice none 0 0] 28) := ⟨_, rfl⟩; rw [← hw5, ← hg5]; have xg5 : w5.heap[g5]? = some (.cells #[.slice none 0 0, .slice none 0 0] 28 (0, 0)) := (by rw [hw5, hg5]; exact heap_alloc_new w4 _); have bw5 : Below w.heap.size w w5 := (by rw [hw5]; exact z4.alloc z4.size _); have qw5 : Below w4.heap.size w4 w5 := (by rw [hw5]; exact (Below.refl _ _).alloc (Nat.le_refl _) _); clear hw5 hg5; replace xg3 := (qw5.block _ (lt_of_block xg3)).trans xg3)
    | (refine wpList_load_row_w rfl 28 _ rfl g5 rfl _ _ _ _ xg5 Try.underlying28 rfl (size_Alg _ _) ?_)
    | (refine wpList_load_row_w rfl 28 _ rfl g3 rfl _ _ _ _ xg3 Try.underlying28 rfl (size_Alg _ _) ?_))
  refine (eqAlgebra_same none none none none 0 0 0 0 [] [] _ (NR _) (NR _) (NT _) (NT _) (by simp) (fun j hj => absurd hj (by simp)) (by simp)).mono ?_
  rintro e w6 ⟨rfl, hb6⟩
  have z6 := bw5.trans (hb6.mono bw5.size)
  replace xg3 := (hb6.block _ (lt_of_block xg3)).trans xg3
  replace xg5 := (hb6.block _ (lt_of_block xg5)).trans xg5
  go_wp2_with (first | go_skip | (refine wpList_load_row_w rfl 28 _ rfl g5 rfl _ _ _ _ xg5 Try.underlying28 rfl (size_Alg _ _) ?_))
  refine (markAlgebra_nil 1 _ (by omega)).mono ?_
  rintro e w7 ⟨rfl, hb7⟩
  have z7 := z6.trans (hb7.mono z6.size)
  replace xg3 := (hb7.block _ (lt_of_block xg3)).trans xg3
  replace xg5 := (hb7.block _ (lt_of_block xg5)).trans xg5
  go_wp2_with (first | go_skip | (refine wpList_load_row_w rfl 28 _ rfl g5 rfl _ _ _ _ xg5 Try.underlying28 rfl (size_Alg _ _) ?_))
  refine (heldAlgebra_nil 1 _ (by omega)).mono ?_
  rintro e w8 ⟨rfl, hb8⟩
  have z8 := z7.trans (hb8.mono z7.size)
  replace xg3 := (hb8.block _ (lt_of_block xg3)).trans xg3
  replace xg5 := (hb8.block _ (lt_of_block xg5)).trans xg5
  go_wp2_with fail
  refine (HI.out w8).mono ?_
  rintro e w9 ⟨rfl, hb9⟩
  have z9 := z8.trans (hb9.mono z8.size)
  replace xg3 := (hb9.block _ (lt_of_block xg3)).trans xg3
  replace xg5 := (hb9.block _ (lt_of_block xg5)).trans xg5
  go_wp2_with (first
    | (refine wpList_store_row rfl 28 _ _ rfl w9.heap.size #[.slice none 0 0, .slice none 0 0] rfl rfl _ _ (heap_alloc_new w9 (.cells #[.slice none 0 0, .slice none 0 0] 28)) (size_Alg _ _) rfl (one_sl2 _ _ _ _ _ _) ?_; rw [World.setRow_alloc_new]; obtain ⟨g9, hg9⟩ : ∃ g, g = w9.heap.size := ⟨_, rfl⟩; obtain ⟨w10, hw10⟩ : ∃ x, x = w9.alloc (.cells #[.slice none 0 0, .slice none 0 0] 28) := ⟨_, rfl⟩; rw [← hw10, ← hg9]; have xg9 : w10.heap[g9]? = some (.cells #[.slice none 0 0, .slice none 0 0] 28 (0, 0)) := (by rw [hw10, hg9]; exact heap_alloc_new w9 _); have bw10 : Below w.heap.size w w10 := (by rw [hw10]; exact z9.alloc z9.size _); have qw10 : Below w9.heap.size w9 w10 := (by rw [hw10]; exact (Below.refl _ _).alloc (Nat.le_refl _) _); clear hw10 hg9; replace xg3 := (qw10.block _ (lt_of_block xg3)).trans xg3; replace xg5 := (qw10.block _ (lt_of_block xg5)).trans xg5)
    | (refine wpList_load_row_w rfl 28 _ rfl g9 rfl _ _ _ _ xg9 Try.underlying28 rfl (size_Alg _ _) ?_)
    | (refine wpList_load_row_w rfl 28 _ rfl g3 rfl _ _ _ _ xg3 Try.underlying28 rfl (size_Alg _ _) ?_))
  refine (eqAlgebra_same none none none none 0 0 0 0 [] [] _ (NR _) (NR _) (NT _) (NT _) (by simp) (fun j hj => absurd hj (by simp)) (by simp)).mono ?_
  rintro e w11 ⟨rfl, hb11⟩
  have z11 := bw10.trans (hb11.mono bw10.size)
  replace xg5 := (hb11.block _ (lt_of_block xg5)).trans xg5
  go_wp2_with (first | go_skip | (refine wpList_load_row_w rfl 28 _ rfl g5 rfl _ _ _ _ xg5 Try.underlying28 rfl (size_Alg _ _) ?_))
  refine (heldAlgebra_nil 1 _ (by omega)).mono ?_
  rintro e w12 ⟨rfl, hb12⟩
  go_wp2
  go_ret
  exact ⟨rfl, z11.trans (hb12.mono z11.size)⟩
/-- the law -/
theorem lawSumChain (n : Int) (w : World) :
    Calls Try.prog 13 #[.int .i64 n] w fun e w' => e = .returned (.bool true) ∧ Below w.heap.size w w' := by
  by_cases h : 1 ≤ n ∧ n ≤ 6
  · exact lawSumChain_yes n w h.1 h.2
  · exact lawSumChain_no n w h
end Go.Proofs.Ytpfnfglaokiipab
