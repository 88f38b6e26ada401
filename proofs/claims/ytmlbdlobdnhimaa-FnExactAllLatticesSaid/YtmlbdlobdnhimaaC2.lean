import Derived.Test.YtmlbdlobdnhimaaL4
import Derived.Test.YtmlbdlobdnhimaaL5
namespace Go.Proofs.Ytmlbdlobdnhimaa
open Go.RowKit

def leG (x y : Int) : Bool := decide (x ≤ y)
set_option maxRecDepth 100000 in
set_option maxHeartbeats 2000000 in
/-- impl.upOf at the closure of chain -/
theorem upOf_chain (n : Int) (w : World) (n0 : 0 ≤ n) (n6 : n ≤ 6) :
    Calls Try.prog 63 #[.int .i64 n, .func (.func 80) #[] #[]] w fun e w' => e = .returned (.slice (some ⟨w.heap.size, 0, none⟩) n.toNat n.toNat) ∧ Row w' w.heap.size (upL leG n) ∧ Below w.heap.size w w' := by
  have hmk := run_make_ints n.toNat (by omega)
  rw [Int.toNat_of_nonneg n0] at hmk
  go_enter Try.func63, Try.ntmps63
  go_wp2
  clear hmk
  go_loopw [6, 7, 11] (fun _ _ c wr => ∃ x : Int, 0 ≤ x ∧ x ≤ n ∧ c = .int .i64 x ∧ Row wr w.heap.size (upTo leG n x 0) ∧ Below w.heap.size w wr) (fun _ _ c _ => (6 - intOf c).toNat)
  case atStart => exact ⟨0, by omega, by omega, rfl, by rw [upTo_zero]; exact heap_alloc_new w _, (Below.refl _ _).alloc (Nat.le_refl _) _⟩
  case round =>
    obtain ⟨x, x0, x1, rfl, hrow, hbel⟩ := hrel
    by_cases hx : x < n
    · go_wp2
      obtain ⟨w1, rfl⟩ : ∃ w1 : World, w1 = wr := ⟨_, rfl⟩
      go_loopw [7, 15] (fun _ c wr => ∃ y : Int, 0 ≤ y ∧ y ≤ n ∧ c = .int .i64 y ∧ Row wr w.heap.size (upTo leG n x y) ∧ Below w.heap.size w wr) (fun _ c _ => (6 - intOf c).toNat)
      case atStart => exact ⟨0, by omega, by omega, rfl, hrow, hbel⟩
      case round =>
        obtain ⟨y, y0, y1, rfl, hrow, hbel⟩ := hrel
        by_cases hy : y < n
        · have hlen := upTo_len leG n x y
          have hc0 := hrow.cell x0 (by rw [hlen]; omega)
          rw [upTo_nth _ x0 hx] at hc0
          have hf0 := hrow.free x.toNat
          have hpw := wrap_pwI y (by omega)
          have hxl : x.toNat < n.toNat := by omega
          clear hlen
          cases hq : leG x y with
          | false =>
            have hs := Lib.hid (upTo_skip leG (n := n) (x := x) y0 hq)
            unfold leG at hq
            have hq2 : y < x := by simpa using hq
            clear hq
            go_wp2
            go_roundw
            case rel => exact ⟨y + 1, by omega, by omega, rfl, by rw [hs.out]; exact hrow, hbel⟩
            case measure => simp [intOf]; omega
          | true =>
            have hs := Lib.hid (upTo_next leG (n := n) (y := y) x0)
            have ho := rowTo_or (leG x) y0 (by omega) hq
            unfold leG at hq
            have hq2 : x ≤ y := by simpa using hq
            clear hq
            go_wp2
            go_region
            go_wp2
            go_roundw
            case rel => exact ⟨y + 1, by omega, by omega, rfl, by rw [← hs.out]; exact (hrow.set _ _).dr ⟨1, rfl⟩, (hbel.setCell (by simp) _).drew⟩
            case measure => simp [intOf]; omega
        · have e : y = n := by omega
          subst e
          go_wp2
          go_roundw
          case rel => exact ⟨x + 1, by omega, by omega, rfl, by rw [← upTo_row]; exact hrow, hbel⟩
          case measure => simp [intOf]; omega
    · have e : x = n := by omega
      subst e
      go_wp2
      go_ret
      exact ⟨rfl, by rw [← upTo_all]; exact hrow, hbel⟩

end Go.Proofs.Ytmlbdlobdnhimaa

namespace Go.Proofs.Ytmlbdlobdnhimaa
open Go.RowKit

def chainI (n : Int) : List Int := if 1 ≤ n ∧ n ≤ 6 then chainTo n n else []
theorem chainI_in {n : Int} (h : 1 ≤ n ∧ n ≤ 6) : chainI n = chainTo n n := if_pos h
theorem chainI_out {n : Int} (h : ¬ (1 ≤ n ∧ n ≤ 6)) : chainI n = [] := if_neg h
theorem rowTo_le (x : Int) (x0 : 0 ≤ x) : ∀ k : Nat, rowTo (leG x) k = if (k : Int) ≤ x then 0 else pw k - pw x
  | 0 => by rw [if_pos (by omega)]; rfl
  | k + 1 => by
    have e : ((k + 1 : Nat) : Int) = (k : Int) + 1 := rfl
    rw [e, rowTo_succ _ _ (by omega), rowTo_le x x0 k, pw_succ _ (by omega)]
    unfold leG
    by_cases h1 : (k : Int) + 1 ≤ x
    · rw [if_pos h1, decide_eq_false (by omega), if_neg (by decide), if_pos (by omega)]
    · rw [if_neg h1, decide_eq_true (by omega), if_pos rfl]
      by_cases h2 : (k : Int) ≤ x
      · rw [if_pos h2]
        have : x = k := by omega
        rw [this]; omega
      · rw [if_neg h2]; omega
theorem upL_chain (n : Int) (n0 : 0 ≤ n) : upL leG n = chainTo n n := by
  unfold upL chainTo
  refine List.map_congr_left fun i hi => ?_
  have hi := List.mem_range.1 hi
  have := rowTo_le i (by omega) n.toNat
  rw [Int.toNat_of_nonneg n0, if_neg (by omega)] at this
  exact this
theorem chainI_len (n : Int) : (chainI n).length ≤ 6 := by
  by_cases h : 1 ≤ n ∧ n ≤ 6
  · rw [chainI_in h]; have := chainTo_len n n (by omega); omega
  · rw [chainI_out h]; simp

set_option maxHeartbeats 400000 in
/-- spec.ChainOf -/
theorem specChainOf_any (n : Int) (w : World) : Calls Try.prog 45 #[.int .i64 n] w (RetSl w.heap.size (chainI n) w) := by
  by_cases h : 1 ≤ n ∧ n ≤ 6
  · have hin : (decide (1 ≤ n) && decide (n ≤ 6)) = true := by rw [decide_eq_true h.1, decide_eq_true h.2]; rfl
    have hl := Lib.hid (chainI_in h)
    go_enter Try.func45, Try.ntmps45
    go_wp2_with (first | (go_at_call 81; refine (inRange_any _ _ _ _).mono ?_; rintro e w' ⟨rfl, rfl⟩) | (go_at_call 82; refine (chain_any n _ (by omega) (by omega)).mono ?_; intro e w1 hret; obtain ⟨a, cap, rfl, ho, hb⟩ := hret.sl))
    go_ret
    rw [hl.out]
    exact ⟨a, cap, rfl, ho, hb⟩
  · have hin : (decide (1 ≤ n) && decide (n ≤ 6)) = false := by
      rw [Bool.eq_false_iff, Ne, Bool.and_eq_true, decide_eq_true_eq, decide_eq_true_eq]; exact h
    have hl := Lib.hid (chainI_out h)
    clear h
    go_enter Try.func45, Try.ntmps45
    go_wp2_with (go_at_call 81; refine (inRange_any _ _ _ _).mono ?_; rintro e w' ⟨rfl, rfl⟩)
    go_ret
    rw [hl.out]
    exact ⟨none, 0, rfl, Own.nothing _ _, Below.refl _ _⟩

set_option maxHeartbeats 400000 in
/-- impl.ChainOf -/
theorem implChainOf_any (n : Int) (w : World) : Calls Try.prog 44 #[.int .i64 n] w (RetSl w.heap.size (chainI n) w) := by
  by_cases h : 1 ≤ n ∧ n ≤ 6
  · have hl := Lib.hid (chainI_in h)
    have hlen := chainTo_len n n (by omega)
    have hle := Lib.hid (show (chainTo n n).length = n.toNat by omega)
    have hu := Lib.hid (upL_chain n (by omega))
    clear hlen
    obtain ⟨h1, h6⟩ := h
    go_enter Try.func44, Try.ntmps44
    go_wp2_with (go_at_call 63; refine (upOf_chain n _ (by omega) h6).mono ?_; rintro e w1 ⟨rfl, hrow, hb⟩)
    go_ret
    rw [hu.out] at hrow
    rw [hl.out]
    have ho := Own.row hrow (Nat.le_refl _) (by rw [hle.out]; unfold maxLen; omega)
    rw [hle.out] at ho
    refine ⟨_, _, by rw [hle.out]; rfl, ?_, hb⟩
    rw [hle.out]
    exact ho
  · have hl := Lib.hid (chainI_out h)
    by_cases h1 : n < 1
    · clear h
      go_enter Try.func44, Try.ntmps44
      go_wp2
      go_ret
      rw [hl.out]
      exact ⟨none, 0, rfl, Own.nothing _ _, Below.refl _ _⟩
    · have h2 : 6 < n := by omega
      clear h
      go_enter Try.func44, Try.ntmps44
      go_wp2
      go_ret
      rw [hl.out]
      exact ⟨none, 0, rfl, Own.nothing _ _, Below.refl _ _⟩
end Go.Proofs.Ytmlbdlobdnhimaa
