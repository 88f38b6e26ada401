import Derived.Test.YtljnbhnnjfnjeaaB5
import Derived.Test.YtljnbhnnjfnjeaaN7
import Derived.Test.YtljnbhnnjfnjeaaC3
namespace Go.Proofs.Ytljnbhnnjfnjeaa
open Go.RowKit

/-- what either set has -/
def orI (a b : Int) : Int := ((a.toNat ||| b.toNat : Nat) : Int)
/-- the set of the numbers of a list -/
def setL (F : List Int) : Int := F.foldl (fun s x => orI s (pw x)) 0
theorem bits_orI {a b : Int} (a0 : 0 ≤ a) (a1 : a < 1073741824) (b0 : 0 ≤ b) (b1 : b < 1073741824) : bits .or .i64 a b = orI a b := by
  have := bits_or_i64 a.toNat b.toNat (by omega) (by omega)
  rw [Int.toNat_of_nonneg a0, Int.toNat_of_nonneg b0] at this
  exact this
theorem setL_snoc (F : List Int) (x : Int) : setL (F ++ [x]) = orI (setL F) (pw x) := by unfold setL; rw [List.foldl_append]; rfl
theorem orI_64 {a b : Int} (a1 : a < 64) (b1 : b < 64) : 0 ≤ orI a b ∧ orI a b < 64 := by
  unfold orI
  have := Nat.or_lt_two_pow (n := 6) (x := a.toNat) (y := b.toNat) (by omega) (by omega)
  omega
theorem pw_64 {x : Int} (h : x < 6) : pw x < 64 := by
  have := pw_mono x 5 (by omega)
  have e : pw 5 = 32 := rfl
  omega
theorem foldl_64 : ∀ (F : List Int) (s : Int), 0 ≤ s → s < 64 → (∀ x ∈ F, x < 6) → 0 ≤ F.foldl (fun s x => orI s (pw x)) s ∧ F.foldl (fun s x => orI s (pw x)) s < 64
  | [], s, h0, h1, _ => ⟨h0, h1⟩
  | x :: F, s, _, h1, hF => by
    have := orI_64 h1 (pw_64 (hF x List.mem_cons_self))
    exact foldl_64 F _ this.1 this.2 fun y hy => hF y (List.mem_cons_of_mem _ hy)
theorem setL_64 {F : List Int} (hF : ∀ k, 0 ≤ k → k < num F → 0 ≤ nth F k ∧ nth F k < 6) (k : Nat) : 0 ≤ setL (F.take k) ∧ setL (F.take k) < 64 := by
  refine foldl_64 _ 0 (by omega) (by omega) fun x hx => ?_
  obtain ⟨i, hi, e⟩ := List.getElem_of_mem (List.mem_of_mem_take hx)
  have := hF i (by omega) (by unfold num; omega)
  unfold nth at this
  rw [Int.toNat_natCast, List.getD_eq_getElem?_getD, List.getElem?_eq_getElem hi] at this
  simp at this
  rw [← e]; exact this.2
theorem setL_next {F : List Int} (hF : ∀ k, 0 ≤ k → k < num F → 0 ≤ nth F k ∧ nth F k < 6) {k : Int} (k0 : 0 ≤ k) (k1 : k < F.length) : bits .or .i64 (setL (F.take k.toNat)) (pw (nth F k)) = setL (F.take (k + 1).toNat) := by
  obtain ⟨a, b⟩ := setL_64 hF k.toNat
  obtain ⟨c, d⟩ := hF k k0 k1
  have := pw_64 d
  have := pw_pos (nth F k)
  rw [take_next F k0 k1, setL_snoc, bits_orI a (by omega) (by omega) (by omega)]
/-- the set of those that p lets by -/
theorem setL_filt (p : Int → Bool) : ∀ k : Nat, (k : Int) ≤ 6 → setL (filtTo p k) = rowTo p k
  | 0, _ => rfl
  | k + 1, h => by
    have ih := setL_filt p k (by omega)
    have r := rowTo_bound p (show 0 ≤ (k : Int) by omega)
    have q := pw_30 (k : Int) (by omega)
    have q0 := pw_pos (k : Int)
    rw [show ((k + 1 : Nat) : Int) = (k : Int) + 1 by omega, filtTo_succ p k (by omega), rowTo_succ p k (by omega)]
    by_cases hp : p k = true
    · rw [if_pos hp, if_pos hp, setL_snoc, ih, ← bits_orI r.1 (by omega) (by omega) (by have := pw_64 (show (k : Int) < 6 by omega); omega)]
      exact or_pw (by omega) (by omega) r.1 r.2
    · rw [if_neg hp, if_neg hp, ih]
set_option maxRecDepth 100000 in
set_option maxHeartbeats 1000000 in
/-- impl.setOf -/
theorem setOf_any (a : Option Addr) (c : Nat) (F : List Int) (w : World) (hr : Rd w a F) (hF : ∀ k, 0 ≤ k → k < num F → 0 ≤ nth F k ∧ nth F k < 6) (hl : F.length ≤ 1048576) :
    Calls Try.prog 33 #[.slice a F.length c] w fun e w' => e = .returned (.int .i64 (setL F)) ∧ w = w' := by
  have HF := Lib.hid hF
  clear hF
  go_enter Try.func33, Try.ntmps33
  go_wp2
  go_loopw [3, 5, 8] (fun s _ c wr => ∃ k v : Int, 0 ≤ k ∧ k ≤ F.length ∧ c = .int .i64 k ∧ s = .int .i64 v ∧ v = setL (F.take k.toNat) ∧ w = wr) (fun _ _ c _ => ((F.length : Int) - intOf c).toNat)
  case atStart => exact ⟨0, 0, by omega, by omega, rfl, rfl, rfl, rfl⟩
  case round =>
    obtain ⟨k, v, k0, k1, rfl, rfl, hv, rfl⟩ := hrel
    by_cases hk : k < F.length
    · obtain ⟨fb, fo, rfl, hc⟩ := hr (by intro e; rw [e] at hk; simp at hk; omega)
      have d0 := hc.at k k0 hk
      obtain ⟨x0, x1⟩ := HF.out k k0 hk
      have kw := wrap_pwT (nth F k) (by omega)
      have ko := setL_next HF.out k0 hk
      rw [← hv] at ko
      have KO := Lib.hid ko
      clear hv ko hc
      have hn0 : ¬ nth F k < 0 := by omega
      go_wp2
      go_roundw
      case rel => exact ⟨k + 1, _, by omega, by omega, rfl, rfl, by first | exact KO.out | (rw [kw]; exact KO.out), trivial⟩
      case measure => simp [intOf]; omega
    · have hv2 := Lib.hid (show v = setL F by rw [hv, take_end F (by omega)])
      clear hv
      go_wp2
      go_ret
      exact ⟨ret_int hv2.out, rfl⟩
set_option maxRecDepth 100000 in
set_option maxHeartbeats 1000000 in
/-- spec.imageOf -/
theorem specImageOfL_any (a : Option Addr) (c : Nat) (F : List Int) (w : World) (hr : Rd w a F) (hF : ∀ k, 0 ≤ k → k < num F → 0 ≤ nth F k ∧ nth F k < 6) (hl : F.length ≤ 1048576) :
    Calls Try.prog 45 #[.slice a F.length c] w fun e w' => e = .returned (.int .i64 (setL F)) ∧ w = w' := by
  have HF := Lib.hid hF
  clear hF
  go_enter Try.func45, Try.ntmps45
  go_wp2
  go_loopw [3, 4] (fun s c wr => ∃ k v : Int, 0 ≤ k ∧ k ≤ F.length ∧ c = .int .i64 k ∧ s = .int .i64 v ∧ v = setL (F.take k.toNat) ∧ w = wr) (fun _ c _ => ((F.length : Int) - intOf c).toNat)
  case atStart => exact ⟨0, 0, by omega, by omega, rfl, rfl, rfl, rfl⟩
  case round =>
    obtain ⟨k, v, k0, k1, rfl, rfl, hv, rfl⟩ := hrel
    by_cases hk : k < F.length
    · obtain ⟨fb, fo, rfl, hc⟩ := hr (by intro e; rw [e] at hk; simp at hk; omega)
      have d0 := hc.at k k0 hk
      obtain ⟨x0, x1⟩ := HF.out k k0 hk
      have ko := setL_next HF.out k0 hk
      rw [← hv] at ko
      have KO := Lib.hid ko
      clear hv ko hc
      go_wp2_with (go_at_call 36; refine (power_any _ _ (by omega) (by omega)).mono ?_; rintro e w9 ⟨rfl, rfl⟩)
      go_roundw
      case rel => exact ⟨k + 1, _, by omega, by omega, rfl, rfl, KO.out, trivial⟩
      case measure => simp [intOf]; omega
    · have hv2 := Lib.hid (show v = setL F by rw [hv, take_end F (by omega)])
      clear hv
      go_wp2
      go_ret
      exact ⟨ret_int hv2.out, rfl⟩
end Go.Proofs.Ytljnbhnnjfnjeaa
