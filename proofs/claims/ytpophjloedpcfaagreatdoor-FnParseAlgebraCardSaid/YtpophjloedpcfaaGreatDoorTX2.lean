import Derived.Test.YtpophjloedpcfaaGreatDoorTX1
import Derived.Test.YtpophjloedpcfaaGreatDoorL5
import Derived.Test.YtpophjloedpcfaaGreatDoorI5
namespace Go.Proofs.YtpophjloedpcfaaGreatDoor
open Go.RowKit

theorem strAdd {P : Program} (a b : ByteArray) (w : World) (h : a.size + b.size ≤ 9223372036854775807) : (Op.stringOp .add a b).run P w = .ok (.string (a ++ b)) w := by
  have : ¬ ((9223372036854775807 : Int) < (a.size : Int) + (b.size : Int)) := by omega
  simp [Op.stringOp, this]
theorem ret_str {a b : ByteArray} (h : a = b) : Ending.returned (Value.string a) = Ending.returned (Value.string b) := by rw [h]
set_option maxRecDepth 100000 in
set_option maxHeartbeats 2000000 in
/-- spec.number of one digit -/
theorem number_small (n : Int) (h0 : 0 ≤ n) (h1 : n < 10) (w : World) : Calls Tryz.prog 48 #[.int .i64 n] w fun e w' => e = .returned (.string (dgB n)) ∧ w = w' := by
  have : n = 0 ∨ n = 1 ∨ n = 2 ∨ n = 3 ∨ n = 4 ∨ n = 5 ∨ n = 6 ∨ n = 7 ∨ n = 8 ∨ n = 9 := by omega
  rcases this with rfl | rfl | rfl | rfl | rfl | rfl | rfl | rfl | rfl | rfl
  all_goals
    go_enter Tryz.func48, Tryz.ntmps48
    go_wp2
    go_ret
    exact ⟨ret_str (by apply ba_ext; rw [dgB_list, Lib.decDigits_one (by decide)]; kernel_rfl), rfl⟩
set_option maxRecDepth 100000 in
set_option maxHeartbeats 2000000 in
/-- spec.number -/
theorem number_any : ∀ (f : Nat) (n : Int) (w : World), 0 ≤ n → n < f → f ≤ 1000000 → Calls Tryz.prog 48 #[.int .i64 n] w fun e w' => e = .returned (.string (dgB n)) ∧ w = w' := by
  intro f
  induction f with
  | zero => intro n w h0 h1; exact absurd h1 (by omega)
  | succ f ih =>
    intro n w h0 h1 hf
    by_cases hn : n < 10
    · exact number_small n h0 hn w
    · have HI := Lib.hid ih
      clear ih
      have hz := dgB_size (n / 10)
      have hy := dgB_size (n % 10)
      obtain ⟨X, hX⟩ : ∃ X, X = dgB (n / 10) := ⟨_, rfl⟩
      obtain ⟨Y, hY⟩ : ∃ Y, Y = dgB (n % 10) := ⟨_, rfl⟩
      have s1 : ∀ w : World, (Op.stringOp .add X Y).run Tryz.prog w = .ok (.string (X ++ Y)) w := fun w => strAdd _ _ w (by rw [hX, hY]; omega)
      have HV := Lib.hid (show X ++ Y = dgB n by rw [hX, hY]; exact (dgB_two (by omega)).symm)
      have H1 := Lib.hid (show ∀ w : World, Calls Tryz.prog 48 #[.int .i64 (n / 10)] w fun e w' => e = .returned (.string X) ∧ w = w' from fun w => by rw [hX]; exact HI.out (n / 10) w (by omega) (by omega) (by omega))
      have H2 := Lib.hid (show ∀ w : World, Calls Tryz.prog 48 #[.int .i64 (n % 10)] w fun e w' => e = .returned (.string Y) ∧ w = w' from fun w => by rw [hY]; exact number_small (n % 10) (by omega) (by omega) w)
      clear hX hY hz hy HI
      go_enter Tryz.func48, Tryz.ntmps48
      go_wp2_with (first | (go_at_call 48; with_reducible refine (H1.out _).mono ?_; rintro e w' ⟨rfl, rfl⟩) | (go_at_call 48; with_reducible refine (H2.out _).mono ?_; rintro e w' ⟨rfl, rfl⟩))
      go_ret
      exact ⟨ret_str HV.out, rfl⟩
/-- .. of whatever number is met -/
theorem number_is (n : Int) (h0 : 0 ≤ n) (h1 : n < 100000) (w : World) : Calls Tryz.prog 48 #[.int .i64 n] w fun e w' => e = .returned (.string (dgB n)) ∧ w = w' :=
  number_any 100000 n w h0 h1 (by omega)
set_option maxRecDepth 100000 in
set_option maxHeartbeats 2000000 in
/-- spec.listText -/
theorem listText_any (a : Option Addr) (c : Nat) (L : List Int) (w : World) (hr : Rd w a L) (hl : L.length ≤ 1000) (hx : ∀ k : Int, 0 ≤ k → k < L.length → 0 ≤ nth L k ∧ nth L k < 100) :
    Calls Tryz.prog 31 #[.slice a L.length c] w fun e w' => e = .returned (.string (ltxN L L.length)) ∧ w = w' := by
  have HX := Lib.hid hx
  clear hx
  have hll : (L.length : Int) ≤ 1000 := by omega
  go_enter Tryz.func31, Tryz.ntmps31
  go_wp2
  go_loopw [3, 4] (fun o i wr => ∃ k : Int, 0 ≤ k ∧ k ≤ L.length ∧ i = .int .i64 k ∧ o = .string (ltxN L k.toNat) ∧ w = wr) (fun _ i _ => ((L.length : Int) - intOf i).toNat)
  case atStart => exact ⟨0, by omega, by omega, rfl, rfl, rfl⟩
  case round =>
    obtain ⟨k, k0, k1, rfl, rfl, rfl⟩ := hrel
    by_cases hk : k < L.length
    · obtain ⟨b1, o1, rfl, hc1⟩ := hr (by intro e; rw [e] at hk; simp at hk; omega)
      have d1 := hc1.at k k0 hk
      have hs := ltxN_size (L := L) k.toNat (fun j hj => (HX.out j (by omega) (by omega)).2)
      have hn := Lib.hid (HX.out k k0 hk)
      have hs2 := dgB_size2 hn.out.2
      obtain ⟨n, en⟩ : ∃ n, n = nth L k := ⟨_, rfl⟩
      rw [← en] at d1 hn hs2
      obtain ⟨D, hD⟩ : ∃ D, D = dgB n := ⟨_, rfl⟩
      rw [← hD] at hs2
      have HN := Lib.hid (show ∀ w : World, Calls Tryz.prog 48 #[.int .i64 n] w fun e w' => e = .returned (.string D) ∧ w = w' from fun w => by rw [hD]; exact number_is n hn.out.1 (by have := hn.out.2; omega) w)
      obtain ⟨X, hX⟩ : ∃ X, X = ltxN L k.toNat := ⟨_, rfl⟩
      rw [← hX] at hs ⊢
      by_cases hz : k = 0
      · have HV := Lib.hid (show X ++ D = ltxN L (k + 1).toNat by rw [hX, hD, en, hz]; exact (ltxN_one L).symm)
        have s1 : ∀ w : World, (Op.stringOp .add X D).run Tryz.prog w = .ok (.string (X ++ D)) w := fun w => strAdd _ _ w (by omega)
        have hz0 : ¬ (0 < k) := by omega
        clear hX hD en hs hs2 hn hz
        go_wp2_with (go_at_call 48; with_reducible refine (HN.out _).mono ?_; rintro e w' ⟨rfl, rfl⟩)
        go_roundw
        case rel => exact ⟨k + 1, by omega, by omega, rfl, by rw [HV.out], by trivial⟩
        case measure => simp [intOf]; omega
      · have HV := Lib.hid (show X ++ ⟨#[44]⟩ ++ D = ltxN L (k + 1).toNat by rw [hX, hD, en, show (k + 1).toNat = k.toNat + 1 by omega, ltxN_next L (by omega), Int.toNat_of_nonneg k0])
        have e44 : (ByteArray.mk #[44]).size = 1 := rfl
        have s1 : ∀ w : World, (Op.stringOp .add X ⟨#[44]⟩).run Tryz.prog w = .ok (.string (X ++ ⟨#[44]⟩)) w := fun w => strAdd _ _ w (by omega)
        have s2 : ∀ w : World, (Op.stringOp .add (X ++ ⟨#[44]⟩) D).run Tryz.prog w = .ok (.string (X ++ ⟨#[44]⟩ ++ D)) w := fun w => strAdd _ _ w (by rw [ba_app_size]; omega)
        have hz0 : 0 < k := by omega
        clear hX hD en hs hs2 hn hz e44
        go_wp2_with (go_at_call 48; with_reducible refine (HN.out _).mono ?_; rintro e w' ⟨rfl, rfl⟩)
        go_roundw
        case rel => exact ⟨k + 1, by omega, by omega, rfl, by rw [HV.out], by trivial⟩
        case measure => simp [intOf]; omega
    · obtain rfl : k = L.length := by omega
      have HV := Lib.hid (show ltxN L (L.length : Int).toNat = ltxN L L.length by rw [Int.toNat_natCast])
      obtain ⟨X, hX⟩ : ∃ X, X = ltxN L (L.length : Int).toNat := ⟨_, rfl⟩
      rw [← hX] at HV ⊢
      go_wp2
      go_ret
      exact ⟨by first | exact ret_str HV.out | rfl, rfl⟩
end Go.Proofs.YtpophjloedpcfaaGreatDoor
