import Derived.Test.YtpophjloedpcfaaGreatDoorTX2
import Derived.Test.YtpophjloedpcfaaGreatDoorG3
namespace Go.Proofs.YtpophjloedpcfaaGreatDoor
open Go.RowKit

theorem row_out {T : List (List Int)} {j : Nat} (h : ¬ j < T.length) : rowAt T j = [] := by
  unfold rowAt
  rw [List.getD_eq_getElem?_getD, List.getElem?_eq_none (by simpa using h)]; rfl
theorem nth_out {L : List Int} {j : Nat} (h : ¬ j < L.length) : nth L j = 0 := by
  unfold nth
  rw [List.getD_eq_getElem?_getD, List.getElem?_eq_none (by simpa using h)]; rfl
theorem tbN_size6 {T : List (List Int)} (hr : ∀ j : Nat, j < T.length → (rowAt T j).length ≤ 6) (hx : ∀ x y : Int, 0 ≤ x → x < T.length → 0 ≤ y → y < (rowAt T x).length → 0 ≤ tv T x y ∧ tv T x y < 100) (k : Nat) (hk : k ≤ 6) : (tbN T k).size ≤ 13 * k := by
  refine tbN_size (n := 6) (fun j _ => ?_) (fun x y _ _ => ?_) k hk
  · by_cases e : j < T.length
    · exact hr j e
    · rw [row_out e]; exact Nat.zero_le _
  · unfold tv
    by_cases e : x < T.length
    · by_cases e2 : y < (rowAt T x).length
      · exact (hx x y (by omega) (by omega) (by omega) (by omega)).2
      · rw [nth_out e2]; decide
    · rw [row_out e]
      show nth [] _ < 100
      unfold nth; simp
set_option maxRecDepth 100000 in
set_option maxHeartbeats 4000000 in
/-- spec.tableText -/
theorem tableText_any (b : Option Addr) (c : Nat) (T : List (List Int)) (w : World) (hT : RdT w b T) (hl : T.length ≤ 6) (hr : ∀ j : Nat, j < T.length → (rowAt T j).length ≤ 6) (hx : ∀ x y : Int, 0 ≤ x → x < T.length → 0 ≤ y → y < (rowAt T x).length → 0 ≤ tv T x y ∧ tv T x y < 100) :
    Calls Tryz.prog 32 #[.slice b T.length c] w fun e w' => e = .returned (.string (tbN T T.length)) ∧ w = w' := by
  have HX := Lib.hid hx
  have HR := Lib.hid hr
  have HS := Lib.hid (show ∀ k : Nat, k ≤ T.length → (tbN T k).size ≤ 13 * k from fun k hk => tbN_size6 hr hx k (by omega))
  clear hx hr
  have hll : (T.length : Int) ≤ 6 := by omega
  go_enter Tryz.func32, Tryz.ntmps32
  go_wp2
  go_loopw [3, 4, 5] (fun o i _ wr => ∃ k : Int, 0 ≤ k ∧ k ≤ T.length ∧ i = .int .i64 k ∧ o = .string (tbN T k.toNat) ∧ w = wr) (fun _ i _ _ => ((T.length : Int) - intOf i).toNat)
  case atStart => exact ⟨0, by omega, by omega, rfl, rfl, rfl⟩
  case round =>
    obtain ⟨k, k0, k1, rfl, rfl, rfl⟩ := hrel
    by_cases hk : k < T.length
    · obtain ⟨B, off, rfl, hcT⟩ := hT (by intro e; rw [e] at hk; simp at hk; omega)
      obtain ⟨ra, rc, hcell, hrd⟩ := RdT.row hcT k0 hk
      have hs := HS.out k.toNat (by omega)
      have hlen := Lib.hid (HR.out k.toNat (by omega))
      rw [Int.toNat_of_nonneg k0] at hlen
      have HE := Lib.hid (show ∀ y : Int, 0 ≤ y → y < (rowAt T k).length → 0 ≤ nth (rowAt T k) y ∧ nth (rowAt T k) y < 100 from fun y y0 y1 => HX.out k y k0 hk y0 y1)
      obtain ⟨R, hR⟩ : ∃ R, R = rowAt T k := ⟨_, rfl⟩
      rw [← hR] at hcell hrd hlen HE
      obtain ⟨X, hX⟩ : ∃ X, X = tbN T k.toNat := ⟨_, rfl⟩
      rw [← hX] at hs ⊢
      -- the text ahead of the row
      obtain ⟨p, hp⟩ : ∃ p, p = (if k = 0 then X else X ++ ⟨#[47]⟩) := ⟨_, rfl⟩
      have HV := Lib.hid (show appN p R R.length = tbN T (k + 1).toNat by
        rw [show (k + 1).toNat = k.toNat + 1 by omega]
        show _ = appN (if k.toNat = 0 then tbN T k.toNat else tbN T k.toNat ++ ⟨#[47]⟩) (rowAt T (k.toNat : Int)) (rowAt T (k.toNat : Int)).length
        rw [Int.toNat_of_nonneg k0, ← hX, ← hR, hp]
        by_cases e : k = 0
        · rw [if_pos e, if_pos (by omega)]
        · rw [if_neg e, if_neg (by omega)])
      have hps : p.size ≤ 100 := by
        rw [hp]; split
        · omega
        · rw [ba_app_size]; have e47 : (ByteArray.mk #[47]).size = 1 := rfl; omega
      have s1 : ∀ w : World, (Op.stringOp .add X ⟨#[47]⟩).run Tryz.prog w = .ok (.string (X ++ ⟨#[47]⟩)) w := fun w => strAdd _ _ w (by have e47 : (ByteArray.mk #[47]).size = 1 := rfl; omega)
      have HP := Lib.hid hp
      have hRl : (R.length : Int) ≤ 6 := by have := hlen.out; omega
      have hzN : R.length ≤ 6 := by omega
      have HZ := Lib.hid (show ∀ j : Nat, j ≤ R.length → (appN p R j).size ≤ p.size + 2 * j from fun j hj => appN_size j (fun i hi => (HE.out i (by omega) (by omega)).2))
      clear hp hX hR
      by_cases hz : k = 0
      · obtain rfl : p = X := by rw [HP.out, if_pos hz]
        have hz0 : ¬ (0 < k) := by omega
        clear HP hs s1 hz
        go_wp2
        go_loopw [3, 5] (fun o i wr => ∃ y : Int, 0 ≤ y ∧ y ≤ R.length ∧ i = .int .i64 y ∧ o = .string (appN (p) R y.toNat) ∧ w = wr) (fun _ i _ => ((R.length : Int) - intOf i).toNat)
        case atStart => exact ⟨0, by omega, by omega, rfl, rfl, rfl⟩
        case round =>
          obtain ⟨y, y0, y1, rfl, rfl, rfl⟩ := hrel
          by_cases hy : y < R.length
          · obtain ⟨b1, o1, rfl, hc1⟩ := hrd (by intro e; rw [e] at hy; simp at hy; omega)
            have d1 := hc1.at y y0 hy
            have hs := HZ.out y.toNat (by omega)
            have hn := Lib.hid (HE.out y y0 hy)
            have hs2 := dgB_size2 hn.out.2
            obtain ⟨n, en⟩ : ∃ n, n = nth R y := ⟨_, rfl⟩
            rw [← en] at d1 hn hs2
            obtain ⟨D, hD⟩ : ∃ D, D = dgB n := ⟨_, rfl⟩
            rw [← hD] at hs2
            have HN := Lib.hid (show ∀ w : World, Calls Tryz.prog 48 #[.int .i64 n] w fun e w' => e = .returned (.string D) ∧ w = w' from fun w => by rw [hD]; exact number_is n hn.out.1 (by have := hn.out.2; omega) w)
            obtain ⟨Y, hY⟩ : ∃ Y, Y = appN (p) R y.toNat := ⟨_, rfl⟩
            rw [← hY] at hs ⊢
            have HW := Lib.hid (show Y ++ D = appN (p) R (y + 1).toNat by
              rw [show (y + 1).toNat = y.toNat + 1 by omega]
              show _ = appN _ R y.toNat ++ dgB (nth R (y.toNat : Int))
              rw [Int.toNat_of_nonneg y0, hY, hD, en])
            have s2 : ∀ w : World, (Op.stringOp .add Y D).run Tryz.prog w = .ok (.string (Y ++ D)) w := fun w => strAdd _ _ w (by omega)
            clear hY hD en hs hs2 hn
            go_wp2_with (go_at_call 48; with_reducible refine (HN.out _).mono ?_; rintro e w' ⟨rfl, rfl⟩)
            go_roundw
            case rel => exact ⟨y + 1, by omega, by omega, rfl, by rw [HW.out], by trivial⟩
            case measure => simp [intOf]; omega
          · obtain rfl : y = R.length := by omega
            have HW := Lib.hid (show appN (p) R (R.length : Int).toNat = tbN T (k + 1).toNat by rw [Int.toNat_natCast]; exact HV.out)
            obtain ⟨Y, hY⟩ : ∃ Y, Y = appN (p) R (R.length : Int).toNat := ⟨_, rfl⟩
            rw [← hY] at HW ⊢
            clear hY
            go_wp2
            go_roundw
            case rel => exact ⟨k + 1, by omega, by omega, rfl, by rw [HW.out], by trivial⟩
            case measure => simp [intOf]; omega
      · obtain rfl : p = X ++ ⟨#[47]⟩ := by rw [HP.out, if_neg hz]
        have hz0 : 0 < k := by omega
        clear HP hs hz
        go_wp2
        go_loopw [3, 5] (fun o i wr => ∃ y : Int, 0 ≤ y ∧ y ≤ R.length ∧ i = .int .i64 y ∧ o = .string (appN (X ++ ⟨#[47]⟩) R y.toNat) ∧ w = wr) (fun _ i _ => ((R.length : Int) - intOf i).toNat)
        case atStart => exact ⟨0, by omega, by omega, rfl, rfl, rfl⟩
        case round =>
          obtain ⟨y, y0, y1, rfl, rfl, rfl⟩ := hrel
          by_cases hy : y < R.length
          · obtain ⟨b1, o1, rfl, hc1⟩ := hrd (by intro e; rw [e] at hy; simp at hy; omega)
            have d1 := hc1.at y y0 hy
            have hs := HZ.out y.toNat (by omega)
            have hn := Lib.hid (HE.out y y0 hy)
            have hs2 := dgB_size2 hn.out.2
            obtain ⟨n, en⟩ : ∃ n, n = nth R y := ⟨_, rfl⟩
            rw [← en] at d1 hn hs2
            obtain ⟨D, hD⟩ : ∃ D, D = dgB n := ⟨_, rfl⟩
            rw [← hD] at hs2
            have HN := Lib.hid (show ∀ w : World, Calls Tryz.prog 48 #[.int .i64 n] w fun e w' => e = .returned (.string D) ∧ w = w' from fun w => by rw [hD]; exact number_is n hn.out.1 (by have := hn.out.2; omega) w)
            obtain ⟨Y, hY⟩ : ∃ Y, Y = appN (X ++ ⟨#[47]⟩) R y.toNat := ⟨_, rfl⟩
            rw [← hY] at hs ⊢
            have HW := Lib.hid (show Y ++ D = appN (X ++ ⟨#[47]⟩) R (y + 1).toNat by
              rw [show (y + 1).toNat = y.toNat + 1 by omega]
              show _ = appN _ R y.toNat ++ dgB (nth R (y.toNat : Int))
              rw [Int.toNat_of_nonneg y0, hY, hD, en])
            have s2 : ∀ w : World, (Op.stringOp .add Y D).run Tryz.prog w = .ok (.string (Y ++ D)) w := fun w => strAdd _ _ w (by omega)
            clear hY hD en hs hs2 hn
            go_wp2_with (go_at_call 48; with_reducible refine (HN.out _).mono ?_; rintro e w' ⟨rfl, rfl⟩)
            go_roundw
            case rel => exact ⟨y + 1, by omega, by omega, rfl, by rw [HW.out], by trivial⟩
            case measure => simp [intOf]; omega
          · obtain rfl : y = R.length := by omega
            have HW := Lib.hid (show appN (X ++ ⟨#[47]⟩) R (R.length : Int).toNat = tbN T (k + 1).toNat by rw [Int.toNat_natCast]; exact HV.out)
            obtain ⟨Y, hY⟩ : ∃ Y, Y = appN (X ++ ⟨#[47]⟩) R (R.length : Int).toNat := ⟨_, rfl⟩
            rw [← hY] at HW ⊢
            clear hY
            go_wp2
            go_roundw
            case rel => exact ⟨k + 1, by omega, by omega, rfl, by rw [HW.out], by trivial⟩
            case measure => simp [intOf]; omega
    · obtain rfl : k = T.length := by omega
      have HV := Lib.hid (show tbN T (T.length : Int).toNat = tbN T T.length by rw [Int.toNat_natCast])
      obtain ⟨X, hX⟩ : ∃ X, X = tbN T (T.length : Int).toNat := ⟨_, rfl⟩
      rw [← hX] at HV ⊢
      go_wp2
      go_ret
      exact ⟨by first | exact ret_str HV.out | rfl, rfl⟩
end Go.Proofs.YtpophjloedpcfaaGreatDoor
