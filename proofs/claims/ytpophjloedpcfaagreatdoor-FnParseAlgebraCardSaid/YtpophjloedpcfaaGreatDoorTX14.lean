import Derived.Test.YtpophjloedpcfaaGreatDoorTX11
namespace Go.Proofs.YtpophjloedpcfaaGreatDoor
open Go.RowKit

theorem rdG_stop {n : Int} {b : UInt8} {r : List UInt8} (h : (b.toNat < 48 ∨ 57 < b.toNat) ∨ 1000 < n) : rdG n (b :: r) = none := by unfold rdG; rw [if_pos h]
theorem rdG_go {n : Int} {b : UInt8} {r : List UInt8} (h : ¬ ((b.toNat < 48 ∨ 57 < b.toNat) ∨ 1000 < n)) : rdG n (b :: r) = rdG (10 * n + ((b.toNat : Int) - 48)) r := by
  show (if (b.toNat < 48 ∨ 57 < b.toNat) ∨ 1000 < n then none else rdG (10 * n + ((b.toNat : Int) - 48)) r) = _
  rw [if_neg h]
theorem drop_at (s : ByteArray) {i : Nat} (h : i < s.size) : s.data.toList.drop i = s[i] :: s.data.toList.drop (i + 1) := by
  rw [List.drop_eq_getElem_cons (by rw [← ba_size]; exact h)]
  congr 1
set_option maxRecDepth 100000 in
set_option maxHeartbeats 4000000 in
/-- spec.readNumber -/
theorem specReadNumber_any (s : ByteArray) (w : World) (hs : s.size ≤ 1048576) :
    Calls Tryz.prog 82 #[.string s] w fun e w' => e = .returned (.int .i64 (rdN s.data.toList)) ∧ w = w' := by
  have hsz : s.data.toList.length = s.size := (ba_size s).symm
  have hss : (s.size : Int) ≤ 1048576 := by omega
  go_enter Tryz.func82, Tryz.ntmps82
  go_wp2
  go_loopw [3, 4] (fun nv i wr => ∃ (k : Nat) (n : Int), k ≤ s.size ∧ i = .int .i64 (k : Int) ∧ nv = .int .i64 n ∧ 0 ≤ n ∧ n ≤ 10009 ∧ rdG 0 s.data.toList = rdG n (s.data.toList.drop k) ∧ w = wr) (fun _ i _ => ((s.size : Int) - intOf i).toNat)
  case atStart => exact ⟨0, 0, by omega, rfl, rfl, by omega, by omega, rfl, rfl⟩
  case round =>
    obtain ⟨k, n, hk, rfl, rfl, n0, n1, hg, rfl⟩ := hrel
    by_cases hlt : k < s.size
    · have hlti : (k : Int) < s.size := by omega
      have hdr := drop_at s hlt
      obtain ⟨c, hc⟩ : ∃ c, s[k] = c := ⟨_, rfl⟩
      rw [hc] at hdr
      rw [hdr] at hg
      have hb := UInt8.toNat_lt c
      clear hdr
      by_cases ha : c.toNat < 48
      · have HV := Lib.hid (show rdN s.data.toList = -1 by unfold rdN; rw [hg, rdG_stop (.inl (.inl ha))])
        have ha2 : (c.toNat : Int) < 48 := by omega
        clear hg
        go_wp2_with go_skip
        go_ret
        exact ⟨ret_int HV.out.symm, rfl⟩
      · have ha2 : ¬ (c.toNat : Int) < 48 := by omega
        by_cases ha3 : 57 < c.toNat
        · have HV := Lib.hid (show rdN s.data.toList = -1 by unfold rdN; rw [hg, rdG_stop (.inl (.inr ha3))])
          have ha4 : (57 : Int) < c.toNat := by omega
          clear hg
          go_wp2_with go_skip
          go_ret
          exact ⟨ret_int HV.out.symm, rfl⟩
        · have ha4 : ¬ (57 : Int) < c.toNat := by omega
          by_cases hn : 1000 < n
          · have HV := Lib.hid (show rdN s.data.toList = -1 by unfold rdN; rw [hg, rdG_stop (.inr hn)])
            clear hg
            go_wp2_with go_skip
            go_ret
            exact ⟨ret_int HV.out.symm, rfl⟩
          · rw [rdG_go (by omega)] at hg
            have HG := Lib.hid hg
            clear hg
            go_wp2_with go_skip
            go_roundw
            case rel => exact ⟨k + 1, 10 * n + ((c.toNat : Int) - 48), by omega, rfl, rfl, by omega, by omega, HG.out, by trivial⟩
            case measure => simp [intOf]; omega
    · have e : k = s.size := by omega
      subst e
      rw [List.drop_of_length_le (by omega)] at hg
      have hv : rdN s.data.toList = if s.data.toList = [] ∨ Lib.decDigits n.toNat ≠ s.data.toList then -1 else n := by unfold rdN; rw [hg]; rfl
      clear hg
      by_cases he : s.data.toList = []
      · have q1 : (s.toList == []) = true := by rw [ByteArray.toList_eq, he]; rfl
        have HV := Lib.hid (show rdN s.data.toList = -1 by rw [hv, if_pos (.inl he)])
        clear hv he
        go_wp2_with go_skip
        go_ret
        exact ⟨ret_int HV.out.symm, rfl⟩
      · have q1 : (s.toList == []) = false := by rw [ByteArray.toList_eq]; simpa using he
        obtain ⟨D, hD⟩ : ∃ D, D = dgB n := ⟨_, rfl⟩
        have HN := Lib.hid (show ∀ w : World, Calls Tryz.prog 48 #[.int .i64 n] w fun e w' => e = .returned (.string D) ∧ w = w' from fun w => by rw [hD]; exact number_is n n0 (by omega) w)
        have hDl : D.data.toList = Lib.decDigits n.toNat := by rw [hD]; exact dgB_list n
        by_cases hq : Lib.decDigits n.toNat = s.data.toList
        · have q2 : (D.toList == s.toList) = true := by rw [ByteArray.toList_eq, ByteArray.toList_eq, hDl, hq]; simp
          have HV := Lib.hid (show rdN s.data.toList = n by rw [hv, if_neg (by rw [not_or]; exact ⟨he, fun h => h hq⟩)])
          clear hv he hq hD hDl
          go_wp2_with (first | go_skip | (go_at_call 48; with_reducible refine (HN.out _).mono ?_; rintro e w' ⟨rfl, rfl⟩))
          go_ret
          exact ⟨ret_int HV.out.symm, rfl⟩
        · have q2 : (D.toList == s.toList) = false := by rw [ByteArray.toList_eq, ByteArray.toList_eq, hDl]; simpa using hq
          have HV := Lib.hid (show rdN s.data.toList = -1 by rw [hv, if_pos (.inr hq)])
          clear hv he hq hD hDl
          go_wp2_with (first | go_skip | (go_at_call 48; with_reducible refine (HN.out _).mono ?_; rintro e w' ⟨rfl, rfl⟩))
          go_ret
          exact ⟨ret_int HV.out.symm, rfl⟩
end Go.Proofs.YtpophjloedpcfaaGreatDoor
