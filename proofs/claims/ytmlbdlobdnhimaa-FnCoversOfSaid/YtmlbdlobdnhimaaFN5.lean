import Derived.Test.YtmlbdlobdnhimaaZ8
import Derived.Test.YtmlbdlobdnhimaaZ5
import Derived.Test.YtmlbdlobdnhimaaFN2
import Derived.Test.YtmlbdlobdnhimaaM10
import Derived.Test.YtmlbdlobdnhimaaF2
namespace Go.Proofs.Ytmlbdlobdnhimaa
open Go.RowKit
theorem take_nextZ (V : List Int) {i : Int} (i0 : 0 ≤ i) (h : i < V.length) : V.take (i + 1).toNat = V.take i.toNat ++ [nth V i] := by
  rw [show (i + 1).toNat = i.toNat + 1 by omega, List.take_add_one]
  congr 1
  unfold nth
  have : i.toNat < V.length := by omega
  rw [List.getElem?_eq_getElem this, List.getD_eq_getElem?_getD, List.getElem?_eq_getElem this]
  rfl
set_option maxRecDepth 100000 in
set_option maxHeartbeats 2000000 in
/-- laws.FnCoversOf -/
theorem lawPCoversOf (a0 : Option Addr) (len0 cap0 : Nat) (w : World) (hy : RdY w a0 len0 w.heap.size) (hc : len0 ≤ cap0) (hm : len0 ≤ maxLen) :
    Calls Try.prog 7 #[.slice a0 len0 cap0] w fun e w' => e = .returned (.bool true) ∧ Below w.heap.size w w' := by
  by_cases hbig : 1048576 < len0
  · have hbig2 : (1048576 : Int) < len0 := by omega
    go_enter Try.func7, Try.ntmps7
    go_wp2
    go_ret
    exact ⟨rfl, Below.refl _ _⟩
  · have hs : len0 ≤ 1048576 := by omega
    have hs2 : ¬ (1048576 : Int) < len0 := by omega
    go_enter Try.func7, Try.ntmps7
    go_wp2_with fail
    refine (drawCoversOf_any a0 len0 cap0 w hy hc hs).mono ?_
    rintro e w1 ⟨L, a, cap, x, rfl, ho, l8, xl, xh, hb⟩
    have _ := hm
    clear hs hs2 hbig hy hm hc
    have hS : St w a L w1 := ⟨hb, ho.rd⟩
    have hM : L.length ≤ maxLen := by unfold maxLen; omega
    have hV6 := covI_len L x
    obtain ⟨V, hV⟩ : ∃ V, V = covI L x := ⟨_, rfl⟩
    rw [← hV] at hV6
    have hM2 : V.length ≤ 1073741824 := by omega
    have HI := Lib.hid (show ∀ (a : Option Addr) (cap : Nat) (w : World), Rd w a L → Calls Try.prog 29 #[.slice a L.length cap, .int .i64 x] w (RetSl w.heap.size V w) from fun a cap w h => by rw [hV]; exact implCoversOf_any a cap L x w h)
    have HP := Lib.hid (show ∀ (a : Option Addr) (cap : Nat) (w : World), Rd w a L → Calls Try.prog 31 #[.slice a L.length cap, .int .i64 x] w (RetSl w.heap.size V w) from fun a cap w h => by rw [hV]; exact specCoversOf_any a cap L x w h hM)
    have HV := Lib.hid hV
    clear hb ho hV
    cases hG : goodB L x x with
    | false =>
      have v2 : meetOfI L x x = -1 := by unfold meetOfI; rw [hG]; rfl
      clear hG
      cases hl : latB L with
      | false =>
        go_wp2_with (first
        | go_skip
        | (go_at_call 29; refine (HI.out _ _ _ hS.2).mono ?_; rintro e wz ⟨ahT, chT, rfl, ohT, hb⟩; replace hS := hS.next hb; (try replace hT := hT.next hb); (try replace hU := hU.next hb); have hT : St w ahT V wz := ⟨hS.1, ohT.rd⟩; clear ohT)
        | (go_at_call 31; refine (HP.out _ _ _ hS.2).mono ?_; rintro e wz ⟨ahU, chU, rfl, ohU, hb⟩; replace hS := hS.next hb; (try replace hT := hT.next hb); (try replace hU := hU.next hb); have hU : St w ahU V wz := ⟨hS.1, ohU.rd⟩; clear ohU)
        | (go_at_call 30; refine (equalInts_same _ _ _ _ V _ hT.2 hU.2 hM2).mono ?_; rintro e wz ⟨rfl, hb⟩; replace hS := hS.dr hb; (try replace hT := hT.dr hb); (try replace hU := hU.dr hb))
        | (go_at_call 16; refine (implValidLattice_any _ _ L _ hS.2).mono ?_; rintro e wz ⟨rfl, hb⟩; replace hS := hS.next hb; (try replace hT := hT.next hb); (try replace hU := hU.next hb))
        | (go_at_call 22; refine (implMeetOf_any _ _ L _ _ _ hS.2).mono ?_; rintro e wz ⟨rfl, hb⟩; replace hS := hS.next hb; (try replace hT := hT.next hb); (try replace hU := hU.next hb)))
        go_ret
        exact ⟨rfl, hS.1⟩
      | true =>
        go_wp2_with (first
        | go_skip
        | (go_at_call 29; refine (HI.out _ _ _ hS.2).mono ?_; rintro e wz ⟨ahT, chT, rfl, ohT, hb⟩; replace hS := hS.next hb; (try replace hT := hT.next hb); (try replace hU := hU.next hb); have hT : St w ahT V wz := ⟨hS.1, ohT.rd⟩; clear ohT)
        | (go_at_call 31; refine (HP.out _ _ _ hS.2).mono ?_; rintro e wz ⟨ahU, chU, rfl, ohU, hb⟩; replace hS := hS.next hb; (try replace hT := hT.next hb); (try replace hU := hU.next hb); have hU : St w ahU V wz := ⟨hS.1, ohU.rd⟩; clear ohU)
        | (go_at_call 30; refine (equalInts_same _ _ _ _ V _ hT.2 hU.2 hM2).mono ?_; rintro e wz ⟨rfl, hb⟩; replace hS := hS.dr hb; (try replace hT := hT.dr hb); (try replace hU := hU.dr hb))
        | (go_at_call 16; refine (implValidLattice_any _ _ L _ hS.2).mono ?_; rintro e wz ⟨rfl, hb⟩; replace hS := hS.next hb; (try replace hT := hT.next hb); (try replace hU := hU.next hb))
        | (go_at_call 22; refine (implMeetOf_any _ _ L _ _ _ hS.2).mono ?_; rintro e wz ⟨rfl, hb⟩; replace hS := hS.next hb; (try replace hT := hT.next hb); (try replace hU := hU.next hb)))
        go_ret
        exact ⟨rfl, hS.1⟩
    | true =>
      obtain ⟨hl, hx, _⟩ := good_el.1 hG
      have v2 : meetOfI L x x = x := by unfold meetOfI; rw [hG]; simp [mt_of_le hl hx hx (bl_refl hl hx)]
      have m0 : ¬ x < 0 := by have := hx.1; omega
      have hVe : V = filtTo (covQ L x) (num L) := by rw [HV.out]; exact covI_t hG
      have HVE := Lib.hid hVe
      have HL := Lib.hid hl
      have HX := Lib.hid hx
      clear hG hx hVe
      go_wp2_with (first
        | go_skip
        | (go_at_call 29; refine (HI.out _ _ _ hS.2).mono ?_; rintro e wz ⟨ahT, chT, rfl, ohT, hb⟩; replace hS := hS.next hb; (try replace hT := hT.next hb); (try replace hU := hU.next hb); have hT : St w ahT V wz := ⟨hS.1, ohT.rd⟩; clear ohT)
        | (go_at_call 31; refine (HP.out _ _ _ hS.2).mono ?_; rintro e wz ⟨ahU, chU, rfl, ohU, hb⟩; replace hS := hS.next hb; (try replace hT := hT.next hb); (try replace hU := hU.next hb); have hU : St w ahU V wz := ⟨hS.1, ohU.rd⟩; clear ohU)
        | (go_at_call 30; refine (equalInts_same _ _ _ _ V _ hT.2 hU.2 hM2).mono ?_; rintro e wz ⟨rfl, hb⟩; replace hS := hS.dr hb; (try replace hT := hT.dr hb); (try replace hU := hU.dr hb))
        | (go_at_call 16; refine (implValidLattice_any _ _ L _ hS.2).mono ?_; rintro e wz ⟨rfl, hb⟩; replace hS := hS.next hb; (try replace hT := hT.next hb); (try replace hU := hU.next hb))
        | (go_at_call 22; refine (implMeetOf_any _ _ L _ _ _ hS.2).mono ?_; rintro e wz ⟨rfl, hb⟩; replace hS := hS.next hb; (try replace hT := hT.next hb); (try replace hU := hU.next hb)))
      clear hU
      go_loopw [6, 7, 8] (fun i _ _ wr => ∃ y : Int, 0 ≤ y ∧ y ≤ L.length ∧ i = .int .i64 y ∧ St w a L wr ∧ St w ahT V wr) (fun i _ _ _ => ((L.length : Int) - intOf i).toNat)
      case atStart => exact ⟨0, by omega, by omega, rfl, hS, hT⟩
      case round =>
        obtain ⟨y, y0, y1, rfl, hS, hT⟩ := hrel
        by_cases hy : y < L.length
        · have HY := Lib.hid (show El L y from ⟨y0, hy⟩)
          go_wp2
          go_loopw [7, 8] (fun mv i wr => ∃ k : Int, 0 ≤ k ∧ k ≤ V.length ∧ i = .int .i64 k ∧ mv = .int .i64 (metN L y (V.take k.toNat)) ∧ St w a L wr ∧ St w ahT V wr) (fun _ i _ => ((V.length : Int) - intOf i).toNat)
          case atStart => exact ⟨0, by omega, by omega, rfl, rfl, hS, hT⟩
          case round =>
            obtain ⟨k, k0, k1, rfl, rfl, hS, hT⟩ := hrel
            by_cases hk : k < V.length
            · have hm := nth_mem' V k0 hk
              rw [HVE.out, cov_el, ← HVE.out] at hm
              obtain ⟨hc, _⟩ := hm
              have htk := take_nextZ V k0 hk
              have hmt := metN_snoc L y (V.take k.toNat) (nth V k)
              rw [← htk] at hmt
              have HMT := Lib.hid hmt
              have hle : (metN L y (V.take k.toNat) : Int) ≤ 100 := by
                have h1 : metN L y (V.take k.toNat) ≤ (V.take k.toNat).length := List.length_filter_le _ _
                have h2 : (V.take k.toNat).length ≤ V.length := by rw [List.length_take]; omega
                omega
              have g1 : isBelowB L (nth V k) y = bl L (nth V k) y := by unfold isBelowB; rw [good_el.2 ⟨HL.out, hc, HY.out⟩]; rfl
              obtain ⟨b2, o2, rfl, hc2⟩ := hT.2 (by intro e; rw [e] at hk; simp at hk; omega)
              have d1 := hc2.at k k0 hk
              clear hc hc2 htk hmt
              cases hq : bl L (nth V k) y with
              | false =>
                rw [hq] at g1
                go_wp2_with (first
        | go_skip
        | (go_at_call 18; refine (implIsBelow_any _ _ L _ _ _ hS.2).mono ?_; rintro e wz ⟨rfl, hb⟩; replace hS := hS.next hb; (try replace hT := hT.next hb); (try replace hU := hU.next hb)))
                go_roundw
                case rel => exact ⟨k + 1, by omega, by omega, rfl, by rw [HMT.out, if_neg (by rw [hq]; decide)], hS, hT⟩
                case measure => simp [intOf]; omega
              | true =>
                rw [hq] at g1
                go_wp2_with (first
        | go_skip
        | (go_at_call 18; refine (implIsBelow_any _ _ L _ _ _ hS.2).mono ?_; rintro e wz ⟨rfl, hb⟩; replace hS := hS.next hb; (try replace hT := hT.next hb); (try replace hU := hU.next hb)))
                go_roundw
                case rel => exact ⟨k + 1, by omega, by omega, rfl, by rw [HMT.out, if_pos hq]; rfl, hS, hT⟩
                case measure => simp [intOf]; omega
            · have he : V.take k.toNat = V := List.take_of_length_le (by omega)
              rw [he]
              have hcm := cov_met HL.out HX.out HY.out
              rw [← HVE.out] at hcm
              have hone : inL V y = true → metN L y V = 1 := fun h => by
                have := inL_iff.1 h
                rw [HVE.out, cov_el] at this
                rw [HVE.out]; exact cov_one HL.out HX.out HY.out this.2
              have g1 : isBelowB L x y = bl L x y := by unfold isBelowB; rw [good_el.2 ⟨HL.out, HX.out, HY.out⟩]; rfl
              have hle : (metN L y V : Int) ≤ 100 := by
                have h1 : metN L y V ≤ V.length := List.length_filter_le _ _
                omega
              obtain ⟨M, hMe⟩ : ∃ M, M = metN L y V := ⟨_, rfl⟩
              rw [← hMe] at hcm hone hle ⊢
              clear hMe
              have HO := Lib.hid hone
              clear hone he
              have hMpos : (decide ((0 : Int) < M)) = (y != x && bl L x y) := by rw [← hcm]; congr 1; exact propext (by omega)
              have HMP := Lib.hid hMpos
              clear hcm hMpos
              cases hI : inL V y with
              | false =>
                cases h1 : (y != x) with
                | false =>
                  have h0 : M = 0 := by have := HMP.out; rw [h1, Bool.false_and, decide_eq_false_iff_not] at this; omega
                  subst h0
                  go_wp2_with (first
        | go_skip
        | (go_at_call 18; refine (implIsBelow_any _ _ L _ _ _ hS.2).mono ?_; rintro e wz ⟨rfl, hb⟩; replace hS := hS.next hb; (try replace hT := hT.next hb); (try replace hU := hU.next hb))
        | (go_at_call 32; refine (lawIsIn_any _ _ V _ _ hT.2 hM2).mono ?_; rintro e wz ⟨rfl, hb⟩; replace hS := hS.dr hb; (try replace hT := hT.dr hb); (try replace hU := hU.dr hb)))
                  go_roundw
                  case rel => exact ⟨y + 1, by omega, by omega, rfl, hS, hT⟩
                  case measure => simp [intOf]; omega
                | true =>
                  cases h2 : bl L x y with
                  | false =>
                    rw [h2] at g1
                    have h0 : M = 0 := by have := HMP.out; rw [h2, Bool.and_false, decide_eq_false_iff_not] at this; omega
                    subst h0
                    go_wp2_with (first
        | go_skip
        | (go_at_call 18; refine (implIsBelow_any _ _ L _ _ _ hS.2).mono ?_; rintro e wz ⟨rfl, hb⟩; replace hS := hS.next hb; (try replace hT := hT.next hb); (try replace hU := hU.next hb))
        | (go_at_call 32; refine (lawIsIn_any _ _ V _ _ hT.2 hM2).mono ?_; rintro e wz ⟨rfl, hb⟩; replace hS := hS.dr hb; (try replace hT := hT.dr hb); (try replace hU := hU.dr hb)))
                    go_roundw
                    case rel => exact ⟨y + 1, by omega, by omega, rfl, hS, hT⟩
                    case measure => simp [intOf]; omega
                  | true =>
                    rw [h2] at g1
                    have h0 : (0 : Int) < M := by have := HMP.out; rw [h1, h2, Bool.and_true, decide_eq_true_eq] at this; exact this
                    go_wp2_with (first
        | go_skip
        | (go_at_call 18; refine (implIsBelow_any _ _ L _ _ _ hS.2).mono ?_; rintro e wz ⟨rfl, hb⟩; replace hS := hS.next hb; (try replace hT := hT.next hb); (try replace hU := hU.next hb))
        | (go_at_call 32; refine (lawIsIn_any _ _ V _ _ hT.2 hM2).mono ?_; rintro e wz ⟨rfl, hb⟩; replace hS := hS.dr hb; (try replace hT := hT.dr hb); (try replace hU := hU.dr hb)))
                    go_roundw
                    case rel => exact ⟨y + 1, by omega, by omega, rfl, hS, hT⟩
                    case measure => simp [intOf]; omega
              | true =>
                have hM1 := HO.out hI
                subst hM1
                have hp := HMP.out
                have h1 : (y != x) = true := by
                  cases h : (y != x)
                  · rw [h, Bool.false_and] at hp; cases hp
                  · rfl
                have h2 : bl L x y = true := by
                  cases h : bl L x y
                  · rw [h, Bool.and_false] at hp; cases hp
                  · rfl
                rw [h2] at g1
                clear hp h2
                go_wp2_with (first
        | go_skip
        | (go_at_call 18; refine (implIsBelow_any _ _ L _ _ _ hS.2).mono ?_; rintro e wz ⟨rfl, hb⟩; replace hS := hS.next hb; (try replace hT := hT.next hb); (try replace hU := hU.next hb))
        | (go_at_call 32; refine (lawIsIn_any _ _ V _ _ hT.2 hM2).mono ?_; rintro e wz ⟨rfl, hb⟩; replace hS := hS.dr hb; (try replace hT := hT.dr hb); (try replace hU := hU.dr hb)))
                go_roundw
                case rel => exact ⟨y + 1, by omega, by omega, rfl, hS, hT⟩
                case measure => simp [intOf]; omega
        · have hasc : Asc V := by rw [HVE.out]; exact filtTo_ascI _ (by unfold num; omega)
          have HA := Lib.hid hasc
          clear hasc
          go_wp2_with (first
        | go_skip
        | (go_at_call 33; refine (ascends_up _ _ V _ hT.2 HA.out hM2).mono ?_; rintro e wz ⟨rfl, hb⟩; replace hS := hS.dr hb; (try replace hT := hT.dr hb); (try replace hU := hU.dr hb)))
          go_ret
          exact ⟨rfl, hS.1⟩
end Go.Proofs.Ytmlbdlobdnhimaa
