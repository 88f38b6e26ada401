import Derived.Test.YtmlbdlobdnhimaaZ8
import Derived.Test.YtmlbdlobdnhimaaZ5
import Derived.Test.YtmlbdlobdnhimaaFN2
import Derived.Test.YtmlbdlobdnhimaaM11
import Derived.Test.YtmlbdlobdnhimaaU4
namespace Go.Proofs.Ytmlbdlobdnhimaa
open Go.RowKit
theorem mul_le64 {x y : Int} (x0 : 0 ≤ x) (x8 : x ≤ 8) (y0 : 0 ≤ y) (y8 : y ≤ 8) : 0 ≤ x * y ∧ x * y ≤ 64 :=
  ⟨Int.mul_nonneg x0 y0, by have := Int.mul_le_mul x8 y8 y0 (by omega : (0 : Int) ≤ 8); omega⟩
/-- two lists are drawn -/
def RetSS (w : World) (e : Ending) (w' : World) : Prop := ∃ (A B : List Int) (a : Option Addr) (ca : Nat) (b : Option Addr) (cb : Nat), e = .returned (.tuple #[.slice a A.length ca, .slice b B.length cb]) ∧ Own w.heap.size w' (.slice a A.length ca) A ∧ Own w.heap.size w' (.slice b B.length cb) B ∧ A.length ≤ 8 ∧ B.length ≤ 8 ∧ Below w.heap.size w w'
set_option maxRecDepth 100000 in
set_option maxHeartbeats 2000000 in
/-- spec.DrawCrossLattices -/
theorem drawCrossLattices_any (a : Option Addr) (n cap : Nat) (w : World) (hy : RdY w a n w.heap.size) (hc : n ≤ cap) (hm : n ≤ 1048576) :
    Calls Try.prog 46 #[.slice a n cap] w (RetSS w) := by
  go_enter Try.func46, Try.ntmps46
  go_wp2_with fail
  refine (newReader_any a n cap w hy hc hm).mono ?_
  rintro e w1 ⟨rfl, hb1, hr1⟩
  have hs1 := hb1.size
  go_wp2_with fail
  refine (pick_any w.heap.size w.heap.size 0 6 w1 hr1 (by omega) (by omega) (by omega)).mono ?_
  rintro e w2 ⟨k, rfl, k0, k1, hg2', hr2⟩
  have hg2 := grown_trans (grown_of_below hb1) hg2'
  have hs2 := hg2.size
  by_cases e0 : k = 0
  · subst e0
    go_wp2_with fail
    refine (someLattice_any w.heap.size w.heap.size (0 + 1) w2 hr2 (by omega)).mono ?_
    rintro e w3 ⟨L, v, rfl, ho, _, l8, hg3', hr3⟩
    have hg3 := grown_trans hg2 hg3'
    have ho3 := ho.from hs2
    obtain ⟨ua, uc, rfl, _⟩ := ho3.slice
    go_wp2_with fail
    refine (someLattice_any w.heap.size w.heap.size (0 + 1 + 6) w3 hr3 (by omega)).mono ?_
    rintro e w4 ⟨M, v, rfl, hp, _, m8, hg4', hr4⟩
    have hg4 := grown_trans hg3 hg4'
    have hp4 := hp.from hg3.size
    have ho4 := ho3.drawn hr3 hg4'
    obtain ⟨va, vc, rfl, _⟩ := hp4.slice
    go_wp2
    go_ret2
    exact ⟨L, M, ua, uc, va, vc, rfl, ho4, hp4, l8, m8, grown_below hg4 (Nat.le_refl _) (Nat.le_refl _)⟩
  · have f0 : (k == 0) = false := by rw [beq_eq_false_iff_ne]; exact e0
    have K : ∀ i : Int, 0 ≤ i → i < ([2, 3, 1, 2] : List Int).length → 1 ≤ nth [2, 3, 1, 2] i ∧ nth [2, 3, 1, 2] i ≤ 3 := fun i i0 i1 => by
      have hm := nth_mem' [2, 3, 1, 2] i0 i1
      simp only [List.mem_cons, List.not_mem_nil, or_false] at hm
      omega
    have HK := Lib.hid K
    clear K
    go_wp2_with fail
    have hrow : Row (w2.alloc (.cells #[.int .i64 2, .int .i64 3, .int .i64 1, .int .i64 2] 3)) w2.heap.size [2, 3, 1, 2] := heap_alloc_new w2 _
    have hown := Own.row hrow (Nat.le_refl _) (by unfold maxLen; simp)
    have hr3 := hr2.alloc (.cells #[.int .i64 2, .int .i64 3, .int .i64 1, .int .i64 2] 3)
    have hg3 := grown_alloc hg2 (.cells #[.int .i64 2, .int .i64 3, .int .i64 1, .int .i64 2] 3)
    refine (one_any w.heap.size w.heap.size (0 + 1) _ _ [2, 3, 1, 2] _ hr3 (by omega) (hown.held hr3) (by simp) (by simp)).mono ?_
    rintro e w4 ⟨i, i0, i1, rfl, hg4', hr4⟩
    obtain ⟨x1, x3⟩ := HK.out i i0 i1
    obtain ⟨x, hx⟩ : ∃ x, x = nth [2, 3, 1, 2] i := ⟨_, rfl⟩
    rw [← hx] at x1 x3 ⊢
    clear hx hrow hown
    have hg4 := grown_trans hg3 hg4'
    go_wp2_with fail
    refine (chain_any x w4 (by omega) (by omega)).mono ?_
    rintro e w5 ⟨v, rfl, ho5, hb5⟩
    have hl5 := chainTo_len x x (by omega)
    have hr5 := hr4.below hb5
    have hg5 := grown_new hg4 hb5
    have ho5' := ho5.from hg4.size
    obtain ⟨A, hA⟩ : ∃ A, A = chainTo x x := ⟨_, rfl⟩
    rw [← hA] at ho5' hl5
    obtain ⟨ua, uc, rfl, _⟩ := ho5'.slice
    clear ho5 hA
    have HL5 := Lib.hid hl5
    clear hl5
    go_wp2_with fail
    have hrow : Row (w5.alloc (.cells #[.int .i64 2, .int .i64 3, .int .i64 1, .int .i64 2] 3)) w5.heap.size [2, 3, 1, 2] := heap_alloc_new w5 _
    have hown := Own.row hrow (Nat.le_refl _) (by unfold maxLen; simp)
    have hr6 := hr5.alloc (.cells #[.int .i64 2, .int .i64 3, .int .i64 1, .int .i64 2] 3)
    have hg6 := grown_alloc hg5 (.cells #[.int .i64 2, .int .i64 3, .int .i64 1, .int .i64 2] 3)
    have ho6 := ho5'.alloc (.cells #[.int .i64 2, .int .i64 3, .int .i64 1, .int .i64 2] 3)
    refine (one_any w.heap.size w.heap.size (0 + 1 + 1) _ _ [2, 3, 1, 2] _ hr6 (by omega) (hown.held hr6) (by simp) (by simp)).mono ?_
    rintro e w7 ⟨j, j0, j1, rfl, hg7', hr7⟩
    obtain ⟨y1, y3⟩ := HK.out j j0 j1
    obtain ⟨y, hy⟩ : ∃ y, y = nth [2, 3, 1, 2] j := ⟨_, rfl⟩
    rw [← hy] at y1 y3 ⊢
    clear hy hrow hown
    have hg7 := grown_trans hg6 hg7'
    have ho7 := ho6.drawn hr6 hg7'
    go_wp2_with fail
    refine (chain_any y w7 (by omega) (by omega)).mono ?_
    rintro e w8 ⟨v, rfl, hp8, hb8⟩
    have hl8 := chainTo_len y y (by omega)
    have hg8 := grown_new hg7 hb8
    have ho8 := ho7.below hb8
    have hp8' := hp8.from hg7.size
    obtain ⟨B, hB⟩ : ∃ B, B = chainTo y y := ⟨_, rfl⟩
    rw [← hB] at hp8' hl8
    obtain ⟨va, vc, rfl, _⟩ := hp8'.slice
    clear hp8 hB
    have HL8 := Lib.hid hl8
    clear hl8
    go_wp2
    go_ret2
    exact ⟨A, B, ua, uc, va, vc, rfl, ho8, hp8', by have := HL5.out; omega, by have := HL8.out; omega, grown_below hg8 (Nat.le_refl _) (Nat.le_refl _)⟩
set_option maxRecDepth 100000 in
set_option maxHeartbeats 2000000 in
/-- laws.FnCrossLattices -/
theorem lawPCrossLattices (a0 : Option Addr) (len0 cap0 : Nat) (w : World) (hy : RdY w a0 len0 w.heap.size) (hc : len0 ≤ cap0) (hm : len0 ≤ maxLen) :
    Calls Try.prog 12 #[.slice a0 len0 cap0] w fun e w' => e = .returned (.bool true) ∧ Below w.heap.size w w' := by
  by_cases hbig : 1048576 < len0
  · have hbig2 : (1048576 : Int) < len0 := by omega
    go_enter Try.func12, Try.ntmps12
    go_wp2
    go_ret
    exact ⟨rfl, Below.refl _ _⟩
  · have hs : len0 ≤ 1048576 := by omega
    have hs2 : ¬ (1048576 : Int) < len0 := by omega
    go_enter Try.func12, Try.ntmps12
    go_wp2_with fail
    refine (drawCrossLattices_any a0 len0 cap0 w hy hc hs).mono ?_
    rintro e w1 ⟨A, B, a, ca, ahU, chU, rfl, hoA, hoB, a8, b8, hb⟩
    have _ := hm
    clear hs hs2 hbig hy hm hc
    have hS : St w a A w1 := ⟨hb, hoA.rd⟩
    have hU : St w ahU B w1 := ⟨hb, hoB.rd⟩
    have hV6 := crossI_len A B
    obtain ⟨V, hV⟩ : ∃ V, V = crossI A B := ⟨_, rfl⟩
    rw [← hV] at hV6
    have hM2 : V.length ≤ 1073741824 := by omega
    have HI := Lib.hid (show ∀ (a b : Option Addr) (ca cb : Nat) (w : World), Rd w a A → Rd w b B → Calls Try.prog 47 #[.slice a A.length ca, .slice b B.length cb] w (RetSl w.heap.size V w) from fun a b ca cb w h k => by rw [hV]; exact implCrossLattices_any a b ca cb A B w h k)
    have HP := Lib.hid (show ∀ (a b : Option Addr) (ca cb : Nat) (w : World), Rd w a A → Rd w b B → Calls Try.prog 48 #[.slice a A.length ca, .slice b B.length cb] w (RetSl w.heap.size V w) from fun a b ca cb w h k => by rw [hV]; exact specCrossLattices_any a b ca cb A B w h k)
    have HV := Lib.hid hV
    have p0 := mul_le64 (show (0 : Int) ≤ A.length by omega) (show (A.length : Int) ≤ 8 by omega) (show (0 : Int) ≤ B.length by omega) (show (B.length : Int) ≤ 8 by omega)
    obtain ⟨p0, p64⟩ := p0
    clear hb hoA hoB hV
    by_cases hn : latB A = true ∧ latB B = true ∧ (A.length : Int) * B.length ≤ 6
    · obtain ⟨la, lb, h6⟩ := hn
      have hVe : V = crL A B := by rw [HV.out]; exact crossI_t la lb h6
      have hl : latB V = true := by rw [hVe]; exact crL_lat la lb h6
      have hlen : (V.length : Int) = (A.length : Int) * B.length := by rw [hVe]; exact crL_num
      have hd : distB V = (distB A && distB B) := by rw [hVe]; exact crL_dist la lb h6
      have hne : ((V.length : Int) == 0) = false := by have := (lat_len hl).1; rw [beq_eq_false_iff_ne]; unfold num at this; omega
      have hle : ((V.length : Int) == (A.length : Int) * B.length) = true := by rw [beq_iff_eq]; exact hlen
      have HVE := Lib.hid hVe
      clear hVe hlen
      cases hda : distB A with
      | false =>
        rw [hda, Bool.false_and] at hd
        go_wp2_with (first
        | go_skip
        | (go_at_call 47; refine (HI.out _ _ _ _ _ hS.2 hU.2).mono ?_; rintro e wz ⟨ahT, chT, rfl, ohT, hb⟩; replace hS := hS.next hb; (try replace hT := hT.next hb); (try replace hU := hU.next hb); have hT : St w ahT V wz := ⟨hS.1, ohT.rd⟩; clear ohT)
        | (go_at_call 48; refine (HP.out _ _ _ _ _ hS.2 hU.2).mono ?_; rintro e wz ⟨ahW, chW, rfl, ohW, hb⟩; replace hS := hS.next hb; (try replace hT := hT.next hb); (try replace hU := hU.next hb); have hW : St w ahW V wz := ⟨hS.1, ohW.rd⟩; clear ohW)
        | (go_at_call 30; refine (equalInts_same _ _ _ _ V _ hT.2 hW.2 hM2).mono ?_; rintro e wz ⟨rfl, hb⟩; replace hS := hS.dr hb; (try replace hT := hT.dr hb); (try replace hU := hU.dr hb))
        | (go_at_call 16; refine (implValidLattice_any _ _ V _ hT.2).mono ?_; rintro e wz ⟨rfl, hb⟩; replace hS := hS.next hb; (try replace hT := hT.next hb); (try replace hU := hU.next hb))
        | (go_at_call_of 37 (Value.slice ahT V.length chT); refine (implIsDistributive_any _ _ V _ hT.2).mono ?_; rintro e wz ⟨rfl, hb⟩; replace hS := hS.next hb; (try replace hT := hT.next hb); (try replace hU := hU.next hb))
        | (go_at_call_of 37 (Value.slice a A.length ca); refine (implIsDistributive_any _ _ A _ hS.2).mono ?_; rintro e wz ⟨rfl, hb⟩; replace hS := hS.next hb; (try replace hT := hT.next hb); (try replace hU := hU.next hb))
        | (go_at_call_of 37 (Value.slice ahU B.length chU); refine (implIsDistributive_any _ _ B _ hU.2).mono ?_; rintro e wz ⟨rfl, hb⟩; replace hS := hS.next hb; (try replace hT := hT.next hb); (try replace hU := hU.next hb)))
        go_ret
        exact ⟨rfl, hS.1⟩
      | true =>
        rw [hda, Bool.true_and] at hd
        cases hdb : distB B with
        | false =>
          rw [hdb] at hd
          go_wp2_with (first
        | go_skip
        | (go_at_call 47; refine (HI.out _ _ _ _ _ hS.2 hU.2).mono ?_; rintro e wz ⟨ahT, chT, rfl, ohT, hb⟩; replace hS := hS.next hb; (try replace hT := hT.next hb); (try replace hU := hU.next hb); have hT : St w ahT V wz := ⟨hS.1, ohT.rd⟩; clear ohT)
        | (go_at_call 48; refine (HP.out _ _ _ _ _ hS.2 hU.2).mono ?_; rintro e wz ⟨ahW, chW, rfl, ohW, hb⟩; replace hS := hS.next hb; (try replace hT := hT.next hb); (try replace hU := hU.next hb); have hW : St w ahW V wz := ⟨hS.1, ohW.rd⟩; clear ohW)
        | (go_at_call 30; refine (equalInts_same _ _ _ _ V _ hT.2 hW.2 hM2).mono ?_; rintro e wz ⟨rfl, hb⟩; replace hS := hS.dr hb; (try replace hT := hT.dr hb); (try replace hU := hU.dr hb))
        | (go_at_call 16; refine (implValidLattice_any _ _ V _ hT.2).mono ?_; rintro e wz ⟨rfl, hb⟩; replace hS := hS.next hb; (try replace hT := hT.next hb); (try replace hU := hU.next hb))
        | (go_at_call_of 37 (Value.slice ahT V.length chT); refine (implIsDistributive_any _ _ V _ hT.2).mono ?_; rintro e wz ⟨rfl, hb⟩; replace hS := hS.next hb; (try replace hT := hT.next hb); (try replace hU := hU.next hb))
        | (go_at_call_of 37 (Value.slice a A.length ca); refine (implIsDistributive_any _ _ A _ hS.2).mono ?_; rintro e wz ⟨rfl, hb⟩; replace hS := hS.next hb; (try replace hT := hT.next hb); (try replace hU := hU.next hb))
        | (go_at_call_of 37 (Value.slice ahU B.length chU); refine (implIsDistributive_any _ _ B _ hU.2).mono ?_; rintro e wz ⟨rfl, hb⟩; replace hS := hS.next hb; (try replace hT := hT.next hb); (try replace hU := hU.next hb)))
          go_ret
          exact ⟨rfl, hS.1⟩
        | true =>
          rw [hdb] at hd
          go_wp2_with (first
        | go_skip
        | (go_at_call 47; refine (HI.out _ _ _ _ _ hS.2 hU.2).mono ?_; rintro e wz ⟨ahT, chT, rfl, ohT, hb⟩; replace hS := hS.next hb; (try replace hT := hT.next hb); (try replace hU := hU.next hb); have hT : St w ahT V wz := ⟨hS.1, ohT.rd⟩; clear ohT)
        | (go_at_call 48; refine (HP.out _ _ _ _ _ hS.2 hU.2).mono ?_; rintro e wz ⟨ahW, chW, rfl, ohW, hb⟩; replace hS := hS.next hb; (try replace hT := hT.next hb); (try replace hU := hU.next hb); have hW : St w ahW V wz := ⟨hS.1, ohW.rd⟩; clear ohW)
        | (go_at_call 30; refine (equalInts_same _ _ _ _ V _ hT.2 hW.2 hM2).mono ?_; rintro e wz ⟨rfl, hb⟩; replace hS := hS.dr hb; (try replace hT := hT.dr hb); (try replace hU := hU.dr hb))
        | (go_at_call 16; refine (implValidLattice_any _ _ V _ hT.2).mono ?_; rintro e wz ⟨rfl, hb⟩; replace hS := hS.next hb; (try replace hT := hT.next hb); (try replace hU := hU.next hb))
        | (go_at_call_of 37 (Value.slice ahT V.length chT); refine (implIsDistributive_any _ _ V _ hT.2).mono ?_; rintro e wz ⟨rfl, hb⟩; replace hS := hS.next hb; (try replace hT := hT.next hb); (try replace hU := hU.next hb))
        | (go_at_call_of 37 (Value.slice a A.length ca); refine (implIsDistributive_any _ _ A _ hS.2).mono ?_; rintro e wz ⟨rfl, hb⟩; replace hS := hS.next hb; (try replace hT := hT.next hb); (try replace hU := hU.next hb))
        | (go_at_call_of 37 (Value.slice ahU B.length chU); refine (implIsDistributive_any _ _ B _ hU.2).mono ?_; rintro e wz ⟨rfl, hb⟩; replace hS := hS.next hb; (try replace hT := hT.next hb); (try replace hU := hU.next hb)))
          go_ret
          exact ⟨rfl, hS.1⟩
    · have hVe : V = [] := by
        rw [HV.out]
        cases h1 : latB A
        · exact crossI_a h1
        · cases h2 : latB B
          · exact crossI_b h2
          · exact crossI_c fun h => hn ⟨h1, h2, h⟩
      subst hVe
      go_wp2_with (first
        | go_skip
        | (go_at_call 47; refine (HI.out _ _ _ _ _ hS.2 hU.2).mono ?_; rintro e wz ⟨ahT, chT, rfl, ohT, hb⟩; replace hS := hS.next hb; (try replace hT := hT.next hb); (try replace hU := hU.next hb); have hT : St w ahT [] wz := ⟨hS.1, ohT.rd⟩; clear ohT)
        | (go_at_call 48; refine (HP.out _ _ _ _ _ hS.2 hU.2).mono ?_; rintro e wz ⟨ahW, chW, rfl, ohW, hb⟩; replace hS := hS.next hb; (try replace hT := hT.next hb); (try replace hU := hU.next hb); have hW : St w ahW [] wz := ⟨hS.1, ohW.rd⟩; clear ohW)
        | (go_at_call 30; refine (equalInts_same _ _ _ _ [] _ hT.2 hW.2 hM2).mono ?_; rintro e wz ⟨rfl, hb⟩; replace hS := hS.dr hb; (try replace hT := hT.dr hb); (try replace hU := hU.dr hb)))
      go_ret
      exact ⟨rfl, hS.1⟩
end Go.Proofs.Ytmlbdlobdnhimaa
