import Derived.Test.YtdjhnbofnmhpaaaCE4
import Derived.Test.YtdjhnbofnmhpaaaOF
import Derived.Test.YtdjhnbofnmhpaaaLP
namespace Go.Proofs.Ytdjhnbofnmhpaaa
open Go.RowKit
set_option linter.unusedVariables false

set_option maxRecDepth 100000 in
set_option maxHeartbeats 1000000 in
/-- spec.DrawChainsOf -/
theorem drawChainsOf_any (a : Option Addr) (n cap : Nat) (w : World) (hy : RdY w a n w.heap.size) (hc : n ≤ cap) (hm : n ≤ 1048576) :
    Calls Try.prog 16 #[.slice a n cap] w (RetI (-1) 6 w) := by
  go_enter Try.func16, Try.ntmps16
  go_wp2_with fail
  refine (newReader_any a n cap w hy hc hm).mono ?_
  rintro e w1 ⟨rfl, hb1, hr1⟩
  have hs1 := hb1.size
  go_wp2_with fail
  have hrow : Row (w1.alloc (.cells #[.int .i64 3, .int .i64 4, .int .i64 2, .int .i64 1, .int .i64 5, .int .i64 0, .int .i64 6, .int .i64 (-1)] 3)) w1.heap.size [3, 4, 2, 1, 5, 0, 6, -1] := heap_alloc_new w1 _
  have hown := Own.row hrow (Nat.le_refl _) (by unfold maxLen; simp)
  have hr2 := hr1.alloc (.cells #[.int .i64 3, .int .i64 4, .int .i64 2, .int .i64 1, .int .i64 5, .int .i64 0, .int .i64 6, .int .i64 (-1)] 3)
  refine (one_any w.heap.size w.heap.size 0 _ _ [3, 4, 2, 1, 5, 0, 6, -1] _ hr2 (by omega) (hown.held hr2) (by simp) (by simp)).mono ?_
  rintro e w2 ⟨i, i0, i1, rfl, hg2, hr3⟩
  have hb : -1 ≤ nth [3, 4, 2, 1, 5, 0, 6, -1] i ∧ nth [3, 4, 2, 1, 5, 0, 6, -1] i ≤ 6 := by
    have hm := nth_mem' [3, 4, 2, 1, 5, 0, 6, -1] i0 i1
    simp only [List.mem_cons, List.not_mem_nil, or_false] at hm
    omega
  obtain ⟨x, hx⟩ : ∃ x, x = nth [3, 4, 2, 1, 5, 0, 6, -1] i := ⟨_, rfl⟩
  rw [← hx] at hb ⊢
  clear hx
  have hg := grown_trans (grown_alloc (grown_of_below hb1) (.cells #[.int .i64 3, .int .i64 4, .int .i64 2, .int .i64 1, .int .i64 5, .int .i64 0, .int .i64 6, .int .i64 (-1)] 3)) hg2
  go_wp2
  go_ret
  exact ⟨x, rfl, hb.1, hb.2, grown_below hg (Nat.le_refl _) (Nat.le_refl _)⟩
set_option maxRecDepth 100000 in
set_option maxHeartbeats 1000000 in
/-- spec.DrawChainCount -/
theorem drawChainCount_any (a : Option Addr) (n cap : Nat) (w : World) (hy : RdY w a n w.heap.size) (hc : n ≤ cap) (hm : n ≤ 1048576) :
    Calls Try.prog 14 #[.slice a n cap] w fun e w' => ∃ s ∈ prNames, ∃ x : Int, e = .returned (.tuple #[.string s, .int .i64 x]) ∧ 0 ≤ x ∧ x ≤ 6 ∧ Below w.heap.size w w' := by
  go_enter Try.func14, Try.ntmps14
  go_wp2_with fail
  refine (newReader_any a n cap w hy hc hm).mono ?_
  rintro e w1 ⟨rfl, hb1, hr1⟩
  have hs1 := hb1.size
  go_wp2_with fail
  refine (aProperty_any w.heap.size w.heap.size 0 w1 hr1 (by omega)).mono ?_
  rintro e w2 ⟨s, hs, rfl, hg2, hr2⟩
  have HS := Lib.hid hs
  have hs2 := hg2.size
  clear hs
  go_wp2_with fail
  have hrow : Row (w2.alloc (.cells #[.int .i64 3, .int .i64 4, .int .i64 5, .int .i64 2, .int .i64 1, .int .i64 0, .int .i64 6] 3)) w2.heap.size [3, 4, 5, 2, 1, 0, 6] := heap_alloc_new w2 _
  have hown := Own.row (B := w.heap.size) hrow (by omega) (by unfold maxLen; simp)
  have hr3 := hr2.alloc (.cells #[.int .i64 3, .int .i64 4, .int .i64 5, .int .i64 2, .int .i64 1, .int .i64 0, .int .i64 6] 3)
  refine (one_any w.heap.size w.heap.size (0 + 1) _ _ [3, 4, 5, 2, 1, 0, 6] _ hr3 (by omega) (hown.held hr3) (by simp) (by simp)).mono ?_
  rintro e w3 ⟨i, i0, i1, rfl, hg3, hr4⟩
  have hb : 0 ≤ nth [3, 4, 5, 2, 1, 0, 6] i ∧ nth [3, 4, 5, 2, 1, 0, 6] i ≤ 6 := by
    have hm := nth_mem' [3, 4, 5, 2, 1, 0, 6] i0 i1
    simp only [List.mem_cons, List.not_mem_nil, or_false] at hm
    omega
  obtain ⟨x, hx⟩ : ∃ x, x = nth [3, 4, 5, 2, 1, 0, 6] i := ⟨_, rfl⟩
  rw [← hx] at hb ⊢
  clear hx
  have hg := grown_trans (grown_alloc (grown_trans (grown_of_below hb1) hg2) (.cells #[.int .i64 3, .int .i64 4, .int .i64 5, .int .i64 2, .int .i64 1, .int .i64 0, .int .i64 6] 3)) hg3
  go_wp2
  go_ret2
  exact ⟨s, HS.out, x, rfl, hb.1, hb.2, grown_below hg (Nat.le_refl _) (Nat.le_refl _)⟩
theorem cc_0_1 : ccI ⟨#[112, 114, 101, 108, 105, 110, 101, 97, 114]⟩ 1 = 1 := by decide +kernel
theorem cc_0_2 : ccI ⟨#[112, 114, 101, 108, 105, 110, 101, 97, 114]⟩ 2 = 1 := by decide +kernel
theorem cc_0_3 : ccI ⟨#[112, 114, 101, 108, 105, 110, 101, 97, 114]⟩ 3 = 2 := by decide +kernel
theorem cc_0_4 : ccI ⟨#[112, 114, 101, 108, 105, 110, 101, 97, 114]⟩ 4 = 6 := by decide +kernel
theorem cc_0_5 : ccI ⟨#[112, 114, 101, 108, 105, 110, 101, 97, 114]⟩ 5 = 22 := by decide +kernel
theorem cc_1_1 : ccI ⟨#[100, 105, 118, 105, 115, 105, 98, 108, 101]⟩ 1 = 1 := by decide +kernel
theorem cc_1_2 : ccI ⟨#[100, 105, 118, 105, 115, 105, 98, 108, 101]⟩ 2 = 1 := by decide +kernel
theorem cc_1_3 : ccI ⟨#[100, 105, 118, 105, 115, 105, 98, 108, 101]⟩ 3 = 2 := by decide +kernel
theorem cc_1_4 : ccI ⟨#[100, 105, 118, 105, 115, 105, 98, 108, 101]⟩ 4 = 4 := by decide +kernel
theorem cc_1_5 : ccI ⟨#[100, 105, 118, 105, 115, 105, 98, 108, 101]⟩ 5 = 8 := by decide +kernel
theorem cc_2_1 : ccI ⟨#[105, 110, 118, 111, 108, 117, 116, 105, 118, 101]⟩ 1 = 1 := by decide +kernel
theorem cc_2_2 : ccI ⟨#[105, 110, 118, 111, 108, 117, 116, 105, 118, 101]⟩ 2 = 1 := by decide +kernel
theorem cc_2_3 : ccI ⟨#[105, 110, 118, 111, 108, 117, 116, 105, 118, 101]⟩ 3 = 1 := by decide +kernel
theorem cc_2_4 : ccI ⟨#[105, 110, 118, 111, 108, 117, 116, 105, 118, 101]⟩ 4 = 2 := by decide +kernel
theorem cc_2_5 : ccI ⟨#[105, 110, 118, 111, 108, 117, 116, 105, 118, 101]⟩ 5 = 3 := by decide +kernel
theorem cc_3_1 : ccI ⟨#[105, 100, 101, 109, 112, 111, 116, 101, 110, 116]⟩ 1 = 1 := by decide +kernel
theorem cc_3_2 : ccI ⟨#[105, 100, 101, 109, 112, 111, 116, 101, 110, 116]⟩ 2 = 1 := by decide +kernel
theorem cc_3_3 : ccI ⟨#[105, 100, 101, 109, 112, 111, 116, 101, 110, 116]⟩ 3 = 1 := by decide +kernel
theorem cc_3_4 : ccI ⟨#[105, 100, 101, 109, 112, 111, 116, 101, 110, 116]⟩ 4 = 1 := by decide +kernel
theorem cc_3_5 : ccI ⟨#[105, 100, 101, 109, 112, 111, 116, 101, 110, 116]⟩ 5 = 1 := by decide +kernel
theorem cc_4_1 : ccI ⟨#[98, 111, 111, 108, 101, 97, 110]⟩ 1 = 1 := by decide +kernel
theorem cc_4_2 : ccI ⟨#[98, 111, 111, 108, 101, 97, 110]⟩ 2 = 1 := by decide +kernel
theorem cc_4_3 : ccI ⟨#[98, 111, 111, 108, 101, 97, 110]⟩ 3 = 0 := by decide +kernel
theorem cc_4_4 : ccI ⟨#[98, 111, 111, 108, 101, 97, 110]⟩ 4 = 0 := by decide +kernel
theorem cc_4_5 : ccI ⟨#[98, 111, 111, 108, 101, 97, 110]⟩ 5 = 0 := by decide +kernel
theorem chI_len1 : (chI 1).length = 1 := by decide +kernel
theorem chI_len2 : (chI 2).length = 1 := by decide +kernel
theorem chI_len3 : (chI 3).length = 2 := by decide +kernel
theorem chI_len4 : (chI 4).length = 6 := by decide +kernel
theorem chI_len5 : (chI 5).length = 22 := by decide +kernel
theorem prNames_5 {s : ByteArray} (h : s ∈ prNames) : s = ⟨#[112, 114, 101, 108, 105, 110, 101, 97, 114]⟩ ∨ s = ⟨#[100, 105, 118, 105, 115, 105, 98, 108, 101]⟩ ∨ s = ⟨#[105, 110, 118, 111, 108, 117, 116, 105, 118, 101]⟩ ∨ s = ⟨#[105, 100, 101, 109, 112, 111, 116, 101, 110, 116]⟩ ∨ s = ⟨#[98, 111, 111, 108, 101, 97, 110]⟩ ∨ s = ⟨#[]⟩ := by
  unfold prNames at h
  simp only [List.mem_cons, List.not_mem_nil, or_false] at h
  rcases h with h | h | h | h | h | h | h | h <;> simp [h]
theorem cc_none (x : Int) : ccI ⟨#[]⟩ x = -1 := by
  unfold ccI
  rw [if_neg]
  rintro ⟨_, _, h⟩
  exact absurd h (by decide +kernel)
theorem cc_out (s : ByteArray) {x : Int} (h : x < 1 ∨ 5 < x) : ccI s x = -1 := by unfold ccI; rw [if_neg (by omega)]
set_option maxRecDepth 100000 in
set_option maxHeartbeats 8000000 in
/-- laws.FnChainCount -/
theorem lawPChainCount (a0 : Option Addr) (len0 cap0 : Nat) (w : World) (hy : RdY w a0 len0 w.heap.size) (hc : len0 ≤ cap0) (hm : len0 ≤ maxLen) :
    Calls Try.prog 5 #[.slice a0 len0 cap0] w fun e w' => e = .returned (.bool true) ∧ Below w.heap.size w w' := by
  by_cases hbig : 1048576 < len0
  · have hbig2 : (1048576 : Int) < len0 := by omega
    go_enter Try.func5, Try.ntmps5
    go_wp2
    go_ret
    exact ⟨rfl, Below.refl _ _⟩
  · have hs : len0 ≤ 1048576 := by omega
    have hs2 : ¬ (1048576 : Int) < len0 := by omega
    go_enter Try.func5, Try.ntmps5
    go_wp2_with fail
    refine (drawChainCount_any a0 len0 cap0 w hy hc hs).mono ?_
    rintro e w1 ⟨s, hsn, x, rfl, x0, x6, hb⟩
    have z : Below w.heap.size w w1 := hb
    have _ := hm
    clear hs hs2 hbig hy hm hc hb
    have HLEN := Lib.hid (fun (n : Int) (w : World) => (implChainsOf_any n w))
    by_cases hn : ccI s x = -1
    · have HV := Lib.hid hn
      have HI := Lib.hid (show ∀ w : World, Calls Try.prog 13 #[.string s, .int .i64 x] w fun e w' => e = .returned (.int .i64 (-1)) ∧ Below w.heap.size w w' from fun w => by have := implChainCount_any s x w; rwa [HV.out] at this)
      have HS := Lib.hid (show ∀ w : World, Calls Try.prog 12 #[.string s, .int .i64 x] w fun e w' => e = .returned (.int .i64 (-1)) ∧ Below w.heap.size w w' from fun w => by have := specChainCount_any s x w; rwa [HV.out] at this)
      clear hsn hn x0 x6 HV
      go_wp2_with (first
        | go_skip
        | (go_at_call 13; refine (HI.out _).mono ?_; rintro e wz ⟨rfl, hb⟩; replace z := z.trans (hb.mono z.size); clear hb)
        | (go_at_call 12; refine (HS.out _).mono ?_; rintro e wz ⟨rfl, hb⟩; replace z := z.trans (hb.mono z.size); clear hb))
      go_ret
      exact ⟨rfl, z⟩
    · have hx : 1 ≤ x ∧ x ≤ 5 := by
        refine ⟨Int.not_lt.1 fun h => hn (cc_out s (.inl h)), Int.not_lt.1 fun h => hn (cc_out s (.inr h))⟩
      have hx5 : x = 1 ∨ x = 2 ∨ x = 3 ∨ x = 4 ∨ x = 5 := by omega
      rcases prNames_5 hsn with rfl | rfl | rfl | rfl | rfl | rfl
      · clear hsn hn hx x0 x6
        rcases hx5 with rfl | rfl | rfl | rfl | rfl
        · go_wp2_with (first
            | go_skip
            | (go_at_call 13; refine (implChainCount_any _ _ _).mono ?_; rw [cc_0_1]; rintro e wz ⟨rfl, hb⟩; replace z := z.trans (hb.mono z.size); clear hb)
            | (go_at_call 12; refine (specChainCount_any _ _ _).mono ?_; rw [cc_0_1]; rintro e wz ⟨rfl, hb⟩; replace z := z.trans (hb.mono z.size); clear hb)
            | (go_at_call 8; refine (HLEN.out 1 _).mono ?_; rw [chI_len1]; rintro e wz ⟨qa, qc, rfl, _, hb⟩; replace z := z.trans (hb.mono z.size); clear hb))
          go_ret
          exact ⟨rfl, z⟩
        · go_wp2_with (first
            | go_skip
            | (go_at_call 13; refine (implChainCount_any _ _ _).mono ?_; rw [cc_0_2]; rintro e wz ⟨rfl, hb⟩; replace z := z.trans (hb.mono z.size); clear hb)
            | (go_at_call 12; refine (specChainCount_any _ _ _).mono ?_; rw [cc_0_2]; rintro e wz ⟨rfl, hb⟩; replace z := z.trans (hb.mono z.size); clear hb)
            | (go_at_call 8; refine (HLEN.out 2 _).mono ?_; rw [chI_len2]; rintro e wz ⟨qa, qc, rfl, _, hb⟩; replace z := z.trans (hb.mono z.size); clear hb))
          go_ret
          exact ⟨rfl, z⟩
        · go_wp2_with (first
            | go_skip
            | (go_at_call 13; refine (implChainCount_any _ _ _).mono ?_; rw [cc_0_3]; rintro e wz ⟨rfl, hb⟩; replace z := z.trans (hb.mono z.size); clear hb)
            | (go_at_call 12; refine (specChainCount_any _ _ _).mono ?_; rw [cc_0_3]; rintro e wz ⟨rfl, hb⟩; replace z := z.trans (hb.mono z.size); clear hb)
            | (go_at_call 8; refine (HLEN.out 3 _).mono ?_; rw [chI_len3]; rintro e wz ⟨qa, qc, rfl, _, hb⟩; replace z := z.trans (hb.mono z.size); clear hb))
          go_ret
          exact ⟨rfl, z⟩
        · go_wp2_with (first
            | go_skip
            | (go_at_call 13; refine (implChainCount_any _ _ _).mono ?_; rw [cc_0_4]; rintro e wz ⟨rfl, hb⟩; replace z := z.trans (hb.mono z.size); clear hb)
            | (go_at_call 12; refine (specChainCount_any _ _ _).mono ?_; rw [cc_0_4]; rintro e wz ⟨rfl, hb⟩; replace z := z.trans (hb.mono z.size); clear hb)
            | (go_at_call 8; refine (HLEN.out 4 _).mono ?_; rw [chI_len4]; rintro e wz ⟨qa, qc, rfl, _, hb⟩; replace z := z.trans (hb.mono z.size); clear hb))
          go_ret
          exact ⟨rfl, z⟩
        · go_wp2_with (first
            | go_skip
            | (go_at_call 13; refine (implChainCount_any _ _ _).mono ?_; rw [cc_0_5]; rintro e wz ⟨rfl, hb⟩; replace z := z.trans (hb.mono z.size); clear hb)
            | (go_at_call 12; refine (specChainCount_any _ _ _).mono ?_; rw [cc_0_5]; rintro e wz ⟨rfl, hb⟩; replace z := z.trans (hb.mono z.size); clear hb)
            | (go_at_call 8; refine (HLEN.out 5 _).mono ?_; rw [chI_len5]; rintro e wz ⟨qa, qc, rfl, _, hb⟩; replace z := z.trans (hb.mono z.size); clear hb))
          go_ret
          exact ⟨rfl, z⟩
      · clear hsn hn hx x0 x6
        rcases hx5 with rfl | rfl | rfl | rfl | rfl
        · go_wp2_with (first
            | go_skip
            | (go_at_call 13; refine (implChainCount_any _ _ _).mono ?_; rw [cc_1_1]; rintro e wz ⟨rfl, hb⟩; replace z := z.trans (hb.mono z.size); clear hb)
            | (go_at_call 12; refine (specChainCount_any _ _ _).mono ?_; rw [cc_1_1]; rintro e wz ⟨rfl, hb⟩; replace z := z.trans (hb.mono z.size); clear hb)
            | (go_at_call 15; refine (lawPower_any 0 _ (by omega) (by omega)).mono ?_; rw [show pw 0 = 1 by decide +kernel]; rintro e wz ⟨rfl, rfl⟩))
          go_ret
          exact ⟨rfl, z⟩
        · go_wp2_with (first
            | go_skip
            | (go_at_call 13; refine (implChainCount_any _ _ _).mono ?_; rw [cc_1_2]; rintro e wz ⟨rfl, hb⟩; replace z := z.trans (hb.mono z.size); clear hb)
            | (go_at_call 12; refine (specChainCount_any _ _ _).mono ?_; rw [cc_1_2]; rintro e wz ⟨rfl, hb⟩; replace z := z.trans (hb.mono z.size); clear hb)
            | (go_at_call 15; refine (lawPower_any 0 _ (by omega) (by omega)).mono ?_; rw [show pw 0 = 1 by decide +kernel]; rintro e wz ⟨rfl, rfl⟩))
          go_ret
          exact ⟨rfl, z⟩
        · go_wp2_with (first
            | go_skip
            | (go_at_call 13; refine (implChainCount_any _ _ _).mono ?_; rw [cc_1_3]; rintro e wz ⟨rfl, hb⟩; replace z := z.trans (hb.mono z.size); clear hb)
            | (go_at_call 12; refine (specChainCount_any _ _ _).mono ?_; rw [cc_1_3]; rintro e wz ⟨rfl, hb⟩; replace z := z.trans (hb.mono z.size); clear hb)
            | (go_at_call 15; refine (lawPower_any 1 _ (by omega) (by omega)).mono ?_; rw [show pw 1 = 2 by decide +kernel]; rintro e wz ⟨rfl, rfl⟩))
          go_ret
          exact ⟨rfl, z⟩
        · go_wp2_with (first
            | go_skip
            | (go_at_call 13; refine (implChainCount_any _ _ _).mono ?_; rw [cc_1_4]; rintro e wz ⟨rfl, hb⟩; replace z := z.trans (hb.mono z.size); clear hb)
            | (go_at_call 12; refine (specChainCount_any _ _ _).mono ?_; rw [cc_1_4]; rintro e wz ⟨rfl, hb⟩; replace z := z.trans (hb.mono z.size); clear hb)
            | (go_at_call 15; refine (lawPower_any 2 _ (by omega) (by omega)).mono ?_; rw [show pw 2 = 4 by decide +kernel]; rintro e wz ⟨rfl, rfl⟩))
          go_ret
          exact ⟨rfl, z⟩
        · go_wp2_with (first
            | go_skip
            | (go_at_call 13; refine (implChainCount_any _ _ _).mono ?_; rw [cc_1_5]; rintro e wz ⟨rfl, hb⟩; replace z := z.trans (hb.mono z.size); clear hb)
            | (go_at_call 12; refine (specChainCount_any _ _ _).mono ?_; rw [cc_1_5]; rintro e wz ⟨rfl, hb⟩; replace z := z.trans (hb.mono z.size); clear hb)
            | (go_at_call 15; refine (lawPower_any 3 _ (by omega) (by omega)).mono ?_; rw [show pw 3 = 8 by decide +kernel]; rintro e wz ⟨rfl, rfl⟩))
          go_ret
          exact ⟨rfl, z⟩
      · clear hsn hn hx x0 x6
        rcases hx5 with rfl | rfl | rfl | rfl | rfl
        · go_wp2_with (first
            | go_skip
            | (go_at_call 13; refine (implChainCount_any _ _ _).mono ?_; rw [cc_2_1]; rintro e wz ⟨rfl, hb⟩; replace z := z.trans (hb.mono z.size); clear hb)
            | (go_at_call 12; refine (specChainCount_any _ _ _).mono ?_; rw [cc_2_1]; rintro e wz ⟨rfl, hb⟩; replace z := z.trans (hb.mono z.size); clear hb))
          go_ret
          exact ⟨rfl, z⟩
        · go_wp2_with (first
            | go_skip
            | (go_at_call 13; refine (implChainCount_any _ _ _).mono ?_; rw [cc_2_2]; rintro e wz ⟨rfl, hb⟩; replace z := z.trans (hb.mono z.size); clear hb)
            | (go_at_call 12; refine (specChainCount_any _ _ _).mono ?_; rw [cc_2_2]; rintro e wz ⟨rfl, hb⟩; replace z := z.trans (hb.mono z.size); clear hb))
          go_ret
          exact ⟨rfl, z⟩
        · go_wp2_with (first
            | go_skip
            | (go_at_call 13; refine (implChainCount_any _ _ _).mono ?_; rw [cc_2_3]; rintro e wz ⟨rfl, hb⟩; replace z := z.trans (hb.mono z.size); clear hb)
            | (go_at_call 12; refine (specChainCount_any _ _ _).mono ?_; rw [cc_2_3]; rintro e wz ⟨rfl, hb⟩; replace z := z.trans (hb.mono z.size); clear hb))
          go_ret
          exact ⟨rfl, z⟩
        · go_wp2_with (first
            | go_skip
            | (go_at_call 13; refine (implChainCount_any _ _ _).mono ?_; rw [cc_2_4]; rintro e wz ⟨rfl, hb⟩; replace z := z.trans (hb.mono z.size); clear hb)
            | (go_at_call 12; refine (specChainCount_any _ _ _).mono ?_; rw [cc_2_4]; rintro e wz ⟨rfl, hb⟩; replace z := z.trans (hb.mono z.size); clear hb))
          go_ret
          exact ⟨rfl, z⟩
        · go_wp2_with (first
            | go_skip
            | (go_at_call 13; refine (implChainCount_any _ _ _).mono ?_; rw [cc_2_5]; rintro e wz ⟨rfl, hb⟩; replace z := z.trans (hb.mono z.size); clear hb)
            | (go_at_call 12; refine (specChainCount_any _ _ _).mono ?_; rw [cc_2_5]; rintro e wz ⟨rfl, hb⟩; replace z := z.trans (hb.mono z.size); clear hb))
          go_ret
          exact ⟨rfl, z⟩
      · clear hsn hn hx x0 x6
        rcases hx5 with rfl | rfl | rfl | rfl | rfl
        · go_wp2_with (first
            | go_skip
            | (go_at_call 13; refine (implChainCount_any _ _ _).mono ?_; rw [cc_3_1]; rintro e wz ⟨rfl, hb⟩; replace z := z.trans (hb.mono z.size); clear hb)
            | (go_at_call 12; refine (specChainCount_any _ _ _).mono ?_; rw [cc_3_1]; rintro e wz ⟨rfl, hb⟩; replace z := z.trans (hb.mono z.size); clear hb))
          go_ret
          exact ⟨rfl, z⟩
        · go_wp2_with (first
            | go_skip
            | (go_at_call 13; refine (implChainCount_any _ _ _).mono ?_; rw [cc_3_2]; rintro e wz ⟨rfl, hb⟩; replace z := z.trans (hb.mono z.size); clear hb)
            | (go_at_call 12; refine (specChainCount_any _ _ _).mono ?_; rw [cc_3_2]; rintro e wz ⟨rfl, hb⟩; replace z := z.trans (hb.mono z.size); clear hb))
          go_ret
          exact ⟨rfl, z⟩
        · go_wp2_with (first
            | go_skip
            | (go_at_call 13; refine (implChainCount_any _ _ _).mono ?_; rw [cc_3_3]; rintro e wz ⟨rfl, hb⟩; replace z := z.trans (hb.mono z.size); clear hb)
            | (go_at_call 12; refine (specChainCount_any _ _ _).mono ?_; rw [cc_3_3]; rintro e wz ⟨rfl, hb⟩; replace z := z.trans (hb.mono z.size); clear hb))
          go_ret
          exact ⟨rfl, z⟩
        · go_wp2_with (first
            | go_skip
            | (go_at_call 13; refine (implChainCount_any _ _ _).mono ?_; rw [cc_3_4]; rintro e wz ⟨rfl, hb⟩; replace z := z.trans (hb.mono z.size); clear hb)
            | (go_at_call 12; refine (specChainCount_any _ _ _).mono ?_; rw [cc_3_4]; rintro e wz ⟨rfl, hb⟩; replace z := z.trans (hb.mono z.size); clear hb))
          go_ret
          exact ⟨rfl, z⟩
        · go_wp2_with (first
            | go_skip
            | (go_at_call 13; refine (implChainCount_any _ _ _).mono ?_; rw [cc_3_5]; rintro e wz ⟨rfl, hb⟩; replace z := z.trans (hb.mono z.size); clear hb)
            | (go_at_call 12; refine (specChainCount_any _ _ _).mono ?_; rw [cc_3_5]; rintro e wz ⟨rfl, hb⟩; replace z := z.trans (hb.mono z.size); clear hb))
          go_ret
          exact ⟨rfl, z⟩
      · clear hsn hn hx x0 x6
        rcases hx5 with rfl | rfl | rfl | rfl | rfl
        · go_wp2_with (first
            | go_skip
            | (go_at_call 13; refine (implChainCount_any _ _ _).mono ?_; rw [cc_4_1]; rintro e wz ⟨rfl, hb⟩; replace z := z.trans (hb.mono z.size); clear hb)
            | (go_at_call 12; refine (specChainCount_any _ _ _).mono ?_; rw [cc_4_1]; rintro e wz ⟨rfl, hb⟩; replace z := z.trans (hb.mono z.size); clear hb))
          go_ret
          exact ⟨rfl, z⟩
        · go_wp2_with (first
            | go_skip
            | (go_at_call 13; refine (implChainCount_any _ _ _).mono ?_; rw [cc_4_2]; rintro e wz ⟨rfl, hb⟩; replace z := z.trans (hb.mono z.size); clear hb)
            | (go_at_call 12; refine (specChainCount_any _ _ _).mono ?_; rw [cc_4_2]; rintro e wz ⟨rfl, hb⟩; replace z := z.trans (hb.mono z.size); clear hb))
          go_ret
          exact ⟨rfl, z⟩
        · go_wp2_with (first
            | go_skip
            | (go_at_call 13; refine (implChainCount_any _ _ _).mono ?_; rw [cc_4_3]; rintro e wz ⟨rfl, hb⟩; replace z := z.trans (hb.mono z.size); clear hb)
            | (go_at_call 12; refine (specChainCount_any _ _ _).mono ?_; rw [cc_4_3]; rintro e wz ⟨rfl, hb⟩; replace z := z.trans (hb.mono z.size); clear hb))
          go_ret
          exact ⟨rfl, z⟩
        · go_wp2_with (first
            | go_skip
            | (go_at_call 13; refine (implChainCount_any _ _ _).mono ?_; rw [cc_4_4]; rintro e wz ⟨rfl, hb⟩; replace z := z.trans (hb.mono z.size); clear hb)
            | (go_at_call 12; refine (specChainCount_any _ _ _).mono ?_; rw [cc_4_4]; rintro e wz ⟨rfl, hb⟩; replace z := z.trans (hb.mono z.size); clear hb))
          go_ret
          exact ⟨rfl, z⟩
        · go_wp2_with (first
            | go_skip
            | (go_at_call 13; refine (implChainCount_any _ _ _).mono ?_; rw [cc_4_5]; rintro e wz ⟨rfl, hb⟩; replace z := z.trans (hb.mono z.size); clear hb)
            | (go_at_call 12; refine (specChainCount_any _ _ _).mono ?_; rw [cc_4_5]; rintro e wz ⟨rfl, hb⟩; replace z := z.trans (hb.mono z.size); clear hb))
          go_ret
          exact ⟨rfl, z⟩
      · exact absurd (cc_none x) hn
end Go.Proofs.Ytdjhnbofnmhpaaa
