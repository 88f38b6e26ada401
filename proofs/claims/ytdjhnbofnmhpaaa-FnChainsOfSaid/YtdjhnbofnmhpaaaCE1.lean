import Derived.Test.YtdjhnbofnmhpaaaCD15
import Derived.Test.YtdjhnbofnmhpaaaPR3
namespace Go.Proofs.Ytdjhnbofnmhpaaa
open Go.RowKit
set_option linter.unusedVariables false

theorem chT_alg {n : Nat} (n1 : 1 ≤ n) (n5 : n ≤ 5) : ∀ T ∈ chT n, algB (chainTo (n : Int) n) T = true := by
  have h : n = 1 ∨ n = 2 ∨ n = 3 ∨ n = 4 ∨ n = 5 := by omega
  rcases h with rfl | rfl | rfl | rfl | rfl <;> decide +kernel
theorem chT_few {n : Nat} (n1 : 1 ≤ n) (n5 : n ≤ 5) : 1 ≤ (chT n).length ∧ (chT n).length ≤ 1000 := by
  have h : n = 1 ∨ n = 2 ∨ n = 3 ∨ n = 4 ∨ n = 5 := by omega
  rcases h with rfl | rfl | rfl | rfl | rfl <;> decide +kernel
theorem propertyOf_any (s : ByteArray) (w : World) : Calls Try.prog 37 #[.string s] w fun e w' => (∃ v, e = .returned (.tuple #[v, .bool (decide (prIx s < 5))])) ∧ w = w' := by
  cases q0 : (s.toList == [112, 114, 101, 108, 105, 110, 101, 97, 114]) with
  | true => rw [prIx_0 q0]; exact (propertyOf_0 s q0 w).mono fun e w' h => ⟨⟨_, h.1⟩, h.2⟩
  | false =>
    cases q1 : (s.toList == [100, 105, 118, 105, 115, 105, 98, 108, 101]) with
    | true => rw [prIx_1 q0 q1]; exact (propertyOf_1 s q0 q1 w).mono fun e w' h => ⟨⟨_, h.1⟩, h.2⟩
    | false =>
      cases q2 : (s.toList == [105, 110, 118, 111, 108, 117, 116, 105, 118, 101]) with
      | true => rw [prIx_2 q0 q1 q2]; exact (propertyOf_2 s q0 q1 q2 w).mono fun e w' h => ⟨⟨_, h.1⟩, h.2⟩
      | false =>
        cases q3 : (s.toList == [105, 100, 101, 109, 112, 111, 116, 101, 110, 116]) with
        | true => rw [prIx_3 q0 q1 q2 q3]; exact (propertyOf_3 s q0 q1 q2 q3 w).mono fun e w' h => ⟨⟨_, h.1⟩, h.2⟩
        | false =>
          cases q4 : (s.toList == [98, 111, 111, 108, 101, 97, 110]) with
          | true => rw [prIx_4 q0 q1 q2 q3 q4]; exact (propertyOf_4 s q0 q1 q2 q3 q4 w).mono fun e w' h => ⟨⟨_, h.1⟩, h.2⟩
          | false =>
            rw [prIx_5 q0 q1 q2 q3 q4]; exact (propertyOf_5 s q0 q1 q2 q3 q4 w).mono fun e w' h => ⟨⟨_, h.1⟩, h.2⟩
/-- spec.is, whatever the name -/
theorem specIs_any (s : ByteArray) (a b : Option Addr) (ca cb : Nat) (L : List Int) (T : List (List Int)) (w : World) (hr : Rd w a L) (hT : RdT w b T) (h : algB L T = true) :
    Calls Try.prog 36 #[.string s, .agg #[.slice a L.length ca, .slice b T.length cb]] w fun e w' => e = .returned (.tuple #[.bool (hpB s L T), .bool (decide (prIx s < 5))]) ∧ Below w.heap.size w w' := by
  cases q0 : (s.toList == [112, 114, 101, 108, 105, 110, 101, 97, 114]) with
  | true => exact (specIs_0 s q0 a b ca cb L T w hr hT h).mono fun e w' g => ⟨by rw [g.1, prIx_0 q0, hp_0 q0 h]; rfl, g.2⟩
  | false =>
    cases q1 : (s.toList == [100, 105, 118, 105, 115, 105, 98, 108, 101]) with
    | true => exact (specIs_1 s q0 q1 a b ca cb L T w hr hT h).mono fun e w' g => ⟨by rw [g.1, prIx_1 q0 q1, hp_1 q0 q1 h]; rfl, g.2⟩
    | false =>
      cases q2 : (s.toList == [105, 110, 118, 111, 108, 117, 116, 105, 118, 101]) with
      | true => exact (specIs_2 s q0 q1 q2 a b ca cb L T w hr hT h).mono fun e w' g => ⟨by rw [g.1, prIx_2 q0 q1 q2, hp_2 q0 q1 q2 h]; rfl, g.2⟩
      | false =>
        cases q3 : (s.toList == [105, 100, 101, 109, 112, 111, 116, 101, 110, 116]) with
        | true => exact (specIs_3 s q0 q1 q2 q3 a b ca cb L T w hr hT h).mono fun e w' g => ⟨by rw [g.1, prIx_3 q0 q1 q2 q3, hp_3 q0 q1 q2 q3 h]; rfl, g.2⟩
        | false =>
          cases q4 : (s.toList == [98, 111, 111, 108, 101, 97, 110]) with
          | true => exact (specIs_4 s q0 q1 q2 q3 q4 a b ca cb L T w hr hT h).mono fun e w' g => ⟨by rw [g.1, prIx_4 q0 q1 q2 q3 q4, hp_4 q0 q1 q2 q3 q4 h]; rfl, g.2⟩
          | false =>
            exact (specIs_5 s q0 q1 q2 q3 q4 a b ca cb L T w h).mono fun e w' g => ⟨by rw [g.1, prIx_5 q0 q1 q2 q3 q4, hp_5 q0 q1 q2 q3 q4 h]; rfl, g.2⟩
theorem RowsAt.rdT' {B : Nat} {w : World} {b : Option Addr} {n c : Nat} {T : List (List Int)} (h : RowsAt B w (.slice b n c) T) : RdT w b T := by
  obtain ⟨b', c', e, h⟩ := h.rd
  injection e with e _ _
  rw [e]; exact h
/-- how many chains have a property -/
def ccI (s : ByteArray) (n : Int) : Int := if 1 ≤ n ∧ n ≤ 5 ∧ prIx s < 5 then (((chT n.toNat).filter (hpB s (chainTo n n))).length : Int) else -1
/-- of the first ones -/
def cnI (p : List (List Int) → Bool) (U : List (List (List Int))) (i : Nat) : Int := (((U.take i).filter p).length : Int)
theorem cnI_0 (p : List (List Int) → Bool) (U : List (List (List Int))) : cnI p U 0 = 0 := by simp [cnI]
theorem cnI_le (p : List (List Int) → Bool) (U : List (List (List Int))) (i : Nat) (h : i ≤ U.length) : 0 ≤ cnI p U i ∧ cnI p U i ≤ i := by
  unfold cnI
  have := List.length_filter_le p (U.take i)
  rw [List.length_take] at this
  omega
theorem cnI_t {p : List (List Int) → Bool} {U : List (List (List Int))} {i : Nat} (h : i < U.length) (hp : p (tabAt U i) = true) : cnI p U (i + 1) = cnI p U i + 1 := by
  unfold cnI
  rw [take_tab U h, List.filter_append, List.length_append, List.filter_cons_of_pos hp, List.filter_nil, List.length_singleton]
  rfl
theorem cnI_f {p : List (List Int) → Bool} {U : List (List (List Int))} {i : Nat} (h : i < U.length) (hp : p (tabAt U i) = false) : cnI p U (i + 1) = cnI p U i := by
  unfold cnI
  rw [take_tab U h, List.filter_append, List.length_append, List.filter_cons_of_neg (by rw [hp]; simp), List.filter_nil, List.length_nil, Nat.add_zero]
theorem cnI_all (p : List (List Int) → Bool) (U : List (List (List Int))) : cnI p U U.length = ((U.filter p).length : Int) := by unfold cnI; rw [List.take_of_length_le (Nat.le_refl _)]
theorem algs_some {B C : Nat} {w : World} {v : Value} {L : List Int} {Ts : List (List (List Int))} (h : AlgsAt B C w v L Ts) (hp : 0 < Ts.length) : ∃ G c, v = .slice (some ⟨G, 0, none⟩) Ts.length c := by
  obtain ⟨cs, h1, _⟩ := h
  rcases h1.2 with ⟨_, hn⟩ | ⟨g, cap, cur, rfl, _⟩
  · omega
  · exact ⟨g, cap, rfl⟩
theorem algs_nil_is (w : World) (a : Option Addr) (n c n' c' : Nat) : (binOp .eql 22 (.slice a n c) (.slice none n' c')).run Try.prog w = .ok (.bool a.isNone) w := Lib.run_eql_slice_nil w _ _ a n c n' c' Try.underlying22
set_option maxRecDepth 100000 in
set_option maxHeartbeats 4000000 in
/-- impl.ChainCount -/
theorem implChainCount_any (s : ByteArray) (m : Int) (w : World) :
    Calls Try.prog 13 #[.string s, .int .i64 m] w fun e w' => e = .returned (.int .i64 (ccI s m)) ∧ Below w.heap.size w w' := by
  obtain ⟨K, hK⟩ : ∃ K, K = decide (prIx s < 5) := ⟨_, rfl⟩
  have HP := Lib.hid (show ∀ w : World, Calls Try.prog 37 #[.string s] w fun e w' => (∃ v, e = .returned (.tuple #[v, .bool K])) ∧ w = w' from fun w => by rw [hK]; exact propertyOf_any s w)
  have hnil := algs_nil_is
  by_cases hn : m < 1 ∨ 5 < m
  · have hc : ccI s m = -1 := by unfold ccI; rw [if_neg (by omega)]
    rw [hc]
    have HO := Lib.hid (fun w => implChainsOf_out m w hn)
    clear hK hn hc
    cases K <;>
    · go_enter Try.func13, Try.ntmps13
      go_wp2_with (first
        | go_skip
        | (go_at_call 37; refine (HP.out _).mono ?_; rintro e w1 ⟨⟨v, rfl⟩, rfl⟩)
        | (go_at_call 8; refine (HO.out _).mono ?_; rintro e w2 ⟨rfl, rfl⟩))
      go_ret
      exact ⟨rfl, Below.refl _ _⟩
  · obtain ⟨n, rfl⟩ : ∃ n : Nat, m = n := ⟨m.toNat, by omega⟩
    have n1 : 1 ≤ n := by omega
    have n5 : n ≤ 5 := by omega
    obtain ⟨U, hU⟩ : ∃ U, U = chT n := ⟨_, rfl⟩
    obtain ⟨p, hp⟩ : ∃ p, p = hpB s (chainTo (n : Int) n) := ⟨_, rfl⟩
    have HA0 := Lib.hid (chT_alg n1 n5)
    obtain ⟨l1, l2⟩ := chT_few n1 n5
    rw [← hU] at HA0 l1 l2
    have hc : ccI s (n : Int) = if K = true then cnI p U U.length else -1 := by
      rw [cnI_all, hU, hp, hK]
      unfold ccI
      by_cases h : prIx s < 5
      · rw [if_pos ⟨by omega, by omega, h⟩, if_pos (decide_eq_true h), Int.toNat_natCast]
      · rw [if_neg (by omega), if_neg (by rw [decide_eq_false h]; decide)]
    rw [hc]
    have HO := Lib.hid (show Calls Try.prog 8 #[.int .i64 (n : Int)] w fun e w' => ∃ v, e = .returned v ∧ AlgsAt w.heap.size w.heap.size w' v (chainTo n n) U ∧ Below w.heap.size w w' from by rw [hU]; exact implChainsOf_in n w n1 n5)
    have HH := Lib.hid (show ∀ (a b : Option Addr) (ca cb : Nat) (T : List (List Int)) (w : World), Rd w a (chainTo (n : Int) n) → RdT w b T → Calls Try.prog 22 #[.string s, .agg #[.slice a (chainTo (n : Int) n).length ca, .slice b T.length cb]] w fun e w' => e = .returned (.bool (p T)) ∧ Below w.heap.size w w' from fun a b ca cb T w h1 h2 => by rw [hp]; exact implHasProperty_any s a b ca cb _ T w h1 h2)
    clear hK hn hc hU hp HA0 n1 n5
    cases K with
    | false =>
      go_enter Try.func13, Try.ntmps13
      go_wp2_with (first
        | go_skip
        | (go_at_call 37; refine (HP.out _).mono ?_; rintro e w1 ⟨⟨v, rfl⟩, rfl⟩)
        | (go_at_call 8; refine HO.out.mono ?_; rintro e w2 ⟨cv, rfl, hA, hb2⟩; obtain ⟨G, gc, rfl⟩ := algs_some hA (by omega)))
      go_ret
      exact ⟨rfl, hb2⟩
    | true =>
      go_enter Try.func13, Try.ntmps13
      go_wp2_with (first
        | go_skip
        | (go_at_call 37; refine (HP.out _).mono ?_; rintro e w1 ⟨⟨v, rfl⟩, rfl⟩)
        | (go_at_call 8; refine HO.out.mono ?_; rintro e w2 ⟨cv, rfl, hA, hb2⟩; obtain ⟨G, gc, rfl⟩ := algs_some hA (by omega)))
      have HA := Lib.hid hA
      have HC0 := Lib.hid (cnI_0 p U)
      clear hA HP HO hnil
      go_loopw [8, 10, 26] (fun nv _ iv wr => ∃ i : Nat, i ≤ U.length ∧ iv = .int .i64 (i : Int) ∧ nv = .int .i64 (cnI p U i) ∧ Below w2.heap.size w2 wr) (fun _ _ iv _ => (1100 - intOf iv).toNat)
      case atStart => exact ⟨0, by omega, rfl, by rw [HC0.out], Below.refl _ _⟩
      case round =>
        obtain ⟨i, iR, rfl, rfl, hbr⟩ := hrel
        obtain ⟨c0, c1⟩ := cnI_le p U i iR
        by_cases hi : (i : Int) < U.length
        · obtain ⟨a, ca, b, cb, hc0, ho, hT⟩ := (HA.out.below hbr).at (k := (i : Int)) (by omega) hi
          have HQ := Lib.hid (show (p (tabAt U i) = true → cnI p U (i + 1) = cnI p U i + 1) ∧ (p (tabAt U i) = false → cnI p U (i + 1) = cnI p U i) from ⟨cnI_t (by omega), cnI_f (by omega)⟩)
          rw [Int.toNat_natCast] at hc0 hT
          obtain ⟨T, hTe⟩ : ∃ T, T = tabAt U i := ⟨_, rfl⟩
          rw [← hTe] at hc0 hT HQ
          obtain ⟨V, hV⟩ : ∃ V, V = p T := ⟨_, rfl⟩
          have HC := Lib.hid (show ∀ w' : World, Below wr.heap.size wr w' → Calls Try.prog 22 #[.string s, .agg #[.slice a (chainTo (n : Int) n).length ca, .slice b T.length cb]] w' fun e w'' => e = .returned (.bool V) ∧ Below w'.heap.size w' w'' from fun w' hb => by rw [hV]; exact HH.out a b ca cb T w' (ho.rd.below hb) (hT.rdT'.below hb))
          rw [← hV] at HQ
          obtain ⟨N, hN⟩ : ∃ N, N = cnI p U i := ⟨_, rfl⟩
          have HN := Lib.hid hN
          rw [← hN] at HQ c0 c1 ⊢
          clear hV hTe ho hT HH
          have ki : IntKind.i64.wrap ((i : Int) + 1) = (i : Int) + 1 := IntWalk.i64_in _ (by omega)
          have kn : IntKind.i64.wrap (N + 1) = N + 1 := IntWalk.i64_in _ (by omega)
          cases V <;>
          · go_wp2_with (first
              | (refine wpList_load_mid_w rfl 38 _ rfl G (i * 2) rfl #[.slice a (chainTo (n : Int) n).length ca, .slice b T.length cb] _ hc0 Try.underlying38 rfl (size_Alg _ _) ?_)
              | (refine wpList_store_row rfl 38 _ _ rfl wr.heap.size #[.slice a (chainTo (n : Int) n).length ca, .slice b T.length cb] rfl rfl _ _ (heap_alloc_new wr _) (size_Alg _ _) rfl (one_sl2 _ _ _ _ _ _) ?_; rw [World.setRow_alloc_new]; obtain ⟨bx, hbx⟩ : ∃ b : Nat, b = wr.heap.size := ⟨_, rfl⟩; obtain ⟨w3, hw3⟩ : ∃ x : World, x = wr.alloc (.cells #[.slice a (chainTo (n : Int) n).length ca, .slice b T.length cb] 38) := ⟨_, rfl⟩; rw [← hw3, ← hbx]; have hx3 : w3.heap[bx]? = some (.cells #[.slice a (chainTo (n : Int) n).length ca, .slice b T.length cb] 38 (0, 0)) := (by rw [hw3, hbx]; exact heap_alloc_new wr _); have hb3 : Below wr.heap.size wr w3 := (by rw [hw3]; exact (Below.refl _ _).alloc (Nat.le_refl _) _); clear hw3 hbx)
              | (refine wpList_load_row_w rfl 38 _ rfl bx rfl _ _ _ _ hx3 Try.underlying38 rfl (size_Alg _ _) ?_)
              | (go_at_call 22; refine (HC.out w3 hb3).mono ?_; rintro e w4 ⟨rfl, hb4⟩))
            go_roundw
            case rel => exact ⟨i + 1, by omega, by simp, by have hh := HQ.out; simp at hh; rw [hh, HN.out], hbr.trans ((hb3.trans (hb4.mono hb3.size)).mono hbr.size)⟩
            case measure => simp [intOf]; omega
        · have e : i = U.length := by omega
          subst e
          go_wp2
          go_ret
          exact ⟨rfl, hb2.trans (hbr.mono hb2.size)⟩
theorem hp_unit : algB [1] [[0]] = true := by decide +kernel
set_option maxRecDepth 100000 in
set_option maxHeartbeats 4000000 in
/-- spec.ChainCount -/
theorem specChainCount_any (s : ByteArray) (m : Int) (w : World) :
    Calls Try.prog 12 #[.string s, .int .i64 m] w fun e w' => e = .returned (.int .i64 (ccI s m)) ∧ Below w.heap.size w w' := by
  obtain ⟨K, hK⟩ : ∃ K, K = decide (prIx s < 5) := ⟨_, rfl⟩
  have HP := Lib.hid (show ∀ (w : World) (V : Bool), V = hpB s [1] [[0]] → Calls Try.prog 36 #[.string s, .agg #[.slice (some ⟨w.heap.size, 0, none⟩) 1 1, .slice (some ⟨w.heap.size + 1 + 1, 0, none⟩) 1 1]] (((w.alloc (.cells #[.int .i64 1] 3)).alloc (.cells #[.int .i64 0] 3)).alloc (.cells #[.slice (some ⟨w.heap.size + 1, 0, none⟩) 1 1] 35)) fun e w' => e = .returned (.tuple #[.bool V, .bool K]) ∧ Below w.heap.size w w' from fun w V hV => by
    rw [hK, hV]
    obtain ⟨w3, hw3⟩ : ∃ x, x = (((w.alloc (.cells #[.int .i64 1] 3)).alloc (.cells #[.int .i64 0] 3)).alloc (.cells #[.slice (some ⟨w.heap.size + 1, 0, none⟩) 1 1] 35)) := ⟨_, rfl⟩
    have hb3 : Below w.heap.size w w3 := by rw [hw3]; exact (((Below.refl _ _).alloc (Nat.le_refl _) _).alloc (by simp) _).alloc (by simp; omega) _
    have y1 : w3.heap[w.heap.size]? = some (.cells #[.int .i64 1] 3 (0, 0)) := by
      rw [hw3, Below.heap_alloc _ _ _ (by simp; omega), Below.heap_alloc _ _ _ (by simp)]; exact heap_alloc_new w _
    have y2 : w3.heap[w.heap.size + 1]? = some (.cells #[.int .i64 0] 3 (0, 0)) := by
      rw [hw3, Below.heap_alloc _ _ _ (by simp)]; exact heap_alloc2_new _ _ _
    have y3 : w3.heap[w.heap.size + 1 + 1]? = some (.cells #[.slice (some ⟨w.heap.size + 1, 0, none⟩) 1 1] 35 (0, 0)) := by
      rw [hw3]; have := heap_alloc_new ((w.alloc (.cells #[.int .i64 1] 3)).alloc (.cells #[.int .i64 0] 3)) (.cells #[.slice (some ⟨w.heap.size + 1, 0, none⟩) 1 1] 35); simpa using this
    rw [← hw3]
    have r1 : Rd w3 (some ⟨w.heap.size, 0, none⟩) [1] := (show Row w3 w.heap.size [1] from y1).rd
    have r2 : Rd w3 (some ⟨w.heap.size + 1, 0, none⟩) [0] := (show Row w3 (w.heap.size + 1) [0] from y2).rd
    have r3 : RdT w3 (some ⟨w.heap.size + 1 + 1, 0, none⟩) [[0]] := fun _ => ⟨w.heap.size + 1 + 1, 0, rfl, fun j hj => by
      have : j = 0 := by simp at hj; omega
      subst this
      refine ⟨some ⟨w.heap.size + 1, 0, none⟩, 1, ?_, r2⟩
      rw [cell_of_row w3 _ _ _ _ _ y3]; rfl⟩
    exact (specIs_any s _ _ 1 1 [1] [[0]] w3 r1 r3 hp_unit).mono fun e w' h => ⟨h.1, hb3.trans (h.2.mono hb3.size)⟩)
  obtain ⟨V0, hV0⟩ : ∃ V, V = hpB s [1] [[0]] := ⟨_, rfl⟩
  have HR := Lib.hid (show ∀ (w : World) (R : Bool), (decide ((1 : Int) ≤ m) && decide (m ≤ 5)) = R → Calls Try.prog 25 #[.int .i64 m, .int .i64 1, .int .i64 5] w fun e w' => e = .returned (.bool R) ∧ w = w' from fun w R hR => (inRange_any m 1 5 w).mono fun e w' h => ⟨by rw [h.1, hR], h.2⟩)
  by_cases hn : m < 1 ∨ 5 < m
  · have hc : ccI s m = -1 := by unfold ccI; rw [if_neg (by omega)]
    rw [hc]
    have HI := Lib.hid (fun w => HR.out w false (by
      rcases hn with h | h
      · rw [decide_eq_false (by omega), Bool.false_and]
      · rw [decide_eq_false (show ¬ m ≤ 5 by omega), Bool.and_false]))
    have HIS := Lib.hid (HP.out w V0 hV0)
    clear hK hn hc HR HP hV0
    cases K <;>
    · go_enter Try.func12, Try.ntmps12
      go_wp2_with (first
        | go_skip
        | (go_at_call 36; refine HIS.out.mono ?_; rintro e w1 ⟨rfl, hb1⟩)
        | (go_at_call 25; refine (HI.out _).mono ?_; rintro e w2 ⟨rfl, rfl⟩))
      go_ret
      exact ⟨rfl, hb1⟩
  · obtain ⟨n, rfl⟩ : ∃ n : Nat, m = n := ⟨m.toNat, by omega⟩
    have n1 : 1 ≤ n := by omega
    have n5 : n ≤ 5 := by omega
    obtain ⟨U, hU⟩ : ∃ U, U = chT n := ⟨_, rfl⟩
    obtain ⟨p, hp⟩ : ∃ p, p = hpB s (chainTo (n : Int) n) := ⟨_, rfl⟩
    have HA0 := Lib.hid (chT_alg n1 n5)
    obtain ⟨l1, l2⟩ := chT_few n1 n5
    rw [← hU] at HA0 l1 l2
    have hc : ccI s (n : Int) = if K = true then cnI p U U.length else -1 := by
      rw [cnI_all, hU, hp, hK]
      unfold ccI
      by_cases h : prIx s < 5
      · rw [if_pos ⟨by omega, by omega, h⟩, if_pos (decide_eq_true h), Int.toNat_natCast]
      · rw [if_neg (by omega), if_neg (by rw [decide_eq_false h]; decide)]
    rw [hc]
    have HI := Lib.hid (fun w => HR.out w true (by rw [decide_eq_true (by omega), decide_eq_true (by omega)]; rfl))
    have HIS := Lib.hid (HP.out w V0 hV0)
    have HO := Lib.hid (show ∀ w, Calls Try.prog 26 #[.int .i64 (n : Int)] w (RetAlgs (chainTo n n) U w) from fun w => by rw [hU]; exact chains_any n n1 n5 w)
    have HH := Lib.hid (show ∀ (a b : Option Addr) (ca cb : Nat) (T : List (List Int)) (w : World), T ∈ U → Rd w a (chainTo (n : Int) n) → RdT w b T → Calls Try.prog 36 #[.string s, .agg #[.slice a (chainTo (n : Int) n).length ca, .slice b T.length cb]] w fun e w' => e = .returned (.tuple #[.bool (p T), .bool K]) ∧ Below w.heap.size w w' from fun a b ca cb T w hm h1 h2 => by rw [hp, hK]; exact specIs_any s a b ca cb _ T w h1 h2 (HA0.out T hm))
    clear hK hn hc hU hp HA0 n1 n5 HR HP hV0
    cases K with
    | false =>
      go_enter Try.func12, Try.ntmps12
      go_wp2_with (first
        | go_skip
        | (go_at_call 36; refine HIS.out.mono ?_; rintro e w1 ⟨rfl, hb1⟩)
        | (go_at_call 25; refine (HI.out _).mono ?_; rintro e w2 ⟨rfl, rfl⟩))
      go_ret
      exact ⟨rfl, hb1⟩
    | true =>
      go_enter Try.func12, Try.ntmps12
      go_wp2_with (first
        | go_skip
        | (go_at_call 36; refine HIS.out.mono ?_; rintro e w1 ⟨rfl, hb1⟩)
        | (go_at_call 25; refine (HI.out _).mono ?_; rintro e w9 ⟨rfl, rfl⟩)
        | (go_at_call 26; refine (HO.out _).mono ?_; rintro e w2 ⟨G, gc, rfl, hA, hb2'⟩; have hb2 := hb1.trans (hb2'.mono hb1.size)))
      have HA := Lib.hid hA
      have HC0 := Lib.hid (cnI_0 p U)
      clear hA HO HIS HI
      go_loopw [7, 9, 10, 11] (fun nv iv _ _ wr => ∃ i : Nat, i ≤ U.length ∧ iv = .int .i64 (i : Int) ∧ nv = .int .i64 (cnI p U i) ∧ Below w2.heap.size w2 wr) (fun _ iv _ _ _ => (1100 - intOf iv).toNat)
      case atStart => exact ⟨0, by omega, rfl, by rw [HC0.out], Below.refl _ _⟩
      case round =>
        obtain ⟨i, iR, rfl, rfl, hbr⟩ := hrel
        obtain ⟨c0, c1⟩ := cnI_le p U i iR
        by_cases hi : (i : Int) < U.length
        · obtain ⟨a, ca, b, cb, hc0, ho, hT⟩ := (HA.out.below hbr).at (k := (i : Int)) (by omega) hi
          have HQ := Lib.hid (show (p (tabAt U i) = true → cnI p U (i + 1) = cnI p U i + 1) ∧ (p (tabAt U i) = false → cnI p U (i + 1) = cnI p U i) from ⟨cnI_t (by omega), cnI_f (by omega)⟩)
          rw [Int.toNat_natCast] at hc0 hT
          have HM := Lib.hid (tabAt_mem (U := U) (j := i) (by omega))
          obtain ⟨T, hTe⟩ : ∃ T, T = tabAt U i := ⟨_, rfl⟩
          rw [← hTe] at hc0 hT HQ HM
          obtain ⟨V, hV⟩ : ∃ V, V = p T := ⟨_, rfl⟩
          have HC := Lib.hid (show ∀ w' : World, Below wr.heap.size wr w' → Calls Try.prog 36 #[.string s, .agg #[.slice a (chainTo (n : Int) n).length ca, .slice b T.length cb]] w' fun e w'' => e = .returned (.tuple #[.bool V, .bool true]) ∧ Below w'.heap.size w' w'' from fun w' hb => by rw [hV]; exact HH.out a b ca cb T w' HM.out (ho.rd.below hb) (hT.rdT'.below hb))
          rw [← hV] at HQ
          obtain ⟨N, hN⟩ : ∃ N, N = cnI p U i := ⟨_, rfl⟩
          have HN := Lib.hid hN
          rw [← hN] at HQ c0 c1 ⊢
          clear hV hTe ho hT HH HM
          have ki : IntKind.i64.wrap ((i : Int) + 1) = (i : Int) + 1 := IntWalk.i64_in _ (by omega)
          have kn : IntKind.i64.wrap (N + 1) = N + 1 := IntWalk.i64_in _ (by omega)
          cases V <;>
          · go_wp2_with (first
              | (refine wpList_load_mid_w rfl 38 _ rfl G (i * 2) rfl #[.slice a (chainTo (n : Int) n).length ca, .slice b T.length cb] _ hc0 Try.underlying38 rfl (size_Alg _ _) ?_)
              | (go_at_call 36; refine (HC.out _ (Below.refl _ _)).mono ?_; rintro e w4 ⟨rfl, hb4⟩))
            go_roundw
            case rel => exact ⟨i + 1, by omega, by simp, by have hh := HQ.out; simp at hh; rw [hh, HN.out], hbr.trans (hb4.mono hbr.size)⟩
            case measure => simp [intOf]; omega
        · have e : i = U.length := by omega
          subst e
          go_wp2
          go_ret
          exact ⟨rfl, hb2.trans (hbr.mono hb2.size)⟩
end Go.Proofs.Ytdjhnbofnmhpaaa
