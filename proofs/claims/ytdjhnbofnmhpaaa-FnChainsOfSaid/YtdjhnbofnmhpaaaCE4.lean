import Derived.Test.YtdjhnbofnmhpaaaCE3
namespace Go.Proofs.Ytdjhnbofnmhpaaa
open Go.RowKit
set_option linter.unusedVariables false

theorem algsD_slice {B C M : Nat} {w : World} {v : Value} {L : List Int} {Ts : List (List (List Int))} (h : AlgsD B C M w v L Ts) : ∃ a n c, v = .slice a n c := by
  obtain ⟨a, c, h⟩ := h.slice
  exact ⟨_, _, _, h⟩
theorem rowsD_len (n : Nat) (T : List (List Int)) : (rowsD n T).length = n := by unfold rowsD; rw [tabL_len, Int.toNat_natCast]
/-- an algebra whose table was made ahead of its list -/
theorem gaD {w4 w5 wr : World} {p n : Nat} {L : List Int} {T : List (List Int)} {Q : Nat → Nat} (hrow : Row w5 w4.heap.size L) (hQ : TabOwn w4 p p Q (rowsD n T) n) (hL : L.length = n) (hb : Below w4.heap.size w4 w5) (hs : wr.heap.size ≤ p) (hn : n ≤ 1000) : GA wr.heap.size w5.heap.size w5 (.slice (some ⟨w4.heap.size, 0, none⟩) n n) (.slice (some ⟨p, 0, none⟩) n n) L (rowsD n T) := by
  have hl := rowsD_len n T
  have g1 := GS.row hrow (Nat.le_refl w4.heap.size) hrow.lt (by rw [hL]; unfold maxLen; omega)
  have hQ' : TabOwn w4 p p Q (rowsD n T) (rowsD n T).length := by rw [hl]; exact hQ
  have g2 := (GT.of hQ').below hb
  have h4 := hQ.lt
  rw [hL] at g1
  rw [hl] at g2
  exact ⟨w4.heap.size, w5.heap.size, p, w4.heap.size, by omega, Nat.le_refl _, hs, hb.size, .inr (Nat.le_refl _), g1, g2⟩
set_option maxRecDepth 100000 in
set_option maxHeartbeats 8000000 in
/-- impl.ChainsOf -/
theorem implChainsOf_D (n : Nat) (w : World) (n1 : 1 ≤ n) (n5 : n ≤ 5) :
    Calls Try.prog 8 #[.int .i64 (n : Int)] w fun e w' => ∃ v, e = .returned v ∧ AlgsD w.heap.size w.heap.size w'.heap.size w' v (chainTo n n) (chT n) ∧ Below w.heap.size w w' := by
  obtain ⟨R, hR, hRT, hX, hpl, hm6⟩ := finD_at n1 n5
  have g1 : ¬ (n : Int) < 1 := by omega
  have g5 : ¬ (5 : Int) < n := by omega
  have HN := Lib.hid (newDraft_any n w n1 n5)
  go_enter Try.func8, Try.ntmps8
  go_wp2_with (first
    | (go_at_call 27; refine HN.out.mono ?_; rintro e w1 ⟨v1, rfl, hd1, hp1, hb1⟩; obtain ⟨pa, pc, pp, rfl, hpp⟩ := hp1.ready; have hds := hd1.lt)
    | (go_at_call 28; refine (drFillings_any w.heap.size (plN n).length pc pp n pa w1 R n1 n5 rfl hm6 (hd1.ready n1 n5) (fun h => ⟨(hpp h).1.1, by have := (hpp h).1.2; omega⟩) (fun h => (hpp h).2) hpl hX hR).mono ?_; rintro e w2 ⟨va, rfl, hT2, hg2⟩; obtain ⟨aa, ac, rfl⟩ : ∃ a c, va = .slice a R.length c := hT2.2.elim (fun h => ⟨none, 0, by rw [h.1, h.2]⟩) (fun ⟨_, cap, _, h⟩ => ⟨_, cap, h.1⟩)))
  have hdw : Below w.heap.size w w2 := hb1.trans (grown_below hg2 (Nat.le_refl _) hb1.size)
  have hL : (chainTo (n : Int) n).length = n := by have := chainTo_len (n : Int) (n : Int) (by omega); omega
  obtain ⟨iA, hiA, hA0, hA1, hA2⟩ := info_parts info_Alg
  have HRT := Lib.hid hRT
  have HTB := Lib.hid hT2
  have hmf : ∀ (fn : Fn) (first cap : Array Value) (w : World), (Instr.makeFunc fn first cap).run Try.prog w = .ok (.func fn first cap) w := fun _ _ _ _ => rfl
  have hAN : AlgsD w2.heap.size w.heap.size w2.heap.size w2 (.slice none 0 0) (chainTo n n) ((R.take 0).map (rowsD n)) := AlgsD.nil _ _ _ _ _
  have hR3 : R.length ≤ 1000 := by
    have : R.length = (chT n).length := by rw [← hRT, List.length_map]
    have hc : (chT n).length ≤ 1000 := by
      have h : n = 1 ∨ n = 2 ∨ n = 3 ∨ n = 4 ∨ n = 5 := by omega
      rcases h with rfl | rfl | rfl | rfl | rfl <;> decide +kernel
    omega
  clear hR hRT hX hpl hm6 hd1 hp1 hpp hT2 hg2 hds HN
  go_loopw [3, 5, 6, 17] (fun av _ _ cv wr => ∃ i : Nat, i ≤ R.length ∧ cv = .int .i64 (i : Int) ∧ AlgsD w2.heap.size w.heap.size wr.heap.size wr av (chainTo n n) ((R.take i).map (rowsD n)) ∧ Below w2.heap.size w2 wr) (fun _ _ _ cv _ => (1100 - intOf cv).toNat)
  case atStart => exact ⟨0, by omega, rfl, hAN, Below.refl _ _⟩
  case round =>
    clear hAN
    obtain ⟨i, iR, rfl, hA, hbr⟩ := hrel
    by_cases hi : (i : Int) < R.length
    · have hiN : i < R.length := by omega
      have ki : IntKind.i64.wrap ((i : Int) + 1) = (i : Int) + 1 := IntWalk.i64_in _ (by omega)
      obtain ⟨g, rfl⟩ : ∃ g, aa = some ⟨g, 0, none⟩ := by
        rcases HTB.out.2 with ⟨e, h0⟩ | ⟨g, cap, cur, e, _⟩
        · omega
        · injection e with e1 _ _; exact ⟨g, e1⟩
      obtain ⟨T, hT⟩ : ∃ T, T = R.getD i [] := ⟨_, rfl⟩
      have hrg := tabs_range (i := i) (show TabR w1.heap.size wr _ R from ownsRow_below HTB.out hbr) hiN
      rw [← hT] at hrg
      have htk : R.take (i + 1) = R.take i ++ [T] := by rw [List.take_succ_eq_append_getElem hiN, hT, List.getD_eq_getElem?_getD, List.getElem?_eq_getElem hiN]; rfl
      have HK := Lib.hid htk
      obtain ⟨ga, gn, gc, rfl⟩ := algsD_slice hA
      have hsw : w.heap.size ≤ wr.heap.size := Nat.le_trans hdw.size hbr.size
      have hlt : ((R.take i).map (rowsD n)).length ≤ 1000 := by rw [List.length_map, List.length_take]; omega
      have HRO := Lib.hid (show ∀ (w3 : World) (bx : Nat), Blk w3 bx 54 (iv (tv T)) → Calls Try.prog 29 #[.int .i64 (n : Int), .func (.func 30) #[] #[.pointer (some ⟨bx, 0, none⟩)]] w3 fun e w' => e = .returned (.slice (some ⟨w3.heap.size, 0, none⟩) n n) ∧ (∃ Q, TabOwn w' w3.heap.size w3.heap.size Q (rowsD n T) n) ∧ Below w3.heap.size w3 w' from fun w3 bx hB =>
        rowsOf_any 30 #[.pointer (some ⟨bx, 0, none⟩)] (n : Int) (tv T) w3 (by omega) (by omega) (enters_of Try.func30 (by kernel_rfl) rfl) fun x y wy x0 x1 y0 y1 hb => chRow_any bx T x y wy (Blk.of ((hb.block _ hB.lt).trans hB) rfl) x0 (by omega) y0 (by omega))
      clear hT htk
      go_wp2_with (first
        | (refine wpList_load_mid_w rfl 54 _ rfl g (i * 36) rfl (tab2 (iv (tv T))) _ hrg Try.underlying54 rfl (size_table _) ?_)
        | (refine wpList_store_row rfl 54 _ _ rfl wr.heap.size (tab2 (iv (tv T))) rfl rfl _ _ (heap_alloc_new wr _) (size_table _) (by rw [tab2_size]; rfl) (one_iv _) ?_; rw [World.setRow_alloc_new]; obtain ⟨bx, hbx⟩ : ∃ b : Nat, b = wr.heap.size := ⟨_, rfl⟩; obtain ⟨w3, hw3⟩ : ∃ x : World, x = wr.alloc (.cells (tab2 (iv (tv T))) 54) := ⟨_, rfl⟩; rw [← hw3, ← hbx]; have hB3 : Blk w3 bx 54 (iv (tv T)) := (by rw [hw3, hbx]; exact heap_alloc_new wr _); have hb3 : Below wr.heap.size wr w3 := (by rw [hw3]; exact (Below.refl _ _).alloc (Nat.le_refl _) _); clear hw3 hbx)
        | (go_at_call 29; refine (HRO.out w3 bx hB3).mono ?_; rintro e w4 ⟨rfl, ⟨Q, hQ⟩, hb4⟩)
        | (go_at_call 20; refine (implChainOf_good (n : Int) w4 (by omega) (by omega)).mono ?_; rintro e w5 ⟨rfl, hrow, hb5⟩; have hb45 := hb3.trans ((hb4.trans (hb5.mono hb4.size)).mono hb3.size); have hs3 := hb3.size; have hs4 := hb4.size; have hs5 := hb5.size; have k5 := gaD hrow hQ hL hb5 hs3 (by omega))
        | (at_builtin; refine wpList_append_algD rfl _ _ rfl w2.heap.size w.heap.size wr.heap.size w5.heap.size (.slice ga gn gc) (chainTo (n : Int) n) ((R.take i).map (rowsD n)) (rowsD n T) _ rfl (AlgsD.below hA (hb45.alloc hb45.size _)) w5.heap.size rfl (.slice (some ⟨w4.heap.size, 0, none⟩) n n) (.slice (some ⟨w3.heap.size, 0, none⟩) n n) (heap_alloc_new w5 _) rfl rfl (k5.below ((Below.refl _ _).alloc (Nat.le_refl _) _)) hsw (by simp; omega) (by simp) hlt (by have := hbr.size; simp; omega) ?_; intro v6 w6 hA6 hg6))
      go_roundw
      case rel => exact ⟨i + 1, by omega, by simp, by rw [HK.out, List.map_append]; exact hA6, (hbr.trans ((hb45.alloc hb45.size _).mono hbr.size)).grown hg6 (by have := hbr.size; simp; omega) (fun q hq => by obtain ⟨cs, _, _, hcs, _⟩ := hA; exact (World.ownsRow.lt hcs q hq).1)⟩
      case measure => simp [intOf]; omega
    · have e : R.take i = R := List.take_of_length_le (by omega)
      rw [e, HRT.out] at hA
      go_wp2
      go_ret
      exact ⟨_, rfl, hA.from hdw.size (Nat.le_refl _) (Nat.le_refl _), hdw.trans (hbr.mono hdw.size)⟩
/-- what ChainsOf lists -/
def chI (n : Int) : List (List (List Int)) := if 1 ≤ n ∧ n ≤ 5 then chT n.toNat else []
def chW (n : Int) : Int := if 1 ≤ n ∧ n ≤ 5 then n + n * n else 0
theorem chI_nat {n : Nat} (n1 : 1 ≤ n) (n5 : n ≤ 5) : chI (n : Int) = chT n := by unfold chI; rw [if_pos (by omega), Int.toNat_natCast]
theorem chI_no {n : Int} (h : n < 1 ∨ 5 < n) : chI n = [] := by unfold chI; rw [if_neg (by omega)]
theorem chT_ti {n : Nat} (n1 : 1 ≤ n) (n5 : n ≤ 5) : (chainTo (n : Int) n).length ≤ 6 ∧ ∀ T ∈ chT n, T.length ≤ 6 ∧ (∀ r ∈ T, r.length ≤ 6) ∧ wtA (chainTo (n : Int) n) T = (n : Int) + n * n := by
  have h : n = 1 ∨ n = 2 ∨ n = 3 ∨ n = 4 ∨ n = 5 := by omega
  rcases h with rfl | rfl | rfl | rfl | rfl <;> decide +kernel
theorem rowAt_memT {T : List (List Int)} {j : Nat} (h : j < T.length) : rowAt T (j : Int) ∈ T := by
  unfold rowAt
  simp [List.getD_eq_getElem?_getD, List.getElem?_eq_getElem h]
theorem chI_ti (n : Int) : (∀ j : Nat, j < (chI n).length → Ti (chainTo n n) (tabAt (chI n) j)) ∧ (∀ j : Nat, j < (chI n).length → wtA (chainTo n n) (tabAt (chI n) j) = chW n) ∧ 0 ≤ chW n ∧ chW n ≤ 42 ∧ (chI n).length ≤ 1000 := by
  by_cases h : n < 1 ∨ 5 < n
  · rw [chI_no h]
    unfold chW
    rw [if_neg (by omega)]
    exact ⟨fun j hj => absurd hj (by simp), fun j hj => absurd hj (by simp), by omega, by omega, by simp⟩
  · obtain ⟨k, rfl⟩ : ∃ k : Nat, n = k := ⟨n.toNat, by omega⟩
    have k1 : 1 ≤ k := by omega
    have k5 : k ≤ 5 := by omega
    rw [chI_nat k1 k5]
    obtain ⟨h1, h2⟩ := chT_ti k1 k5
    unfold chW
    rw [if_pos (by omega)]
    refine ⟨fun j hj => ?_, fun j hj => (h2 _ (tabAt_mem hj)).2.2, ?_, ?_, (chT_few k1 k5).2⟩
    · obtain ⟨a, b, _⟩ := h2 _ (tabAt_mem hj)
      exact ⟨h1, a, fun i hi => b _ (rowAt_memT hi)⟩
    · have h : k = 1 ∨ k = 2 ∨ k = 3 ∨ k = 4 ∨ k = 5 := by omega
      rcases h with rfl | rfl | rfl | rfl | rfl <;> decide
    · have h : k = 1 ∨ k = 2 ∨ k = 3 ∨ k = 4 ∨ k = 5 := by omega
      rcases h with rfl | rfl | rfl | rfl | rfl <;> decide
/-- impl.ChainsOf at whatever number -/
theorem implChainsOf_any (n : Int) (w : World) : Calls Try.prog 8 #[.int .i64 n] w fun e w' => ∃ a c, e = .returned (.slice a (chI n).length c) ∧ AlgsD w.heap.size w.heap.size w'.heap.size w' (.slice a (chI n).length c) (chainTo n n) (chI n) ∧ Below w.heap.size w w' := by
  by_cases h : n < 1 ∨ 5 < n
  · rw [chI_no h]
    refine (implChainsOf_out n w h).mono fun e w' h => ?_
    obtain ⟨rfl, rfl⟩ := h
    exact ⟨none, 0, rfl, AlgsD.nil _ _ _ _ _, Below.refl _ _⟩
  · obtain ⟨k, rfl⟩ : ∃ k : Nat, n = k := ⟨n.toNat, by omega⟩
    rw [chI_nat (by omega) (by omega)]
    refine (implChainsOf_D k w (by omega) (by omega)).mono fun e w' h => ?_
    obtain ⟨v, rfl, h1, h2⟩ := h
    obtain ⟨a, c, rfl⟩ := h1.slice
    exact ⟨a, c, rfl, h1, h2⟩
/-- spec.ChainsOf at whatever number -/
theorem specChainsOf_any (n : Int) (w : World) : Calls Try.prog 7 #[.int .i64 n] w fun e w' => ∃ a c, e = .returned (.slice a (chI n).length c) ∧ AlgsAt w.heap.size w.heap.size w' (.slice a (chI n).length c) (chainTo n n) (chI n) ∧ Below w.heap.size w w' := by
  by_cases h : n < 1 ∨ 5 < n
  · rw [chI_no h]
    refine (specChainsOf_out n w h).mono fun e w' h => ?_
    obtain ⟨rfl, rfl⟩ := h
    exact ⟨none, 0, rfl, ⟨[], World.ownsRow_nil _ _ _ _, fun j hj => absurd hj (by simp)⟩, Below.refl _ _⟩
  · obtain ⟨k, rfl⟩ : ∃ k : Nat, n = k := ⟨n.toNat, by omega⟩
    rw [chI_nat (by omega) (by omega)]
    refine (specChainsOf_in k w (by omega) (by omega)).mono fun e w' h => ?_
    obtain ⟨G, c, rfl, h1, h2⟩ := h
    exact ⟨_, c, rfl, h1, h2⟩
set_option maxRecDepth 100000 in
set_option maxHeartbeats 2000000 in
/-- laws.FnExactChainsOf -/
theorem lawChainsOf (n : Int) (w : World) : Calls Try.prog 3 #[.int .i64 n] w fun e w' => e = .returned (.bool true) ∧ Below w.heap.size w w' := by
  obtain ⟨ht0, hw0, w0, w4, hn⟩ := chI_ti n
  obtain ⟨L, hL⟩ : ∃ L, L = chainTo n n := ⟨_, rfl⟩
  obtain ⟨U, hU⟩ : ∃ U, U = chI n := ⟨_, rfl⟩
  obtain ⟨W, hW⟩ : ∃ W, W = chW n := ⟨_, rfl⟩
  have HS := Lib.hid (show ∀ w : World, Calls Try.prog 7 #[.int .i64 n] w fun e w' => ∃ a c, e = .returned (.slice a U.length c) ∧ AlgsAt w.heap.size w.heap.size w' (.slice a U.length c) L U ∧ Below w.heap.size w w' from fun w => by rw [hL, hU]; exact specChainsOf_any n w)
  have HI := Lib.hid (show ∀ w : World, Calls Try.prog 8 #[.int .i64 n] w fun e w' => ∃ a c, e = .returned (.slice a U.length c) ∧ AlgsD w.heap.size w.heap.size w'.heap.size w' (.slice a U.length c) L U ∧ Below w.heap.size w w' from fun w => by rw [hL, hU]; exact implChainsOf_any n w)
  rw [← hL, ← hU] at ht0 hw0
  rw [← hW] at hw0 w0 w4
  rw [← hU] at hn
  have HT := Lib.hid ht0
  have HW := Lib.hid hw0
  have hz := (kmI_le w0 w4 U.length).1
  obtain ⟨Z, hZ⟩ : ∃ Z, Z = kmI W U.length := ⟨_, rfl⟩
  rw [← hZ] at hz
  have hne : (Z != Z) = false := by simp
  have hz0 : ¬ Z < 0 := by omega
  have HM := Lib.hid (show ∀ (B C M : Nat) (a : Option Addr) (c : Nat) (w : World), AlgsD B C M w (.slice a U.length c) L U → M ≤ w.heap.size → C ≤ w.heap.size → Calls Try.prog 10 #[.slice a U.length c, .int .i64 1] w fun e w' => e = .returned (.int .i64 Z) ∧ MkD w' (.slice a U.length c) L U W ∧ Below C w w' from fun B C M a c w h1 h2 h3 => by rw [hZ]; exact markAlgebraS_D B C M a c L U W w h1 h2 h3 HT.out HW.out w0 w4 hn)
  have HH := Lib.hid (show ∀ (a : Option Addr) (c : Nat) (w : World), MkD w (.slice a U.length c) L U W → Calls Try.prog 11 #[.slice a U.length c, .int .i64 1] w fun e w' => e = .returned (.int .i64 Z) ∧ Below w.heap.size w w' from fun a c w h => by rw [hZ]; exact heldAlgebraS_D a c L U W w h HT.out HW.out w0 w4 hn)
  clear ht0 hw0 hL hU hW hZ
  go_enter Try.func3, Try.ntmps3
  go_wp2_with fail
  refine (HS.out _).mono ?_
  rintro e w1 ⟨sa, sc, rfl, hS, hb1⟩
  go_wp2_with fail
  refine (HI.out _).mono ?_
  rintro e w2 ⟨ga, gc, rfl, hG, hb2⟩
  go_wp2_with fail
  refine (eqAlgebraS_same _ _ _ _ ga sa gc sc L U w2 (hG.at HT.out) (hS.below hb2) HT.out hn).mono ?_
  rintro e w3 ⟨rfl, hb3⟩
  have s1 := hb1.size
  have s2 := hb2.size
  have s3 := hb3.size
  go_wp2_with fail
  refine (HM.out w1.heap.size w1.heap.size w2.heap.size ga gc w3 (hG.below hb3) s3 (by omega)).mono ?_
  rintro e w4 ⟨rfl, hM4, hb4⟩
  go_wp2_with fail
  refine (HH.out ga gc w4 hM4).mono ?_
  rintro e w5 ⟨rfl, hb5⟩
  go_wp2_with fail
  refine (HI.out _).mono ?_
  rintro e w6 ⟨ha, hc, rfl, hH, hb6⟩
  have s4 := hb4.size
  have s5 := hb5.size
  have z : Below w1.heap.size w1 w6 := hb2.trans ((hb3.mono s2).trans (hb4.trans ((hb5.mono (by omega)).trans (hb6.mono (by omega)))))
  go_wp2_with fail
  refine (eqAlgebraS_same _ _ _ _ ha sa hc sc L U w6 (hH.at HT.out) (hS.below z) HT.out hn).mono ?_
  rintro e w7 ⟨rfl, hb7⟩
  go_wp2_with fail
  refine (HH.out ga gc w7 ((hM4.below hb5).below (hb6.trans (hb7.mono hb6.size)))).mono ?_
  rintro e w8 ⟨rfl, hb8⟩
  go_wp2
  go_ret
  exact ⟨rfl, hb1.trans ((z.trans ((hb7.mono z.size).trans (hb8.mono (by have := z.size; have := hb7.size; omega)))).mono s1)⟩
set_option maxRecDepth 100000 in
set_option maxHeartbeats 2000000 in
/-- laws.FnExactChainCount -/
theorem lawChainCount (a0 : ByteArray) (a1 : Int) (w : World) (hw0 : a0.size ≤ maxLen) : Calls Try.prog 4 #[.string a0, .int .i64 a1] w fun e w' => e = .returned (.bool true) ∧ Below w.heap.size w w' := by
  by_cases hb0 : 1048576 < a0.size
  · have hc0 : (1048576 : Int) < (a0.size : Int) := by omega
    go_enter Try.func4, Try.ntmps4
    go_wp2
    go_ret
    exact ⟨rfl, Below.refl _ _⟩
  have hss0 : ¬ (1048576 : Int) < (a0.size : Int) := by omega
  clear hb0 hw0
  obtain ⟨V, hV⟩ : ∃ V, V = ccI a0 a1 := ⟨_, rfl⟩
  have HS := Lib.hid (show ∀ w : World, Calls Try.prog 12 #[.string a0, .int .i64 a1] w fun e w' => e = .returned (.int .i64 V) ∧ Below w.heap.size w w' from fun w => by rw [hV]; exact specChainCount_any a0 a1 w)
  have HI := Lib.hid (show ∀ w : World, Calls Try.prog 13 #[.string a0, .int .i64 a1] w fun e w' => e = .returned (.int .i64 V) ∧ Below w.heap.size w w' from fun w => by rw [hV]; exact implChainCount_any a0 a1 w)
  have hne : (V != V) = false := by simp
  clear hV
  go_enter Try.func4, Try.ntmps4
  go_wp2_with (first
    | (go_at_call 12; refine (HS.out _).mono ?_; rintro e w1 ⟨rfl, hb1⟩)
    | (go_at_call 13; refine (HI.out _).mono ?_; rintro e w2 ⟨rfl, hb2⟩))
  go_ret
  exact ⟨rfl, hb1.trans (hb2.mono hb1.size)⟩
end Go.Proofs.Ytdjhnbofnmhpaaa
