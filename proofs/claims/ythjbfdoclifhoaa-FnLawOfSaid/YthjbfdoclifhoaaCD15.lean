import Derived.Test.YthjbfdoclifhoaaCD12
import Derived.Test.YthjbfdoclifhoaaCH5
import Derived.Test.YthjbfdoclifhoaaP2
import Derived.Test.YthjbfdoclifhoaaY1
namespace Go.Proofs.Ythjbfdoclifhoaa
open Go.RowKit
set_option linter.unusedVariables false

set_option maxRecDepth 100000 in
set_option maxHeartbeats 2000000 in
/-- impl.ChainsOf's closure -/
theorem chRow_any (bx : Nat) (T : List (List Int)) (x y : Int) (w : World) (h : Blk w bx 48 (iv (tv T))) (x0 : 0 ≤ x) (x1 : x < 6) (y0 : 0 ≤ y) (y1 : y < 6) :
    Calls Try.prog 21 #[.int .i64 x, .int .i64 y, .pointer (some ⟨bx, 0, none⟩)] w fun e w' => e = .returned (.int .i64 (tv T x y)) ∧ Below w.heap.size w w' := by
  have c0 := h.cell x0 x1 y0 y1
  unfold iv at c0
  go_enter Try.func21, Try.ntmps21
  go_wp2
  go_ret
  exact ⟨rfl, Below.refl _ _⟩
end Go.Proofs.Ythjbfdoclifhoaa

namespace Go.Proofs.Ythjbfdoclifhoaa
open Go.RowKit
set_option linter.unusedVariables false

theorem tabs_flat (R : List (List (List Int))) {i j : Nat} (hi : i < R.length) (hj : j < 36) : (R.flatMap tabC)[i * 36 + j]? = (tab2 (iv (tv (R.getD i [])))).toList[j]? := by
  induction R generalizing i with
  | nil => simp at hi
  | cons T R ih =>
    rw [List.flatMap_cons]
    cases i with
    | zero =>
      rw [show 0 * 36 + j = j by omega, List.getElem?_append_left (by rw [tabC_len]; omega)]
      rfl
    | succ i =>
      rw [List.getElem?_append_right (by rw [tabC_len]; omega), tabC_len, show (i + 1) * 36 + j - 36 = i * 36 + j by omega]
      exact ih (by simp at hi; omega)
/-- the range of a table in a row of tables -/
theorem tabs_range {B : Nat} {w : World} {g n cap : Nat} {R : List (List (List Int))} (h : TabR B w (.slice (some ⟨g, 0, none⟩) n cap) R) {i : Nat} (hi : i < R.length) : w.rangeAt g (i * 36) (tab2 (iv (tv (R.getD i [])))).toList := by
  obtain ⟨hl, h⟩ := h
  rcases h with ⟨e, h0⟩ | ⟨g', cap', cur, e, hB, hg, hc, _, hs, ht⟩
  · injection e with e1 _ _; cases e1
  · injection e with e1 e2 e3
    injection e1 with e1
    injection e1 with e1 _ _
    subst e1
    intro j v hv
    have hj : j < 36 := by have := (List.getElem?_eq_some_iff.1 hv).1; simpa [tab2_size] using this
    rw [cell_of_row w g _ _ _ _ hg]
    have hlt : i * 36 + j < R.length * 36 := by omega
    have hk : cur[i * 36 + j]? = (R.flatMap tabC)[i * 36 + j]? := by rw [← ht, List.getElem?_take_of_lt hlt, Array.getElem?_toList]
    rw [hk, ← hv]
    exact tabs_flat R hi hj
theorem wpList_append_alg {ops : Array Oper} {rest : List Oper} {o : Oper} {a : Act} {Q : Exit → Act → World → Prop} (hgd : o.guard = none) (s x : Operand)
    (ho : o.op = .call { callee := .builtin .append, args := #[s, x], argTypes := #[27, 27] }) (B C : Nat) (v : Value) (L : List Int) (Ts : List (List (List Int))) (T : List (List Int)) (w : World) (hs : a.eval s = v) (hown : AlgsAt B C w v L Ts)
    (g : Nat) (hx : a.eval x = .slice (some ⟨g, 0, none⟩) 1 1) (u1 u2 : Value) (hg : w.heap[g]? = some (.cells #[u1, u2] 31 (0, 0))) (o1 : u1.oneCell' = true) (o2 : u2.oneCell' = true) (k1 : Own C w u1 L) (k2 : RowsAt C w u2 T) (hR : Ts.length ≤ 1000) (hB : B ≤ w.heap.size)
    (h : ∀ v' w', AlgsAt B C w' v' L (Ts ++ [T]) → w.grownBy w' v.ownBlock → wpList Try.prog ops Q rest (a.put o.dst v') w') : wpList Try.prog ops Q (o :: rest) a w := by
  obtain ⟨i0, hi, hz0, hz1, hz2⟩ := info_parts info_Alg
  obtain ⟨cs, h1, h2⟩ := hown
  refine wpList_append_own w hgd s x 27 ho B 31 i0 (.agg #[.slice none 0 0, .slice none 0 0]) 2 48 Try.underlying27 hi hz0 hz1 hz2 rfl (by decide) v Ts.length cs hs h1 ⟨g, 0, none⟩ 1 1 [u1, u2] hx rfl ?_ (by intro u hu; simp at hu; rcases hu with rfl | rfl <;> assumption) (by unfold maxLen; omega) (by omega) hB ?_
  · exact World.news_of_block (cs := #[u1, u2]) (t := 31) (fr := (0, 0)) hg
  · intro v' w' h3 h4 _
    exact h v' w' (AlgsAt.push h1 h2 k1 k2 h3 h4) h4
theorem algs_slice {B C : Nat} {w : World} {v : Value} {L : List Int} {Ts : List (List (List Int))} (h : AlgsAt B C w v L Ts) : ∃ a n c, v = .slice a n c := by
  obtain ⟨cs, h1, _⟩ := h
  rcases h1.2 with ⟨rfl, _⟩ | ⟨g, cap, cur, rfl, _⟩
  · exact ⟨_, _, _, rfl⟩
  · exact ⟨_, _, _, rfl⟩
theorem TabOwn.rows {w : World} {lo B : Nat} {R : Nat → Nat} {T : List (List Int)} (h : TabOwn w lo B R T T.length) (hl : T.length ≤ maxLen) (hr : ∀ j : Nat, j < T.length → (rowAt T j).length ≤ maxLen) : RowsAt lo w (.slice (some ⟨B, 0, none⟩) T.length T.length) T := by
  refine ⟨(slTo R T T.length).toList, ⟨by rw [Array.length_toList]; simp [slTo], .inr ⟨B, T.length, _, rfl, h.lo, h.top, Nat.le_refl _, hl, by simp [slTo], ?_⟩⟩, fun j hj => ⟨_, ?_, Own.row (h.row j hj) (by have := h.up j hj; have := h.lo; omega) (hr j hj)⟩⟩
  · rw [Nat.mul_one, List.take_of_length_le (by simp [slTo])]
  · simp [slTo, hj]
theorem rows_of {w : World} {lo B n : Nat} {Q : Nat → Nat} {T : List (List Int)} (h : TabOwn w lo B Q (rowsD n T) n) (hn : n ≤ 1000) : RowsAt lo w (.slice (some ⟨B, 0, none⟩) n n) (rowsD n T) := by
  have hl : (rowsD n T).length = n := by unfold rowsD; rw [tabL_len, Int.toNat_natCast]
  have h' : TabOwn w lo B Q (rowsD n T) (rowsD n T).length := by rw [hl]; exact h
  have hr := h'.rows (by rw [hl]; unfold maxLen; omega) (fun j hj => by
    rw [hl] at hj
    unfold rowsD
    rw [tabL_row _ (by rw [Int.toNat_natCast]; exact hj)]
    have := lstTo_len (tv T (j : Int)) (n : Int) (by omega)
    unfold maxLen; omega)
  rwa [hl] at hr
set_option maxRecDepth 100000 in
set_option maxHeartbeats 8000000 in
/-- impl.ChainsOf -/
theorem implChainsOf_out (n : Int) (w : World) (hn : n < 1 ∨ 5 < n) :
    Calls Try.prog 8 #[.int .i64 n] w fun e w' => e = .returned (.slice none 0 0) ∧ w = w' := by
  by_cases h1 : n < 1
  · go_enter Try.func8, Try.ntmps8
    go_wp2
    go_ret
    exact ⟨rfl, rfl⟩
  · have h5 : 5 < n := by omega
    go_enter Try.func8, Try.ntmps8
    go_wp2
    go_ret
    exact ⟨rfl, rfl⟩
set_option maxRecDepth 100000 in
set_option maxHeartbeats 8000000 in
/-- impl.ChainsOf -/
theorem implChainsOf_in (n : Nat) (w : World) (n1 : 1 ≤ n) (n5 : n ≤ 5) :
    Calls Try.prog 8 #[.int .i64 (n : Int)] w fun e w' => ∃ v, e = .returned v ∧ AlgsAt w.heap.size w.heap.size w' v (chainTo n n) (chT n) ∧ Below w.heap.size w w' := by
  obtain ⟨R, hR, hRT, hX, hpl, hm6⟩ := finD_at n1 n5
  have g1 : ¬ (n : Int) < 1 := by omega
  have g5 : ¬ (5 : Int) < n := by omega
  have HN := Lib.hid (newDraft_any n w n1 n5)
  go_enter Try.func8, Try.ntmps8
  go_wp2_with (first
    | (go_at_call 18; refine HN.out.mono ?_; rintro e w1 ⟨v1, rfl, hd1, hp1, hb1⟩; obtain ⟨pa, pc, pp, rfl, hpp⟩ := hp1.ready; have hds := hd1.lt)
    | (go_at_call 19; refine (drFillings_any w.heap.size (plN n).length pc pp n pa w1 R n1 n5 rfl hm6 (hd1.ready n1 n5) (fun h => ⟨(hpp h).1.1, by have := (hpp h).1.2; omega⟩) (fun h => (hpp h).2) hpl hX hR).mono ?_; rintro e w2 ⟨va, rfl, hT2, hg2⟩; obtain ⟨aa, ac, rfl⟩ : ∃ a c, va = .slice a R.length c := hT2.2.elim (fun h => ⟨none, 0, by rw [h.1, h.2]⟩) (fun ⟨_, cap, _, h⟩ => ⟨_, cap, h.1⟩)))
  have hdw : Below w.heap.size w w2 := hb1.trans (grown_below hg2 (Nat.le_refl _) hb1.size)
  have hL : (chainTo (n : Int) n).length = n := by have := chainTo_len (n : Int) (n : Int) (by omega); omega
  obtain ⟨iA, hiA, hA0, hA1, hA2⟩ := info_parts info_Alg
  have HRT := Lib.hid hRT
  have HTB := Lib.hid hT2
  have hmf : ∀ (fn : Fn) (first cap : Array Value) (w : World), (Instr.makeFunc fn first cap).run Try.prog w = .ok (.func fn first cap) w := fun _ _ _ _ => rfl
  have hAN : AlgsAt w2.heap.size w.heap.size w2 (.slice none 0 0) (chainTo n n) ((R.take 0).map (rowsD n)) := ⟨[], World.ownsRow_nil _ _ _ _, fun j hj => by simp at hj⟩
  have hR3 : R.length ≤ 1000 := by
    have : R.length = (chT n).length := by rw [← hRT, List.length_map]
    have hc : (chT n).length ≤ 1000 := by
      have h : n = 1 ∨ n = 2 ∨ n = 3 ∨ n = 4 ∨ n = 5 := by omega
      rcases h with rfl | rfl | rfl | rfl | rfl <;> decide +kernel
    omega
  clear hR hRT hX hpl hm6 hd1 hp1 hpp hT2 hg2 hds HN
  go_loopw [3, 5, 6, 17] (fun av _ _ cv wr => ∃ i : Nat, i ≤ R.length ∧ cv = .int .i64 (i : Int) ∧ AlgsAt w2.heap.size w.heap.size wr av (chainTo n n) ((R.take i).map (rowsD n)) ∧ Below w2.heap.size w2 wr) (fun _ _ _ cv _ => (1100 - intOf cv).toNat)
  case atStart => exact ⟨0, by omega, rfl, hAN, Below.refl _ _⟩
  case round =>
    clear hAN
    obtain ⟨i, iR, rfl, hA, hbr⟩ := hrel
    by_cases hi : (i : Int) < R.length
    · have hiN : i < R.length := by omega
      have ki : IntKind.i64.wrap ((i : Int) + 1) = (i : Int) + 1 := IntWalk.i64_in _ (by omega)
      obtain ⟨g, rfl⟩ : ∃ g, aa = some ⟨g, 0, none⟩ := by
        rcases HTB.out.2 with ⟨e, h0⟩ | ⟨g, cap, cur, e, _⟩
        · omega
        · injection e with e1 _ _; exact ⟨g, e1⟩
      obtain ⟨T, hT⟩ : ∃ T, T = R.getD i [] := ⟨_, rfl⟩
      have hrg := tabs_range (i := i) (show TabR w1.heap.size wr _ R from ownsRow_below HTB.out hbr) hiN
      rw [← hT] at hrg
      have htk : R.take (i + 1) = R.take i ++ [T] := by rw [List.take_succ_eq_append_getElem hiN, hT, List.getD_eq_getElem?_getD, List.getElem?_eq_getElem hiN]; rfl
      have HK := Lib.hid htk
      obtain ⟨ga, gn, gc, rfl⟩ := algs_slice hA
      have hsw : w.heap.size ≤ wr.heap.size := Nat.le_trans hdw.size hbr.size
      have hlt : ((R.take i).map (rowsD n)).length ≤ 1000 := by rw [List.length_map, List.length_take]; omega
      have HRO := Lib.hid (show ∀ (w3 : World) (bx : Nat), Blk w3 bx 48 (iv (tv T)) → Calls Try.prog 20 #[.int .i64 (n : Int), .func (.func 21) #[] #[.pointer (some ⟨bx, 0, none⟩)]] w3 fun e w' => e = .returned (.slice (some ⟨w3.heap.size, 0, none⟩) n n) ∧ (∃ Q, TabOwn w' w3.heap.size w3.heap.size Q (rowsD n T) n) ∧ Below w3.heap.size w3 w' from fun w3 bx hB =>
        rowsOf_any 21 #[.pointer (some ⟨bx, 0, none⟩)] (n : Int) (tv T) w3 (by omega) (by omega) (enters_of Try.func21 (by kernel_rfl) rfl) fun x y wy x0 x1 y0 y1 hb => chRow_any bx T x y wy (Blk.of ((hb.block _ hB.lt).trans hB) rfl) x0 (by omega) y0 (by omega))
      clear hT htk
      go_wp2_with (first
        | (refine wpList_load_mid_w rfl 48 _ rfl g (i * 36) rfl (tab2 (iv (tv T))) _ hrg Try.underlying48 rfl (size_table _) ?_)
        | (refine wpList_store_row rfl 48 _ _ rfl wr.heap.size (tab2 (iv (tv T))) rfl rfl _ _ (heap_alloc_new wr _) (size_table _) (by rw [tab2_size]; rfl) (one_iv _) ?_; rw [World.setRow_alloc_new]; obtain ⟨bx, hbx⟩ : ∃ b : Nat, b = wr.heap.size := ⟨_, rfl⟩; obtain ⟨w3, hw3⟩ : ∃ x : World, x = wr.alloc (.cells (tab2 (iv (tv T))) 48) := ⟨_, rfl⟩; rw [← hw3, ← hbx]; have hB3 : Blk w3 bx 48 (iv (tv T)) := (by rw [hw3, hbx]; exact heap_alloc_new wr _); have hb3 : Below wr.heap.size wr w3 := (by rw [hw3]; exact (Below.refl _ _).alloc (Nat.le_refl _) _); clear hw3 hbx)
        | (go_at_call 20; refine (HRO.out w3 bx hB3).mono ?_; rintro e w4 ⟨rfl, ⟨Q, hQ⟩, hb4⟩)
        | (go_at_call 22; refine (implChainOf_good (n : Int) w4 (by omega) (by omega)).mono ?_; rintro e w5 ⟨rfl, hrow, hb5⟩; have hb45 := hb3.trans ((hb4.trans (hb5.mono hb4.size)).mono hb3.size); have hs3 := hb3.size; have hs4 := hb4.size; have hs5 := hb5.size; have k1 : Own w.heap.size w5 (.slice (some ⟨w4.heap.size, 0, none⟩) n n) (chainTo (n : Int) n) := (by have h := Own.row hrow (show w.heap.size ≤ w4.heap.size by omega) (by rw [hL]; unfold maxLen; omega); rwa [hL] at h); have k2 := RowsAt.below (RowsAt.from (rows_of hQ (by omega)) (show w.heap.size ≤ w3.heap.size by omega)) hb5)
        | (at_builtin; refine wpList_append_alg rfl _ _ rfl w2.heap.size w.heap.size (.slice ga gn gc) (chainTo (n : Int) n) ((R.take i).map (rowsD n)) (rowsD n T) _ rfl (AlgsAt.below hA (hb45.alloc hb45.size _)) w5.heap.size rfl (.slice (some ⟨w4.heap.size, 0, none⟩) n n) (.slice (some ⟨w3.heap.size, 0, none⟩) n n) (heap_alloc_new w5 _) rfl rfl (k1.alloc _) (k2.alloc _) hlt (by have := hbr.size; simp; omega) ?_; intro v6 w6 hA6 hg6))
      go_roundw
      case rel => exact ⟨i + 1, by omega, by simp, by rw [HK.out, List.map_append]; exact hA6, (hbr.trans ((hb45.alloc hb45.size _).mono hbr.size)).grown hg6 (by have := hbr.size; simp; omega) (fun q hq => by obtain ⟨cs, hcs, _⟩ := hA; exact (World.ownsRow.lt hcs q hq).1)⟩
      case measure => simp [intOf]; omega
    · have e : R.take i = R := List.take_of_length_le (by omega)
      rw [e, HRT.out] at hA
      go_wp2
      go_ret
      exact ⟨_, rfl, hA.from hdw.size (Nat.le_refl _), hdw.trans (hbr.mono hdw.size)⟩
end Go.Proofs.Ythjbfdoclifhoaa

namespace Go.Proofs.Ythjbfdoclifhoaa
open Go.RowKit
set_option linter.unusedVariables false

end Go.Proofs.Ythjbfdoclifhoaa
