import Derived.Test.YthjbfdoclifhoaaP2
import Derived.Test.YthjbfdoclifhoaaN12
import Derived.Test.YthjbfdoclifhoaaG9
import Derived.Test.YthjbfdoclifhoaaD3
import Derived.Test.YthjbfdoclifhoaaM10
import Derived.Deep.AppendLies
namespace Go.Proofs.Ythjbfdoclifhoaa
open Go.RowKit
set_option linter.unusedVariables false

theorem info_pair : (Try.prog.info? 66).map (fun i => (i.zero, i.size, i.bytes)) = some (some (.agg #[.int .i64 0, .int .i64 0]), 2, 16) := by kernel_rfl
/-- pairs, cell by cell -/
def prC (P : List (Int × Int)) : List Value := P.flatMap fun p => [.int .i64 p.1, .int .i64 p.2]
theorem prC_app (P Q : List (Int × Int)) : prC (P ++ Q) = prC P ++ prC Q := by unfold prC; rw [List.flatMap_append]
theorem prC_len : ∀ P : List (Int × Int), (prC P).length = P.length * 2
  | [] => rfl
  | p :: P => by
    show (prC P).length + 2 = (P.length + 1) * 2
    rw [prC_len P]; omega
def pAt (P : List (Int × Int)) (j : Nat) : Int × Int := P.getD j (0, 0)
theorem prC_at : ∀ (P : List (Int × Int)) (j : Nat), j < P.length → (prC P)[2 * j]? = some (.int .i64 (pAt P j).1) ∧ (prC P)[2 * j + 1]? = some (.int .i64 (pAt P j).2)
  | [], j, h => absurd h (by simp)
  | p :: P, 0, _ => ⟨rfl, rfl⟩
  | p :: P, j + 1, h => by
    have := prC_at P j (by rw [List.length_cons] at h; omega)
    exact this
theorem prC_one (P : List (Int × Int)) : ∀ u ∈ prC P, u.oneCell' = true := fun u hu => by
  unfold prC at hu
  rw [List.mem_flatMap] at hu
  obtain ⟨p, _, hp⟩ := hu
  simp only [List.mem_cons, List.not_mem_nil, or_false] at hp
  rcases hp with rfl | rfl <;> rfl
/-- pairs in a slice of the call's own -/
def PrAt (B : Nat) (w : World) (v : Value) (P : List (Int × Int)) : Prop := w.ownsRow B 66 2 v P.length (prC P)
theorem PrAt.nothing (B : Nat) (w : World) : PrAt B w (.slice none 0 0) [] := World.ownsRow_nil _ _ _ _
theorem PrAt.below {B : Nat} {w w' : World} {v : Value} {P : List (Int × Int)} (h : PrAt B w v P) (hb : Below w.heap.size w w') : PrAt B w' v P := ownsRow_below h hb
theorem PrAt.shape {B : Nat} {w : World} {v : Value} {P : List (Int × Int)} (h : PrAt B w v P) (hP : 0 < P.length) : ∃ g c, v = .slice (some ⟨g, 0, none⟩) P.length c ∧ B ≤ g ∧ g < w.heap.size ∧ (∀ j u, (prC P)[j]? = some u → w.cell? ((⟨g, 0, none⟩ : Addr).add j) = some u) ∧ ∀ j : Nat, j < P.length → w.rangeAt g (j * 2) [.int .i64 (pAt P j).1, .int .i64 (pAt P j).2] := by
  have h0 := h
  rcases h.2 with ⟨_, hn⟩ | ⟨g, cap, cur, e1, e2, hg, e3⟩
  · omega
  · subst e1
    have hc : ∀ j u, (prC P)[j]? = some u → w.cell? ((⟨g, 0, none⟩ : Addr).add j) = some u := fun j u hu => World.ownsRow.cells h0 rfl j u hu
    have hc' : ∀ j u, (prC P)[j]? = some u → w.cell? ⟨g, j, none⟩ = some u := fun j u hu => by
      have := hc j u hu
      rcases Nat.eq_zero_or_pos j with h0 | h0
      · rw [h0] at this ⊢; simpa [Addr.add] using this
      · simpa [Addr.add, show j ≠ 0 by omega] using this
    refine ⟨g, cap, rfl, e2, lt_of_block hg, hc, fun j hj k v hv => ?_⟩
    obtain ⟨q1, q2⟩ := prC_at P j hj
    rcases k with _ | _ | k
    · simp only [List.getElem?_cons_zero, Option.some.injEq] at hv
      subst hv
      rw [Nat.add_zero, Nat.mul_comm]
      exact hc' _ _ q1
    · simp only [List.getElem?_cons_succ, List.getElem?_cons_zero, Option.some.injEq] at hv
      subst hv
      rw [Nat.mul_comm]
      exact hc' _ _ q2
    · simp at hv
def RetPr (P : List (Int × Int)) (w : World) (e : Ending) (w' : World) : Prop := ∃ v, e = .returned v ∧ PrAt w.heap.size w' v P ∧ Below w.heap.size w w'
set_option maxRecDepth 100000 in
set_option maxHeartbeats 1000000 in
/-- impl.pairsWith -/
theorem pairsWith_any (x : Int) (a : Option Addr) (ca : Nat) (E : List Int) (w : World) (hr : Rd w a E) (h6 : E.length ≤ 6) :
    Calls Try.prog 55 #[.int .i64 x, .slice a E.length ca] w (RetPr (E.map fun y => (x, y)) w) := by
  obtain ⟨i0, hi, hz0, hz1, hz2⟩ := info_parts info_pair
  have KR := Lib.hid (show ∀ wz, Below w.heap.size w wz → Rd wz a E from fun wz h => hr.below h)
  clear hr
  go_enter Try.func55, Try.ntmps55
  go_wp2
  go_loopw [5, 7, 10] (fun pv _ kv wr => ∃ k : Int, 0 ≤ k ∧ k ≤ E.length ∧ kv = .int .i64 k ∧ PrAt w.heap.size wr pv ((E.take k.toNat).map fun y => (x, y)) ∧ Below w.heap.size w wr) (fun _ _ kv _ => (10 - intOf kv).toNat)
  case atStart => exact ⟨0, by omega, by omega, rfl, PrAt.nothing _ _, Below.refl _ _⟩
  case round =>
    obtain ⟨k, k0, k1, rfl, hp, hb⟩ := hrel
    by_cases hk : k < E.length
    · obtain ⟨eb, eo, rfl, hc⟩ := (KR.out _ hb) (by intro e; rw [e] at hk; simp at hk; omega)
      have d0 := hc.at k k0 hk
      have hs := hb.size
      have htk := Lib.hid (show (E.take (k + 1).toNat).map (fun y => (x, y)) = (E.take k.toNat).map (fun y => (x, y)) ++ [(x, nth E k)] by rw [take_next E k0 hk, List.map_append]; rfl)
      obtain ⟨P, hP⟩ : ∃ P : List (Int × Int), P = (E.take k.toNat).map fun y => (x, y) := ⟨_, rfl⟩
      have hPl : P.length ≤ 6 := by rw [hP, List.length_map, List.length_take]; omega
      rw [← hP] at hp htk
      obtain ⟨y, hy⟩ : ∃ y, y = nth E k := ⟨_, rfl⟩
      rw [← hy] at d0 htk
      have kk : IntKind.i64.wrap (k + 1) = k + 1 := IntWalk.i64_in _ (by omega)
      clear hP hy hc
      go_wp2_with (at_builtin; refine wpList_append_own _ rfl _ _ 62 rfl w.heap.size 66 i0 (.agg #[.int .i64 0, .int .i64 0]) 2 16 Try.underlying62 hi hz0 hz1 hz2 rfl (by decide) _ _ _ rfl (World.ownsRow.alloc hp _) ⟨wr.heap.size, 0, none⟩ 1 1 [.int .i64 x, .int .i64 y] rfl rfl (World.news_of_block (cs := #[.int .i64 x, .int .i64 y]) (t := 66) (fr := (0, 0)) (heap_alloc_new wr _)) (fun u hu => by simp only [List.mem_cons, List.not_mem_nil, or_false] at hu; rcases hu with rfl | rfl <;> rfl) (by unfold maxLen; omega) (by omega) (by simp; omega) ?_; intro v5 w5 hown5 hgrow5 _)
      go_roundw
      case rel => exact ⟨k + 1, by omega, by omega, rfl, by unfold PrAt; rw [htk.out, List.length_append, prC_app]; exact hown5, (hb.alloc hs _).grown hgrow5 (by simp; omega) (fun q hq => (World.ownsRow.lt hp q hq).1)⟩
      case measure => simp [intOf]; omega
    · have e : k = E.length := by omega
      subst e
      rw [Int.toNat_natCast, List.take_length] at hp
      go_wp2
      go_ret
      exact ⟨_, rfl, hp, hb⟩
/-- all pairs in their order, the first ones -/
def prL (m k : Nat) : List (Int × Int) := (List.range k).map fun p => (((p / m : Nat) : Int), ((p % m : Nat) : Int))
theorem prL_len (m k : Nat) : (prL m k).length = k := by simp [prL]
theorem prL_at {m k j : Nat} (h : j < k) : pAt (prL m k) j = (((j / m : Nat) : Int), ((j % m : Nat) : Int)) := by
  unfold pAt prL
  rw [List.getD_eq_getElem?_getD, List.getElem?_map, List.getElem?_range h]
  rfl
theorem prL_next {m : Nat} (m1 : 1 ≤ m) (x : Nat) : prL m ((x + 1) * m) = prL m (x * m) ++ (lstTo (fun i => i) (m : Int)).map fun y => ((x : Int), y) := by
  unfold prL lstTo
  rw [Nat.succ_mul, List.range_add, List.map_append, List.map_map, List.map_map, Int.toNat_natCast]
  congr 1
  refine List.map_congr_left fun y hy => ?_
  have hy := List.mem_range.1 hy
  have e1 : (x * m + y) / m = x := by rw [Nat.mul_comm, Nat.mul_add_div (by omega), Nat.div_eq_of_lt hy, Nat.add_zero]
  have e2 : (x * m + y) % m = y := by rw [Nat.mul_comm, Nat.mul_add_mod, Nat.mod_eq_of_lt hy]
  simp only [Function.comp, e1, e2]
set_option maxRecDepth 100000 in
set_option maxHeartbeats 2000000 in
/-- impl.pairsOf -/
theorem pairsOf_any (L : List Int) (T : List (List Int)) (M : List Int) (U : List (List Int)) (w : World) (l6 : (L.length : Int) ≤ 6) (m1 : 1 ≤ (M.length : Int)) (m6 : (M.length : Int) ≤ 6) :
    Calls Try.prog 26 #[.agg (algOf L T), .agg (algOf M U)] w (RetPr (prL M.length (L.length * M.length)) w) := by
  obtain ⟨i0, hi, hz0, hz1, hz2⟩ := info_parts info_pair
  obtain ⟨w1, hw1⟩ : ∃ w1, w1 = (w.alloc (.cells (algOf L T) 58)).alloc (.cells (algOf M U) 58) := ⟨_, rfl⟩
  have hB : Below w.heap.size w w1 := by rw [hw1]; exact ((Below.refl _ _).alloc (Nat.le_refl _) _).alloc (by simp) _
  have hA1 : AlgAt w1 w.heap.size L T := by show w1.heap[w.heap.size]? = _; rw [hw1, Below.heap_alloc _ _ _ (by simp)]; exact heap_alloc_new w _
  have hA2 : AlgAt w1 (w.heap.size + 1) M U := by show w1.heap[w.heap.size + 1]? = _; rw [hw1]; exact heap_alloc2_new _ _ _
  have KA := Lib.hid (show ∀ wz, Below w1.heap.size w1 wz → AlgAt wz w.heap.size L T from fun wz h => hA1.below h hA1.lt)
  have KB := Lib.hid (show ∀ wz, Below w1.heap.size w1 wz → AlgAt wz (w.heap.size + 1) M U from fun wz h => hA2.below h hA2.lt)
  have z1 : Below w1.heap.size w1 w1 := Below.refl _ _
  have s1 := hB.size
  have c0 := hA1.size
  clear hA1 hA2
  go_enter Try.func26, Try.ntmps26
  go_wp2_with (rw [← hw1]; clear hw1)
  go_loopw [5, 6, 10] (fun pv _ xv wr => ∃ x : Nat, x ≤ L.length ∧ xv = .int .i64 (x : Int) ∧ PrAt w1.heap.size wr pv (prL M.length (x * M.length)) ∧ Below w1.heap.size w1 wr) (fun _ _ xv _ => (10 - intOf xv).toNat)
  case atStart => exact ⟨0, by omega, rfl, by rw [Nat.zero_mul]; exact PrAt.nothing _ _, z1⟩
  case round =>
    obtain ⟨x, hx, rfl, hp, hb⟩ := hrel
    clear z1 c0
    by_cases hk : x < L.length
    · have hkI : (x : Int) < L.length := by omega
      have hs := hb.size
      have htk := Lib.hid (prL_next (m := M.length) (by omega) x)
      have hPl := prL_len M.length (x * M.length)
      have hP36 : x * M.length ≤ 36 := Nat.mul_le_mul (show x ≤ 6 by omega) (show M.length ≤ 6 by omega)
      obtain ⟨E, hE⟩ : ∃ E, E = lstTo (fun i => i) (M.length : Int) := ⟨_, rfl⟩
      have hEl : (E.length : Int) = M.length := by rw [hE]; exact lstTo_len _ _ (by omega)
      have HEL := Lib.hid (show ∀ w : World, Calls Try.prog 56 #[.agg (latOf M)] w (RetSl w.heap.size E w) from fun w => by rw [hE]; exact elements_any M w m6)
      rw [← hE] at htk
      obtain ⟨P, hP⟩ : ∃ P, P = prL M.length (x * M.length) := ⟨_, rfl⟩
      rw [← hP] at hp htk hPl
      obtain ⟨Q, hQ⟩ : ∃ Q : List (Int × Int), Q = E.map fun y => ((x : Int), y) := ⟨_, rfl⟩
      have HQL := Lib.hid (show Q.length = E.length by rw [hQ, List.length_map])
      have hQ1 : 0 < Q.length := by have := HQL.out; omega
      have hQ6 : Q.length ≤ 6 := by have := HQL.out; omega
      have HPW := Lib.hid (show ∀ (w : World) (a : Option Addr) (c : Nat), Rd w a E → Calls Try.prog 55 #[.int .i64 x, .slice a E.length c] w (RetPr Q w) from fun w a c h => by rw [hQ]; exact pairsWith_any _ _ _ E w h (by omega))
      rw [← hQ] at htk
      have kk : IntKind.i64.wrap ((x : Int) + 1) = (x : Int) + 1 := IntWalk.i64_in _ (by omega)
      clear hE hP hQ
      go_wp2_with (first
        | (refine wpList_load_mid_w rfl 56 _ rfl (w.heap.size + 1) 0 rfl (latOf M) _ (KB.out _ hb).lat Try.underlying56 rfl (size_latOf M) ?_)
        | (go_at_call 56; refine (HEL.out _).mono ?_; rintro e w3 ⟨ea, ec, rfl, eo, hb3⟩; have y3 : Below wr.heap.size wr w3 := hb3; have z3 := hb.trans (hb3.mono hs); clear hb3)
        | (go_at_call 55; refine (HPW.out _ _ _ eo.rd).mono ?_; rintro e w4 ⟨v4, rfl, q4, hb4⟩; have y4 := y3.trans (hb4.mono y3.size); have z4 := z3.trans (hb4.mono z3.size); obtain ⟨g4, c4, rfl, g4l, _, q4c, _⟩ := q4.shape hQ1; have p4 := hp.below y4; clear hb4 q4)
        | (at_builtin; go_loud (refine wpList_append_own _ rfl _ _ 62 rfl w1.heap.size 66 i0 (.agg #[.int .i64 0, .int .i64 0]) 2 16 Try.underlying62 hi hz0 hz1 hz2 rfl (by decide) _ _ _ rfl p4 ⟨g4, 0, none⟩ Q.length c4 (prC Q) rfl (prC_len Q) q4c (prC_one Q) (by unfold maxLen; omega) (by omega) z4.size ?_; intro v5 w5 hown5 hgrow5 _)))
      go_roundw
      case rel => exact ⟨x + 1, by omega, by simp, by unfold PrAt; rw [htk.out, List.length_append, prC_app]; exact hown5, z4.grown hgrow5 z4.size (fun q hq => (World.ownsRow.lt p4 q hq).1)⟩
      case measure => simp [intOf]; omega
    · have e : x = L.length := by omega
      subst e
      go_wp2
      go_ret
      exact ⟨_, rfl, (by exact ownsRow_from hp hB.size), hB.trans (hb.mono hB.size)⟩
set_option maxRecDepth 100000 in
def chkC (n : Int) : Option (List Lit) := if IntKind.i64 = IntKind.i64 ∧ (Lit.int .i64 n).wf = true then some [.int .i64 n] else none
theorem chkC_is {n : Int} (h : (Lit.int .i64 n).wf = true) : chkC n = some [.int .i64 n] := if_pos ⟨rfl, h⟩
theorem kl_pair {a b : Int} (ha : (Lit.int .i64 a).wf = true) (hb : (Lit.int .i64 b).wf = true) : Try.prog.keyLits 3 66 [.int .i64 a, .int .i64 b] = some [.int .i64 a, .int .i64 b] := by
  have e : Try.prog.keyLits 3 66 [.int .i64 a, .int .i64 b] = (([chkC a, chkC b].mapM id).map List.flatten) := by kernel_rfl
  rw [e, chkC_is ha, chkC_is hb]
  rfl
theorem size_pair (a b : Int) : (Try.prog.info? 66).map (·.size) = some (#[.int .i64 a, .int .i64 b] : Array Value).size := by
  have h : (Try.prog.info? 66).map (·.size) = some 2 := by kernel_rfl
  exact h
theorem guard_pair : Try.prog.eqGuardType Try.prog.depth 66 = false := by kernel_rfl
theorem formed_pair (a b : Int) : (Value.agg #[.int .i64 a, .int .i64 b]).formed Try.prog 66 = true := by kernel_rfl
/-- '==' on two pairs -/
theorem run_eql_pair {a b c d : Int} (ha : (Lit.int .i64 a).wf = true) (hb : (Lit.int .i64 b).wf = true) (hc : (Lit.int .i64 c).wf = true) (hd : (Lit.int .i64 d).wf = true) (w : World) {v : Bool} (hv : (a == c && b == d) = v) :
    (binOp .eql 66 (.agg #[.int .i64 a, .int .i64 b]) (.agg #[.int .i64 c, .int .i64 d])).run Try.prog w = .ok (.bool v) w := by
  obtain ⟨r, hr, hiff⟩ := run_equalIn_deep (P := Try.prog) 9998 2 66 (by kernel_rfl) w 3 3 (.agg #[.int .i64 a, .int .i64 b]) (.agg #[.int .i64 c, .int .i64 d]) _ _ (formed_pair a b) (formed_pair c d) (kl_pair ha hb) (kl_pair hc hd)
  rw [show (9998 : Nat) + 2 = 10000 from rfl] at hr
  rw [run_eql_struct, hr]
  have : r = v := by
    rw [← hv, Bool.eq_iff_iff, hiff]
    simp
  rw [this]
  rfl
theorem quiet_eql_pair {C : World → Prop} {o : Oper} {ac : Act} {K : Act → Prop} (x y : Operand) (ho : o.op = .binOp .eql 66 x y 66) {a b c d : Int} (ha : (Lit.int .i64 a).wf = true) (hb : (Lit.int .i64 b).wf = true) (hc : (Lit.int .i64 c).wf = true) (hd : (Lit.int .i64 d).wf = true) {v : Bool} (hv : (a == c && b == d) = v)
    (hx : ac.eval x = .agg #[.int .i64 a, .int .i64 b]) (hy : ac.eval y = .agg #[.int .i64 c, .int .i64 d]) (h : K (ac.put o.dst (.bool v))) : o.quiet Try.prog ac C K :=
  ⟨_, fun w _ => by
    unfold Oper.quietAt execOp
    simp only [ho, hx, hy, Sem.run_bind, run_eqGuard_agg (P := Try.prog) w .eql 66 x y _ _ guard_pair, Result.andThen_ok, run_eql_pair ha hb hc hd w hv, Sem.run_pure]
    exact ⟨rfl, rfl⟩, h⟩
set_option maxRecDepth 100000 in
set_option maxHeartbeats 2000000 in
/-- slices.Index of a pair that is there -/
theorem indexPair_any (g c m k i : Nat) (w : World) (hR : ∀ wz, Below w.heap.size w wz → ∀ j : Nat, j < k → wz.rangeAt g (j * 2) [.int .i64 ((j / m : Nat) : Int), .int .i64 ((j % m : Nat) : Int)]) (m1 : 1 ≤ m) (hi : i < k) (hk : k ≤ 36) :
    Calls Try.prog 28 #[.slice (some ⟨g, 0, none⟩) k c, .agg #[.int .i64 ((i / m : Nat) : Int), .int .i64 ((i % m : Nat) : Int)]] w fun e w' => e = .returned (.int .i64 (i : Int)) ∧ Below w.heap.size w w' := by
  obtain ⟨w1, hw1⟩ : ∃ w1, w1 = w.alloc (.cells #[.int .i64 ((i / m : Nat) : Int), .int .i64 ((i % m : Nat) : Int)] 66) := ⟨_, rfl⟩
  have hB : Below w.heap.size w w1 := by rw [hw1]; exact (Below.refl _ _).alloc (Nat.le_refl _) _
  have hx : w1.heap[w.heap.size]? = some (.cells #[.int .i64 ((i / m : Nat) : Int), .int .i64 ((i % m : Nat) : Int)] 66 (0, 0)) := by rw [hw1]; exact heap_alloc_new w _
  have Kx := Lib.hid (show ∀ wz, Below w1.heap.size w1 wz → wz.heap[w.heap.size]? = some (.cells #[.int .i64 ((i / m : Nat) : Int), .int .i64 ((i % m : Nat) : Int)] 66 (0, 0)) from fun wz h => (h.block _ (lt_of_block hx)).trans hx)
  have KR := Lib.hid (show ∀ wz, Below w1.heap.size w1 wz → ∀ j : Nat, j < k → wz.rangeAt g (j * 2) [.int .i64 ((j / m : Nat) : Int), .int .i64 ((j % m : Nat) : Int)] from fun wz h => hR wz (hB.trans (h.mono hB.size)))
  have s1 := hB.size
  have HD := Lib.hid (show ∀ j : Nat, j ≤ 36 → j / m ≤ 36 ∧ j % m ≤ 36 from fun j hj => ⟨Nat.le_trans (Nat.div_le_self _ _) hj, Nat.le_trans (Nat.mod_le _ _) hj⟩)
  have HQ := Lib.hid (show ∀ j : Nat, j ≠ i → (((i / m : Nat) : Int) == ((j / m : Nat) : Int) && ((i % m : Nat) : Int) == ((j % m : Nat) : Int)) = false from fun j hj => by
    rw [Bool.eq_false_iff]
    intro h
    rw [Bool.and_eq_true, beq_iff_eq, beq_iff_eq] at h
    have h1 : i / m = j / m := by omega
    have h2 : i % m = j % m := by omega
    have e1 := Nat.div_add_mod i m
    have e2 := Nat.div_add_mod j m
    rw [h1, h2, e2] at e1
    exact hj e1)
  have HW := Lib.hid (show ∀ n : Nat, n ≤ 36 → (Lit.int .i64 (n : Int)).wf = true from fun n hn => by
    unfold Lit.wf
    simp only [Bool.and_eq_true, decide_eq_true_eq]
    constructor
    · exact Int.le_trans (by decide) (show (0 : Int) ≤ n by omega)
    · exact Int.le_trans (show (n : Int) ≤ 36 by omega) (by decide))
  obtain ⟨ia, hia⟩ : ∃ x, x = ((i / m : Nat) : Int) := ⟨_, rfl⟩
  obtain ⟨ib', hib⟩ : ∃ x, x = ((i % m : Nat) : Int) := ⟨_, rfl⟩
  have WA := Lib.hid (show (Lit.int .i64 ia).wf = true by rw [hia]; exact HW.out _ (HD.out i (by omega)).1)
  have WB := Lib.hid (show (Lit.int .i64 ib').wf = true by rw [hib]; exact HW.out _ (HD.out i (by omega)).2)
  have HIE := Lib.hid (show ia = ((i / m : Nat) : Int) ∧ ib' = ((i % m : Nat) : Int) from ⟨hia, hib⟩)
  rw [← hia, ← hib] at hw1 Kx HQ ⊢
  clear hx hR hia hib
  go_enter Try.func28, Try.ntmps28
  go_wp2_with (rw [← hw1]; clear hw1)
  go_loopw [5, 8] (fun _ kv wr => ∃ j : Nat, j ≤ i ∧ kv = .int .i64 (j : Int) ∧ Below w1.heap.size w1 wr) (fun _ kv _ => ((i : Int) - intOf kv).toNat)
  case atStart => exact ⟨0, by omega, rfl, Below.refl _ _⟩
  case round =>
    obtain ⟨j, hj, rfl, hb⟩ := hrel
    have hs := hb.size
    have hjk : (j : Int) < k := by omega
    have hj0 : (0 : Int) ≤ j := by omega
    obtain ⟨ja, hja⟩ : ∃ x, x = ((j / m : Nat) : Int) := ⟨_, rfl⟩
    obtain ⟨jb, hjb⟩ : ∃ x, x = ((j % m : Nat) : Int) := ⟨_, rfl⟩
    have VA := Lib.hid (show (Lit.int .i64 ja).wf = true by rw [hja]; exact HW.out _ (HD.out j (by omega)).1)
    have VB := Lib.hid (show (Lit.int .i64 jb).wf = true by rw [hjb]; exact HW.out _ (HD.out j (by omega)).2)
    have KJ := Lib.hid (show ∀ wz, Below wr.heap.size wr wz → wz.rangeAt g (j * 2) (#[.int .i64 ja, .int .i64 jb] : Array Value).toList from fun wz h => by rw [hja, hjb]; exact KR.out _ (hb.trans (h.mono hs)) j (by omega))
    have KXX := Lib.hid (show ∀ wz, Below wr.heap.size wr wz → wz.heap[w.heap.size]? = some (.cells #[.int .i64 ia, .int .i64 ib'] 66 (0, 0)) from fun wz h => Kx.out _ (hb.trans (h.mono hs)))
    have hq : ∃ q : Bool, (ia == ja && ib' == jb) = q ∧ (q = true → j = i) ∧ (q = false → j ≠ i) := by
      by_cases e : j = i
      · refine ⟨true, ?_, fun _ => e, fun h => Bool.noConfusion h⟩
        rw [HIE.out.1, HIE.out.2, hja, hjb, e]; simp
      · refine ⟨false, ?_, fun h => Bool.noConfusion h, fun _ => e⟩
        rw [hja, hjb]; exact HQ.out j e
    obtain ⟨q, hq0, hq1, hq2⟩ := hq
    have HQ0 := Lib.hid hq0
    have HQQ := Lib.hid (show (q = true → j = i) ∧ (q = false → j ≠ i) from ⟨hq1, hq2⟩)
    clear hja hjb hq0 hq1 hq2
    go_wp2
    refine region_in (Below wr.heap.size wr) (by kernel_rfl) (by kernel_rfl) (Dr.below ⟨1, rfl⟩ _) fun hne => ?_
    repeat (first
      | (go_big_quiet_want; refine quiet_load_row 66 _ rfl w.heap.size rfl _ _ _ _ (fun w' ⟨s, hs⟩ => by rw [hs]; exact KXX.out _ s.h) Try.underlying66 rfl (size_pair _ _) ?_; simp only [Act.put, List.setIfInBounds_toArray, List.set_cons_succ, List.set_cons_zero]; go_big_quiet_on)
      | (go_big_quiet_want; refine quiet_load_mid 66 _ rfl g (j * 2) rfl #[.int .i64 ja, .int .i64 jb] _ (fun w' ⟨s, hs⟩ => by rw [hs]; exact KJ.out _ s.h) Try.underlying66 rfl (size_pair _ _) ?_; simp only [Act.put, List.setIfInBounds_toArray, List.set_cons_succ, List.set_cons_zero]; go_big_quiet_on)
      | (go_big_quiet_want; refine quiet_eql_pair _ _ rfl WA.out WB.out VA.out VB.out HQ0.out rfl rfl ?_; simp only [Act.put, List.setIfInBounds_toArray, List.set_cons_succ, List.set_cons_zero]; go_big_quiet_on)
      | go_big_quiet_step (fail))
    refine wpQuiet_nil ?_
    intro s
    have hw2 := hb.trans (s.h.mono hs)
    obtain ⟨w2, hw2'⟩ : ∃ w2, w2 = s.w := ⟨_, rfl⟩
    rw [← hw2'] at hw2 ⊢
    clear hw2'
    cases q with
    | true =>
      have e := HQQ.out.1 rfl
      subst e
      go_wp2
      go_ret
      exact ⟨rfl, hB.trans (hw2.mono hB.size)⟩
    | false =>
      have e := HQQ.out.2 rfl
      have kk : IntKind.i64.wrap ((j : Int) + 1) = (j : Int) + 1 := IntWalk.i64_in _ (by omega)
      go_wp2
      go_roundw
      case rel => exact ⟨j + 1, by omega, by simp, hw2⟩
      case measure => simp [intOf]; omega
end Go.Proofs.Ythjbfdoclifhoaa
