import Derived.Test.YtnmhbbekmepinaaSZ1
import Derived.Test.YtnmhbbekmepinaaP5
import Derived.Test.YtnmhbbekmepinaaY1
namespace Go.Proofs.Ytnmhbbekmepinaa
open Go.RowKit
set_option linter.unusedVariables false

theorem drop_next (S : List Int) {k : Int} (k0 : 0 ≤ k) (h : k < S.length) : S.drop k.toNat = nth S k :: S.drop (k + 1).toNat := by
  rw [show (k + 1).toNat = k.toNat + 1 by omega, List.drop_eq_getElem_cons (by omega)]
  congr 1
  unfold nth
  rw [List.getD_eq_getElem?_getD, List.getElem?_eq_getElem (by omega)]
  rfl
set_option maxHeartbeats 1000000 in
/-- impl.areSizes -/
theorem areSizes_any (a : Option Addr) (ca : Nat) (S : List Int) (w : World) (hr : Rd w a S) (hl : S.length ≤ 9223372036854775807) :
    Calls Try.prog 110 #[.slice a S.length ca] w fun e w' => e = .returned (.bool (szB 5 S)) ∧ w = w' := by
  have HQ := Lib.hid (show szB 5 S = szB 5 (S.drop (0 : Int).toNat) from rfl)
  go_enter Try.func110, Try.ntmps110
  go_wp2
  go_loopw [3, 5, 8] (fun s _ c wr => ∃ k v : Int, 0 ≤ k ∧ k ≤ S.length ∧ c = .int .i64 k ∧ s = .int .i64 v ∧ szB 5 S = szB v (S.drop k.toNat) ∧ 0 ≤ v ∧ v ≤ 5 ∧ w = wr) (fun _ _ c _ => ((S.length : Int) - intOf c).toNat)
  case atStart => exact ⟨0, 5, by omega, by omega, rfl, rfl, HQ.out, by omega, by omega, rfl⟩
  case round =>
    obtain ⟨k, v, k0, k1, rfl, rfl, hv, v0, v5, rfl⟩ := hrel
    have HV := Lib.hid hv
    clear hv HQ
    by_cases hk : k < S.length
    · obtain ⟨sb, so, rfl, hc⟩ := hr (by intro e; rw [e] at hk; simp at hk; omega)
      have d0 := hc.at k k0 hk
      have hd := Lib.hid (drop_next S k0 hk)
      obtain ⟨s, hs⟩ : ∃ s, s = nth S k := ⟨_, rfl⟩
      rw [← hs] at d0 hd
      have HU := Lib.hid (show szB v (s :: S.drop (k + 1).toNat) = (decide (1 ≤ s) && (decide (s ≤ v) && szB (v - s) (S.drop (k + 1).toNat))) from rfl)
      clear hs hc
      have kk : IntKind.i64.wrap (k + 1) = k + 1 := IntWalk.i64_in _ (by omega)
      by_cases h1 : s < 1
      · have h1' : decide (s < 1) = true := decide_eq_true h1
        go_wp2
        go_ret
        refine ⟨ret_bool ?_, rfl⟩
        rw [HV.out, hd.out, HU.out, decide_eq_false (show ¬ 1 ≤ s by omega)]
        rfl
      · have h1' : decide (s < 1) = false := decide_eq_false h1
        by_cases h2 : v < s
        · have h2' : decide (s > v) = true := decide_eq_true h2
          go_wp2
          go_ret
          refine ⟨ret_bool ?_, rfl⟩
          rw [HV.out, hd.out, HU.out, decide_eq_false (show ¬ s ≤ v by omega), Bool.false_and, Bool.and_false]
        · have h2' : decide (s > v) = false := decide_eq_false h2
          have kv : IntKind.i64.wrap (v - s) = v - s := IntWalk.i64_in _ (by omega)
          have HN := Lib.hid (show szB 5 S = szB (v - s) (S.drop (k + 1).toNat) by rw [HV.out, hd.out, HU.out, decide_eq_true (show 1 ≤ s by omega), decide_eq_true (show s ≤ v by omega)]; rfl)
          go_wp2
          go_roundw
          case rel => exact ⟨k + 1, v - s, by omega, by omega, rfl, rfl, HN.out, by omega, by omega, by trivial⟩
          case measure => simp [intOf]; omega
    · have e : k = S.length := by omega
      have HN := Lib.hid (show szB 5 S = true by rw [HV.out, e, Int.toNat_natCast, List.drop_length]; rfl)
      go_wp2
      go_ret
      exact ⟨ret_bool (by rw [HN.out]), rfl⟩
set_option maxRecDepth 100000 in
theorem slice_run1S (a : Option Addr) (n c : Nat) (h1 : 1 ≤ n) (w : World) : (Instr.slice 22 (.slice a n c) (some (.int .i64 1)) none none).run Try.prog w = .ok (sliced a 1 n c 1) w := by
  have hs : ∀ w : World, (sizeOf (Try.prog.elem 22)).run Try.prog w = .ok 1 w := fun w => by kernel_rfl
  have := run_slice_l (P := Try.prog) (t := 22) (a := a) (len := n) (cap := c) w Try.underlying22 .i64 1 (by decide) (by omega)
  rw [this, hs]
  rfl
theorem rd_tailS (a : Option Addr) (c : Nat) (s : Int) (r : List Int) (hc : (s :: r).length ≤ c) : ∃ a' c', (∀ w, Rd w a (s :: r) → Rd w a' r) ∧ r.length ≤ c' ∧ ∀ w : World, (Instr.slice 22 (.slice a (s :: r).length c) (some (.int .i64 1)) none none).run Try.prog w = .ok (.slice a' r.length c') w := by
  rw [List.length_cons] at hc
  by_cases h1 : c = 1
  · have hr : r = [] := List.eq_nil_of_length_eq_zero (by omega)
    subst hr
    refine ⟨a, 0, fun w h hne => absurd rfl hne, Nat.le_refl _, fun w => ?_⟩
    rw [slice_run1S _ _ _ (by simp)]
    unfold sliced
    rw [if_pos h1, h1]
    rfl
  · refine ⟨a.map (·.add 1), c - 1, fun w h hne => ?_, by omega, fun w => ?_⟩
    · obtain ⟨b, off, rfl, hcc⟩ := h (by simp)
      refine ⟨b, off + 1, by simp [Addr.add], fun j hj => ?_⟩
      have := hcc (j + 1) (by rw [List.length_cons]; omega)
      rw [show off + 1 + j = off + (j + 1) by omega]
      rw [this]
      rfl
    · rw [slice_run1S _ _ _ (by simp)]
      unfold sliced
      rw [if_neg h1]
      simp
theorem ga_of_sum {lo bu B : Nat} {R : Nat → Nat} {w : World} {L : List Int} {T : List (List Int)} (h1 : lo ≤ bu) (h2 : bu < B) (hr : Row w bu L) (ht : TabOwn w lo B R T T.length) (hL : L.length ≤ maxLen) : GA lo w.heap.size w (.slice (some ⟨bu, 0, none⟩) L.length L.length) (.slice (some ⟨B, 0, none⟩) T.length T.length) L T :=
  ⟨bu, bu + 1, B, w.heap.size, h1, hr.lt, by omega, Nat.le_refl _, .inl h2, GS.row hr (Nat.le_refl _) (Nat.lt_succ_self _) hL, GT.of ⟨ht.top, Nat.le_refl _, ht.row, ht.up, ht.inc⟩⟩
theorem GA.wideA {lo hi lo2 hi2 : Nat} {w : World} {s t : Value} {L : List Int} {T : List (List Int)} (h : GA lo hi w s t L T) (h1 : lo2 ≤ lo) (h2 : hi ≤ hi2) : GA lo2 hi2 w s t L T := by
  obtain ⟨l1, e1, l2, e2, a1, a2, a3, a4, a5, gs, gt⟩ := h
  exact ⟨l1, e1, l2, e2, by omega, by omega, by omega, by omega, a5, gs, gt⟩
theorem ra_partsS {w : World} {a b : Option Addr} {n c m d : Nat} {L : List Int} {T : List (List Int)} (h : RA w (.slice a n c) (.slice b m d) L T) : n = L.length ∧ m = T.length ∧ Rd w a L ∧ RdT w b T := by
  obtain ⟨a', ca', b', cb', e1, e2, r1, r2⟩ := h
  injection e1 with x1 x2 _
  injection e2 with y1 y2 _
  subst x1; subst y1
  exact ⟨x2, y2, r1, r2⟩
theorem gaRd {lo hi : Nat} {w : World} {a b : Option Addr} {n c m d : Nat} {L : List Int} {T : List (List Int)} (h : GA lo hi w (.slice a n c) (.slice b m d) L T) : Rd w a L ∧ RdT w b T := ⟨(ra_partsS h.rd).2.2.1, (ra_partsS h.rd).2.2.2⟩
set_option maxRecDepth 100000 in
set_option maxHeartbeats 4000000 in
theorem implStackOf_no (a : Option Addr) (ca : Nat) (S : List Int) (w : World) (hr : Rd w a S) (hl : S.length ≤ 1048576) (hc : S.length ≤ ca) (h : szB 5 S = false) : Calls Try.prog 41 #[.slice a S.length ca] w (RetGAb (skL S) (skT S) (szB 5 S) w) := by
  obtain ⟨w1, hw1⟩ : ∃ w1, w1 = w.alloc (.cells #[.slice none 0 0, .slice none 0 0] 27) := ⟨_, rfl⟩
  have hB : Below w.heap.size w w1 := by rw [hw1]; exact (Below.refl _ _).alloc (Nat.le_refl _) _
  have hz : w1.heap[w.heap.size]? = some (.cells #[.slice none 0 0, .slice none 0 0] 27 (0, 0)) := by rw [hw1]; exact heap_alloc_new w _
  have Kz := Lib.hid (show ∀ wz, Below w1.heap.size w1 wz → wz.heap[w.heap.size]? = some (.cells #[.slice none 0 0, .slice none 0 0] 27 (0, 0)) from fun wz h => (h.block _ (lt_of_block hz)).trans hz)
  have hsz : w.heap.size < w1.heap.size := lt_of_block hz
  have KR := Lib.hid (show ∀ wz, Below w1.heap.size w1 wz → Rd wz a S from fun wz h => (hr.below hB).below h)
  have z1 : Below w1.heap.size w1 w1 := Below.refl _ _
  clear hz hr
  have HS := Lib.hid h
  have HN := Lib.hid (sk_no h)
  clear h
  go_enter Try.func41, Try.ntmps41
  go_wp2_with (first
    | go_skip
    | (rw [← hw1]; clear hw1)
    | (go_at_call 110; refine (areSizes_any _ _ S _ (KR.out _ z1) (by omega)).mono ?_; rw [HS.out]; rintro e w2 ⟨rfl, rfl⟩)
    | (refine wpList_store_row rfl 27 _ _ rfl (w.heap.size) #[.slice none 0 0, .slice none 0 0] rfl rfl _ _ (Kz.out _ z1) (size_Alg _ _) rfl (one_sl2 _ _ _ _ _ _) ?_))
  refine bodyPost_ret (v := .tuple #[.agg #[.slice none 0 0, .slice none 0 0], .bool false]) (results_Alg_tmp rfl _ _ (w.heap.size) rfl _ _ (setRow_heap _ _ _ _ _ _ (Kz.out _ z1)) rfl) rfl ?_
  rw [HS.out, HN.out.1, HN.out.2]
  have hbz := below_setRow' hB (Nat.le_refl _) #[.slice none 0 0, .slice none 0 0]
  exact ⟨_, _, _, _, _, _, rfl, GA.zero _ _ hbz.size _, hbz⟩
set_option maxRecDepth 100000 in
set_option maxHeartbeats 4000000 in
theorem implStackOf_nil (a : Option Addr) (ca : Nat) (w : World) : Calls Try.prog 41 #[.slice a 0 ca] w (RetGAb (skL []) (skT []) (szB 5 []) w) := by
  obtain ⟨S, hS⟩ : ∃ S : List Int, S = [] := ⟨_, rfl⟩
  have hr : Rd w a S := fun h => absurd hS h
  have hl : S.length = 0 := by rw [hS]; rfl
  obtain ⟨w1, hw1⟩ : ∃ w1, w1 = w.alloc (.cells #[.slice none 0 0, .slice none 0 0] 27) := ⟨_, rfl⟩
  have hB : Below w.heap.size w w1 := by rw [hw1]; exact (Below.refl _ _).alloc (Nat.le_refl _) _
  have hz : w1.heap[w.heap.size]? = some (.cells #[.slice none 0 0, .slice none 0 0] 27 (0, 0)) := by rw [hw1]; exact heap_alloc_new w _
  have Kz := Lib.hid (show ∀ wz, Below w1.heap.size w1 wz → wz.heap[w.heap.size]? = some (.cells #[.slice none 0 0, .slice none 0 0] 27 (0, 0)) from fun wz h => (h.block _ (lt_of_block hz)).trans hz)
  have hsz : w.heap.size < w1.heap.size := lt_of_block hz
  have KR := Lib.hid (show ∀ wz, Below w1.heap.size w1 wz → Rd wz a S from fun wz h => (hr.below hB).below h)
  have z1 : Below w1.heap.size w1 w1 := Below.refl _ _
  clear hz hr
  have HS := Lib.hid (show szB 5 S = true by rw [hS]; rfl)
  have ARE := Lib.hid (show ∀ wz, Below w1.heap.size w1 wz → Calls Try.prog 110 #[.slice a 0 ca] wz fun e w' => e = .returned (.bool true) ∧ wz = w' from fun wz h => by
    have := areSizes_any a ca S wz (KR.out _ h) (by omega)
    rw [HS.out, hl] at this
    exact this)
  clear hS hl
  go_enter Try.func41, Try.ntmps41
  go_wp2_with (first
    | go_skip
    | (rw [← hw1]; clear hw1)
    | (go_at_call 110; refine (ARE.out _ z1).mono ?_; rintro e w2 ⟨rfl, rfl⟩)
    | (go_at_call 67; refine (implSumChain_yes 1 _ (by omega) (by omega)).mono ?_; rintro e w3 ⟨bu, B, R, rfl, b1, b2, hrow, htab, hb3⟩; have z3 := z1.trans (hb3.mono z1.size))
    | (refine wpList_store_row rfl 27 _ _ rfl (w.heap.size) #[.slice (some ⟨bu, 0, none⟩) (chainTo 1 1).length (chainTo 1 1).length, .slice (some ⟨B, 0, none⟩) (tabL (sumP 1) 1).length (tabL (sumP 1) 1).length] rfl rfl _ _ (Kz.out _ z3) (size_Alg _ _) rfl (one_sl2 _ _ _ _ _ _) ?_))
  refine bodyPost_ret (v := .tuple #[.agg #[.slice (some ⟨bu, 0, none⟩) (chainTo 1 1).length (chainTo 1 1).length, .slice (some ⟨B, 0, none⟩) (tabL (sumP 1) 1).length (tabL (sumP 1) 1).length], .bool true]) (results_Alg_tmp rfl _ _ (w.heap.size) rfl _ _ (setRow_heap _ _ _ _ _ _ (Kz.out _ z3)) rfl) rfl ?_
  have s3 := z3.size
  have hga := ga_of_sum b1 b2 hrow htab (by unfold maxLen; decide)
  have hbz := below_setRow' (hB.trans (z3.mono hB.size)) (Nat.le_refl _) #[.slice (some ⟨bu, 0, none⟩) (chainTo 1 1).length (chainTo 1 1).length, .slice (some ⟨B, 0, none⟩) (tabL (sumP 1) 1).length (tabL (sumP 1) 1).length]
  have hb4 := below_setRow' (Below.refl w.heap.size w3) (Nat.le_refl _) #[.slice (some ⟨bu, 0, none⟩) (chainTo 1 1).length (chainTo 1 1).length, .slice (some ⟨B, 0, none⟩) (tabL (sumP 1) 1).length (tabL (sumP 1) 1).length]
  exact ⟨_, _, _, _, _, _, rfl, ((hga.keep fun k k1 _ _ => setRow_other w3 w.heap.size k #[.slice (some ⟨bu, 0, none⟩) (chainTo 1 1).length (chainTo 1 1).length, .slice (some ⟨B, 0, none⟩) (tabL (sumP 1) 1).length (tabL (sumP 1) 1).length] (by omega)).wideA (by omega) (by have := hb4.size; omega)), hbz⟩
set_option maxRecDepth 100000 in
set_option maxHeartbeats 8000000 in
theorem implStackOfRec : ∀ (S : List Int) (a : Option Addr) (ca : Nat) (w : World), Rd w a S → S.length ≤ 1048576 → S.length ≤ ca → Calls Try.prog 41 #[.slice a S.length ca] w (RetGAb (skL S) (skT S) (szB 5 S) w)
  | [], a, ca, w, _, _, _ => implStackOf_nil a ca w
  | s :: r, a, ca, w, hr, hl, hc => by
    cases h : szB 5 (s :: r) with
    | false => have := implStackOf_no a ca (s :: r) w hr hl hc h; rwa [h] at this
    | true =>
      obtain ⟨h1, h5, _⟩ := szB_cons h
      obtain ⟨hrr, hok, eL, eT⟩ := sk_cons h
      obtain ⟨a', c', hR', hc', hsl⟩ := rd_tailS a ca s r hc
      have IH := Lib.hid (fun (w : World) (h : Rd w a' r) => implStackOfRec r a' c' w h (by rw [List.length_cons] at hl; omega) hc')
      obtain ⟨S, hS⟩ : ∃ S, S = s :: r := ⟨_, rfl⟩
      rw [← hS] at hr hl hc hsl h ⊢
      have hSl : (S.length : Int) ≠ 0 := by rw [hS, List.length_cons]; omega
      have hn0 : nth S 0 = s := by rw [hS]; rfl
      have hsne : S ≠ [] := by rw [hS]; simp
      obtain ⟨w1, hw1⟩ : ∃ w1, w1 = w.alloc (.cells #[.slice none 0 0, .slice none 0 0] 27) := ⟨_, rfl⟩
      have hB : Below w.heap.size w w1 := by rw [hw1]; exact (Below.refl _ _).alloc (Nat.le_refl _) _
      have hz : w1.heap[w.heap.size]? = some (.cells #[.slice none 0 0, .slice none 0 0] 27 (0, 0)) := by rw [hw1]; exact heap_alloc_new w _
      have Kz := Lib.hid (show ∀ wz, Below w1.heap.size w1 wz → wz.heap[w.heap.size]? = some (.cells #[.slice none 0 0, .slice none 0 0] 27 (0, 0)) from fun wz h => (h.block _ (lt_of_block hz)).trans hz)
      have hsz : w.heap.size < w1.heap.size := lt_of_block hz
      have KR := Lib.hid (show ∀ wz, Below w1.heap.size w1 wz → Rd wz a S from fun wz h => (hr.below hB).below h)
      have z1 : Below w1.heap.size w1 w1 := Below.refl _ _
      clear hz hr
      have HS := Lib.hid h
      have KA := Lib.hid (show ∀ wz, Below w1.heap.size w1 wz → Rd wz a' r from fun wz h => by have := KR.out _ h; rw [hS] at this; exact hR' _ this)
      have HE := Lib.hid (show szB 5 S = true ∧ skL S = stL (suL s) (suT s) (skL r) (skT r) ∧ skT S = stT (suL s) (suT s) (skL r) (skT r) ∧ stOk (suL s) (suT s) (skL r) (skT r) = true from ⟨h, by rw [hS]; exact eL, by rw [hS]; exact eT, hok⟩)
      obtain ⟨sb, so, rfl, hcc⟩ := (KR.out _ z1) hsne
      have d0 := hcc.at 0 (by omega) (show (0 : Int) < num S from (by show (0 : Int) < (S.length : Int); omega))
      rw [hn0] at d0
      rw [show so + (0 : Int).toNat = so by simp] at d0
      have ks : IntKind.i64.wrap (s + 1) = s + 1 := IntWalk.i64_in _ (by omega)
      have hsi : (0 : Int) < S.length := by omega
      have HRR := Lib.hid hrr
      clear hS eL eT hok hR' hsne hcc h hn0 hrr
      go_enter Try.func41, Try.ntmps41
      go_wp2_with (first
    | go_skip
    | (rw [← hw1]; clear hw1)
    | (go_at_call 110; refine (areSizes_any _ _ S _ (KR.out _ z1) (by omega)).mono ?_; rw [HS.out]; rintro e w2 ⟨rfl, rfl⟩)
    | (go_at_call 67; refine (implSumChain_yes (s + 1) _ (by omega) (by omega)).mono ?_; rintro e w3 ⟨bu, B, R, rfl, b1, b2, hrow, htab, hb3⟩; have z3 := z1.trans (hb3.mono z1.size); have HG3 := Lib.hid (ga_of_sum b1 b2 hrow htab (by have := chainTo_len (s + 1) (s + 1) (by omega); unfold maxLen; omega)); clear hrow htab hb3)
    | (refine wpList_store_row rfl 27 _ _ rfl w3.heap.size #[.slice (some ⟨bu, 0, none⟩) (suL s).length (suL s).length, .slice (some ⟨B, 0, none⟩) (suT s).length (suT s).length] rfl rfl _ _ (heap_alloc_new w3 (.cells #[.slice none 0 0, .slice none 0 0] 27)) (size_Alg _ _) rfl (one_sl2 _ _ _ _ _ _) ?_; rw [World.setRow_alloc_new]; obtain ⟨g4, hg4⟩ : ∃ g : Nat, g = w3.heap.size := ⟨_, rfl⟩; obtain ⟨w4, hw4⟩ : ∃ x : World, x = w3.alloc (.cells #[.slice (some ⟨bu, 0, none⟩) (suL s).length (suL s).length, .slice (some ⟨B, 0, none⟩) (suT s).length (suT s).length] 27) := ⟨_, rfl⟩; rw [← hw4, ← hg4]; have qw4 : Below w3.heap.size w3 w4 := (by rw [hw4]; exact (Below.refl _ _).alloc (Nat.le_refl _) _); have hxg4 : w4.heap[g4]? = some (.cells #[.slice (some ⟨bu, 0, none⟩) (suL s).length (suL s).length, .slice (some ⟨B, 0, none⟩) (suT s).length (suT s).length] 27 (0, 0)) := (by rw [hw4, hg4]; exact heap_alloc_new w3 _); have K4 := Lib.hid (show ∀ wz, Below w4.heap.size w4 wz → wz.heap[g4]? = some (.cells #[.slice (some ⟨bu, 0, none⟩) (suL s).length (suL s).length, .slice (some ⟨B, 0, none⟩) (suT s).length (suT s).length] 27 (0, 0)) from fun wz h => (h.block _ (lt_of_block hxg4)).trans hxg4); have z4 : Below w1.heap.size w1 w4 := z3.trans (qw4.mono z3.size); clear hw4 hg4 hxg4)
    | (go_at_call 41; refine (IH.out _ (KA.out _ z4)).mono ?_; rw [HRR.out]; rintro e w5 ⟨ra, rn, rc, rb, rm, rd, rfl, hga5, hb5⟩; obtain ⟨rfl, rfl, rr5, rt5⟩ := ra_partsS hga5.rd; have z5 := z4.trans (hb5.mono z4.size); have y5 : Below w4.heap.size w4 w5 := hb5; have HR5 := Lib.hid rr5; have HT5 := Lib.hid rt5; clear hga5 hb5 rr5 rt5)
    | (refine wpList_store_row rfl 27 _ _ rfl w5.heap.size #[.slice ra (skL r).length rc, .slice rb (skT r).length rd] rfl rfl _ _ (heap_alloc_new w5 (.cells #[.slice none 0 0, .slice none 0 0] 27)) (size_Alg _ _) rfl (one_sl2 _ _ _ _ _ _) ?_; rw [World.setRow_alloc_new]; obtain ⟨g6, hg6⟩ : ∃ g : Nat, g = w5.heap.size := ⟨_, rfl⟩; obtain ⟨w6, hw6⟩ : ∃ x : World, x = w5.alloc (.cells #[.slice ra (skL r).length rc, .slice rb (skT r).length rd] 27) := ⟨_, rfl⟩; rw [← hw6, ← hg6]; have qw6 : Below w5.heap.size w5 w6 := (by rw [hw6]; exact (Below.refl _ _).alloc (Nat.le_refl _) _); have hxg6 : w6.heap[g6]? = some (.cells #[.slice ra (skL r).length rc, .slice rb (skT r).length rd] 27 (0, 0)) := (by rw [hw6, hg6]; exact heap_alloc_new w5 _); have K6 := Lib.hid (show ∀ wz, Below w6.heap.size w6 wz → wz.heap[g6]? = some (.cells #[.slice ra (skL r).length rc, .slice rb (skT r).length rd] 27 (0, 0)) from fun wz h => (h.block _ (lt_of_block hxg6)).trans hxg6); have z6 : Below w1.heap.size w1 w6 := z5.trans (qw6.mono z5.size); have y6 : Below w4.heap.size w4 w6 := y5.trans (qw6.mono y5.size); have x6 : Below w5.heap.size w5 w6 := qw6; clear hw6 hg6 hxg6)
    | (refine wpList_load_row_w rfl 27 _ rfl g4 rfl _ _ _ _ (K4.out _ y6) Try.underlying27 rfl (size_Alg _ _) ?_)
    | (refine wpList_load_row_w rfl 27 _ rfl g6 rfl _ _ _ _ (K6.out _ (Below.refl _ _)) Try.underlying27 rfl (size_Alg _ _) ?_)
    | (go_at_call 111; refine (implStackAlgebras_any _ _ _ _ (suL s) (suT s) _ _ _ _ (skL r) (skT r) w6 (gaRd ((HG3.out.below qw4).below y6)).1 (gaRd ((HG3.out.below qw4).below y6)).2 (HR5.out.below x6) (HT5.out.below x6)).mono ?_; rw [HE.out.2.2.2, ← HE.out.2.1, ← HE.out.2.2.1]; rintro e w7 ⟨fa, fn, fc, fb, fm, fd, rfl, hga7, hb7⟩; have z7 := z6.trans (hb7.mono z6.size))
    | (refine wpList_store_row rfl 27 _ _ rfl (w.heap.size) #[.slice fa fn fc, .slice fb fm fd] rfl rfl _ _ (Kz.out _ z7) (size_Alg _ _) rfl (one_sl2 _ _ _ _ _ _) ?_))
      refine bodyPost_ret (v := .tuple #[.agg #[.slice fa fn fc, .slice fb fm fd], .bool true]) (results_Alg_tmp rfl _ _ (w.heap.size) rfl _ _ (setRow_heap _ _ _ _ _ _ (Kz.out _ z7)) rfl) rfl ?_
      have s6 := z6.size
      have hbz := below_setRow' (hB.trans (z7.mono hB.size)) (Nat.le_refl _) #[.slice fa fn fc, .slice fb fm fd]
      have hb8 := below_setRow' (Below.refl w.heap.size w7) (Nat.le_refl _) #[.slice fa fn fc, .slice fb fm fd]
      exact ⟨_, _, _, _, _, _, rfl, ((hga7.keep fun k k1 _ _ => setRow_other w7 w.heap.size k #[.slice fa fn fc, .slice fb fm fd] (by omega)).wideA (by omega) (by have := hb8.size; omega)), hbz⟩
/-- impl.StackOfSums -/
theorem implStackOfSums_any (a : Option Addr) (ca : Nat) (S : List Int) (w : World) (hr : Rd w a S) (hl : S.length ≤ 1048576) (hc : S.length ≤ ca) : Calls Try.prog 41 #[.slice a S.length ca] w (RetGAb (skL S) (skT S) (szB 5 S) w) := implStackOfRec S a ca w hr hl hc
end Go.Proofs.Ytnmhbbekmepinaa
