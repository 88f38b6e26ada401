import Derived.Test.YtljnbhnnjfnjeaaP2
import Derived.Test.YtljnbhnnjfnjeaaM14
import Derived.Test.YtljnbhnnjfnjeaaN12
import Derived.Test.YtljnbhnnjfnjeaaPY
import Derived.Deep.DeepCutAuto
import Derived.Deep.RegionHeld3
namespace Go.Proofs.Ytljnbhnnjfnjeaa
open Go.RowKit
set_option linter.unusedVariables false

set_option maxRecDepth 100000 in
set_option maxHeartbeats 1000000 in
/-- slices.Index of a number that is there -/
theorem index2_any (a : Option Addr) (c : Nat) (L : List Int) (v i : Int) (w : World) (hr : Rd w a L) (i0 : 0 ≤ i) (i1 : i < L.length) (hv : nth L i = v) (hb : ∀ j, 0 ≤ j → j < i → nth L j ≠ v) (hm : L.length ≤ 1048576) :
    Calls Try.prog 39 #[.slice a L.length c, .int .i64 v] w fun e w' => e = .returned (.int .i64 i) ∧ w = w' := by
  obtain ⟨b, off, rfl, hc⟩ := hr (fun e => by rw [e] at i1; simp at i1; omega)
  have HC := Lib.hid hc
  have HB := Lib.hid hb
  have HV := Lib.hid hv
  clear hc hb hv hr
  go_enter Try.func39, Try.ntmps39
  go_wp2
  go_loop [5, 8] (fun _ kv => ∃ k : Int, 0 ≤ k ∧ k ≤ i ∧ kv = .int .i64 k) (fun _ kv => (i - intOf kv).toNat)
  case atStart => exact ⟨0, by omega, by omega, rfl⟩
  case round =>
    obtain ⟨k, k0, k1, rfl⟩ := hrel
    have kl : k < L.length := by omega
    have hck := HC.out k.toNat (by omega)
    rw [Int.toNat_of_nonneg k0] at hck
    by_cases e : k = i
    · subst e
      rw [HV.out] at hck
      have hq : (v == v) = true := by simp
      go_wp2
      go_ret
      exact ⟨rfl, rfl⟩
    · have hne := HB.out k k0 (by omega)
      have q1 : (nth L k == v) = false := by rw [beq_eq_false_iff_ne]; exact hne
      have q2 : (v == nth L k) = false := by rw [beq_eq_false_iff_ne]; exact fun h => hne h.symm
      clear hne
      go_wp2
      go_round
      case rel => exact ⟨k + 1, by omega, by omega, rfl⟩
      case measure => simp [intOf]; omega
theorem rd_ix {w : World} {a : Option Addr} {L : List Int} (h : Rd w a L) (hL : L ≠ []) : ∃ b off, a = some ⟨b, off, none⟩ ∧ ∀ k : Int, 0 ≤ k → k < L.length → w.cell? ⟨b, off + k.toNat, none⟩ = some (.int .i64 (nth L k)) := by
  obtain ⟨b, off, e, hc⟩ := h hL
  refine ⟨b, off, e, fun k k0 k1 => ?_⟩
  have := hc k.toNat (by omega)
  rwa [Int.toNat_of_nonneg k0] at this
theorem own_ix {w : World} {B : Nat} {a : Option Addr} {c : Nat} {W : List Int} (h : Own B w (.slice a W.length c) W) (hp : 0 < W.length) : ∃ g, a = some ⟨g, 0, none⟩ ∧ B ≤ g ∧ g < w.heap.size ∧ ∀ wz, Below w.heap.size w wz → ∀ k : Int, 0 ≤ k → k < W.length → wz.cell? ⟨g, k.toNat, none⟩ = some (.int .i64 (nth W k)) := by
  rcases h.shape with ⟨_, e⟩ | ⟨g, c', e, h1, h2⟩
  · rw [e] at hp; simp at hp
  · injection e with e1 _ e3
    subst e1 e3
    exact ⟨g, rfl, h1, h2, fun wz hb k k0 k1 => (h.below hb).cellAt k0 k1⟩
theorem enters_qu1 : Enters 41 := enters_of Try.func41 (by kernel_rfl) rfl
theorem enters_qu2 : Enters 44 := enters_of Try.func44 (by kernel_rfl) rfl
theorem enters_hd1 : Enters 69 := enters_of Try.func69 (by kernel_rfl) rfl
set_option maxHeartbeats 1000000 in
theorem hdClo (C : List Int) (bc bz : Nat) (ra : Option Addr) (rc : Nat) (x z : Int) (w : World) (hb : w.heap[bc]? = some (.cells #[.slice ra C.length rc] 23 (0, 0))) (hz : w.heap[bz]? = some (.cells #[.int .i64 z] 3 (0, 0))) (hc : Rd w ra C) (x0 : 0 ≤ x) (x1 : x < C.length) :
    Calls Try.prog 69 #[.int .i64 x, .pointer (some ⟨bc, 0, none⟩), .pointer (some ⟨bz, 0, none⟩)] w fun e w' => e = .returned (.bool (nth C x == x && x != z)) ∧ Below w.heap.size w w' := by
  have cb := cell_of_one hb
  have cz := cell_of_one hz
  obtain ⟨b, off, rfl, hcc⟩ := rd_ix hc (fun e => by rw [e] at x1; simp at x1; omega)
  have c1 := hcc x x0 x1
  clear hc hb hz hcc
  by_cases e : nth C x = x
  · have hq : (nth C x == x) = true := by rw [beq_iff_eq]; exact e
    rw [e] at c1 hq
    rw [e]
    go_enter Try.func69, Try.ntmps69
    go_wp2
    go_ret
    exact ⟨ret_bool (by simp), Below.refl _ _⟩
  · have hq : (nth C x == x) = false := by rw [beq_eq_false_iff_ne]; exact e
    have HQ := Lib.hid hq
    obtain ⟨v, hv⟩ : ∃ v, v = nth C x := ⟨_, rfl⟩
    rw [← hv] at c1 e
    have hne : ¬ v = x := e
    clear hq hv
    go_enter Try.func69, Try.ntmps69
    go_wp2
    go_ret
    exact ⟨ret_bool (by rw [HQ.out]; simp), Below.refl _ _⟩
set_option maxHeartbeats 1000000 in
theorem quClo1 (L : List Int) (T : List (List Int)) (f : Int) (ba bo bf g c : Nat) (p q : Int) (w : World) (hA : AlgAt w ba L T) (hbo : w.heap[bo]? = some (.cells #[.slice (some ⟨g, 0, none⟩) (quW L T f).length c] 23 (0, 0))) (hbf : w.heap[bf]? = some (.cells #[.int .i64 f] 3 (0, 0))) (hW : ∀ k : Int, 0 ≤ k → k < (quW L T f).length → w.cell? ⟨g, k.toNat, none⟩ = some (.int .i64 (nth (quW L T f) k))) (h : algB L T = true) (hf : filB L T f = true) (f0 : 0 ≤ f) (f6 : f ≤ 63) (p0 : 0 ≤ p) (p1 : p < (quW L T f).length) (q0 : 0 ≤ q) (q1 : q < (quW L T f).length) :
    Calls Try.prog 41 #[.int .i64 p, .int .i64 q, .pointer (some ⟨ba, 0, none⟩), .pointer (some ⟨bo, 0, none⟩), .pointer (some ⟨bf, 0, none⟩)] w fun e w' => e = .returned (.bool (quG L T f p q)) ∧ Dr w w' := by
  have cb := cell_of_one hbo
  have cf := cell_of_one hbf
  have c1 := hW p p0 p1
  have c2 := hW q q0 q1
  obtain ⟨l1, l6⟩ := lat_len (alg_lat h)
  obtain ⟨u0, u1⟩ := (quW_el h hf p0 p1).1
  obtain ⟨v0, v1⟩ := (quW_el h hf q0 q1).1
  have u6 : nth (quW L T f) p < 6 := by omega
  have v6 : nth (quW L T f) q < 6 := by omega
  have d0 := hA.i u0 u6 v0 v6
  rw [impG_in u1 v1] at d0
  obtain ⟨i0, i1⟩ := imp_el h (nth (quW L T f) p) (nth (quW L T f) q)
  have hI := Lib.hid (show ∀ n, Calls Try.prog 42 #[.int .i64 (imp L T (nth (quW L T f) p) (nth (quW L T f) q)), .int .i64 f] (w.drewN n) fun e w' => e = .returned (.bool (quG L T f p q)) ∧ w.drewN n = w' from fun n => isIn_any _ f _ i0 (by omega) f0 (by omega))
  clear hW hA hbo hbf h hf i0 i1 f0 f6
  go_enter Try.func41, Try.ntmps41
  go_wp2
  go_quiet ((go_at_call 42; exact q_same (hI.out _)))
  go_wp2
  go_ret
  exact ⟨rfl, ⟨_, rfl⟩⟩
set_option maxHeartbeats 1000000 in
theorem quClo2 (L : List Int) (T : List (List Int)) (f : Int) (bt ba bo gt ct g c : Nat) (p q : Int) (w : World) (hA : AlgAt w ba L T) (hbt : w.heap[bt]? = some (.cells #[.slice (some ⟨gt, 0, none⟩) L.length ct] 23 (0, 0))) (hbo : w.heap[bo]? = some (.cells #[.slice (some ⟨g, 0, none⟩) (quW L T f).length c] 23 (0, 0))) (hW : ∀ k : Int, 0 ≤ k → k < (quW L T f).length → w.cell? ⟨g, k.toNat, none⟩ = some (.int .i64 (nth (quW L T f) k))) (hT : ∀ k : Int, 0 ≤ k → k < num L → w.cell? ⟨gt, k.toNat, none⟩ = some (.int .i64 (nth (quT L T f) k))) (h : algB L T = true) (hf : filB L T f = true) (p0 : 0 ≤ p) (p1 : p < (quW L T f).length) (q0 : 0 ≤ q) (q1 : q < (quW L T f).length) :
    Calls Try.prog 44 #[.int .i64 p, .int .i64 q, .pointer (some ⟨bt, 0, none⟩), .pointer (some ⟨ba, 0, none⟩), .pointer (some ⟨bo, 0, none⟩)] w fun e w' => e = .returned (.int .i64 (quM L T f p q)) ∧ Below w.heap.size w w' := by
  have cb := cell_of_one hbo
  have ct := cell_of_one hbt
  have c1 := hW p p0 p1
  have c2 := hW q q0 q1
  obtain ⟨l1, l6⟩ := lat_len (alg_lat h)
  obtain ⟨u0, u1⟩ := (quW_el h hf p0 p1).1
  obtain ⟨v0, v1⟩ := (quW_el h hf q0 q1).1
  have u6 : nth (quW L T f) p < 6 := by omega
  have v6 : nth (quW L T f) q < 6 := by omega
  have d0 := hA.t u0 u6 v0 v6
  rw [timG_in u1 v1] at d0
  obtain ⟨i0, i1⟩ := tv_el h (show El L (nth (quW L T f) p) from ⟨u0, u1⟩) (show El L (nth (quW L T f) q) from ⟨v0, v1⟩)
  have d1 : w.cell? ⟨gt, (tv T (nth (quW L T f) p) (nth (quW L T f) q)).toNat, none⟩ = some (.int .i64 (quM L T f p q)) := hT _ i0 i1
  have i2 : tv T (nth (quW L T f) p) (nth (quW L T f) q) < L.length := i1
  clear hW hA hbo hbt h hf hT i1
  go_enter Try.func44, Try.ntmps44
  go_wp2
  go_quiet (fail)
  go_wp2
  go_ret
  exact ⟨rfl, Dr.below ⟨_, rfl⟩ _⟩
theorem lat_run {w : World} {b : Nat} {L : List Int} {T : List (List Int)} (h : AlgAt w b L T) : (loadVar 50 ⟨b, 0, none⟩).run Try.prog w = .ok (.agg (latOf L)) w :=
  run_loadVar_mid w b 0 50 (latOf L).toList _ h.lat Try.underlying50 rfl (by simpa using size_latOf L)
theorem enters_gr : Enters 56 := enters_of Try.func56 (by kernel_rfl) rfl
set_option maxRecDepth 100000 in
set_option maxHeartbeats 4000000 in
theorem headsOf_any (L : List Int) (T : List (List Int)) (f : Int) (ra : Option Addr) (rc : Nat) (C : List Int) (w : World) (hcl : (C.length : Int) = L.length) (hcn : ∀ x, El L x → nth C x = clsI L T f x) (hc : Rd w ra C) (h : algB L T = true) (hf : filB L T f = true) :
    Calls Try.prog 38 #[.agg (algOf L T), .slice ra C.length rc] w (RetSl w.heap.size (quW L T f) w) := by
  obtain ⟨i0, hi, hz0, hz1, hz2⟩ := info_parts info_int
  obtain ⟨n1, n6⟩ := lat_len (alg_lat h)
  have n1' : (1 : Int) ≤ L.length := n1
  have n6' : (L.length : Int) ≤ 6 := n6
  obtain ⟨cb, co, rfl, hcc⟩ := rd_ix hc (fun e => by rw [e] at hcl; simp at hcl; omega)
  obtain ⟨w1, hw1⟩ : ∃ w1, w1 = (w.alloc (.cells (algOf L T) 52)).alloc (.cells #[.slice (some ⟨cb, co, none⟩) C.length rc] 23) := ⟨_, rfl⟩
  have hB : Below w.heap.size w w1 := by rw [hw1]; exact ((Below.refl _ _).alloc (Nat.le_refl _) _).alloc (by simp) _
  have hal : AlgAt w1 w.heap.size L T := by rw [hw1]; exact (AlgAt.new w L T).alloc _
  have hs : w1.heap[w.heap.size + 1]? = some (.cells #[.slice (some ⟨cb, co, none⟩) C.length rc] 23 (0, 0)) := by rw [hw1]; exact heap_alloc2_new _ _ _
  have hsz := lt_of_block hs
  obtain ⟨t, ht⟩ : ∃ t : Int, t = (L.length : Int) - 1 := ⟨_, rfl⟩
  have t0 : 0 ≤ t := by omega
  have t1 : t < C.length := by omega
  have hlast : w1.cell? ⟨cb, co + t.toNat, none⟩ = some (.int .i64 (quZ L T f)) := by
    have e0 := hcc t t0 t1
    rw [hcn t ⟨t0, by show t < (L.length : Int); omega⟩] at e0
    rw [hB.cell (by exact block_lt_of_cell e0), e0, ht]; rfl
  have HG := Lib.hid (show ∀ w, Calls Try.prog 56 #[.agg (latOf L)] w fun e w' => e = .returned (.int .i64 t) ∧ Below w.heap.size w w' from fun w => by rw [ht]; exact greatest_any L w n6')
  have KA := Lib.hid (show ∀ wz, Below w1.heap.size w1 wz → AlgAt wz w.heap.size L T from fun wz hz => hal.below hz hal.lt)
  have KS := Lib.hid (show ∀ wz, Below w1.heap.size w1 wz → wz.heap[w.heap.size + 1]? = some (.cells #[.slice (some ⟨cb, co, none⟩) C.length rc] 23 (0, 0)) from fun wz hz => (hz.block _ (lt_of_block hs)).trans hs)
  have KC := Lib.hid (show ∀ wz, Below w1.heap.size w1 wz → Rd wz (some ⟨cb, co, none⟩) C from fun wz hz => (hc.below hB).below hz)
  have KL := Lib.hid (show ∀ wz, Below w1.heap.size w1 wz → wz.cell? ⟨cb, co + t.toNat, none⟩ = some (.int .i64 (quZ L T f)) from fun wz hz => (hz.cell (by exact block_lt_of_cell hlast)).trans hlast)
  have HC := Lib.hid hcn
  have HA := Lib.hid h
  have HF := Lib.hid hf
  obtain ⟨Z, hZ⟩ : ∃ Z, Z = quZ L T f := ⟨_, rfl⟩
  have HP := Lib.hid (show ∀ x, (clsI L T f x == x && x != Z) = quP L T f x from fun x => by rw [hZ]; rfl)
  have HW := Lib.hid (show filtTo (quP L T f) (L.length : Int) ++ [Z] = quW L T f from by rw [hZ]; rfl)
  rw [← hZ] at KL
  have hlen := filtTo_len (quP L T f) (L.length : Int)
  have zB := hB.size
  have HCL := Lib.hid hcl
  clear hal hs hlast hc hcc hcn hcl h hf ht hZ n1 n6
  go_enter Try.func38, Try.ntmps38
  go_wp2_with (rw [← hw1]; clear hw1)
  go_cut [5] (fun sg wx => ∃ bz : Nat, sg = .pointer (some ⟨bz, 0, none⟩) ∧ wx.heap[bz]? = some (.cells #[.int .i64 Z] 3 (0, 0)) ∧ w1.heap.size ≤ bz ∧ Below w1.heap.size w1 wx)
  case first =>
    refine wp_region_any (by kernel_rfl) ?_
    refine any_of_C (C := fun wz => Below w1.heap.size w1 wz) _ _ _ _ ?_
    refine anyC_take (i := 0) (v := .slice (some ⟨cb, co, none⟩) C.length rc) rfl (by kernel_rfl) (by kernel_rfl) (by kernel_rfl) (fun _ _ _ h => h) (.inl ⟨rfl, fun wz hz => by have c := cell_of_one (KS.out _ hz); go_simp⟩) ?_
    refine anyC_take (i := 1) (v := .pointer (some ⟨w.heap.size, 0, none⟩)) rfl (by kernel_rfl) (by kernel_rfl) (by kernel_rfl) (fun _ _ _ h => h) (.inl ⟨rfl, fun wz hz => by go_simp⟩) ?_
    refine anyC_take (i := 2) (v := .agg (latOf L)) rfl (by kernel_rfl) (by kernel_rfl) (by kernel_rfl) (fun _ _ _ h => h) (.inl ⟨rfl, fun wz hz => runs_mid (C := fun wz => Below w1.heap.size w1 wz) 50 _ rfl w.heap.size 0 rfl (latOf L) _ (fun w hw => (KA.out _ hw).lat) Try.underlying50 rfl (size_latOf L) wz hz⟩) ?_
    have zd : Below w1.heap.size w1 (w1.drewN 1) := Dr.below ⟨1, rfl⟩ _
    obtain ⟨wd, hwd⟩ : ∃ x : World, x = w1.drewN 1 := ⟨_, rfl⟩
    change wpAnyC _ _ _ _ _ _ _ _ (w1.drewN 1)
    rw [← hwd] at zd ⊢
    clear hwd
    refine anyC_two (i := 3) (j := 6) (f := 56) (args := #[.agg (latOf L)]) rfl rfl (by kernel_rfl) rfl (by apply runs_call1 (he := enters_gr) <;> rfl) zd ?_ ?_
    · refine (HG.out _).mono ?_
      rintro e w2 ⟨rfl, h2⟩
      refine ⟨_, rfl, ?_⟩
      have z2 := zd.trans (h2.mono zd.size)
      clear h2 zd
      refine anyC_take (i := 4) (v := .pointer (some ⟨cb, co + t.toNat, none⟩)) rfl (by kernel_rfl) (by kernel_rfl) (by kernel_rfl) (fun _ _ _ h => h) (.inl ⟨rfl, fun wz hz => by go_simp⟩) ?_
      refine anyC_take (i := 5) (v := .int .i64 Z) rfl (by kernel_rfl) (by kernel_rfl) (by kernel_rfl) (fun _ _ _ h => h) (.inl ⟨rfl, fun wz hz => by have c := KL.out _ hz; go_simp⟩) ?_
      refine anyC_law (i := 6) rfl (by kernel_rfl) z2 ?_
      go_wp2_with fail
      obtain ⟨g6, hg6⟩ : ∃ x : Nat, x = w2.heap.size := ⟨_, rfl⟩
      obtain ⟨wA, hwA⟩ : ∃ x : World, x = w2.alloc (.cells #[.int .i64 0] 3) := ⟨_, rfl⟩
      rw [← hwA, ← hg6]
      have fA : wA.heap[g6]? = some (.cells #[.int .i64 0] 3 (0, 0)) := by rw [hwA, hg6]; exact heap_alloc_new w2 _
      have lg : w1.heap.size ≤ g6 := by rw [hg6]; exact z2.size
      have zA : Below w1.heap.size w1 wA := by rw [hwA]; exact z2.alloc z2.size _
      clear hwA hg6 z2
      have cA := cell_of_one fA
      have uA := frozen_of_row wA _ 0 _ _ fA
      refine anyC_skip (i := 7) (o := _) (w' := wA.setCell ⟨g6, 0, none⟩ (.int .i64 Z)) rfl (by kernel_rfl) rfl ?_ zA ?_
      · go_simp
      have z9 : Below w1.heap.size w1 (wA.setCell ⟨g6, 0, none⟩ (.int .i64 Z)) := zA.setCell (by simp; omega) _
      refine anyC_done (by kernel_rfl) z9 ?_ _
      simp only [List.getElem_toArray, List.getElem_cons_zero, List.getElem_cons_succ, Act.put]
      go_wp2_with fail
      go_meet
      refine ⟨g6, rfl, ?_, lg, z9⟩
      rw [setCell_eq_setRow wA _ _ _ _ _ _ fA, setRow_heap wA _ _ _ _ _ fA]
      rfl
    · go_wp2_with fail
      obtain ⟨g6, hg6⟩ : ∃ x : Nat, x = wd.heap.size := ⟨_, rfl⟩
      obtain ⟨wB, hwB⟩ : ∃ x : World, x = wd.alloc (.cells #[.int .i64 0] 3) := ⟨_, rfl⟩
      rw [← hwB, ← hg6]
      have fB : wB.heap[g6]? = some (.cells #[.int .i64 0] 3 (0, 0)) := by rw [hwB, hg6]; exact heap_alloc_new wd _
      have lg : w1.heap.size ≤ g6 := by rw [hg6]; exact zd.size
      have zB2 : Below w1.heap.size w1 wB := by rw [hwB]; exact zd.alloc zd.size _
      clear hwB hg6 zd
      refine anyC_call (i := 3) (o := _) (f := 56) (args := #[.agg (latOf L)]) rfl (by kernel_rfl) rfl (by apply runs_call1 (he := enters_gr) <;> rfl) zB2 ?_
      refine (HG.out _).mono ?_
      rintro e wA ⟨rfl, h2⟩
      refine ⟨_, rfl, ?_⟩
      have zA := zB2.trans (h2.mono zB2.size)
      have fA := (h2.block _ (lt_of_block fB)).trans fB
      clear h2 zB2 fB
      refine anyC_take (i := 4) (v := .pointer (some ⟨cb, co + t.toNat, none⟩)) rfl (by kernel_rfl) (by kernel_rfl) (by kernel_rfl) (fun _ _ _ h => h) (.inl ⟨rfl, fun wz hz => by go_simp⟩) ?_
      refine anyC_take (i := 5) (v := .int .i64 Z) rfl (by kernel_rfl) (by kernel_rfl) (by kernel_rfl) (fun _ _ _ h => h) (.inl ⟨rfl, fun wz hz => by have c := KL.out _ hz; go_simp⟩) ?_
      have cA := cell_of_one fA
      have uA := frozen_of_row wA _ 0 _ _ fA
      refine anyC_skip (i := 7) (o := _) (w' := wA.setCell ⟨g6, 0, none⟩ (.int .i64 Z)) rfl (by kernel_rfl) rfl ?_ zA ?_
      · go_simp
      have z9 : Below w1.heap.size w1 (wA.setCell ⟨g6, 0, none⟩ (.int .i64 Z)) := zA.setCell (by simp; omega) _
      refine anyC_done (by kernel_rfl) z9 ?_ _
      simp only [List.getElem_toArray, List.getElem_cons_zero, List.getElem_cons_succ, Act.put, List.setIfInBounds_toArray, List.set_cons_succ, List.set_cons_zero]
      go_wp2_with fail
      go_meet
      refine ⟨g6, rfl, ?_, lg, z9⟩
      rw [setCell_eq_setRow wA _ _ _ _ _ _ fA, setRow_heap wA _ _ _ _ _ fA]
      rfl
  case rest =>
    obtain ⟨bz, rfl, hbz, lz, z⟩ := hcut
    have KZ := Lib.hid (show ∀ wz, Below wc.heap.size wc wz → wz.heap[bz]? = some (.cells #[.int .i64 Z] 3 (0, 0)) from fun wz h => (h.block _ (lt_of_block hbz)).trans hbz)
    have c0 := (KA.out _ z).size
    have c1 := cell_of_one hbz
    have y0 : Below wc.heap.size wc wc := Below.refl _ _
    have nc := z.size
    clear hbz
    go_wp2_with (first
      | go_skip
      | (go_at_call 34; refine (elementsThat_any 69 #[.pointer (some ⟨w.heap.size + 1, 0, none⟩), .pointer (some ⟨bz, 0, none⟩)] (L.length : Int) (quP L T f) wc (by omega) (by omega) enters_hd1 (fun y wr y0 y1 hbl => (hdClo C (w.heap.size + 1) bz _ rc y Z wr (KS.out _ (z.trans (hbl.mono nc))) (KZ.out _ hbl) (KC.out _ (z.trans (hbl.mono nc))) y0 (by have := HCL.out; omega)).mono fun e w' h => by rw [HC.out y ⟨y0, y1⟩, HP.out] at h; exact h)).mono ?_; rintro e w4 ⟨v4, rfl, o4, h4⟩; have z4 := z.trans (h4.mono nc); obtain ⟨a4, c4, rfl, _⟩ := o4.slice; have k4 := cell_of_one (KZ.out _ h4); have n4 := h4.size; clear c0 c1)
      | (at_builtin; refine wpList_append_own _ rfl _ _ 23 rfl wc.heap.size 3 i0 (.int .i64 0) 1 8 Try.underlying23 hi hz0 hz1 hz2 rfl (by decide) _ _ _ rfl (World.ownsRow.alloc o4 _) ⟨w4.heap.size, 0, none⟩ 1 1 [.int .i64 Z] rfl rfl (cell_one_new _ _ _) (fun x hx => by simp at hx; subst hx; rfl) (by unfold maxLen; omega) (by omega) (by simp; omega) ?_; intro v5 w5 hown5 hgrow5 _))
    go_ret
    have hb5 : Below wc.heap.size wc w5 := (h4.alloc n4 _).grown hgrow5 (by simp; omega) (fun q hq => (World.ownsRow.lt o4 q hq).1)
    have hBc := hB.trans (z.mono hB.size)
    refine RetOwn.sl ⟨_, rfl, ?_, hBc.trans (hb5.mono (by omega))⟩
    rw [← HW.out]
    have : Own wc.heap.size w5 v5 (filtTo (quP L T f) (L.length : Int) ++ [Z]) := by unfold Own; rw [List.map_append, List.length_append]; exact hown5
    exact this.from (by omega)
end Go.Proofs.Ytljnbhnnjfnjeaa
