import Derived.Test.YtljnbhnnjfnjeaaB9
namespace Go.Proofs.Ytljnbhnnjfnjeaa
open Go.RowKit

theorem enters_kept : Enters 89 := enters_of Try.func89 (by kernel_rfl) rfl
theorem append2q (a b c d e : Value) : (#[a, b] ++ #[c, d, e] : Array Value) = #[a, b, c, d, e] := rfl
set_option maxRecDepth 100000 in
set_option maxHeartbeats 4000000 in
theorem keptClo_any (t u : Int → Int → Int) (F : List Int) (bt bf bu : Nat) (af : Option Addr) (cf : Nat) (n m x y : Int) (w : World) (hb : Blk w bt 48 (iv t)) (hu : Blk w bu 48 (iv u)) (hs : w.heap[bf]? = some (.cells #[.slice af F.length cf] 23 (0, 0))) (hf : Rd w af F) (hT : FitG n t) (hF : num F ≤ n) (n6 : n ≤ 6) (m6 : m ≤ 6) (hR : ∀ k, 0 ≤ k → k < num F → 0 ≤ nth F k ∧ nth F k < m) (x0 : 0 ≤ x) (x1 : x < num F) (y0 : 0 ≤ y) (y1 : y < num F) :
    Calls Try.prog 89 #[.int .i64 x, .int .i64 y, .pointer (some ⟨bt, 0, none⟩), .pointer (some ⟨bf, 0, none⟩), .pointer (some ⟨bu, 0, none⟩)] w fun e w' => e = .returned (.bool (keptQ t u F x y)) ∧ Dr w w' := by
  have x6 : x < 6 := by omega
  have y6 : y < 6 := by omega
  obtain ⟨fx0, fx1⟩ := hR x x0 x1
  obtain ⟨fy0, fy1⟩ := hR y y0 y1
  have fx6 : nth F x < 6 := by omega
  have fy6 : nth F y < 6 := by omega
  obtain ⟨t0, t1⟩ := hT x y x0 (by omega) y0 (by omega)
  have cs := cell_of_one hs
  have hfn : num F = F.length := rfl
  have xf : x < F.length := by omega
  have yf : y < F.length := by omega
  obtain ⟨fb, fo, rfl, hcf⟩ := hf.pos (show 1 ≤ num F by omega)
  have df0 := hcf.at x x0 x1
  have df1 := hcf.at y y0 y1
  have d0 : w.cell? ⟨bt, x.toNat * 6 + y.toNat, none⟩ = some (.int .i64 (t x y)) := hb.cell x0 x6 y0 y6
  have d1 : w.cell? ⟨bu, (nth F x).toNat * 6 + (nth F y).toNat, none⟩ = some (.int .i64 (u (nth F x) (nth F y))) := hu.cell fx0 fx6 fy0 fy6
  have hq := Lib.hid (show keptQ t u F x y = (decide ((F.length : Int) ≤ t x y) || nth F (t x y) == u (nth F x) (nth F y)) from rfl)
  by_cases hz : (F.length : Int) ≤ t x y
  · rw [decide_eq_true hz] at hq
    clear hcf hR hT hb hu
    go_enter Try.func89, Try.ntmps89
    go_wp2
    go_quiet (fail)
    go_wp2
    go_ret
    exact ⟨ret_bool (by rw [hq.out]; first | rfl | (simp; intro h; exfalso; omega)), by first | exact ⟨_, rfl⟩ | exact Dr.more ⟨_, rfl⟩ _⟩
  · rw [decide_eq_false hz] at hq
    have tf : t x y < F.length := by omega
    have df2 := hcf.at (t x y) t0 (by omega)
    clear hcf hR hT hb hu
    go_enter Try.func89, Try.ntmps89
    go_wp2
    go_quiet (fail)
    go_wp2
    go_ret
    exact ⟨ret_bool (by rw [hq.out]; first | rfl | (simp; intro h; exfalso; omega)), by first | exact ⟨_, rfl⟩ | exact Dr.more ⟨_, rfl⟩ _⟩
set_option maxRecDepth 100000 in
set_option maxHeartbeats 4000000 in
/-- impl.table.isKept -/
theorem isKept_any (t u : Int → Int → Int) (F : List Int) (af : Option Addr) (cf : Nat) (n m : Int) (w : World) (hf : Rd w af F) (hT : FitG n t) (hF : num F ≤ n) (n6 : n ≤ 6) (m6 : m ≤ 6) (hR : ∀ k, 0 ≤ k → k < num F → 0 ≤ nth F k ∧ nth F k < m) :
    Calls Try.prog 58 #[.agg (tab2 (iv t)), .agg (tab2 (iv u)), .slice af F.length cf] w fun e w' => e = .returned (.bool (keptB t u F)) ∧ Below w.heap.size w w' := by
  obtain ⟨w1, hw1⟩ : ∃ w1, w1 = ((w.alloc (.cells (tab2 (iv t)) 48)).alloc (.cells (tab2 (iv u)) 48)).alloc (.cells #[.slice af F.length cf] 23) := ⟨_, rfl⟩
  have hB : Below w.heap.size w w1 := by rw [hw1]; exact (((Below.refl _ _).alloc (Nat.le_refl _) _).alloc (by simp) _).alloc (by simp; omega) _
  have hb : Blk w1 w.heap.size 48 (iv t) := by rw [hw1]; exact ((Blk.new w rfl).alloc _).alloc _
  have hu : Blk w1 (w.heap.size + 1) 48 (iv u) := by
    have := (Blk.new (T := 48) (f := iv u) (w.alloc (.cells (tab2 (iv t)) 48)) rfl).alloc (.cells #[.slice af F.length cf] 23)
    rw [hw1]; simpa using this
  have hs : w1.heap[w.heap.size + 1 + 1]? = some (.cells #[.slice af F.length cf] 23 (0, 0)) := by rw [hw1]; exact heap_alloc2_new (w.alloc (.cells (tab2 (iv t)) 48)) _ _ |> (by simpa using ·)
  have Q := Lib.hid (show ∀ wz, Below w1.heap.size w1 wz → Blk wz w.heap.size 48 (iv t) from fun wz hz => hb.below hz hb.lt)
  have U := Lib.hid (show ∀ wz, Below w1.heap.size w1 wz → Blk wz (w.heap.size + 1) 48 (iv u) from fun wz hz => hu.below hz hu.lt)
  have S := Lib.hid (show ∀ wz, Below w1.heap.size w1 wz → wz.heap[w.heap.size + 1 + 1]? = some (.cells #[.slice af F.length cf] 23 (0, 0)) from fun wz hz => (hz.block _ (lt_of_block hs)).trans hs)
  have KF := Lib.hid (show ∀ wz, Below w1.heap.size w1 wz → Rd wz af F from fun wz hz => (hf.below hB).below hz)
  have cs := cell_of_one hs
  have HT := Lib.hid hT
  have HR := Lib.hid hR
  have hfn : num F = F.length := rfl
  clear hb hu hs hT hR hf
  go_enter Try.func58, Try.ntmps58
  go_wp2_with (first
    | (rw [← hw1]; clear hw1)
    | (go_at_call 88; refine (allTwo_any 89 #[.pointer (some ⟨w.heap.size, 0, none⟩), .pointer (some ⟨w.heap.size + 1 + 1, 0, none⟩), .pointer (some ⟨w.heap.size + 1, 0, none⟩)] (F.length : Int) (keptQ t u F) _ (by omega) (by omega) enters_kept fun x y wr x0 x1 y0 y1 hb => (by rw [append2q]; exact (keptClo_any t u F _ _ _ af cf n m x y wr (Q.out _ hb) (U.out _ hb) (S.out _ hb) (KF.out _ hb) HT.out hF n6 m6 HR.out x0 x1 y0 y1).mono fun _ _ h => ⟨h.1, h.2.below _⟩)).mono ?_; rintro e w3 ⟨rfl, h3⟩))
  go_ret
  exact ⟨rfl, hB.trans (h3.mono hB.size)⟩
theorem kept_congr {t t' u u' : Int → Int → Int} {F : List Int} {m : Int} (ht : ∀ x y, 0 ≤ x → x < num F → 0 ≤ y → y < num F → t x y = t' x y) (hu : ∀ x y, 0 ≤ x → x < m → 0 ≤ y → y < m → u x y = u' x y) (hR : ∀ k, 0 ≤ k → k < num F → 0 ≤ nth F k ∧ nth F k < m) : keptB t u F = keptB t' u' F := by
  unfold keptB
  refine all2_congr fun x y x0 x1 y0 y1 => ?_
  obtain ⟨a, b⟩ := hR x x0 x1
  obtain ⟨c, d⟩ := hR y y0 y1
  unfold keptQ
  rw [ht x y x0 x1 y0 y1, hu _ _ a b c d]
/-- the tests of a map, one by one -/
theorem ms_ops {L : List Int} {T : List (List Int)} {M : List Int} {U : List (List Int)} {F : List Int} (h : algB L T = true) (h2 : algB M U = true) (hF : num F ≤ num L) (hR : ∀ k, 0 ≤ k → k < num F → 0 ≤ nth F k ∧ nth F k < num M) :
    msB L T M U F = (allI (num F) (msX L M F) && allI 4 fun k => keptB (opF L T k.toNat) (opF M U k.toNat) F) := by
  have hl := alg_lat h
  have hl2 := alg_lat h2
  have e : (allI 4 fun k => keptB (opF L T k.toNat) (opF M U k.toNat) F) = (keptB (tabM L) (tabM M) F && (keptB (tabJ L) (tabJ M) F && (keptB (timG L T) (timG M U) F && keptB (impG L T) (impG M U) F))) := by
    show (((List.range 4).all _) = _)
    simp [List.range_succ, opF]
  rw [e]
  unfold msB
  rw [kept_congr (t := tabM L) (t' := mt L) (u := tabM M) (u' := mt M) (fun x y x0 x1 y0 y1 => tabT_meet hl x0 (by omega) y0 (by omega)) (fun x y x0 x1 y0 y1 => tabT_meet hl2 x0 x1 y0 y1) hR,
    kept_congr (t := tabJ L) (t' := jn L) (u := tabJ M) (u' := jn M) (fun x y x0 x1 y0 y1 => tabT_join hl x0 (by omega) y0 (by omega)) (fun x y x0 x1 y0 y1 => tabT_join hl2 x0 x1 y0 y1) hR,
    kept_congr (t := timG L T) (t' := tv T) (u := timG M U) (u' := tv U) (fun x y x0 x1 y0 y1 => timG_in (by omega) (by omega)) (fun x y x0 x1 y0 y1 => timG_in x1 y1) hR,
    kept_congr (t := impG L T) (t' := imp L T) (u := impG M U) (u' := imp M U) (fun x y x0 x1 y0 y1 => impG_in (by omega) (by omega)) (fun x y x0 x1 y0 y1 => impG_in x1 y1) hR]
theorem ms_f1 {L : List Int} {T : List (List Int)} {M : List Int} {U : List (List Int)} {F : List Int} {x : Int} (x0 : 0 ≤ x) (x1 : x < num F) (h : msX L M F x = false) : msB L T M U F = false := by unfold msB; rw [allI_false x x0 x1 h]; rfl
set_option maxRecDepth 100000 in
set_option maxHeartbeats 4000000 in
/-- impl.algebra.isMapStart -/
theorem isMapStart_any (L : List Int) (T : List (List Int)) (M : List Int) (U : List (List Int)) (F : List Int) (af : Option Addr) (cf : Nat) (w : World) (hf : Rd w af F) (h : algB L T = true) (h2 : algB M U = true) (hF : num F ≤ num L) (hR : ∀ k, 0 ≤ k → k < num F → 0 ≤ nth F k ∧ nth F k < num M) :
    Calls Try.prog 26 #[.agg (algOf L T), .agg (algOf M U), .slice af F.length cf] w fun e w' => e = .returned (.bool (msB L T M U F)) ∧ Below w.heap.size w w' := by
  obtain ⟨n1, n6⟩ := lat_len (alg_lat h)
  obtain ⟨m1, m6⟩ := lat_len (alg_lat h2)
  have hnl : num L = L.length := rfl
  have hnm : num M = M.length := rfl
  have hnf : num F = F.length := rfl
  have n6' : (L.length : Int) ≤ 6 := n6
  have m6' : (M.length : Int) ≤ 6 := m6
  obtain ⟨w1, hw1⟩ : ∃ w1, w1 = (w.alloc (.cells (algOf L T) 52)).alloc (.cells (algOf M U) 52) := ⟨_, rfl⟩
  have hB : Below w.heap.size w w1 := by rw [hw1]; exact ((Below.refl _ _).alloc (Nat.le_refl _) _).alloc (by simp) _
  have hA : AlgAt w1 w.heap.size L T := by rw [hw1]; exact (AlgAt.new w L T).alloc _
  have hA2 : AlgAt w1 (w.heap.size + 1) M U := by
    have := AlgAt.new (w.alloc (.cells (algOf L T) 52)) M U
    rw [hw1]; simpa using this
  have Q := Lib.hid (show ∀ wz, Below w1.heap.size w1 wz → AlgAt wz w.heap.size L T from fun wz hz => hA.below hz hA.lt)
  have Q2 := Lib.hid (show ∀ wz, Below w1.heap.size w1 wz → AlgAt wz (w.heap.size + 1) M U from fun wz hz => hA2.below hz hA2.lt)
  have KF := Lib.hid (show ∀ wz, Below w1.heap.size w1 wz → Rd wz af F from fun wz hz => (hf.below hB).below hz)
  have hv := Lib.hid (ms_ops h h2 hF hR)
  have FIT := Lib.hid (fun k => fit_op h k)
  have HR := Lib.hid hR
  have z1 : Below w1.heap.size w1 w1 := Below.refl _ _
  clear hA hA2 h h2 hf hR
  go_enter Try.func26, Try.ntmps26
  go_wp2_with (rw [← hw1]; clear hw1)
  go_loopw [7, 8, 14] (fun _ _ c wr => ∃ x : Int, 0 ≤ x ∧ x ≤ num F ∧ c = .int .i64 x ∧ AllTo x (msX L M F) ∧ Below w1.heap.size w1 wr) (fun _ _ c _ => (6 - intOf c).toNat)
  case atStart => exact ⟨0, by omega, by omega, rfl, AllTo.zero _, z1⟩
  case round =>
    clear z1
    obtain ⟨x, x0, x1, rfl, hax, z1⟩ := hrel
    by_cases hx : x < num F
    · have hxf : x < F.length := by omega
      obtain ⟨fb, fo, rfl, hcf⟩ := (KF.out _ z1).pos (show 1 ≤ num F by omega)
      have df0 := hcf.at x x0 hx
      have hq := Lib.hid (show msX L M F x = !((x == 0 && nth F x != 0) || (x == (L.length : Int) - 1 && nth F x != (M.length : Int) - 1)) from rfl)
      clear hcf
      cases h1 : x == 0 <;> cases h2 : nth F x != 0 <;> cases h3 : x == (L.length : Int) - 1 <;> cases h4 : nth F x != (M.length : Int) - 1
      all_goals
        rw [h1, h2, h3, h4] at hq
        first
          | (have hf := Lib.hid (ms_f1 (T := T) (U := U) x0 hx (show msX L M F x = false from hq.out))
             clear hq
             go_wp2_with (first
               | go_skip
               | (refine wpList_load_mid_w rfl 50 _ rfl w.heap.size 0 rfl (latOf L) _ (Q.out _ (by assumption)).lat Try.underlying50 rfl (size_latOf L) ?_)
               | (refine wpList_load_mid_w rfl 50 _ rfl (w.heap.size + 1) 0 rfl (latOf M) _ (Q2.out _ (by assumption)).lat Try.underlying50 rfl (size_latOf M) ?_)
               | (go_at_call_of 56 (Value.agg (latOf L)); refine (greatest_any L _ n6').mono ?_; rintro e w3 ⟨rfl, h3⟩; replace z1 := z1.trans (h3.mono z1.size))
               | (go_at_call 56; refine (greatest_any M _ m6').mono ?_; rintro e w4 ⟨rfl, h4⟩; replace z1 := z1.trans (h4.mono z1.size)))
             go_ret
             exact ⟨ret_bool (by rw [hf.out]), hB.trans (z1.mono hB.size)⟩)
          | (have ht := Lib.hid (show msX L M F x = true from hq.out)
             clear hq
             go_wp2_with (first
               | go_skip
               | (refine wpList_load_mid_w rfl 50 _ rfl w.heap.size 0 rfl (latOf L) _ (Q.out _ (by assumption)).lat Try.underlying50 rfl (size_latOf L) ?_)
               | (refine wpList_load_mid_w rfl 50 _ rfl (w.heap.size + 1) 0 rfl (latOf M) _ (Q2.out _ (by assumption)).lat Try.underlying50 rfl (size_latOf M) ?_)
               | (go_at_call_of 56 (Value.agg (latOf L)); refine (greatest_any L _ n6').mono ?_; rintro e w3 ⟨rfl, h3⟩; replace z1 := z1.trans (h3.mono z1.size))
               | (go_at_call 56; refine (greatest_any M _ m6').mono ?_; rintro e w4 ⟨rfl, h4⟩; replace z1 := z1.trans (h4.mono z1.size)))
             go_roundw
             case rel => exact ⟨x + 1, by omega, by omega, rfl, hax.succ ht.out, z1⟩
             case measure => simp [intOf]; omega)
    · have hax2 := Lib.hid (show allI (num F) (msX L M F) = true from hax.all (by omega))
      go_wp2_with (first
        | (refine wpList_load_row_w rfl 52 _ rfl (w.heap.size + 1) rfl _ _ _ _ (Q2.out _ (by assumption)) Try.underlying52 rfl (size_alg _ _ _ _ _ _) ?_)
        | (refine wpList_load_row_w rfl 52 _ rfl w.heap.size rfl _ _ _ _ (Q.out _ (by assumption)) Try.underlying52 rfl (size_alg _ _ _ _ _ _) ?_)
        | (go_at_call_of 57 (Value.agg (algOf M U)); refine (operations_any M U _).mono ?_; rintro e w4 ⟨g2, rfl, hg2, hop2, h4⟩; have z4 : Below w1.heap.size w1 w4 := z1.trans (h4.mono z1.size))
        | (go_at_call 57; refine (operations_any L T _).mono ?_; rintro e w5 ⟨g, rfl, hg, hop, h5⟩; have z5 : Below w1.heap.size w1 w5 := z4.trans (h5.mono z4.size)))
      have G := Lib.hid (show ∀ wz, Below w5.heap.size w5 wz → OpsAt wz g L T from fun wz hz => hop.below hz)
      have G2 := Lib.hid (show ∀ wz, Below w5.heap.size w5 wz → OpsAt wz g2 M U from fun wz hz => (hop2.below h5).below hz)
      have y5 : Below w5.heap.size w5 w5 := Below.refl _ _
      obtain ⟨wo, hwo⟩ : ∃ wo : World, wo = w5 := ⟨_, rfl⟩
      clear hop hop2
      go_loopw [10, 11, 45] (fun _ _ c wr => ∃ k : Int, 0 ≤ k ∧ k ≤ 4 ∧ c = .int .i64 k ∧ AllTo k (fun k => keptB (opF L T k.toNat) (opF M U k.toNat) F) ∧ Below w1.heap.size w1 wr ∧ Below w5.heap.size w5 wr) (fun _ _ c _ => (4 - intOf c).toNat)
      case atStart => exact ⟨0, by omega, by omega, rfl, AllTo.zero _, z5, y5⟩
      case round =>
        clear hwo z5 y5 z4 z1
        obtain ⟨k, k0, k4, rfl, hak, z5, y5⟩ := hrel
        by_cases hk : k < 4
        · have hr := (G.out _ y5).range (opF_get L T (show k.toNat < 4 by omega)) rfl
          have hq := Lib.hid (show (fun k : Int => keptB (opF L T k.toNat) (opF M U k.toNat) F) k = keptB (opF L T k.toNat) (opF M U k.toNat) F from rfl)
          have HG := Lib.hid (opF_get M U (show k.toNat < 4 by omega))
          obtain ⟨FA, hFA⟩ : ∃ FA, FA = opF L T k.toNat := ⟨_, rfl⟩
          obtain ⟨FB, hFB⟩ : ∃ FB, FB = opF M U k.toNat := ⟨_, rfl⟩
          have fit : FitG L.length FA := by rw [hFA]; exact FIT.out _
          rw [← hFA] at hr hq
          rw [← hFB] at hq HG
          cases hC : keptB FA FB F
          all_goals
            rw [hC] at hq
            have HC := Lib.hid hC
            clear hC hFA hFB
            go_wp2_with (first
              | go_skip
              | (refine wpList_load_mid_w rfl 48 _ rfl g (k.toNat * 36) rfl (tab2 (iv FA)) _ hr Try.underlying48 rfl (size_table _) ?_)
              | (refine wpList_store_row rfl 48 _ _ rfl wr.heap.size (tab2 (iv FA)) rfl rfl _ _ (heap_alloc_new wr _) (size_table _) (by rw [tab2_size]; rfl) (one_tab2 _) ?_; rw [World.setRow_alloc_new]; obtain ⟨g7, hg7⟩ : ∃ g7, g7 = wr.heap.size := ⟨_, rfl⟩; obtain ⟨w7, hw7⟩ : ∃ w7, w7 = wr.alloc (.cells (tab2 (iv FA)) 48) := ⟨_, rfl⟩; rw [← hw7, ← hg7]; have b7 : Blk w7 g7 48 (iv FA) := (by rw [hw7, hg7]; exact Blk.new wr rfl); have z7 : Below w1.heap.size w1 w7 := (by rw [hw7]; exact z5.alloc z5.size _); have y7 : Below w5.heap.size w5 w7 := (by rw [hw7]; exact y5.alloc y5.size _); clear hw7 hg7))
            have hr2 := Lib.hid (show ∀ wz, Below w7.heap.size w7 wz → wz.rangeAt g2 (k.toNat * 36) (tab2 (iv FB)).toList from fun wz hz => (G2.out _ (y7.trans (hz.mono y7.size))).range HG.out rfl)
            have B7 := Lib.hid (show ∀ wz, Below w7.heap.size w7 wz → Blk wz g7 48 (iv FA) from fun wz hz => b7.below hz b7.lt)
            clear b7
            refine region_in (Below w7.heap.size w7) (by kernel_rfl) (by kernel_rfl) (Dr.below ⟨1, rfl⟩ _) fun hne => ?_
            repeat (first
              | (go_big_quiet_want; refine quiet_load_row 48 _ rfl g7 rfl _ _ _ _ (fun w' ⟨s, hs⟩ => by rw [hs]; exact (B7.out _ s.h).heap) Try.underlying48 rfl (size_table _) ?_; simp only [Act.put, List.setIfInBounds_toArray, List.set_cons_succ, List.set_cons_zero]; go_big_quiet_on)
              | (go_big_quiet_want; refine quiet_load_mid 48 _ rfl g2 (k.toNat * 36) rfl (tab2 (iv FB)) _ (fun w' ⟨s, hs⟩ => by rw [hs]; exact hr2.out _ s.h) Try.underlying48 rfl (size_table _) ?_; simp only [Act.put, List.setIfInBounds_toArray, List.set_cons_succ, List.set_cons_zero]; go_big_quiet_on)
              | go_big_quiet_step ((go_at_call 58; exact in_below _ (Nat.le_refl _) (ret_below (isKept_any FA FB F af cf L.length M.length _ (KF.out _ (in_trans z7 _)) fit (by omega) n6' m6' HR.out) HC.out))))
            refine wpQuiet_nil ?_
            intro s
            have hw2 := s.h
            obtain ⟨w7, hw2'⟩ : ∃ w7, w7 = s.w := ⟨_, rfl⟩
            rw [← hw2'] at hw2 ⊢
            clear hw2'
            have z8 := z7.trans (hw2.mono z7.size)
            have y8 := y7.trans (hw2.mono y7.size)
            go_wp2
            first
              | (go_ret
                 exact ⟨ret_bool (by rw [hv.out, allI_false k k0 hk hq.out, Bool.and_false]), hB.trans (z8.mono hB.size)⟩)
              | (go_roundw
                 case rel => exact ⟨k + 1, by omega, by omega, rfl, hak.succ hq.out, z8, y8⟩
                 case measure => simp [intOf]; omega)
        · have ht := Lib.hid (show (allI 4 fun k => keptB (opF L T k.toNat) (opF M U k.toNat) F) = true from hak.all (by omega))
          go_wp2
          go_ret
          exact ⟨ret_bool (by rw [hv.out, hax2.out, ht.out]; rfl), hB.trans (z5.mono hB.size)⟩
end Go.Proofs.Ytljnbhnnjfnjeaa
