import Derived.Test.YtpfnfglaokiipacN7
import Derived.Test.YtpfnfglaokiipacG11
namespace Go.Proofs.Ytpfnfglaokiipac
open Go.RowKit

theorem fls_63 {L : List Int} {T : List (List Int)} (h : latB L = true) {x : Int} (hx : x ∈ fls L T) : 0 ≤ x ∧ x ≤ 63 := by
  have := fls_parts hx
  have := pw_6 (lat_len h).2
  omega
theorem filt_63 {L : List Int} {T : List (List Int)} (h : latB L = true) (p : Int → Bool) : ∀ s ∈ (fls L T).filter p, 0 ≤ s ∧ s ≤ 63 := fun _ hs => fls_63 h (List.mem_filter.1 hs).1
theorem filt_64 {L : List Int} {T : List (List Int)} (h : latB L = true) (p : Int → Bool) : ((fls L T).filter p).length ≤ 64 := by
  have := List.length_filter_le p (fls L T)
  have := fls_len L T (lat_len h).2
  omega
theorem enters_ftt : Enters 72 := enters_of Try.func72 (by kernel_rfl) rfl
theorem enters_com : Enters 71 := enters_of Try.func71 (by kernel_rfl) rfl
theorem enters_fb : Enters 73 := enters_of Try.func73 (by kernel_rfl) rfl
theorem enters_ht : Enters 90 := enters_of Try.func90 (by kernel_rfl) rfl
set_option maxRecDepth 100000 in
set_option maxHeartbeats 1000000 in
theorem fbClo_any (bs : Nat) (f set : Int) (w : World) (hs : w.heap[bs]? = some (.cells #[.int .i64 set] 3 (0, 0))) (f0 : 0 ≤ f) (f6 : f ≤ 63) (g0 : 0 ≤ set) (g6 : set ≤ 63) :
    Calls Try.prog 73 #[.int .i64 f, .pointer (some ⟨bs, 0, none⟩)] w fun e w' => e = .returned (.bool (hasA f set)) ∧ w = w' := by
  have cs := cell_of_one hs
  go_enter Try.func73, Try.ntmps73
  go_wp2_with (go_at_call 74; refine (hasAll_any f set _ f0 f6 g0 g6).mono ?_; rintro e w3 ⟨rfl, rfl⟩)
  go_ret
  exact ⟨rfl, rfl⟩
set_option maxRecDepth 100000 in
set_option maxHeartbeats 1000000 in
theorem htClo_any (bs : Nat) (f alone : Int) (w : World) (hs : w.heap[bs]? = some (.cells #[.int .i64 alone] 3 (0, 0))) :
    Calls Try.prog 90 #[.int .i64 f, .pointer (some ⟨bs, 0, none⟩)] w fun e w' => e = .returned (.bool (f != alone)) ∧ w = w' := by
  have cs := cell_of_one hs
  go_enter Try.func90, Try.ntmps90
  go_wp2
  go_ret
  exact ⟨rfl, rfl⟩
set_option maxRecDepth 100000 in
set_option maxHeartbeats 2000000 in
theorem implFilterBy_no (a b : Option Addr) (ca cb : Nat) (L : List Int) (T : List (List Int)) (f : Int) (w : World) (hr : Rd w a L) (hT : RdT w b T) (h : asB L T f = false) :
    Calls Try.prog 30 #[.agg #[.slice a L.length ca, .slice b T.length cb], .int .i64 f] w fun e w' => e = .returned (.int .i64 (filByI L T f)) ∧ Below w.heap.size w w' := by
  obtain ⟨w1, hw1⟩ : ∃ w1, w1 = (w.alloc (.cells #[.slice a L.length ca, .slice b T.length cb] 27)).alloc (.cells #[.int .i64 f] 3) := ⟨_, rfl⟩
  have hB : Below w.heap.size w w1 := by rw [hw1]; exact ((Below.refl _ _).alloc (Nat.le_refl _) _).alloc (by simp) _
  have hx : w1.heap[w.heap.size]? = some (.cells #[.slice a L.length ca, .slice b T.length cb] 27 (0, 0)) := by rw [hw1, Below.heap_alloc _ _ _ (by simp)]; exact heap_alloc_new w _
  have hs1 : w1.heap[w.heap.size + 1]? = some (.cells #[.int .i64 f] 3 (0, 0)) := by rw [hw1]; exact heap_alloc2_new _ _ _
  have cs1 := cell_of_one hs1
  have Ks := Lib.hid (show ∀ wz, Below w1.heap.size w1 wz → wz.heap[w.heap.size + 1]? = some (.cells #[.int .i64 f] 3 (0, 0)) from fun wz h => (h.block _ (lt_of_block hs1)).trans hs1)
  have Kx := Lib.hid (show ∀ wz, Below w1.heap.size w1 wz → wz.heap[w.heap.size]? = some (.cells #[.slice a L.length ca, .slice b T.length cb] 27 (0, 0)) from fun wz h => (h.block _ (lt_of_block hx)).trans hx)
  have KR := Lib.hid (show ∀ wz, Below w1.heap.size w1 wz → Rd wz a L from fun wz h => (hr.below hB).below h)
  have KT := Lib.hid (show ∀ wz, Below w1.heap.size w1 wz → RdT wz b T from fun wz h => (hT.below hB).below h)
  have z1 : Below w1.heap.size w1 w1 := Below.refl _ _
  clear hr hT hx hs1
  have hv := Lib.hid (show filByI L T f = -1 by unfold filByI; have h2 : (algB L T && setB L f) = false := h; rw [h2]; rfl)
  have HA := Lib.hid h
  clear h
  go_enter Try.func30, Try.ntmps30
  go_wp2_with (first
    | go_skip
    | (rw [← hw1]; clear hw1)
    | (refine wpList_load_row_w rfl 27 _ rfl w.heap.size rfl _ _ _ _ (Kx.out _ (by assumption)) Try.underlying27 rfl (size_Alg _ _) ?_)
    | (go_at_call 70; refine (readSet_no _ _ _ _ L T f _ (KR.out _ z1) (KT.out _ z1) HA.out).mono ?_; rintro e w2 ⟨rfl, h2⟩; have z2 : Below w1.heap.size w1 w2 := h2)
    | (refine wpList_store_row rfl 60 _ _ rfl w2.heap.size zeroAlg rfl rfl _ _ (heap_alloc_new w2 (.cells zeroAlg 60)) size_zeroAlg rfl one_zeroAlg ?_; rw [World.setRow_alloc_new]; obtain ⟨bl, hbl⟩ : ∃ bl, bl = w2.heap.size := ⟨_, rfl⟩; obtain ⟨w9, hw9⟩ : ∃ w9, w9 = w2.alloc (.cells zeroAlg 60) := ⟨_, rfl⟩; rw [← hw9, ← hbl]; have B9 : Below w1.heap.size w1 w9 := (by rw [hw9]; exact z2.alloc z2.size _); clear hw9 hbl))
  go_ret
  exact ⟨ret_int (by rw [hv.out]), hB.trans (B9.mono hB.size)⟩
set_option maxRecDepth 100000 in
set_option maxHeartbeats 2000000 in
theorem implFilterBy_yes (a b : Option Addr) (ca cb : Nat) (L : List Int) (T : List (List Int)) (f : Int) (w : World) (hr : Rd w a L) (hT : RdT w b T) (h : asB L T f = true) :
    Calls Try.prog 30 #[.agg #[.slice a L.length ca, .slice b T.length cb], .int .i64 f] w fun e w' => e = .returned (.int .i64 (filByI L T f)) ∧ Below w.heap.size w w' := by
  obtain ⟨w1, hw1⟩ : ∃ w1, w1 = (w.alloc (.cells #[.slice a L.length ca, .slice b T.length cb] 27)).alloc (.cells #[.int .i64 f] 3) := ⟨_, rfl⟩
  have hB : Below w.heap.size w w1 := by rw [hw1]; exact ((Below.refl _ _).alloc (Nat.le_refl _) _).alloc (by simp) _
  have hx : w1.heap[w.heap.size]? = some (.cells #[.slice a L.length ca, .slice b T.length cb] 27 (0, 0)) := by rw [hw1, Below.heap_alloc _ _ _ (by simp)]; exact heap_alloc_new w _
  have hs1 : w1.heap[w.heap.size + 1]? = some (.cells #[.int .i64 f] 3 (0, 0)) := by rw [hw1]; exact heap_alloc2_new _ _ _
  have cs1 := cell_of_one hs1
  have Ks := Lib.hid (show ∀ wz, Below w1.heap.size w1 wz → wz.heap[w.heap.size + 1]? = some (.cells #[.int .i64 f] 3 (0, 0)) from fun wz h => (h.block _ (lt_of_block hs1)).trans hs1)
  have Kx := Lib.hid (show ∀ wz, Below w1.heap.size w1 wz → wz.heap[w.heap.size]? = some (.cells #[.slice a L.length ca, .slice b T.length cb] 27 (0, 0)) from fun wz h => (h.block _ (lt_of_block hx)).trans hx)
  have KR := Lib.hid (show ∀ wz, Below w1.heap.size w1 wz → Rd wz a L from fun wz h => (hr.below hB).below h)
  have KT := Lib.hid (show ∀ wz, Below w1.heap.size w1 wz → RdT wz b T from fun wz h => (hT.below hB).below h)
  have z1 : Below w1.heap.size w1 w1 := Below.refl _ _
  clear hr hT hx hs1
  have h2 := h
  unfold asB at h2
  rw [Bool.and_eq_true] at h2
  have n6 := (lat_len (alg_lat h2.1)).2
  obtain ⟨f0, f6⟩ := setB_63 h2.2 n6
  have HALG := Lib.hid h2.1
  have hv := Lib.hid (show filByI L T f = com (num L) ((fls L T).filter fun g => hasA g f) by unfold filByI; rw [h2.1, h2.2]; rfl)
  have HA := Lib.hid h
  clear h h2
  go_enter Try.func30, Try.ntmps30
  go_wp2_with (first
    | go_skip
    | (rw [← hw1]; clear hw1)
    | (refine wpList_load_row_w rfl 27 _ rfl w.heap.size rfl _ _ _ _ (Kx.out _ (by assumption)) Try.underlying27 rfl (size_Alg _ _) ?_)
    | (go_at_call 70; refine (readSet_good _ _ _ _ L T f _ (KR.out _ z1) (KT.out _ z1) HA.out).mono ?_; rintro e w2 ⟨rfl, h2⟩; have z2 : Below w1.heap.size w1 w2 := h2)
    | (refine wpList_store_row rfl 60 _ _ rfl w2.heap.size (algOf L T) rfl rfl _ _ (heap_alloc_new w2 (.cells zeroAlg 60)) (size_alg _ _ _ _ _ _) rfl (one_alg _ _ _ _ _ _) ?_; rw [World.setRow_alloc_new]; obtain ⟨bl, hbl⟩ : ∃ bl, bl = w2.heap.size := ⟨_, rfl⟩; obtain ⟨w9, hw9⟩ : ∃ w9, w9 = w2.alloc (.cells (algOf L T) 60) := ⟨_, rfl⟩; rw [← hw9, ← hbl]; have hA : AlgAt w9 bl L T := (by rw [hw9, hbl]; exact AlgAt.new w2 L T); have B9 : Below w1.heap.size w1 w9 := (by rw [hw9]; exact z2.alloc z2.size _); clear hw9 hbl))
  have Q9 := Lib.hid (show ∀ wz, Below w9.heap.size w9 wz → AlgAt wz bl L T from fun wz hz => hA.below hz hA.lt)
  refine wp_region_any (by kernel_rfl) ?_
  refine any_of_C (C := fun wz => Below w9.heap.size w9 wz) _ _ _ _ ?_
  refine anyC_take (i := 0) (v := .agg (algOf L T)) rfl (by kernel_rfl) (by kernel_rfl) (by kernel_rfl) (fun _ _ _ h => h) (.inl ⟨rfl, fun wz hz => runs_load (C := fun wz => Below w9.heap.size w9 wz) 60 _ rfl bl rfl _ _ _ _ (fun w hw => Q9.out w hw) Try.underlying60 rfl (size_alg _ _ _ _ _ _) wz hz⟩) ?_
  refine anyC_take (i := 1) (v := .agg (algOf L T)) rfl (by kernel_rfl) (by kernel_rfl) (by kernel_rfl) (fun _ _ _ h => h) (.inl ⟨rfl, fun wz hz => runs_load (C := fun wz => Below w9.heap.size w9 wz) 60 _ rfl bl rfl _ _ _ _ (fun w hw => Q9.out w hw) Try.underlying60 rfl (size_alg _ _ _ _ _ _) wz hz⟩) ?_
  refine anyC_take (i := 2) (v := .func (.func 73) #[] #[.pointer (some ⟨w.heap.size + 1, 0, none⟩)]) rfl (by kernel_rfl) (by kernel_rfl) (by kernel_rfl) (fun _ _ _ h => h) (.inl ⟨rfl, fun wz hz => by apply runs_make1 <;> rfl⟩) ?_
  have zd : Below w9.heap.size w9 (w9.drewN 1) := Dr.below ⟨1, rfl⟩ _
  refine anyC_call (i := 3) (o := _) (f := 72) (args := #[.agg (algOf L T), .func (.func 73) #[] #[.pointer (some ⟨w.heap.size + 1, 0, none⟩)]]) rfl (by kernel_rfl) rfl (by apply runs_call2 (he := enters_ftt) <;> rfl) zd ?_
  refine (filtersThat_any 73 #[.pointer (some ⟨w.heap.size + 1, 0, none⟩)] L T (fun g => hasA g f) (w9.drewN 1) HALG.out enters_fb (fun x wr hx hb => by rw [append11]; exact (fbClo_any _ x f wr (Ks.out _ (B9.trans ((zd.trans (hb.mono zd.size)).mono B9.size))) (fls_63 (alg_lat HALG.out) hx).1 (fls_63 (alg_lat HALG.out) hx).2 f0 f6).mono fun _ _ h => ⟨h.1, h.2 ▸ Below.refl _ _⟩)).mono ?_
  rintro e w11 ⟨a3, c3, rfl, o3, h3⟩
  have y11 : Below w9.heap.size w9 w11 := zd.trans (h3.mono zd.size)
  refine ⟨_, rfl, ?_⟩
  refine anyC_call (i := 4) (o := _) (f := 71) (args := #[.agg (algOf L T), .slice a3 ((fls L T).filter (fun g => hasA g f)).length c3]) rfl (by kernel_rfl) rfl (by apply runs_call2 (he := enters_com) <;> rfl) y11 ?_
  refine (common_any a3 c3 L T ((fls L T).filter (fun g => hasA g f)) w11 o3.rd HALG.out (filt_64 (alg_lat HALG.out) _) (filt_63 (alg_lat HALG.out) _)).mono ?_
  rintro e w12 ⟨rfl, h4⟩
  have y12 : Below w9.heap.size w9 w12 := y11.trans (h4.mono y11.size)
  have B12 : Below w1.heap.size w1 w12 := B9.trans (y12.mono B9.size)
  refine ⟨_, rfl, ?_⟩
  refine anyC_take (i := 5) (v := .int .i64 (com (num L) ((fls L T).filter (fun g => hasA g f)))) rfl (by kernel_rfl) (by kernel_rfl) (by kernel_rfl) (fun _ _ _ h => h) (.inl ⟨rfl, fun wz hz => by apply runs_assign <;> rfl⟩) ?_
  refine anyC_done (by kernel_rfl) y12 ?_ _
  simp only [List.getElem_toArray, List.getElem_cons_zero, List.getElem_cons_succ, Act.put, List.setIfInBounds_toArray, List.set_cons_succ, List.set_cons_zero]
  go_wp2
  go_ret
  exact ⟨ret_int (by rw [hv.out]), hB.trans (B12.mono hB.size)⟩
theorem implFilterBy_any (a b : Option Addr) (ca cb : Nat) (L : List Int) (T : List (List Int)) (f : Int) (w : World) (hr : Rd w a L) (hT : RdT w b T) :
    Calls Try.prog 30 #[.agg #[.slice a L.length ca, .slice b T.length cb], .int .i64 f] w fun e w' => e = .returned (.int .i64 (filByI L T f)) ∧ Below w.heap.size w w' := by
  by_cases h : asB L T f = true
  · exact implFilterBy_yes a b ca cb L T f w hr hT h
  · exact implFilterBy_no a b ca cb L T f w hr hT (by simpa using h)
theorem enters_pri : Enters 115 := enters_of Try.func115 (by kernel_rfl) rfl
theorem enters_prim : Enters 85 := enters_of Try.func85 (by kernel_rfl) rfl
set_option maxRecDepth 100000 in
set_option maxHeartbeats 4000000 in
theorem priClo_any (L : List Int) (T : List (List Int)) (bs ba : Nat) (f x y : Int) (w : World) (hA : AlgAt w ba L T) (hs : w.heap[bs]? = some (.cells #[.int .i64 f] 3 (0, 0))) (h : algB L T = true) (f0 : 0 ≤ f) (f6 : f ≤ 63) (x0 : 0 ≤ x) (x1 : x < num L) (y0 : 0 ≤ y) (y1 : y < num L) :
    Calls Try.prog 115 #[.int .i64 x, .int .i64 y, .pointer (some ⟨bs, 0, none⟩), .pointer (some ⟨ba, 0, none⟩)] w fun e w' => e = .returned (.bool (priXY L f x y)) ∧ Dr w w' := by
  have n6 := (lat_len (alg_lat h)).2
  have x6 : x < 6 := by omega
  have y6 : y < 6 := by omega
  obtain ⟨t0, t1⟩ := lat_jn (alg_lat h) x0 x1 y0 y1
  have cs := cell_of_one hs
  have d1 := hA.j x0 x6 y0 y6
  rw [show tabJ L x y = jn L x y from tabT_join (alg_lat h) x0 x1 y0 y1] at d1
  have hq := Lib.hid (show priXY L f x y = (ib f x || ib f y || !ib f (jn L x y)) from rfl)
  clear h
  cases hX : ib f x <;> cases hY : ib f y <;> cases hZ : ib f (jn L x y)
  all_goals
    rw [hX, hY, hZ] at hq
    have HX := Lib.hid hX
    have HY := Lib.hid hY
    have HZ := Lib.hid hZ
    clear hX hY hZ
    go_enter Try.func115, Try.ntmps115
    go_wp2
    go_quiet (first
      | (go_at_call_of 82 (Value.int .i64 x); exact q_dr (isIn_dr x f _ x0 (by omega) f0 (by omega) HX.out))
      | (go_at_call_of 82 (Value.int .i64 y); exact q_dr (isIn_dr y f _ y0 (by omega) f0 (by omega) HY.out))
      | (go_at_call_of 82 (Value.int .i64 (jn L x y)); exact q_dr (isIn_dr (jn L x y) f _ t0 (by omega) f0 (by omega) HZ.out)))
    go_wp2
    go_ret
    exact ⟨ret_bool (by rw [hq.out]; rfl), ⟨_, rfl⟩⟩
set_option maxRecDepth 100000 in
set_option maxHeartbeats 2000000 in
/-- impl.algebra.isPrime -/
theorem isPrimeM_any (L : List Int) (T : List (List Int)) (f : Int) (w : World) (h : algB L T = true) (f0 : 0 ≤ f) (f6 : f ≤ 63) :
    Calls Try.prog 85 #[.agg (algOf L T), .int .i64 f] w fun e w' => e = .returned (.bool (priB L f)) ∧ Below w.heap.size w w' := by
  obtain ⟨n1, n6⟩ := lat_len (alg_lat h)
  have n6' : (L.length : Int) ≤ 6 := n6
  obtain ⟨w1, hw1⟩ : ∃ w1, w1 = (w.alloc (.cells (algOf L T) 60)).alloc (.cells #[.int .i64 f] 3) := ⟨_, rfl⟩
  have hB : Below w.heap.size w w1 := by rw [hw1]; exact ((Below.refl _ _).alloc (Nat.le_refl _) _).alloc (by simp) _
  have hA : AlgAt w1 w.heap.size L T := by rw [hw1]; exact (AlgAt.new w L T).alloc _
  have hs : w1.heap[w.heap.size + 1]? = some (.cells #[.int .i64 f] 3 (0, 0)) := by rw [hw1]; exact heap_alloc2_new _ _ _
  have Q := Lib.hid (show ∀ wz, Below w1.heap.size w1 wz → AlgAt wz w.heap.size L T from fun wz hz => hA.below hz hA.lt)
  have S := Lib.hid (show ∀ wz, Below w1.heap.size w1 wz → wz.heap[w.heap.size + 1]? = some (.cells #[.int .i64 f] 3 (0, 0)) from fun wz hz => (hz.block _ (lt_of_block hs)).trans hs)
  have c0 := hA.size
  have c1 := cell_of_one hs
  have hfil := Lib.hid (show priB L f = (!ib f 0 && all2 (L.length : Int) (priXY L f)) from rfl)
  have HALG := Lib.hid h
  clear hA hs h
  cases hG : ib f 0
  all_goals
    rw [hG] at hfil
    have HG := Lib.hid hG
    clear hG
    go_enter Try.func85, Try.ntmps85
    go_wp2_with (first
      | (rw [← hw1]; clear hw1)
      | (go_at_call 82; refine (isIn_is 0 f _ (by omega) (by omega) f0 (by omega) HG.out).mono ?_; rintro e w2 ⟨rfl, rfl⟩)
      | (go_at_call 114; refine (allTwo_any 115 _ (L.length : Int) (priXY L f) _ (by omega) n6' enters_pri fun x y wr x0 x1 y0 y1 hb => by rw [append22]; exact (priClo_any L T _ _ f x y wr (Q.out _ hb) (S.out _ hb) HALG.out f0 f6 x0 x1 y0 y1).mono fun _ _ h => ⟨h.1, h.2.below _⟩).mono ?_; rintro e w3 ⟨rfl, h3⟩))
    first
      | (go_ret
         exact ⟨ret_bool (by rw [hfil.out]; rfl), hB.trans (h3.mono hB.size)⟩)
      | (go_ret
         exact ⟨ret_bool (by rw [hfil.out]; rfl), hB⟩)
set_option maxRecDepth 100000 in
set_option maxHeartbeats 2000000 in
theorem implPrimeFilters_no (a b : Option Addr) (ca cb : Nat) (L : List Int) (T : List (List Int))  (w : World) (hr : Rd w a L) (hT : RdT w b T) (h : algB L T = false) :
    Calls Try.prog 36 #[.agg #[.slice a L.length ca, .slice b T.length cb]] w (RetSl w.heap.size (algV L T (pris L T)) w) := by
  obtain ⟨w1, hw1⟩ : ∃ w1, w1 = w.alloc (.cells #[.slice a L.length ca, .slice b T.length cb] 27) := ⟨_, rfl⟩
  have hB : Below w.heap.size w w1 := by rw [hw1]; exact (Below.refl _ _).alloc (Nat.le_refl _) _
  have hx : w1.heap[w.heap.size]? = some (.cells #[.slice a L.length ca, .slice b T.length cb] 27 (0, 0)) := by rw [hw1]; exact heap_alloc_new w _
  have Kx := Lib.hid (show ∀ wz, Below w1.heap.size w1 wz → wz.heap[w.heap.size]? = some (.cells #[.slice a L.length ca, .slice b T.length cb] 27 (0, 0)) from fun wz h => (h.block _ (lt_of_block hx)).trans hx)
  have KR := Lib.hid (show ∀ wz, Below w1.heap.size w1 wz → Rd wz a L from fun wz h => (hr.below hB).below h)
  have KT := Lib.hid (show ∀ wz, Below w1.heap.size w1 wz → RdT wz b T from fun wz h => (hT.below hB).below h)
  have z1 : Below w1.heap.size w1 w1 := Below.refl _ _
  clear hr hT hx
  have hv := Lib.hid (show algV L T (pris L T) = [] by exact algV_f h)
  have HA := Lib.hid h
  clear h
  go_enter Try.func36, Try.ntmps36
  go_wp2_with (first
    | go_skip
    | (rw [← hw1]; clear hw1)
    | (refine wpList_load_row_w rfl 27 _ rfl w.heap.size rfl _ _ _ _ (Kx.out _ (by assumption)) Try.underlying27 rfl (size_Alg _ _) ?_)
    | (go_at_call 53; refine (readAlgebra_no _ _ _ _ L T _ (KR.out _ z1) (KT.out _ z1) HA.out).mono ?_; rintro e w2 ⟨rfl, h2⟩; have z2 : Below w1.heap.size w1 w2 := h2)
    | (refine wpList_store_row rfl 60 _ _ rfl w2.heap.size zeroAlg rfl rfl _ _ (heap_alloc_new w2 (.cells zeroAlg 60)) size_zeroAlg rfl one_zeroAlg ?_; rw [World.setRow_alloc_new]; obtain ⟨bl, hbl⟩ : ∃ bl, bl = w2.heap.size := ⟨_, rfl⟩; obtain ⟨w9, hw9⟩ : ∃ w9, w9 = w2.alloc (.cells zeroAlg 60) := ⟨_, rfl⟩; rw [← hw9, ← hbl]; have B9 : Below w1.heap.size w1 w9 := (by rw [hw9]; exact z2.alloc z2.size _); clear hw9 hbl))
  go_ret
  rw [hv.out]
  exact ⟨none, 0, rfl, Own.nothing _ _, hB.trans (B9.mono hB.size)⟩
set_option maxRecDepth 100000 in
set_option maxHeartbeats 2000000 in
theorem implPrimeFilters_yes (a b : Option Addr) (ca cb : Nat) (L : List Int) (T : List (List Int))  (w : World) (hr : Rd w a L) (hT : RdT w b T) (h : algB L T = true) :
    Calls Try.prog 36 #[.agg #[.slice a L.length ca, .slice b T.length cb]] w (RetSl w.heap.size (algV L T (pris L T)) w) := by
  obtain ⟨w1, hw1⟩ : ∃ w1, w1 = w.alloc (.cells #[.slice a L.length ca, .slice b T.length cb] 27) := ⟨_, rfl⟩
  have hB : Below w.heap.size w w1 := by rw [hw1]; exact (Below.refl _ _).alloc (Nat.le_refl _) _
  have hx : w1.heap[w.heap.size]? = some (.cells #[.slice a L.length ca, .slice b T.length cb] 27 (0, 0)) := by rw [hw1]; exact heap_alloc_new w _
  have Kx := Lib.hid (show ∀ wz, Below w1.heap.size w1 wz → wz.heap[w.heap.size]? = some (.cells #[.slice a L.length ca, .slice b T.length cb] 27 (0, 0)) from fun wz h => (h.block _ (lt_of_block hx)).trans hx)
  have KR := Lib.hid (show ∀ wz, Below w1.heap.size w1 wz → Rd wz a L from fun wz h => (hr.below hB).below h)
  have KT := Lib.hid (show ∀ wz, Below w1.heap.size w1 wz → RdT wz b T from fun wz h => (hT.below hB).below h)
  have z1 : Below w1.heap.size w1 w1 := Below.refl _ _
  clear hr hT hx
  have hv := Lib.hid (algV_t (V := pris L T) h)
  have HALG := Lib.hid h
  have HA := Lib.hid h
  clear h
  go_enter Try.func36, Try.ntmps36
  go_wp2_with (first
    | go_skip
    | (rw [← hw1]; clear hw1)
    | (refine wpList_load_row_w rfl 27 _ rfl w.heap.size rfl _ _ _ _ (Kx.out _ (by assumption)) Try.underlying27 rfl (size_Alg _ _) ?_)
    | (go_at_call 53; refine (readAlgebra_yes _ _ _ _ L T _ (KR.out _ z1) (KT.out _ z1) HA.out).mono ?_; rintro e w2 ⟨rfl, h2⟩; have z2 : Below w1.heap.size w1 w2 := h2)
    | (refine wpList_store_row rfl 60 _ _ rfl w2.heap.size (algOf L T) rfl rfl _ _ (heap_alloc_new w2 (.cells zeroAlg 60)) (size_alg _ _ _ _ _ _) rfl (one_alg _ _ _ _ _ _) ?_; rw [World.setRow_alloc_new]; obtain ⟨bl, hbl⟩ : ∃ bl, bl = w2.heap.size := ⟨_, rfl⟩; obtain ⟨w9, hw9⟩ : ∃ w9, w9 = w2.alloc (.cells (algOf L T) 60) := ⟨_, rfl⟩; rw [← hw9, ← hbl]; have hA : AlgAt w9 bl L T := (by rw [hw9, hbl]; exact AlgAt.new w2 L T); have B9 : Below w1.heap.size w1 w9 := (by rw [hw9]; exact z2.alloc z2.size _); clear hw9 hbl)
    | (refine wpList_load_row_w rfl 60 _ rfl bl rfl _ _ _ _ hA Try.underlying60 rfl (size_alg _ _ _ _ _ _) ?_)
    | (go_at_call 72; refine (filtersThat_m 85 _ L T (priB L) _ HALG.out enters_prim fun x wr hx hb => isPrimeM_any L T x wr HALG.out (fls_63 (alg_lat HALG.out) hx).1 (fls_63 (alg_lat HALG.out) hx).2).mono ?_; rintro e w11 ⟨a3, c3, rfl, o3, h3⟩; have B11 : Below w1.heap.size w1 w11 := B9.trans (h3.mono B9.size)))
  go_ret
  rw [hv.out]
  exact ⟨a3, c3, rfl, o3.from (by have := hB.size; have := B9.size; omega), hB.trans (B11.mono hB.size)⟩
theorem implPrimeFilters_any (a b : Option Addr) (ca cb : Nat) (L : List Int) (T : List (List Int))  (w : World) (hr : Rd w a L) (hT : RdT w b T) :
    Calls Try.prog 36 #[.agg #[.slice a L.length ca, .slice b T.length cb]] w (RetSl w.heap.size (algV L T (pris L T)) w) := by
  by_cases h : algB L T = true
  · exact implPrimeFilters_yes a b ca cb L T  w hr hT h
  · exact implPrimeFilters_no a b ca cb L T  w hr hT (by simpa using h)
end Go.Proofs.Ytpfnfglaokiipac
