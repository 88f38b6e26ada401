import Derived.Test.YtpfnfglaokiipacN8
namespace Go.Proofs.Ytpfnfglaokiipac
open Go.RowKit

theorem hrt_out {L : List Int} {T : List (List Int)} (h : algB L T = false) : hrtI L T = 0 ∧ hrtB L T = false := by
  have hb : hrtB L T = false := by unfold hrtB; rw [h]; rfl
  exact ⟨by unfold hrtI; rw [hb]; rfl, hb⟩
theorem hrt_no {L : List Int} {T : List (List Int)} (h : (hrtC L T == pw (num L - 1)) = true) : hrtI L T = 0 ∧ hrtB L T = false := by
  have hb : hrtB L T = false := by unfold hrtB; rw [beq_iff_eq] at h; rw [h]; simp
  exact ⟨by unfold hrtI; rw [hb]; rfl, hb⟩
theorem hrt_yes {L : List Int} {T : List (List Int)} (ha : algB L T = true) (h : (hrtC L T == pw (num L - 1)) = false) : hrtI L T = hrtC L T ∧ hrtB L T = true := by
  have hb : hrtB L T = true := by unfold hrtB; rw [ha, Bool.true_and, bne, h]; rfl
  exact ⟨by unfold hrtI; rw [hb]; rfl, hb⟩
set_option maxRecDepth 100000 in
set_option maxHeartbeats 2000000 in
theorem implHeartOf_no (a b : Option Addr) (ca cb : Nat) (L : List Int) (T : List (List Int)) (w : World) (hr : Rd w a L) (hT : RdT w b T) (h : algB L T = false) :
    Calls Try.prog 46 #[.agg #[.slice a L.length ca, .slice b T.length cb]] w fun e w' => e = .returned (.tuple #[.int .i64 (hrtI L T), .bool (hrtB L T)]) ∧ Below w.heap.size w w' := by
  obtain ⟨w1, hw1⟩ : ∃ w1, w1 = w.alloc (.cells #[.slice a L.length ca, .slice b T.length cb] 27) := ⟨_, rfl⟩
  have hB : Below w.heap.size w w1 := by rw [hw1]; exact (Below.refl _ _).alloc (Nat.le_refl _) _
  have hx : w1.heap[w.heap.size]? = some (.cells #[.slice a L.length ca, .slice b T.length cb] 27 (0, 0)) := by rw [hw1]; exact heap_alloc_new w _
  have Kx := Lib.hid (show ∀ wz, Below w1.heap.size w1 wz → wz.heap[w.heap.size]? = some (.cells #[.slice a L.length ca, .slice b T.length cb] 27 (0, 0)) from fun wz h => (h.block _ (lt_of_block hx)).trans hx)
  have KR := Lib.hid (show ∀ wz, Below w1.heap.size w1 wz → Rd wz a L from fun wz h => (hr.below hB).below h)
  have KT := Lib.hid (show ∀ wz, Below w1.heap.size w1 wz → RdT wz b T from fun wz h => (hT.below hB).below h)
  have z1 : Below w1.heap.size w1 w1 := Below.refl _ _
  clear hr hT hx
  have hv := Lib.hid (hrt_out h)
  have HA := Lib.hid h
  clear h
  go_enter Try.func46, Try.ntmps46
  go_wp2_with (first
    | go_skip
    | (rw [← hw1]; clear hw1)
    | (refine wpList_load_row_w rfl 27 _ rfl w.heap.size rfl _ _ _ _ (Kx.out _ (by assumption)) Try.underlying27 rfl (size_Alg _ _) ?_)
    | (go_at_call 53; refine (readAlgebra_no _ _ _ _ L T _ (KR.out _ z1) (KT.out _ z1) HA.out).mono ?_; rintro e w2 ⟨rfl, h2⟩; have z2 : Below w1.heap.size w1 w2 := h2)
    | (refine wpList_store_row rfl 60 _ _ rfl w2.heap.size zeroAlg rfl rfl _ _ (heap_alloc_new w2 (.cells zeroAlg 60)) size_zeroAlg rfl one_zeroAlg ?_; rw [World.setRow_alloc_new]; obtain ⟨bl, hbl⟩ : ∃ bl, bl = w2.heap.size := ⟨_, rfl⟩; obtain ⟨w9, hw9⟩ : ∃ w9, w9 = w2.alloc (.cells zeroAlg 60) := ⟨_, rfl⟩; rw [← hw9, ← hbl]; have B9 : Below w1.heap.size w1 w9 := (by rw [hw9]; exact z2.alloc z2.size _); clear hw9 hbl))
  go_ret2
  exact ⟨by rw [hv.out.1, hv.out.2]; rfl, hB.trans (B9.mono hB.size)⟩
set_option maxRecDepth 100000 in
set_option maxHeartbeats 2000000 in
theorem implHeartOf_yes (a b : Option Addr) (ca cb : Nat) (L : List Int) (T : List (List Int)) (w : World) (hr : Rd w a L) (hT : RdT w b T) (h : algB L T = true) :
    Calls Try.prog 46 #[.agg #[.slice a L.length ca, .slice b T.length cb]] w fun e w' => e = .returned (.tuple #[.int .i64 (hrtI L T), .bool (hrtB L T)]) ∧ Below w.heap.size w w' := by
  obtain ⟨w1, hw1⟩ : ∃ w1, w1 = w.alloc (.cells #[.slice a L.length ca, .slice b T.length cb] 27) := ⟨_, rfl⟩
  have hB : Below w.heap.size w w1 := by rw [hw1]; exact (Below.refl _ _).alloc (Nat.le_refl _) _
  have hx : w1.heap[w.heap.size]? = some (.cells #[.slice a L.length ca, .slice b T.length cb] 27 (0, 0)) := by rw [hw1]; exact heap_alloc_new w _
  have Kx := Lib.hid (show ∀ wz, Below w1.heap.size w1 wz → wz.heap[w.heap.size]? = some (.cells #[.slice a L.length ca, .slice b T.length cb] 27 (0, 0)) from fun wz h => (h.block _ (lt_of_block hx)).trans hx)
  have KR := Lib.hid (show ∀ wz, Below w1.heap.size w1 wz → Rd wz a L from fun wz h => (hr.below hB).below h)
  have KT := Lib.hid (show ∀ wz, Below w1.heap.size w1 wz → RdT wz b T from fun wz h => (hT.below hB).below h)
  have z1 : Below w1.heap.size w1 w1 := Below.refl _ _
  clear hr hT hx
  obtain ⟨n1, n6⟩ := lat_len (alg_lat h)
  have n6' : (L.length : Int) ≤ 6 := n6
  have l1 : (1 : Int) ≤ L.length := n1
  have hw : wrap64 (2 ^ (L.length - 1)) = pw (num L - 1) := by
    rw [wrap_pw _ (by omega)]
    congr 1
    show ((L.length - 1 : Nat) : Int) = (L.length : Int) - 1
    omega
  have HALG := Lib.hid h
  have HA := Lib.hid h
  have hv := Lib.hid (show com (num L) ((fls L T).filter fun f => f != pw (num L - 1)) = hrtC L T from rfl)
  have hno := Lib.hid (fun e => hrt_no (L := L) (T := T) e)
  have hye := Lib.hid (fun e => hrt_yes (L := L) (T := T) h e)
  clear h
  go_enter Try.func46, Try.ntmps46
  go_wp2_with (first
    | go_skip
    | (rw [← hw1]; clear hw1)
    | (refine wpList_load_row_w rfl 27 _ rfl w.heap.size rfl _ _ _ _ (Kx.out _ (by assumption)) Try.underlying27 rfl (size_Alg _ _) ?_)
    | (go_at_call 53; refine (readAlgebra_yes _ _ _ _ L T _ (KR.out _ z1) (KT.out _ z1) HA.out).mono ?_; rintro e w2 ⟨rfl, h2⟩; have z2 : Below w1.heap.size w1 w2 := h2)
    | (refine wpList_store_row rfl 60 _ _ rfl w2.heap.size (algOf L T) rfl rfl _ _ (heap_alloc_new w2 (.cells zeroAlg 60)) (size_alg _ _ _ _ _ _) rfl (one_alg _ _ _ _ _ _) ?_; rw [World.setRow_alloc_new]; obtain ⟨bl, hbl⟩ : ∃ bl, bl = w2.heap.size := ⟨_, rfl⟩; obtain ⟨w9, hw9⟩ : ∃ w9, w9 = w2.alloc (.cells (algOf L T) 60) := ⟨_, rfl⟩; rw [← hw9, ← hbl]; have hA : AlgAt w9 bl L T := (by rw [hw9, hbl]; exact AlgAt.new w2 L T); have B9 : Below w1.heap.size w1 w9 := (by rw [hw9]; exact z2.alloc z2.size _); clear hw9 hbl)
    | (refine wpList_load_mid_w rfl 58 _ rfl bl 0 rfl _ _ hA.lat Try.underlying58 rfl (size_latOf L) ?_)
    | (go_at_call 89; refine (greatest_any L _ n6').mono ?_; rintro e w10 ⟨rfl, h10⟩; have B10 : Below w1.heap.size w1 w10 := B9.trans (h10.mono B9.size); have hA10 : AlgAt w10 bl L T := hA.below h10 hA.lt; clear hA h10))
  rw [hw]
  obtain ⟨wR, hwR⟩ : ∃ wR, wR = w10.alloc (.cells #[.int .i64 (pw (num L - 1))] 3) := ⟨_, rfl⟩
  rw [← hwR]
  have hAR : AlgAt wR bl L T := by rw [hwR]; exact hA10.alloc _
  have BR : Below w1.heap.size w1 wR := by rw [hwR]; exact B10.alloc B10.size _
  have hsR : wR.heap[w10.heap.size]? = some (.cells #[.int .i64 (pw (num L - 1))] 3 (0, 0)) := by rw [hwR]; exact heap_alloc_new w10 _
  have KA := Lib.hid (show ∀ wz, Below wR.heap.size wR wz → wz.heap[w10.heap.size]? = some (.cells #[.int .i64 (pw (num L - 1))] 3 (0, 0)) from fun wz h => (h.block _ (lt_of_block hsR)).trans hsR)
  clear hw hwR hA10 B10
  have Q9 := Lib.hid (show ∀ wz, Below wR.heap.size wR wz → AlgAt wz bl L T from fun wz hz => hAR.below hz hAR.lt)
  refine wp_region_any (by kernel_rfl) ?_
  refine any_of_C (C := fun wz => Below wR.heap.size wR wz) _ _ _ _ ?_
  refine anyC_take (i := 0) (v := .agg (algOf L T)) rfl (by kernel_rfl) (by kernel_rfl) (by kernel_rfl) (fun _ _ _ h => h) (.inl ⟨rfl, fun wz hz => runs_load (C := fun wz => Below wR.heap.size wR wz) 60 _ rfl bl rfl _ _ _ _ (fun w hw => Q9.out w hw) Try.underlying60 rfl (size_alg _ _ _ _ _ _) wz hz⟩) ?_
  refine anyC_take (i := 1) (v := .agg (algOf L T)) rfl (by kernel_rfl) (by kernel_rfl) (by kernel_rfl) (fun _ _ _ h => h) (.inl ⟨rfl, fun wz hz => runs_load (C := fun wz => Below wR.heap.size wR wz) 60 _ rfl bl rfl _ _ _ _ (fun w hw => Q9.out w hw) Try.underlying60 rfl (size_alg _ _ _ _ _ _) wz hz⟩) ?_
  refine anyC_take (i := 2) (v := .func (.func 90) #[] #[.pointer (some ⟨w10.heap.size, 0, none⟩)]) rfl (by kernel_rfl) (by kernel_rfl) (by kernel_rfl) (fun _ _ _ h => h) (.inl ⟨rfl, fun wz hz => by apply runs_make1 <;> rfl⟩) ?_
  have zd : Below wR.heap.size wR (wR.drewN 1) := Dr.below ⟨1, rfl⟩ _
  refine anyC_call (i := 3) (o := _) (f := 72) (args := #[.agg (algOf L T), .func (.func 90) #[] #[.pointer (some ⟨w10.heap.size, 0, none⟩)]]) rfl (by kernel_rfl) rfl (by apply runs_call2 (he := enters_ftt) <;> rfl) zd ?_
  refine (filtersThat_any 90 #[.pointer (some ⟨w10.heap.size, 0, none⟩)] L T (fun f => f != pw (num L - 1)) (wR.drewN 1) HALG.out enters_ht (fun x wr hx hb => by rw [append11]; exact (htClo_any _ x _ wr (KA.out _ (zd.trans (hb.mono zd.size)))).mono fun _ _ h => ⟨h.1, h.2 ▸ Below.refl _ _⟩)).mono ?_
  rintro e w11 ⟨a3, c3, rfl, o3, h3⟩
  have y11 : Below wR.heap.size wR w11 := zd.trans (h3.mono zd.size)
  refine ⟨_, rfl, ?_⟩
  refine anyC_call (i := 4) (o := _) (f := 71) (args := #[.agg (algOf L T), .slice a3 ((fls L T).filter (fun f => f != pw (num L - 1))).length c3]) rfl (by kernel_rfl) rfl (by apply runs_call2 (he := enters_com) <;> rfl) y11 ?_
  refine (common_any a3 c3 L T ((fls L T).filter (fun f => f != pw (num L - 1))) w11 o3.rd HALG.out (filt_64 (alg_lat HALG.out) _) (filt_63 (alg_lat HALG.out) _)).mono ?_
  rintro e w12 ⟨rfl, h4⟩
  have y12 : Below wR.heap.size wR w12 := y11.trans (h4.mono y11.size)
  have B12 : Below w1.heap.size w1 w12 := BR.trans (y12.mono BR.size)
  refine ⟨_, rfl, ?_⟩
  refine anyC_take (i := 5) (v := .int .i64 (com (num L) ((fls L T).filter (fun f => f != pw (num L - 1))))) rfl (by kernel_rfl) (by kernel_rfl) (by kernel_rfl) (fun _ _ _ h => h) (.inl ⟨rfl, fun wz hz => by apply runs_assign <;> rfl⟩) ?_
  refine anyC_done (by kernel_rfl) y12 ?_ _
  simp only [List.getElem_toArray, List.getElem_cons_zero, List.getElem_cons_succ, Act.put, List.setIfInBounds_toArray, List.set_cons_succ, List.set_cons_zero]
  rw [hv.out]
  have cK := cell_of_one (KA.out _ y12)
  cases hC : (hrtC L T == pw (num L - 1)) with
  | true =>
    have hz := Lib.hid (hno.out hC)
    go_wp2
    go_ret2
    exact ⟨by rw [hz.out.1, hz.out.2]; rfl, hB.trans (B12.mono hB.size)⟩
  | false =>
    have hz := Lib.hid (hye.out hC)
    go_wp2
    go_ret2
    exact ⟨by rw [hz.out.1, hz.out.2]; rfl, hB.trans (B12.mono hB.size)⟩
theorem implHeartOf_any (a b : Option Addr) (ca cb : Nat) (L : List Int) (T : List (List Int)) (w : World) (hr : Rd w a L) (hT : RdT w b T) :
    Calls Try.prog 46 #[.agg #[.slice a L.length ca, .slice b T.length cb]] w fun e w' => e = .returned (.tuple #[.int .i64 (hrtI L T), .bool (hrtB L T)]) ∧ Below w.heap.size w w' := by
  by_cases h : algB L T = true
  · exact implHeartOf_yes a b ca cb L T w hr hT h
  · exact implHeartOf_no a b ca cb L T w hr hT (by simpa using h)
end Go.Proofs.Ytpfnfglaokiipac
