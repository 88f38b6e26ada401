import Derived.Test.YtmapofenghjinaaP1
import Derived.Test.YtmapofenghjinaaW1
namespace Go.Proofs.Ytmapofenghjinaa
open Go.RowKit
set_option linter.unusedVariables false

theorem rowsOf_T (f : Nat) (env : Array Value) (n : Int) (p : Int → Int → Int) (w : World) (n0 : 0 ≤ n) (n6 : n ≤ 6) (he : Enters f)
    (H : ∀ (x y : Int) (wr : World), 0 ≤ x → x < n → 0 ≤ y → y < n → Below w.heap.size w wr → Calls Try.prog f (#[.int .i64 x, .int .i64 y] ++ env) wr fun e w' => e = .returned (.int .i64 (p x y)) ∧ Below wr.heap.size wr w') :
    Calls Try.prog 61 #[.int .i64 n, .func (.func f) #[] env] w fun e w' => e = .returned (.slice (some ⟨w.heap.size, 0, none⟩) (tabL p n).length (tabL p n).length) ∧ GT w.heap.size w'.heap.size w' (.slice (some ⟨w.heap.size, 0, none⟩) (tabL p n).length (tabL p n).length) (tabL p n) ∧ Below w.heap.size w w' :=
  (rowsOf_any f env n p w n0 n6 he H).mono fun e w' ⟨he, ⟨R, hown⟩, hb⟩ => by
    rw [← tabL_len p n] at he hown
    exact ⟨he, GT.of hown, hb⟩
theorem enters_mt : Enters 62 := enters_of Try.func62 (by kernel_rfl) rfl
set_option maxHeartbeats 400000 in
theorem mtClo_any (L : List Int) (bl : Nat) (x y : Int) (w : World) (hA : LatAt w bl L) (h : latB L = true) (x0 : 0 ≤ x) (x1 : x < L.length) (y0 : 0 ≤ y) (y1 : y < L.length) :
    Calls Try.prog 62 #[.int .i64 x, .int .i64 y, .pointer (some ⟨bl, 0, none⟩)] w fun e w' => e = .returned (.int .i64 (mt L x y)) ∧ Below w.heap.size w w' := by
  have h6 := (lat_len h).2
  have hn : num L = L.length := rfl
  have x6 : x < 6 := by omega
  have y6 : y < 6 := by omega
  have d0 := hA.m x0 x6 y0 y6
  rw [tabT_meet h x0 (by omega) y0 (by omega)] at d0
  clear hn h hA
  go_enter Try.func62, Try.ntmps62
  go_wp2
  go_ret
  exact ⟨rfl, Below.refl _ _⟩
set_option maxRecDepth 100000 in
set_option maxHeartbeats 2000000 in
theorem implMeet_lat (a : Option Addr) (ca : Nat) (L : List Int) (w : World) (hr : Rd w a L) (hm : L.length ≤ 1048576) (h : latB L = false) : Calls Try.prog 22 #[.slice a L.length ca] w (RetGAb (mtLL L) (mtTT L) (mtOk L) w) := by
  obtain ⟨w1, hw1⟩ : ∃ w1, w1 = w.alloc (.cells #[.slice none 0 0, .slice none 0 0] 28) := ⟨_, rfl⟩
  have hB : Below w.heap.size w w1 := by rw [hw1]; exact (Below.refl _ _).alloc (Nat.le_refl _) _
  have hz : w1.heap[w.heap.size]? = some (.cells #[.slice none 0 0, .slice none 0 0] 28 (0, 0)) := by rw [hw1]; exact heap_alloc_new w _
  have Kz := Lib.hid (show ∀ wz, Below w1.heap.size w1 wz → wz.heap[w.heap.size]? = some (.cells #[.slice none 0 0, .slice none 0 0] 28 (0, 0)) from fun wz h => (h.block _ (lt_of_block hz)).trans hz)
  have KR := Lib.hid (show ∀ wz, Below w1.heap.size w1 wz → Rd wz a L from fun wz h => (hr.below hB).below h)
  have hsz := lt_of_block hz
  have z1 : Below w1.heap.size w1 w1 := Below.refl _ _
  have HL := Lib.hid h
  have HV := Lib.hid (show mtOk L = false by unfold mtOk; rw [h]; rfl)
  clear h
  clear hz hr
  go_enter Try.func22, Try.ntmps22
  go_wp2_with (first
    | go_skip
    | (rw [← hw1]; clear hw1)
    | (go_at_call 60; refine (readLattice_no a ca L _ (KR.out _ z1) HL.out).mono ?_; rintro e w2 ⟨rfl, h2⟩; have z2 : Below w1.heap.size w1 w2 := h2; clear h2)
    | (refine wpList_store_row rfl 68 _ _ rfl w2.heap.size (zeroLat) rfl rfl _ _ (heap_alloc_new w2 (.cells zeroLat 68)) (size_lat _ _ _ _) rfl (one_lat _ _ _ _) ?_; rw [World.setRow_alloc_new]; obtain ⟨bl, hbl⟩ : ∃ b5, b5 = w2.heap.size := ⟨_, rfl⟩; obtain ⟨w3, hw3⟩ : ∃ x, x = w2.alloc (.cells (zeroLat) 68) := ⟨_, rfl⟩; rw [← hw3, ← hbl]; have q3 : Below w2.heap.size w2 w3 := (by rw [hw3]; exact (Below.refl _ _).alloc (Nat.le_refl _) _); have z3 : Below w1.heap.size w1 w3 := z2.trans (q3.mono z2.size); clear hw3 hbl q3 z2)
    | (refine wpList_store_row rfl 28 _ _ rfl w.heap.size #[.slice none 0 0, .slice none 0 0] rfl rfl _ _ (Kz.out _ z3) (size_Alg _ _) rfl (one_sl2 _ _ _ _ _ _) ?_))
  refine bodyPost_ret (v := .tuple #[.agg #[.slice none 0 0, .slice none 0 0], .bool false]) (results_Alg_tmp rfl _ _ w.heap.size rfl _ _ (setRow_heap _ _ _ _ _ _ (Kz.out _ z3)) rfl) rfl ?_
  rw [HV.out, (mt_no HV.out).1, (mt_no HV.out).2]
  have hbz := below_setRow' (hB.trans (z3.mono hB.size)) (Nat.le_refl w.heap.size) #[.slice none 0 0, .slice none 0 0]
  exact ⟨_, _, _, _, _, _, rfl, GA.zero _ _ hbz.size _, hbz⟩
theorem rs_rd {w : World} {a : Option Addr} {n c : Nat} {L : List Int} (h : RS w (.slice a n c) L) : Rd w a L := by
  obtain ⟨a', c', e, hr⟩ := h
  injection e with e1 _ _
  rw [e1]; exact hr
theorem gt_rd {lo hi : Nat} {w : World} {b : Option Addr} {n c : Nat} {T : List (List Int)} (h : GT lo hi w (.slice b n c) T) : RdT w b T := by
  obtain ⟨b', c', e, hr⟩ := h.rd
  injection e with e1 _ _
  rw [e1]; exact hr
set_option maxRecDepth 100000 in
set_option maxHeartbeats 2000000 in
theorem implMeet_dist (a : Option Addr) (ca : Nat) (L : List Int) (w : World) (hr : Rd w a L) (hm : L.length ≤ 1048576) (h : latB L = true) (h2 : distB L = false) : Calls Try.prog 22 #[.slice a L.length ca] w (RetGAb (mtLL L) (mtTT L) (mtOk L) w) := by
  obtain ⟨w1, hw1⟩ : ∃ w1, w1 = w.alloc (.cells #[.slice none 0 0, .slice none 0 0] 28) := ⟨_, rfl⟩
  have hB : Below w.heap.size w w1 := by rw [hw1]; exact (Below.refl _ _).alloc (Nat.le_refl _) _
  have hz : w1.heap[w.heap.size]? = some (.cells #[.slice none 0 0, .slice none 0 0] 28 (0, 0)) := by rw [hw1]; exact heap_alloc_new w _
  have Kz := Lib.hid (show ∀ wz, Below w1.heap.size w1 wz → wz.heap[w.heap.size]? = some (.cells #[.slice none 0 0, .slice none 0 0] 28 (0, 0)) from fun wz h => (h.block _ (lt_of_block hz)).trans hz)
  have KR := Lib.hid (show ∀ wz, Below w1.heap.size w1 wz → Rd wz a L from fun wz h => (hr.below hB).below h)
  have hsz := lt_of_block hz
  have z1 : Below w1.heap.size w1 w1 := Below.refl _ _
  have HL := Lib.hid h
  have HNE := Lib.hid (lat_ne (latB_parts h).1)
  have HD := Lib.hid (show algB L (tabL (mt L) L.length) = distB L from mtT_alg h)
  rw [h2] at HD
  have h6 : (L.length : Int) ≤ 6 := (lat_len h).2
  have HV := Lib.hid (show mtOk L = false by unfold mtOk; rw [h, h2]; rfl)
  clear h h2
  clear hz hr
  go_enter Try.func22, Try.ntmps22
  go_wp2_with (first
    | go_skip
    | (rw [← hw1]; clear hw1)
    | (go_at_call 60; refine (readLattice_yes a ca L _ (KR.out _ z1) HL.out).mono ?_; rintro e w2 ⟨rfl, h2⟩; have z2 : Below w1.heap.size w1 w2 := h2; clear h2)
    | (refine wpList_store_row rfl 68 _ _ rfl w2.heap.size (latOf L) rfl rfl _ _ (heap_alloc_new w2 (.cells zeroLat 68)) (size_lat _ _ _ _) rfl (one_lat _ _ _ _) ?_; rw [World.setRow_alloc_new]; obtain ⟨bl, hbl⟩ : ∃ b5, b5 = w2.heap.size := ⟨_, rfl⟩; obtain ⟨w3, hw3⟩ : ∃ x, x = w2.alloc (.cells (latOf L) 68) := ⟨_, rfl⟩; rw [← hw3, ← hbl]; have q3 : Below w2.heap.size w2 w3 := (by rw [hw3]; exact (Below.refl _ _).alloc (Nat.le_refl _) _); have hLA : LatAt w3 bl L := (by rw [hw3, hbl]; exact LatAt.new w2 L); have c0 := hLA.size; have hlt := hLA.lt; have z3 : Below w1.heap.size w1 w3 := z2.trans (q3.mono z2.size); clear hw3 hbl q3 z2)
    | (go_at_call 61; refine (rowsOf_T 62 #[.pointer (some ⟨bl, 0, none⟩)] L.length (mt L) w3 (by omega) h6 enters_mt (fun x y wr x0 x1 y0 y1 hb => mtClo_any L bl x y wr (hLA.below hb hLA.lt) HL.out x0 x1 y0 y1)).mono ?_; rintro e w4 ⟨rfl, gt4, hb4⟩; have z4 : Below w1.heap.size w1 w4 := z3.trans (hb4.mono z3.size); have s3 := z3.size; have s4 := hb4.size; obtain ⟨B, hBB⟩ : ∃ B, B = w3.heap.size := ⟨_, rfl⟩; rw [← hBB] at gt4 ⊢; have sB : w3.heap.size ≤ B := Nat.le_of_eq hBB.symm; clear hBB hb4 c0 hLA hlt)
    | (go_at_call 63; refine (clone_any a ca L _ (KR.out _ z4) HNE.out hm).mono ?_; rintro e w5 ⟨a5, c5, rfl, ho5, hb5⟩; have gs5 := GS.of ho5; have gt5 := gt4.below hb5; have s5 := hb5.size; have z5 : Below w1.heap.size w1 w5 := z4.trans (hb5.mono z4.size); clear hb5 gt4)
    | (refine wpList_store_row rfl 28 _ _ rfl w5.heap.size #[.slice a5 L.length c5, .slice (some ⟨B, 0, none⟩) (tabL (mt L) L.length).length (tabL (mt L) L.length).length] rfl rfl _ _ (heap_alloc_new w5 (.cells #[.slice none 0 0, .slice none 0 0] 28)) (size_Alg _ _) rfl (one_sl2 _ _ _ _ _ _) ?_; rw [World.setRow_alloc_new]; obtain ⟨g, hg⟩ : ∃ g, g = w5.heap.size := ⟨_, rfl⟩; obtain ⟨w6, hw6⟩ : ∃ x, x = w5.alloc (.cells #[.slice a5 L.length c5, .slice (some ⟨B, 0, none⟩) (tabL (mt L) L.length).length (tabL (mt L) L.length).length] 28) := ⟨_, rfl⟩; rw [← hw6, ← hg]; have hx6 : w6.heap[g]? = some (.cells #[.slice a5 L.length c5, .slice (some ⟨B, 0, none⟩) (tabL (mt L) L.length).length (tabL (mt L) L.length).length] 28 (0, 0)) := (by rw [hw6, hg]; exact heap_alloc_new w5 _); have q6 : Below w5.heap.size w5 w6 := (by rw [hw6]; exact (Below.refl _ _).alloc (Nat.le_refl _) _); have s6 := q6.size; have gs6 := gs5.below q6; have gt6 := gt5.below q6; have z6 : Below w1.heap.size w1 w6 := z5.trans (q6.mono z5.size); have y6 : Below w6.heap.size w6 w6 := Below.refl _ _; have K6 := Lib.hid (show ∀ wz, Below w6.heap.size w6 wz → wz.heap[g]? = some (.cells #[.slice a5 L.length c5, .slice (some ⟨B, 0, none⟩) (tabL (mt L) L.length).length (tabL (mt L) L.length).length] 28 (0, 0)) from fun wz h => (h.block _ (lt_of_block hx6)).trans hx6); clear hw6 hg q6 gs5 gt5 hx6)
    | (refine wpList_load_row_w rfl 28 _ rfl g rfl _ _ _ _ (K6.out _ (by assumption)) Try.underlying28 rfl (size_Alg _ _) ?_)
    | (go_at_call 64; refine (implValidAlgebra_any a5 (some ⟨B, 0, none⟩) c5 _ L (tabL (mt L) L.length) _ (rs_rd gs6.rd) (gt_rd gt6)).mono ?_; rintro e w7 ⟨he7, hb7⟩; rw [HD.out] at he7; subst he7; have z7 : Below w1.heap.size w1 w7 := z6.trans (hb7.mono z6.size); have gs7 := gs6.below hb7; have gt7 := gt6.below hb7; have s7 := hb7.size; have y7 : Below w6.heap.size w6 w7 := hb7; clear hb7 y6)
    | (refine wpList_store_row rfl 28 _ _ rfl w.heap.size #[.slice none 0 0, .slice none 0 0] rfl rfl _ _ (Kz.out _ z7) (size_Alg _ _) rfl (one_sl2 _ _ _ _ _ _) ?_))
  refine bodyPost_ret (v := .tuple #[.agg #[.slice none 0 0, .slice none 0 0], .bool false]) (results_Alg_tmp rfl _ _ w.heap.size rfl _ _ (setRow_heap _ _ _ _ _ _ (Kz.out _ z7)) rfl) rfl ?_
  rw [HV.out, (mt_no HV.out).1, (mt_no HV.out).2]
  have hbz := below_setRow' (hB.trans (z7.mono hB.size)) (Nat.le_refl w.heap.size) #[.slice none 0 0, .slice none 0 0]
  exact ⟨_, _, _, _, _, _, rfl, GA.zero _ _ hbz.size _, hbz⟩
set_option maxRecDepth 100000 in
set_option maxHeartbeats 2000000 in
theorem implMeet_yes (a : Option Addr) (ca : Nat) (L : List Int) (w : World) (hr : Rd w a L) (hm : L.length ≤ 1048576) (h : latB L = true) (h2 : distB L = true) : Calls Try.prog 22 #[.slice a L.length ca] w (RetGAb (mtLL L) (mtTT L) (mtOk L) w) := by
  obtain ⟨w1, hw1⟩ : ∃ w1, w1 = w.alloc (.cells #[.slice none 0 0, .slice none 0 0] 28) := ⟨_, rfl⟩
  have hB : Below w.heap.size w w1 := by rw [hw1]; exact (Below.refl _ _).alloc (Nat.le_refl _) _
  have hz : w1.heap[w.heap.size]? = some (.cells #[.slice none 0 0, .slice none 0 0] 28 (0, 0)) := by rw [hw1]; exact heap_alloc_new w _
  have Kz := Lib.hid (show ∀ wz, Below w1.heap.size w1 wz → wz.heap[w.heap.size]? = some (.cells #[.slice none 0 0, .slice none 0 0] 28 (0, 0)) from fun wz h => (h.block _ (lt_of_block hz)).trans hz)
  have KR := Lib.hid (show ∀ wz, Below w1.heap.size w1 wz → Rd wz a L from fun wz h => (hr.below hB).below h)
  have hsz := lt_of_block hz
  have z1 : Below w1.heap.size w1 w1 := Below.refl _ _
  have HL := Lib.hid h
  have HNE := Lib.hid (lat_ne (latB_parts h).1)
  have HD := Lib.hid (show algB L (tabL (mt L) L.length) = distB L from mtT_alg h)
  rw [h2] at HD
  have h6 : (L.length : Int) ≤ 6 := (lat_len h).2
  have HV := Lib.hid (mt_yes h h2)
  clear h h2
  clear hz hr
  go_enter Try.func22, Try.ntmps22
  go_wp2_with (first
    | go_skip
    | (rw [← hw1]; clear hw1)
    | (go_at_call 60; refine (readLattice_yes a ca L _ (KR.out _ z1) HL.out).mono ?_; rintro e w2 ⟨rfl, h2⟩; have z2 : Below w1.heap.size w1 w2 := h2; clear h2)
    | (refine wpList_store_row rfl 68 _ _ rfl w2.heap.size (latOf L) rfl rfl _ _ (heap_alloc_new w2 (.cells zeroLat 68)) (size_lat _ _ _ _) rfl (one_lat _ _ _ _) ?_; rw [World.setRow_alloc_new]; obtain ⟨bl, hbl⟩ : ∃ b5, b5 = w2.heap.size := ⟨_, rfl⟩; obtain ⟨w3, hw3⟩ : ∃ x, x = w2.alloc (.cells (latOf L) 68) := ⟨_, rfl⟩; rw [← hw3, ← hbl]; have q3 : Below w2.heap.size w2 w3 := (by rw [hw3]; exact (Below.refl _ _).alloc (Nat.le_refl _) _); have hLA : LatAt w3 bl L := (by rw [hw3, hbl]; exact LatAt.new w2 L); have c0 := hLA.size; have hlt := hLA.lt; have z3 : Below w1.heap.size w1 w3 := z2.trans (q3.mono z2.size); clear hw3 hbl q3 z2)
    | (go_at_call 61; refine (rowsOf_T 62 #[.pointer (some ⟨bl, 0, none⟩)] L.length (mt L) w3 (by omega) h6 enters_mt (fun x y wr x0 x1 y0 y1 hb => mtClo_any L bl x y wr (hLA.below hb hLA.lt) HL.out x0 x1 y0 y1)).mono ?_; rintro e w4 ⟨rfl, gt4, hb4⟩; have z4 : Below w1.heap.size w1 w4 := z3.trans (hb4.mono z3.size); have s3 := z3.size; have s4 := hb4.size; obtain ⟨B, hBB⟩ : ∃ B, B = w3.heap.size := ⟨_, rfl⟩; rw [← hBB] at gt4 ⊢; have sB : w3.heap.size ≤ B := Nat.le_of_eq hBB.symm; clear hBB hb4 c0 hLA hlt)
    | (go_at_call 63; refine (clone_any a ca L _ (KR.out _ z4) HNE.out hm).mono ?_; rintro e w5 ⟨a5, c5, rfl, ho5, hb5⟩; have gs5 := GS.of ho5; have gt5 := gt4.below hb5; have s5 := hb5.size; have z5 : Below w1.heap.size w1 w5 := z4.trans (hb5.mono z4.size); clear hb5 gt4)
    | (refine wpList_store_row rfl 28 _ _ rfl w5.heap.size #[.slice a5 L.length c5, .slice (some ⟨B, 0, none⟩) (tabL (mt L) L.length).length (tabL (mt L) L.length).length] rfl rfl _ _ (heap_alloc_new w5 (.cells #[.slice none 0 0, .slice none 0 0] 28)) (size_Alg _ _) rfl (one_sl2 _ _ _ _ _ _) ?_; rw [World.setRow_alloc_new]; obtain ⟨g, hg⟩ : ∃ g, g = w5.heap.size := ⟨_, rfl⟩; obtain ⟨w6, hw6⟩ : ∃ x, x = w5.alloc (.cells #[.slice a5 L.length c5, .slice (some ⟨B, 0, none⟩) (tabL (mt L) L.length).length (tabL (mt L) L.length).length] 28) := ⟨_, rfl⟩; rw [← hw6, ← hg]; have hx6 : w6.heap[g]? = some (.cells #[.slice a5 L.length c5, .slice (some ⟨B, 0, none⟩) (tabL (mt L) L.length).length (tabL (mt L) L.length).length] 28 (0, 0)) := (by rw [hw6, hg]; exact heap_alloc_new w5 _); have q6 : Below w5.heap.size w5 w6 := (by rw [hw6]; exact (Below.refl _ _).alloc (Nat.le_refl _) _); have s6 := q6.size; have gs6 := gs5.below q6; have gt6 := gt5.below q6; have z6 : Below w1.heap.size w1 w6 := z5.trans (q6.mono z5.size); have y6 : Below w6.heap.size w6 w6 := Below.refl _ _; have K6 := Lib.hid (show ∀ wz, Below w6.heap.size w6 wz → wz.heap[g]? = some (.cells #[.slice a5 L.length c5, .slice (some ⟨B, 0, none⟩) (tabL (mt L) L.length).length (tabL (mt L) L.length).length] 28 (0, 0)) from fun wz h => (h.block _ (lt_of_block hx6)).trans hx6); clear hw6 hg q6 gs5 gt5 hx6)
    | (refine wpList_load_row_w rfl 28 _ rfl g rfl _ _ _ _ (K6.out _ (by assumption)) Try.underlying28 rfl (size_Alg _ _) ?_)
    | (go_at_call 64; refine (implValidAlgebra_any a5 (some ⟨B, 0, none⟩) c5 _ L (tabL (mt L) L.length) _ (rs_rd gs6.rd) (gt_rd gt6)).mono ?_; rintro e w7 ⟨he7, hb7⟩; rw [HD.out] at he7; subst he7; have z7 : Below w1.heap.size w1 w7 := z6.trans (hb7.mono z6.size); have gs7 := gs6.below hb7; have gt7 := gt6.below hb7; have s7 := hb7.size; have y7 : Below w6.heap.size w6 w7 := hb7; clear hb7 y6)
    | (refine wpList_store_row rfl 28 _ _ rfl w.heap.size #[.slice a5 L.length c5, .slice (some ⟨B, 0, none⟩) (tabL (mt L) L.length).length (tabL (mt L) L.length).length] rfl rfl _ _ (Kz.out _ z7) (size_Alg _ _) rfl (one_sl2 _ _ _ _ _ _) ?_))
  refine bodyPost_ret (v := .tuple #[.agg #[.slice a5 L.length c5, .slice (some ⟨B, 0, none⟩) (tabL (mt L) L.length).length (tabL (mt L) L.length).length], .bool true]) (results_Alg_tmp rfl _ _ w.heap.size rfl _ _ (setRow_heap _ _ _ _ _ _ (Kz.out _ z7)) rfl) rfl ?_
  rw [HV.out.1, HV.out.2.1, HV.out.2.2]
  have hbz := below_setRow' (hB.trans (z7.mono hB.size)) (Nat.le_refl w.heap.size) #[.slice a5 L.length c5, .slice (some ⟨B, 0, none⟩) (tabL (mt L) L.length).length (tabL (mt L) L.length).length]
  have hb8 := below_setRow' (Below.refl w.heap.size w7) (Nat.le_refl w.heap.size) #[.slice a5 L.length c5, .slice (some ⟨B, 0, none⟩) (tabL (mt L) L.length).length (tabL (mt L) L.length).length]
  have hs8 := hb8.size
  have s1 := hB.size
  have hk : ∀ lo hi, w.heap.size < lo → Keep lo hi w7 (w7.setRow w.heap.size #[.slice a5 L.length c5, .slice (some ⟨B, 0, none⟩) (tabL (mt L) L.length).length (tabL (mt L) L.length).length]) := fun lo hi hlo k k1 _ _ => setRow_other w7 _ k _ (by omega)
  exact ⟨_, _, _, _, _, _, rfl, ⟨w4.heap.size, w5.heap.size, B, w4.heap.size, by omega, by omega, by omega, by omega, .inr (Nat.le_refl _), gs7.keep (hk _ _ (by omega)), gt7.keep (hk _ _ (by omega))⟩, hbz⟩
/-- impl.MeetAlgebra -/
theorem implMeetAlgebra_any (a : Option Addr) (ca : Nat) (L : List Int) (w : World) (hr : Rd w a L) (hm : L.length ≤ 1048576) : Calls Try.prog 22 #[.slice a L.length ca] w (RetGAb (mtLL L) (mtTT L) (mtOk L) w) := by
  cases h : latB L with
  | false => exact implMeet_lat a ca L w hr hm h
  | true =>
    cases h2 : distB L with
    | false => exact implMeet_dist a ca L w hr hm h h2
    | true => exact implMeet_yes a ca L w hr hm h h2
end Go.Proofs.Ytmapofenghjinaa
