import Derived.Test.YtljnbhnnjfnjeaaMF8
import Derived.Test.YtljnbhnnjfnjeaaMP1
import Derived.Test.YtljnbhnnjfnjeaaB15
import Derived.Test.YtljnbhnnjfnjeaaLC
import Derived.Test.YtljnbhnnjfnjeaaQU2
import Derived.Test.YtljnbhnnjfnjeaaSL0
namespace Go.Proofs.Ytljnbhnnjfnjeaa
open Go.RowKit
set_option linter.unusedVariables false

set_option maxRecDepth 100000 in
set_option maxHeartbeats 8000000 in
/-- laws.FnKernelOf -/
theorem lawPKernelOf (a0 : Option Addr) (len0 cap0 : Nat) (w : World) (hy : RdY w a0 len0 w.heap.size) (hc : len0 ≤ cap0) (hm : len0 ≤ maxLen) :
  Calls Try.prog 4 #[.slice a0 len0 cap0] w fun e w' => e = .returned (.bool true) ∧ Below w.heap.size w w' := by
 by_cases hbig : 1048576 < len0
 ·have hbig2 : (1048576 : Int) < len0 := by omega
  go_enter Try.func4, Try.ntmps4
  go_wp2
  go_ret
  exact ⟨rfl, Below.refl _ _⟩
 ·have hs : len0 ≤ 1048576 := by omega
  have hs2 : ¬ (1048576 : Int) < len0 := by omega
  go_enter Try.func4, Try.ntmps4
  go_wp2_with fail
  refine (drawKernelOf_any a0 len0 cap0 w hy hc hs).mono ?_
  rintro e w1 ⟨L, M, F, T, U, a, b, a2, b2, f, ca, cb, ca2, cb2, cf, rfl, f7, hr, hT, hr2, hT2, hf, hb⟩
  have _ := hm
  clear hs hs2 hbig hy hm hc
  have f8 : F.length ≤ 1048576 := by omega
  obtain ⟨wv, hwv⟩ : ∃ wv, wv = (w1.alloc (.cells #[.slice none 0 0, .slice none 0 0] 26)).alloc (.cells #[.slice none 0 0, .slice none 0 0] 26) := ⟨_, rfl⟩
  obtain ⟨w2, hw2⟩ : ∃ x, x = (wv.setRow w1.heap.size #[.slice a L.length ca, .slice b T.length cb]).setRow (w1.heap.size + 1) #[.slice a2 M.length ca2, .slice b2 U.length cb2] := ⟨_, rfl⟩
  have hZ1 : wv.heap[w1.heap.size]? = some (.cells #[.slice none 0 0, .slice none 0 0] 26 (0, 0)) := by rw [hwv, Below.heap_alloc _ _ _ (by simp)]; exact heap_alloc_new w1 _
  have hZ2 : (wv.setRow w1.heap.size #[.slice a L.length ca, .slice b T.length cb]).heap[w1.heap.size + 1]? = some (.cells #[.slice none 0 0, .slice none 0 0] 26 (0, 0)) := (setRow_other _ _ _ _ (by omega)).trans (by rw [hwv]; exact heap_alloc2_new _ _ _)
  have hbv : Below w1.heap.size w1 wv := by rw [hwv]; exact ((Below.refl _ _).alloc (Nat.le_refl _) _).alloc (by simp) _
  have hby : Below w1.heap.size w1 w2 := by rw [hw2]; exact below_setRow' (below_setRow' hbv (Nat.le_refl _) _) (by omega) _
  have hB : Below w.heap.size w w2 := hb.trans (hby.mono hb.size)
  obtain ⟨g, hg⟩ : ∃ b, b = w1.heap.size := ⟨_, rfl⟩
  obtain ⟨g', hg'⟩ : ∃ b, b = w1.heap.size + 1 := ⟨_, rfl⟩
  have x1 : w2.heap[g]? = some (.cells #[.slice a L.length ca, .slice b T.length cb] 26 (0, 0)) := by rw [hw2, hg]; exact (setRow_other _ _ _ _ (by omega)).trans (setRow_heap _ _ _ _ _ _ hZ1)
  have x2 : w2.heap[g']? = some (.cells #[.slice a2 M.length ca2, .slice b2 U.length cb2] 26 (0, 0)) := by rw [hw2, hg']; exact setRow_heap _ _ _ _ _ _ hZ2
  have KA := Lib.hid (show ∀ wz, Below w2.heap.size w2 wz → wz.heap[g]? = some (.cells #[.slice a L.length ca, .slice b T.length cb] 26 (0, 0)) from fun wz h => (h.block _ (lt_of_block x1)).trans x1)
  have KB := Lib.hid (show ∀ wz, Below w2.heap.size w2 wz → wz.heap[g']? = some (.cells #[.slice a2 M.length ca2, .slice b2 U.length cb2] 26 (0, 0)) from fun wz h => (h.block _ (lt_of_block x2)).trans x2)
  have KR := Lib.hid (show ∀ wz, Below w2.heap.size w2 wz → Rd wz a L from fun wz h => (hr.below hby).below h)
  have KT := Lib.hid (show ∀ wz, Below w2.heap.size w2 wz → RdT wz b T from fun wz h => (hT.below hby).below h)
  have KR2 := Lib.hid (show ∀ wz, Below w2.heap.size w2 wz → Rd wz a2 M from fun wz h => (hr2.below hby).below h)
  have KT2 := Lib.hid (show ∀ wz, Below w2.heap.size w2 wz → RdT wz b2 U from fun wz h => (hT2.below hby).below h)
  have KF := Lib.hid (show ∀ wz, Below w2.heap.size w2 wz → Rd wz f F from fun wz h => (hf.below hby).below h)
  have FIN := Lib.hid (show ∀ wz, Below w2.heap.size w2 wz → Below w.heap.size w wz from fun wz h => hB.trans (h.mono hB.size))
  have z : Below w2.heap.size w2 w2 := Below.refl _ _
  clear hr hT hr2 hT2 hf hb hB hby hbv x1 x2
  obtain ⟨k, hk⟩ : ∃ k, k = kerI L T M U F := ⟨_, rfl⟩
  obtain ⟨s, hs⟩ : ∃ s, s = imgI L T M U F := ⟨_, rfl⟩
  have HI := Lib.hid (show ∀ w, Rd w a L → RdT w b T → Rd w a2 M → RdT w b2 U → Rd w f F → Calls Try.prog 12 #[.agg #[.slice a L.length ca, .slice b T.length cb], .agg #[.slice a2 M.length ca2, .slice b2 U.length cb2], .slice f F.length cf] w fun e w' => e = .returned (.int .i64 k) ∧ Below w.heap.size w w' from fun w h1 h2 h3 h4 h5 => by rw [hk]; exact implKernelOf_any _ _ _ _ L T _ _ _ _ M U _ _ F w h1 h2 h3 h4 h5 f8)
  have HS := Lib.hid (show ∀ w, Rd w a L → RdT w b T → Rd w a2 M → RdT w b2 U → Rd w f F → Calls Try.prog 14 #[.agg #[.slice a L.length ca, .slice b T.length cb], .agg #[.slice a2 M.length ca2, .slice b2 U.length cb2], .slice f F.length cf] w fun e w' => e = .returned (.int .i64 k) ∧ Below w.heap.size w w' from fun w h1 h2 h3 h4 h5 => by rw [hk]; exact specKernelOf_any _ _ _ _ L T _ _ _ _ M U _ _ F w h1 h2 h3 h4 h5 f8)
  have HM := Lib.hid (show ∀ w, Rd w a L → RdT w b T → Rd w a2 M → RdT w b2 U → Rd w f F → Calls Try.prog 17 #[.agg #[.slice a L.length ca, .slice b T.length cb], .agg #[.slice a2 M.length ca2, .slice b2 U.length cb2], .slice f F.length cf] w fun e w' => e = .returned (.int .i64 s) ∧ Below w.heap.size w w' from fun w h1 h2 h3 h4 h5 => by rw [hs]; exact implImageOf_any _ _ _ _ L T _ _ _ _ M U _ _ F w h1 h2 h3 h4 h5 f8)
  cases hV : isMapB L T M U F with
  | false =>
   have hk1 : k = -1 := by rw [hk]; unfold kerI; rw [hV]; rfl
   clear hk hV hs
   subst hk1
   go_wp2_with (first
   | go_skip
   | (rw [← hwv]; clear hwv)
   | (rw [← hw2, ← hg', ← hg]; clear hw2 hg' hg)
   | (refine wpList_store_row rfl 26 _ _ rfl w1.heap.size #[.slice a L.length ca, .slice b T.length cb] rfl rfl _ _ hZ1 (size_Alg _ _) rfl (one_sl2 _ _ _ _ _ _) ?_)
   | (refine wpList_store_row rfl 26 _ _ rfl (w1.heap.size + 1) #[.slice a2 M.length ca2, .slice b2 U.length cb2] rfl rfl _ _ hZ2 (size_Alg _ _) rfl (one_sl2 _ _ _ _ _ _) ?_)
   | (refine wpList_load_row_w rfl 26 _ rfl g rfl _ _ _ _ (KA.out _ z) Try.underlying26 rfl (size_Alg _ _) ?_)
   | (refine wpList_load_row_w rfl 26 _ rfl g' rfl _ _ _ _ (KB.out _ z) Try.underlying26 rfl (size_Alg _ _) ?_)
   | (go_at_call 12; refine (HI.out _ (KR.out _ z) (KT.out _ z) (KR2.out _ z) (KT2.out _ z) (KF.out _ z)).mono ?_; rintro e wz ⟨rfl, hb⟩; replace z := z.trans (hb.mono z.size))
   | (go_at_call 14; refine (HS.out _ (KR.out _ z) (KT.out _ z) (KR2.out _ z) (KT2.out _ z) (KF.out _ z)).mono ?_; rintro e wz ⟨rfl, hb⟩; replace z := z.trans (hb.mono z.size)))
   go_ret
   exact ⟨rfl, FIN.out _ z⟩
  | true =>
   have hMF := mapF_of hV
   have hk1 : k = rowTo (kerQ M F) (num F) := by rw [hk]; unfold kerI; rw [hV]; rfl
   have hs1 : s = setL F := by rw [hs]; unfold imgI; rw [hV]; rfl
   have hn0 : 0 ≤ num F := by have : num F = F.length := rfl; omega
   have k0 : 0 ≤ k := by rw [hk1]; exact (rowTo_bound (kerQ M F) hn0).1
   have haf : afB L T k = true := by rw [hk1]; unfold afB; rw [hMF.a1, hMF.fil]; rfl
   have hcn := hMF.count
   rw [← hk1, ← hs1] at hcn
   obtain ⟨N, hN⟩ : ∃ N, N = (quW L T k).length := ⟨_, rfl⟩
   obtain ⟨_, p0, p1⟩ := hMF.part
   rw [← hs1] at p0 p1
   have p63 : s ≤ 63 := by have := pw_6 (lat_len (alg_lat hMF.a2)).2; omega
   have HW := Lib.hid (show ∀ w, Calls Try.prog 16 #[.int .i64 s] w fun e w' => e = .returned (.int .i64 (N : Int)) ∧ w = w' from fun w => by
    have := lawWeight_any s w p0 p63
    rw [← hcn, ← hN] at this
    exact this)
   have HQ := Lib.hid (show ∀ w, Rd w a L → RdT w b T → Calls Try.prog 15 #[.agg #[.slice a L.length ca, .slice b T.length cb], .int .i64 k] w fun e w' => ∃ (qa : Option Addr) (qc : Nat) (qb : Option Addr) (qm qd : Nat) (qs : Option Addr) (sk qq : Nat), e = .returned (.tuple #[.agg #[.slice qa N qc, .slice qb qm qd], .slice qs sk qq, .bool true]) ∧ Below w.heap.size w w' from fun w h1 h2 => by
    have hq := implQuotientOf_any a b ca cb L T k w h1 h2
    rw [haf] at hq
    refine hq.mono ?_
    rintro e w' ⟨qa, n, qc, qb, qm, qd, qs, sk, qq, zz, rfl, hGA, _, _, _, hb⟩
    obtain ⟨xa, xc, xb, xd, e0, _, _, _⟩ := hGA.rd
    injection e0 with _ e1 _
    have e2 : n = N := by rw [e1, (qu_yes haf).2.1, hN]; simp [upL]
    subst e2
    exact ⟨qa, qc, qb, qm, qd, qs, sk, qq, rfl, hb⟩)
   have nI : (N : Int) ≤ 64 := by
    have h6 := (lat_len (alg_lat hMF.a1)).2
    have hq := quW_len hMF.a1 (afB_parts haf).2.1
    omega
   clear hk hV hs hk1 hs1 hMF haf hcn hN hn0 p0 p1 p63
   have pn : ¬ k < 0 := by omega
   go_upto_region 8 with (first
   | go_skip
   | (rw [← hwv]; clear hwv)
   | (rw [← hw2, ← hg', ← hg]; clear hw2 hg' hg)
   | (refine wpList_store_row rfl 26 _ _ rfl w1.heap.size #[.slice a L.length ca, .slice b T.length cb] rfl rfl _ _ hZ1 (size_Alg _ _) rfl (one_sl2 _ _ _ _ _ _) ?_)
   | (refine wpList_store_row rfl 26 _ _ rfl (w1.heap.size + 1) #[.slice a2 M.length ca2, .slice b2 U.length cb2] rfl rfl _ _ hZ2 (size_Alg _ _) rfl (one_sl2 _ _ _ _ _ _) ?_)
   | (refine wpList_load_row_w rfl 26 _ rfl g rfl _ _ _ _ (KA.out _ z) Try.underlying26 rfl (size_Alg _ _) ?_)
   | (refine wpList_load_row_w rfl 26 _ rfl g' rfl _ _ _ _ (KB.out _ z) Try.underlying26 rfl (size_Alg _ _) ?_)
   | (go_at_call 12; refine (HI.out _ (KR.out _ z) (KT.out _ z) (KR2.out _ z) (KT2.out _ z) (KF.out _ z)).mono ?_; rintro e wz ⟨rfl, hb⟩; replace z := z.trans (hb.mono z.size))
   | (go_at_call 14; refine (HS.out _ (KR.out _ z) (KT.out _ z) (KR2.out _ z) (KT2.out _ z) (KF.out _ z)).mono ?_; rintro e wz ⟨rfl, hb⟩; replace z := z.trans (hb.mono z.size))
   | (go_at_call 15; refine (HQ.out _ (KR.out _ z) (KT.out _ z)).mono ?_; rintro e wq ⟨qa, qc, qb, qm, qd, qs, sk, qq, rfl, hb⟩; replace z := z.trans (hb.mono z.size))
   | (refine wpList_store_row rfl 26 _ _ rfl wq.heap.size #[.slice qa N qc, .slice qb qm qd] rfl rfl _ _ (heap_alloc_new wq (.cells #[.slice none 0 0, .slice none 0 0] 26)) (size_Alg _ _) rfl (one_sl2 _ _ _ _ _ _) ?_; rw [World.setRow_alloc_new]; obtain ⟨g7, hg7⟩ : ∃ b, b = wq.heap.size := ⟨_, rfl⟩; obtain ⟨wy, hwy⟩ : ∃ x : World, x = wq.alloc (.cells #[.slice qa N qc, .slice qb qm qd] 26) := ⟨_, rfl⟩; rw [← hwy, ← hg7]; have hb7 : Below wq.heap.size wq wy := (by rw [hwy]; exact (Below.refl _ _).alloc (Nat.le_refl _) _); have x7 : wy.heap[g7]? = some (.cells #[.slice qa N qc, .slice qb qm qd] 26 (0, 0)) := (by rw [hwy, hg7]; exact heap_alloc_new wq _); replace z := z.trans (hb7.mono z.size); clear hwy hg7))
   have KQ := Lib.hid (show ∀ wz, Below wy.heap.size wy wz → wz.cell? ⟨g7, 0, none⟩ = some (.slice qa N qc) from fun wz h => (bx_cells ((h.block _ (lt_of_block x7)).trans x7)).1)
   have HZ : ∀ wz, Below wy.heap.size wy wz → Below w2.heap.size w2 wz := fun wz h => z.trans (h.mono z.size)
   clear z hb7 x7
   refine wp_region_any (by kernel_rfl) ?_
   refine any_of_C (C := fun wz => Below wy.heap.size wy wz) _ _ _ _ ?_
   have z := (Below.refl wy.heap.size wy).trans (Dr.below ⟨1, rfl⟩ _)
   change wpAnyC _ _ _ _ _ _ _ _ (wy.drewN 1)
   obtain ⟨wd, hwd⟩ : ∃ x : World, x = wy.drewN 1 := ⟨_, rfl⟩
   rw [← hwd] at z ⊢
   clear hwd
   refine anyC_take (i:=0) (oi:=⟨_,_,_,_,_,_⟩) (v := .bool true) rfl (by kernel_rfl) (by kernel_rfl) (by kernel_rfl) (fun _ _ _ h => h) (.inl ⟨by kernel_rfl, fun wz hz => by apply runs_moveM <;> rfl⟩) ?_; try simp only [Act.put, pS]
   refine anyC_take (i:=1) (oi:=⟨_,_,_,_,_,_⟩) (v := .bool true) rfl (by kernel_rfl) (by kernel_rfl) (by kernel_rfl) (fun _ _ _ h => h) (.inl ⟨by kernel_rfl, fun wz hz => by apply runs_moveM <;> rfl⟩) ?_; try simp only [Act.put, pS]
   refine anyC_take (i:=2) (oi:=⟨_,_,_,_,_,_⟩) (v := .pointer (some ⟨g7, 0, none⟩)) rfl (by kernel_rfl) (by kernel_rfl) (by kernel_rfl) (fun _ _ _ h => h) (.inl ⟨by kernel_rfl, fun wz hz => by go_simp⟩) ?_; try simp only [Act.put, pS]
   refine anyC_take (i:=3) (oi:=⟨_,_,_,_,_,_⟩) (v := .slice qa N qc) rfl (by kernel_rfl) (by kernel_rfl) (by kernel_rfl) (fun _ _ _ h => h) (.inl ⟨by kernel_rfl, fun wz hz => by have c := KQ.out _ hz; go_simp⟩) ?_; try simp only [Act.put, pS]
   refine anyC_take (i:=4) (oi:=⟨_,_,_,_,_,_⟩) (v := .int .i64 (N : Int)) rfl (by kernel_rfl) (by kernel_rfl) (by kernel_rfl) (fun _ _ _ h => h) (.inl ⟨by kernel_rfl, fun wz hz => by go_simp⟩) ?_; try simp only [Act.put, pS]
   refine anyC_take (i:=5) (oi:=⟨_,_,_,_,_,_⟩) (v := .agg #[.slice a L.length ca, .slice b T.length cb]) rfl (by kernel_rfl) (by kernel_rfl) (by kernel_rfl) (fun _ _ _ h => h) (.inl ⟨by kernel_rfl, fun wz hz => runs_load (C := fun wz => Below wy.heap.size wy wz) 26 _ rfl g rfl _ _ _ _ (fun w hw => KA.out _ (HZ _ hw)) Try.underlying26 rfl (size_Alg _ _) wz hz⟩) ?_; try simp only [Act.put, pS]
   refine anyC_take (i:=6) (oi:=⟨_,_,_,_,_,_⟩) (v := .agg #[.slice a2 M.length ca2, .slice b2 U.length cb2]) rfl (by kernel_rfl) (by kernel_rfl) (by kernel_rfl) (fun _ _ _ h => h) (.inl ⟨by kernel_rfl, fun wz hz => runs_load (C := fun wz => Below wy.heap.size wy wz) 26 _ rfl g' rfl _ _ _ _ (fun w hw => KB.out _ (HZ _ hw)) Try.underlying26 rfl (size_Alg _ _) wz hz⟩) ?_; try simp only [Act.put, pS]
   refine anyC_take (i:=7) (oi:=⟨_,_,_,_,_,_⟩) (v := .slice f F.length cf) rfl (by kernel_rfl) (by kernel_rfl) (by kernel_rfl) (fun _ _ _ h => h) (.inl ⟨by kernel_rfl, fun wz hz => by apply runs_moveM <;> rfl⟩) ?_; try simp only [Act.put, pS]
   refine anyC_call (i := 8) (o := ⟨_, _, _, _, _, _⟩) (f := 17) (args := #[.agg #[.slice a L.length ca, .slice b T.length cb], .agg #[.slice a2 M.length ca2, .slice b2 U.length cb2], .slice f F.length cf]) rfl (by kernel_rfl) (by kernel_rfl) (by apply runs_call3 (he := enters_of Try.func17 (by kernel_rfl) rfl) <;> rfl) z ?_
   refine (HM.out _ (KR.out _ (HZ _ z)) (KT.out _ (HZ _ z)) (KR2.out _ (HZ _ z)) (KT2.out _ (HZ _ z)) (KF.out _ (HZ _ z))).mono ?_
   rintro e wp ⟨rfl, hbc⟩
   replace z := z.trans (hbc.mono z.size)
   clear hbc
   refine ⟨_, rfl, ?_⟩
   try simp only [Act.put, pS]
   refine anyC_call (i := 9) (o := ⟨_, _, _, _, _, _⟩) (f := 16) (args := #[.int .i64 s]) rfl (by kernel_rfl) (by kernel_rfl) (by apply runs_call1 (he := enters_of Try.func16 (by kernel_rfl) rfl) <;> rfl) z ?_
   refine (HW.out wp).mono ?_
   rintro e wq ⟨rfl, rfl⟩
   refine ⟨_, rfl, ?_⟩
   try simp only [Act.put, pS]
   refine anyC_take (i:=10) (oi:=⟨_,_,_,_,_,_⟩) (v := .bool true) rfl (by kernel_rfl) (by kernel_rfl) (by kernel_rfl) (fun _ _ _ h => h) (.inl ⟨by kernel_rfl, fun wz hz => by go_simp⟩) ?_; try simp only [Act.put, pS]
   refine anyC_take (i:=11) (oi:=⟨_,_,_,_,_,_⟩) (v := .bool true) rfl (by kernel_rfl) (by kernel_rfl) (by kernel_rfl) (fun _ _ _ h => h) (.inl ⟨by kernel_rfl, fun wz hz => by go_simp⟩) ?_; try simp only [Act.put, pS]
   refine anyC_law (i := 12) rfl (by kernel_rfl) z ?_
   go_wp2_with fail
   try simp only [Act.put, pS]
   refine anyC_done (by kernel_rfl) z ?_ _
   try simp only [Act.put, pS]
   go_wp2
   go_ret
   exact ⟨rfl, FIN.out _ (HZ _ z)⟩
end Go.Proofs.Ytljnbhnnjfnjeaa
