import Derived.Test.YtljnbhnnjfnjeaaMF4
import Derived.Test.YtljnbhnnjfnjeaaMP0
import Derived.Test.YtljnbhnnjfnjeaaB26
import Derived.Test.YtljnbhnnjfnjeaaN7
import Derived.Test.YtljnbhnnjfnjeaaH10
import Derived.Test.YtljnbhnnjfnjeaaSL0
namespace Go.Proofs.Ytljnbhnnjfnjeaa
open Go.RowKit
set_option linter.unusedVariables false

theorem nearO_el {L : List Int} {T : List (List Int)} (h : algB L T = true) {x y : Int} (hx : El L x) (hy : El L y) : nearO L T x y = nearI L T x y := by
 unfold nearO; rw [if_pos (algIn_el h hx hy)]
theorem notI_elM {L : List Int} {T : List (List Int)} (h : algB L T = true) {x : Int} (hx : El L x) : notI L T x = imp L T x 0 := by
 unfold notI; rw [if_pos (algIn_el h hx hx)]
set_option maxRecDepth 100000 in
set_option maxHeartbeats 8000000 in
/-- laws.FnIsMap -/
theorem lawPIsMap (a0 : Option Addr) (len0 cap0 : Nat) (w : World) (hy : RdY w a0 len0 w.heap.size) (hc : len0 ≤ cap0) (hm : len0 ≤ maxLen) :
  Calls Try.prog 3 #[.slice a0 len0 cap0] w fun e w' => e = .returned (.bool true) ∧ Below w.heap.size w w' := by
 by_cases hbig : 1048576 < len0
 ·have hbig2 : (1048576 : Int) < len0 := by omega
  go_enter Try.func3, Try.ntmps3
  go_wp2
  go_ret
  exact ⟨rfl, Below.refl _ _⟩
 ·have hs : len0 ≤ 1048576 := by omega
  have hs2 : ¬ (1048576 : Int) < len0 := by omega
  go_enter Try.func3, Try.ntmps3
  go_wp2_with fail
  refine (drawIsMap_any a0 len0 cap0 w hy hc hs).mono ?_
  rintro e w1 ⟨L, M, F, T, U, a, b, a2, b2, f, ca, cb, ca2, cb2, cf, rfl, f7, hr, hT, hr2, hT2, hf, hb⟩
  have _ := hm
  clear hs hs2 hbig hy hm hc
  have f8 : F.length ≤ 1048576 := by omega
  obtain ⟨wv, hwv⟩ : ∃ wv, wv = (w1.alloc (.cells #[.slice none 0 0, .slice none 0 0] 26)).alloc (.cells #[.slice none 0 0, .slice none 0 0] 26) := ⟨_, rfl⟩
  obtain ⟨w2, hw2⟩ : ∃ x, x = (wv.setRow w1.heap.size #[.slice a L.length ca, .slice b T.length cb]).setRow (w1.heap.size + 1) #[.slice a2 M.length ca2, .slice b2 U.length cb2] := ⟨_, rfl⟩
  have hZ1 : wv.heap[w1.heap.size]? = some (.cells #[.slice none 0 0, .slice none 0 0] 26 (0, 0)) := by rw [hwv, Below.heap_alloc _ _ _ (by simp)]; exact heap_alloc_new w1 _
  have hZ2 : (wv.setRow w1.heap.size #[.slice a L.length ca, .slice b T.length cb]).heap[w1.heap.size + 1]? = some (.cells #[.slice none 0 0, .slice none 0 0] 26 (0, 0)) := (setRow_other _ _ _ _ (by omega)).trans (by rw [hwv]; exact heap_alloc2_new _ _ _)
  have hbv : Below w1.heap.size w1 wv := by rw [hwv]; exact ((Below.refl _ _).alloc (Nat.le_refl _) _).alloc (by simp) _
  have hby : Below w1.heap.size w1 w2 := by rw [hw2]; exact below_setRow' (below_setRow' hbv (Nat.le_refl _) _) (by omega) _
  have hB : Below w.heap.size w w2 := hb.trans (hby.mono hb.size)
  obtain ⟨g, hg⟩ : ∃ b, b = w1.heap.size := ⟨_, rfl⟩
  obtain ⟨g', hg'⟩ : ∃ b, b = w1.heap.size + 1 := ⟨_, rfl⟩
  have x1 : w2.heap[g]? = some (.cells #[.slice a L.length ca, .slice b T.length cb] 26 (0, 0)) := by rw [hw2, hg]; exact (setRow_other _ _ _ _ (by omega)).trans (setRow_heap _ _ _ _ _ _ hZ1)
  have x2 : w2.heap[g']? = some (.cells #[.slice a2 M.length ca2, .slice b2 U.length cb2] 26 (0, 0)) := by rw [hw2, hg']; exact setRow_heap _ _ _ _ _ _ hZ2
  have KA := Lib.hid (show ∀ wz, Below w2.heap.size w2 wz → wz.heap[g]? = some (.cells #[.slice a L.length ca, .slice b T.length cb] 26 (0, 0)) from fun wz h => (h.block _ (lt_of_block x1)).trans x1)
  have KB := Lib.hid (show ∀ wz, Below w2.heap.size w2 wz → wz.heap[g']? = some (.cells #[.slice a2 M.length ca2, .slice b2 U.length cb2] 26 (0, 0)) from fun wz h => (h.block _ (lt_of_block x2)).trans x2)
  have KR := Lib.hid (show ∀ wz, Below w2.heap.size w2 wz → Rd wz a L from fun wz h => (hr.below hby).below h)
  have KT := Lib.hid (show ∀ wz, Below w2.heap.size w2 wz → RdT wz b T from fun wz h => (hT.below hby).below h)
  have KR2 := Lib.hid (show ∀ wz, Below w2.heap.size w2 wz → Rd wz a2 M from fun wz h => (hr2.below hby).below h)
  have KT2 := Lib.hid (show ∀ wz, Below w2.heap.size w2 wz → RdT wz b2 U from fun wz h => (hT2.below hby).below h)
  have KF := Lib.hid (show ∀ wz, Below w2.heap.size w2 wz → Rd wz f F from fun wz h => (hf.below hby).below h)
  have FIN := Lib.hid (show ∀ wz, Below w2.heap.size w2 wz → Below w.heap.size w wz from fun wz h => hB.trans (h.mono hB.size))
  have z : Below w2.heap.size w2 w2 := Below.refl _ _
  clear hr hT hr2 hT2 hf hb hB hby hbv x1 x2
  cases hV : isMapB L T M U F with
  | false =>
   go_wp2_with (first
   | go_skip
   | (rw [← hwv]; clear hwv)
   | (rw [← hw2, ← hg', ← hg]; clear hw2 hg' hg)
   | (refine wpList_store_row rfl 26 _ _ rfl w1.heap.size #[.slice a L.length ca, .slice b T.length cb] rfl rfl _ _ hZ1 (size_Alg _ _) rfl (one_sl2 _ _ _ _ _ _) ?_)
   | (refine wpList_store_row rfl 26 _ _ rfl (w1.heap.size + 1) #[.slice a2 M.length ca2, .slice b2 U.length cb2] rfl rfl _ _ hZ2 (size_Alg _ _) rfl (one_sl2 _ _ _ _ _ _) ?_)
   | (refine wpList_load_row_w rfl 26 _ rfl g rfl _ _ _ _ (KA.out _ z) Try.underlying26 rfl (size_Alg _ _) ?_)
   | (refine wpList_load_row_w rfl 26 _ rfl g' rfl _ _ _ _ (KB.out _ z) Try.underlying26 rfl (size_Alg _ _) ?_)
   | (go_at_call 7; refine (implIsMap_any _ _ _ _ L T _ _ _ _ M U _ _ F _ (KR.out _ z) (KT.out _ z) (KR2.out _ z) (KT2.out _ z) (KF.out _ z) f8).mono ?_; rw [hV]; rintro e wz ⟨rfl, hb⟩; replace z := z.trans (hb.mono z.size))
   | (go_at_call 8; refine (specIsMap_any _ _ _ _ L T _ _ _ _ M U _ _ F _ (KR.out _ z) (KT.out _ z) (KR2.out _ z) (KT2.out _ z) (KF.out _ z) f8).mono ?_; rw [hV]; rintro e wz ⟨rfl, hb⟩; replace z := z.trans (hb.mono z.size)))
   go_ret
   exact ⟨rfl, FIN.out _ z⟩
  | true =>
   have hMF := mapF_of hV
   have hl := hMF.len
   have hn : num F = F.length := rfl
   have hnl : num L = L.length := rfl
   obtain ⟨l1, l6, _⟩ := latB_parts (alg_lat hMF.a1)
   have f1 : 1 ≤ F.length := by omega
   have f6 : F.length ≤ 6 := by omega
   have HL := Lib.hid (show num L = F.length by omega)
   have HMF := Lib.hid hMF
   obtain ⟨fb, fo, rfl, _⟩ := (KF.out _ z) (fun e => by rw [e] at f1; simp at f1)
   have KC := Lib.hid (show ∀ wz, Below w2.heap.size w2 wz → Cells wz fb fo F from fun wz hz => by
    obtain ⟨b', o', e, hc⟩ := (KF.out _ hz) (fun e => by rw [e] at f1; simp at f1)
    simp only [Option.some.injEq, Addr.mk.injEq] at e
    rw [e.1, e.2.1]; exact hc)
   obtain ⟨kf, hkf⟩ : ∃ k, k = kerI L T M U F := ⟨_, rfl⟩
   have HK := Lib.hid (show ∀ w, Rd w a L → RdT w b T → Rd w a2 M → RdT w b2 U → Rd w (some ⟨fb, fo, none⟩) F → Calls Try.prog 12 #[.agg #[.slice a L.length ca, .slice b T.length cb], .agg #[.slice a2 M.length ca2, .slice b2 U.length cb2], .slice (some ⟨fb, fo, none⟩) F.length cf] w fun e w' => e = .returned (.int .i64 kf) ∧ Below w.heap.size w w' from fun w h1 h2 h3 h4 h5 => by rw [hkf]; exact implKernelOf_any _ _ _ _ L T _ _ _ _ M U _ _ F w h1 h2 h3 h4 h5 f8)
   have HI := Lib.hid (show ∀ w, Rd w a L → RdT w b T → Calls Try.prog 11 #[.agg #[.slice a L.length ca, .slice b T.length cb], .int .i64 kf] w fun e w' => e = .returned (.bool true) ∧ Below w.heap.size w w' from fun w h1 h2 => by
    have haf : afB L T kf = true := by
     rw [hkf]; unfold kerI afB; rw [hV, if_pos rfl, HMF.out.a1, HMF.out.fil]; rfl
    have := implIsFilter_any a b ca cb L T kf w h1 h2
    rw [haf] at this
    exact this)
   clear hkf hMF hl hn hnl l1 l6
   go_wp2_with (first
   | go_skip
   | (rw [← hwv]; clear hwv)
   | (rw [← hw2, ← hg', ← hg]; clear hw2 hg' hg)
   | (refine wpList_store_row rfl 26 _ _ rfl w1.heap.size #[.slice a L.length ca, .slice b T.length cb] rfl rfl _ _ hZ1 (size_Alg _ _) rfl (one_sl2 _ _ _ _ _ _) ?_)
   | (refine wpList_store_row rfl 26 _ _ rfl (w1.heap.size + 1) #[.slice a2 M.length ca2, .slice b2 U.length cb2] rfl rfl _ _ hZ2 (size_Alg _ _) rfl (one_sl2 _ _ _ _ _ _) ?_)
   | (refine wpList_load_row_w rfl 26 _ rfl g rfl _ _ _ _ (KA.out _ z) Try.underlying26 rfl (size_Alg _ _) ?_)
   | (refine wpList_load_row_w rfl 26 _ rfl g' rfl _ _ _ _ (KB.out _ z) Try.underlying26 rfl (size_Alg _ _) ?_)
   | (go_at_call 7; refine (implIsMap_any _ _ _ _ L T _ _ _ _ M U _ _ F _ (KR.out _ z) (KT.out _ z) (KR2.out _ z) (KT2.out _ z) (KF.out _ z) f8).mono ?_; rw [hV]; rintro e wz ⟨rfl, hb⟩; replace z := z.trans (hb.mono z.size))
   | (go_at_call 8; refine (specIsMap_any _ _ _ _ L T _ _ _ _ M U _ _ F _ (KR.out _ z) (KT.out _ z) (KR2.out _ z) (KT2.out _ z) (KF.out _ z) f8).mono ?_; rw [hV]; rintro e wz ⟨rfl, hb⟩; replace z := z.trans (hb.mono z.size)))
   clear hV
   go_loopw [7, 8] (fun xv _ wr => ∃ x : Int, 0 ≤ x ∧ x ≤ F.length ∧ xv = .int .i64 x ∧ Below w2.heap.size w2 wr) (fun xv _ _ => (7 - intOf xv).toNat)
   case atStart => exact ⟨0, by omega, by omega, rfl, z⟩
   case round =>
    clear z
    obtain ⟨x, x0, x1, rfl, z⟩ := hrel
    by_cases hx : x < F.length
    ·have hX : El L x := ⟨x0, by have := HL.out; omega⟩
     obtain ⟨fx, hfx⟩ : ∃ v, v = nth F x := ⟨_, rfl⟩
     have eX : El M fx := by rw [hfx]; exact HMF.out.el hX
     have Q1 := Lib.hid (show ∀ wz, Below w2.heap.size w2 wz → wz.cell? ⟨fb, fo + x.toNat, none⟩ = some (.int .i64 fx) from fun wz hz => by rw [hfx]; exact (KC.out _ hz).at x x0 hx)
     have HX := Lib.hid (And.intro hX (And.intro eX hfx))
     clear hX eX hfx
     go_wp2
     go_loopw [8] (fun yv wr => ∃ y : Int, 0 ≤ y ∧ y ≤ F.length ∧ yv = .int .i64 y ∧ Below w2.heap.size w2 wr) (fun yv _ => (7 - intOf yv).toNat)
     case atStart => exact ⟨0, by omega, by omega, rfl, z⟩
     case round =>
      clear z
      obtain ⟨y, y0, y1, rfl, z⟩ := hrel
      by_cases hy : y < F.length
      ·have hY : El L y := ⟨y0, by have := HL.out; omega⟩
       obtain ⟨hX, eX, hfx⟩ := HX.out
       obtain ⟨fy, hfy⟩ : ∃ v, v = nth F y := ⟨_, rfl⟩
       have eY : El M fy := by rw [hfy]; exact HMF.out.el hY
       obtain ⟨o, ho⟩ : ∃ v, v = nearI L T x y := ⟨_, rfl⟩
       obtain ⟨r, hrr⟩ : ∃ v, v = nth F o := ⟨_, rfl⟩
       have eo : El L o := by rw [ho]; exact nearI_el HMF.out.a1 x y
       have v2 : nearI M U fx fy = r := by rw [hrr, ho, hfx, hfy]; exact (HMF.out.near hX hY).symm
       have o0 : 0 ≤ o := eo.1
       have o1 : o < F.length := by have := HL.out; have := eo.2; omega
       have Q2 := Lib.hid (show ∀ wz, Below w2.heap.size w2 wz → wz.cell? ⟨fb, fo + y.toNat, none⟩ = some (.int .i64 fy) from fun wz hz => by rw [hfy]; exact (KC.out _ hz).at y y0 hy)
       have Q3 := Lib.hid (show ∀ wz, Below w2.heap.size w2 wz → wz.cell? ⟨fb, fo + o.toNat, none⟩ = some (.int .i64 r) from fun wz hz => by rw [hrr]; exact (KC.out _ hz).at o o0 o1)
       have HN1 := Lib.hid (show ∀ w, Rd w a L → RdT w b T → Calls Try.prog 9 #[.agg #[.slice a L.length ca, .slice b T.length cb], .int .i64 x, .int .i64 y] w fun e w' => e = .returned (.int .i64 o) ∧ Below w.heap.size w w' from fun w h1 h2 => by
        have := implNearOf_any a b ca cb L T x y w h1 h2
        rw [nearO_el HMF.out.a1 hX hY, ← ho] at this
        exact this)
       have HN2 := Lib.hid (show ∀ w, Rd w a2 M → RdT w b2 U → Calls Try.prog 9 #[.agg #[.slice a2 M.length ca2, .slice b2 U.length cb2], .int .i64 fx, .int .i64 fy] w fun e w' => e = .returned (.int .i64 r) ∧ Below w.heap.size w w' from fun w h1 h2 => by
        have := implNearOf_any a2 b2 ca2 cb2 M U fx fy w h1 h2
        rw [nearO_el HMF.out.a2 eX eY, v2] at this
        exact this)
       clear hX eX hfx hY eY hfy ho hrr eo v2
       go_upto_region 13 with fail
       refine wp_region_any (by kernel_rfl) ?_
       refine any_of_C (C := fun wz => Below w2.heap.size w2 wz) _ _ _ _ ?_
       replace z := z.trans (Dr.below ⟨1, rfl⟩ _)
       change wpAnyC _ _ _ _ _ _ _ _ (wr.drewN 1)
       obtain ⟨wd, hwd⟩ : ∃ x : World, x = wr.drewN 1 := ⟨_, rfl⟩
       rw [← hwd] at z ⊢
       clear hwd
       refine anyC_take (i:=0) (oi:=⟨_,_,_,_,_,_⟩) (v := .slice (some ⟨fb, fo, none⟩) F.length cf) rfl (by kernel_rfl) (by kernel_rfl) (by kernel_rfl) (fun _ _ _ h => h) (.inl ⟨by kernel_rfl, fun wz hz => by apply runs_moveM <;> rfl⟩) ?_; try simp only [Act.put, pS]
       refine anyC_take (i:=1) (oi:=⟨_,_,_,_,_,_⟩) (v := .agg #[.slice a L.length ca, .slice b T.length cb]) rfl (by kernel_rfl) (by kernel_rfl) (by kernel_rfl) (fun _ _ _ h => h) (.inl ⟨by kernel_rfl, fun wz hz => runs_load (C := fun wz => Below w2.heap.size w2 wz) 26 _ rfl g rfl _ _ _ _ (fun w hw => KA.out _ hw) Try.underlying26 rfl (size_Alg _ _) wz hz⟩) ?_; try simp only [Act.put, pS]
       refine anyC_take (i:=2) (oi:=⟨_,_,_,_,_,_⟩) (v := .int .i64 x) rfl (by kernel_rfl) (by kernel_rfl) (by kernel_rfl) (fun _ _ _ h => h) (.inl ⟨by kernel_rfl, fun wz hz => by apply runs_moveM <;> rfl⟩) ?_; try simp only [Act.put, pS]
       refine anyC_take (i:=3) (oi:=⟨_,_,_,_,_,_⟩) (v := .int .i64 y) rfl (by kernel_rfl) (by kernel_rfl) (by kernel_rfl) (fun _ _ _ h => h) (.inl ⟨by kernel_rfl, fun wz hz => by apply runs_moveM <;> rfl⟩) ?_; try simp only [Act.put, pS]
       refine anyC_take (i:=7) (oi:=⟨_,_,_,_,_,_⟩) (v := .agg #[.slice a2 M.length ca2, .slice b2 U.length cb2]) rfl (by kernel_rfl) (by kernel_rfl) (by kernel_rfl) (fun _ _ _ h => h) (.inl ⟨by kernel_rfl, fun wz hz => runs_load (C := fun wz => Below w2.heap.size w2 wz) 26 _ rfl g' rfl _ _ _ _ (fun w hw => KB.out _ hw) Try.underlying26 rfl (size_Alg _ _) wz hz⟩) ?_; try simp only [Act.put, pS]
       refine anyC_take (i:=8) (oi:=⟨_,_,_,_,_,_⟩) (v := .slice (some ⟨fb, fo, none⟩) F.length cf) rfl (by kernel_rfl) (by kernel_rfl) (by kernel_rfl) (fun _ _ _ h => h) (.inl ⟨by kernel_rfl, fun wz hz => by apply runs_moveM <;> rfl⟩) ?_; try simp only [Act.put, pS]
       refine anyC_take (i:=9) (oi:=⟨_,_,_,_,_,_⟩) (v := .int .i64 x) rfl (by kernel_rfl) (by kernel_rfl) (by kernel_rfl) (fun _ _ _ h => h) (.inl ⟨by kernel_rfl, fun wz hz => by apply runs_moveM <;> rfl⟩) ?_; try simp only [Act.put, pS]
       refine anyC_take (i:=10) (oi:=⟨_,_,_,_,_,_⟩) (v := .pointer (some ⟨fb, fo + x.toNat, none⟩)) rfl (by kernel_rfl) (by kernel_rfl) (by kernel_rfl) (fun _ _ _ h => h) (.inl ⟨by kernel_rfl, fun wz hz => by go_simp⟩) ?_; try simp only [Act.put, pS]
       refine anyC_take (i:=11) (oi:=⟨_,_,_,_,_,_⟩) (v := .int .i64 fx) rfl (by kernel_rfl) (by kernel_rfl) (by kernel_rfl) (fun _ _ _ h => h) (.inl ⟨by kernel_rfl, fun wz hz => by have c := Q1.out _ hz; go_simp⟩) ?_; try simp only [Act.put, pS]
       refine anyC_take (i:=12) (oi:=⟨_,_,_,_,_,_⟩) (v := .slice (some ⟨fb, fo, none⟩) F.length cf) rfl (by kernel_rfl) (by kernel_rfl) (by kernel_rfl) (fun _ _ _ h => h) (.inl ⟨by kernel_rfl, fun wz hz => by apply runs_moveM <;> rfl⟩) ?_; try simp only [Act.put, pS]
       refine anyC_take (i:=13) (oi:=⟨_,_,_,_,_,_⟩) (v := .int .i64 y) rfl (by kernel_rfl) (by kernel_rfl) (by kernel_rfl) (fun _ _ _ h => h) (.inl ⟨by kernel_rfl, fun wz hz => by apply runs_moveM <;> rfl⟩) ?_; try simp only [Act.put, pS]
       refine anyC_take (i:=14) (oi:=⟨_,_,_,_,_,_⟩) (v := .pointer (some ⟨fb, fo + y.toNat, none⟩)) rfl (by kernel_rfl) (by kernel_rfl) (by kernel_rfl) (fun _ _ _ h => h) (.inl ⟨by kernel_rfl, fun wz hz => by go_simp⟩) ?_; try simp only [Act.put, pS]
       refine anyC_take (i:=15) (oi:=⟨_,_,_,_,_,_⟩) (v := .int .i64 fy) rfl (by kernel_rfl) (by kernel_rfl) (by kernel_rfl) (fun _ _ _ h => h) (.inl ⟨by kernel_rfl, fun wz hz => by have c := Q2.out _ hz; go_simp⟩) ?_; try simp only [Act.put, pS]
       refine anyC_call (i := 4) (o := ⟨_, _, _, _, _, _⟩) (f := 9) (args := #[.agg #[.slice a L.length ca, .slice b T.length cb], .int .i64 x, .int .i64 y]) rfl (by kernel_rfl) (by kernel_rfl) (by apply runs_call3 (he := enters_of Try.func9 (by kernel_rfl) rfl) <;> rfl) z ?_
       refine (HN1.out _ (KR.out _ z) (KT.out _ z)).mono ?_
       rintro e wp ⟨rfl, hbc⟩
       replace z := z.trans (hbc.mono z.size)
       clear hbc
       refine ⟨_, rfl, ?_⟩
       try simp only [Act.put, pS]
       refine anyC_take (i:=5) (oi:=⟨_,_,_,_,_,_⟩) (v := .pointer (some ⟨fb, fo + o.toNat, none⟩)) rfl (by kernel_rfl) (by kernel_rfl) (by kernel_rfl) (fun _ _ _ h => h) (.inl ⟨by kernel_rfl, fun wz hz => by go_simp⟩) ?_; try simp only [Act.put, pS]
       refine anyC_take (i:=6) (oi:=⟨_,_,_,_,_,_⟩) (v := .int .i64 r) rfl (by kernel_rfl) (by kernel_rfl) (by kernel_rfl) (fun _ _ _ h => h) (.inl ⟨by kernel_rfl, fun wz hz => by have c := Q3.out _ hz; go_simp⟩) ?_; try simp only [Act.put, pS]
       refine anyC_call (i := 16) (o := ⟨_, _, _, _, _, _⟩) (f := 9) (args := #[.agg #[.slice a2 M.length ca2, .slice b2 U.length cb2], .int .i64 fx, .int .i64 fy]) rfl (by kernel_rfl) (by kernel_rfl) (by apply runs_call3 (he := enters_of Try.func9 (by kernel_rfl) rfl) <;> rfl) z ?_
       refine (HN2.out _ (KR2.out _ z) (KT2.out _ z)).mono ?_
       rintro e wq ⟨rfl, hbc⟩
       replace z := z.trans (hbc.mono z.size)
       clear hbc
       refine ⟨_, rfl, ?_⟩
       try simp only [Act.put, pS]
       refine anyC_take (i:=17) (oi:=⟨_,_,_,_,_,_⟩) (v := .bool (r != r)) rfl (by kernel_rfl) (by kernel_rfl) (by kernel_rfl) (fun _ _ _ h => h) (.inl ⟨by kernel_rfl, fun wz hz => by go_simp⟩) ?_; try simp only [Act.put, pS]
       refine anyC_done (by kernel_rfl) z ?_ _
       try simp only [Act.put, pS]
       have hrr : (r != r) = false := by simp
       go_wp2
       go_roundw
       case rel => exact ⟨y + 1, by omega, by omega, rfl, z⟩
       case measure => simp [intOf]; omega
      ·obtain ⟨hX, eX, hfx⟩ := HX.out
       obtain ⟨o, ho⟩ : ∃ v, v = imp L T x 0 := ⟨_, rfl⟩
       obtain ⟨r, hrr⟩ : ∃ v, v = nth F o := ⟨_, rfl⟩
       have eb : El L 0 := ⟨by omega, by have := HL.out; omega⟩
       have eb2 : El M 0 := by have := HMF.out.el eb; rwa [HMF.out.bot] at this
       have eo : El L o := by rw [ho]; exact imp_el HMF.out.a1 x 0
       have v2 : imp M U fx 0 = r := by rw [hrr, ho, hfx, HMF.out.imp x 0 hX eb, HMF.out.bot]
       have o0 : 0 ≤ o := eo.1
       have o1 : o < F.length := by have := HL.out; have := eo.2; omega
       have Q3 := Lib.hid (show ∀ wz, Below w2.heap.size w2 wz → wz.cell? ⟨fb, fo + o.toNat, none⟩ = some (.int .i64 r) from fun wz hz => by rw [hrr]; exact (KC.out _ hz).at o o0 o1)
       have HO1 := Lib.hid (show ∀ w, Rd w a L → RdT w b T → Calls Try.prog 10 #[.agg #[.slice a L.length ca, .slice b T.length cb], .int .i64 x] w fun e w' => e = .returned (.int .i64 o) ∧ Below w.heap.size w w' from fun w h1 h2 => by
        have := implNotOf_any a b ca cb L T x w h1 h2
        rw [notI_elM HMF.out.a1 hX, ← ho] at this
        exact this)
       have HO2 := Lib.hid (show ∀ w, Rd w a2 M → RdT w b2 U → Calls Try.prog 10 #[.agg #[.slice a2 M.length ca2, .slice b2 U.length cb2], .int .i64 fx] w fun e w' => e = .returned (.int .i64 r) ∧ Below w.heap.size w w' from fun w h1 h2 => by
        have := implNotOf_any a2 b2 ca2 cb2 M U fx w h1 h2
        rw [notI_elM HMF.out.a2 eX, v2] at this
        exact this)
       clear hX eX hfx ho hrr eb eb2 eo v2
       go_upto_region 15 with fail
       refine wp_region_any (by kernel_rfl) ?_
       refine any_of_C (C := fun wz => Below w2.heap.size w2 wz) _ _ _ _ ?_
       replace z := z.trans (Dr.below ⟨1, rfl⟩ _)
       change wpAnyC _ _ _ _ _ _ _ _ (wr.drewN 1)
       obtain ⟨wd, hwd⟩ : ∃ x : World, x = wr.drewN 1 := ⟨_, rfl⟩
       rw [← hwd] at z ⊢
       clear hwd
       refine anyC_take (i:=0) (oi:=⟨_,_,_,_,_,_⟩) (v := .slice (some ⟨fb, fo, none⟩) F.length cf) rfl (by kernel_rfl) (by kernel_rfl) (by kernel_rfl) (fun _ _ _ h => h) (.inl ⟨by kernel_rfl, fun wz hz => by apply runs_moveM <;> rfl⟩) ?_; try simp only [Act.put, pS]
       refine anyC_take (i:=1) (oi:=⟨_,_,_,_,_,_⟩) (v := .agg #[.slice a L.length ca, .slice b T.length cb]) rfl (by kernel_rfl) (by kernel_rfl) (by kernel_rfl) (fun _ _ _ h => h) (.inl ⟨by kernel_rfl, fun wz hz => runs_load (C := fun wz => Below w2.heap.size w2 wz) 26 _ rfl g rfl _ _ _ _ (fun w hw => KA.out _ hw) Try.underlying26 rfl (size_Alg _ _) wz hz⟩) ?_; try simp only [Act.put, pS]
       refine anyC_take (i:=2) (oi:=⟨_,_,_,_,_,_⟩) (v := .int .i64 x) rfl (by kernel_rfl) (by kernel_rfl) (by kernel_rfl) (fun _ _ _ h => h) (.inl ⟨by kernel_rfl, fun wz hz => by apply runs_moveM <;> rfl⟩) ?_; try simp only [Act.put, pS]
       refine anyC_take (i:=6) (oi:=⟨_,_,_,_,_,_⟩) (v := .agg #[.slice a2 M.length ca2, .slice b2 U.length cb2]) rfl (by kernel_rfl) (by kernel_rfl) (by kernel_rfl) (fun _ _ _ h => h) (.inl ⟨by kernel_rfl, fun wz hz => runs_load (C := fun wz => Below w2.heap.size w2 wz) 26 _ rfl g' rfl _ _ _ _ (fun w hw => KB.out _ hw) Try.underlying26 rfl (size_Alg _ _) wz hz⟩) ?_; try simp only [Act.put, pS]
       refine anyC_take (i:=7) (oi:=⟨_,_,_,_,_,_⟩) (v := .slice (some ⟨fb, fo, none⟩) F.length cf) rfl (by kernel_rfl) (by kernel_rfl) (by kernel_rfl) (fun _ _ _ h => h) (.inl ⟨by kernel_rfl, fun wz hz => by apply runs_moveM <;> rfl⟩) ?_; try simp only [Act.put, pS]
       refine anyC_take (i:=8) (oi:=⟨_,_,_,_,_,_⟩) (v := .int .i64 x) rfl (by kernel_rfl) (by kernel_rfl) (by kernel_rfl) (fun _ _ _ h => h) (.inl ⟨by kernel_rfl, fun wz hz => by apply runs_moveM <;> rfl⟩) ?_; try simp only [Act.put, pS]
       refine anyC_take (i:=9) (oi:=⟨_,_,_,_,_,_⟩) (v := .pointer (some ⟨fb, fo + x.toNat, none⟩)) rfl (by kernel_rfl) (by kernel_rfl) (by kernel_rfl) (fun _ _ _ h => h) (.inl ⟨by kernel_rfl, fun wz hz => by go_simp⟩) ?_; try simp only [Act.put, pS]
       refine anyC_take (i:=10) (oi:=⟨_,_,_,_,_,_⟩) (v := .int .i64 fx) rfl (by kernel_rfl) (by kernel_rfl) (by kernel_rfl) (fun _ _ _ h => h) (.inl ⟨by kernel_rfl, fun wz hz => by have c := Q1.out _ hz; go_simp⟩) ?_; try simp only [Act.put, pS]
       refine anyC_call (i := 3) (o := ⟨_, _, _, _, _, _⟩) (f := 10) (args := #[.agg #[.slice a L.length ca, .slice b T.length cb], .int .i64 x]) rfl (by kernel_rfl) (by kernel_rfl) (by apply runs_call2 (he := enters_of Try.func10 (by kernel_rfl) rfl) <;> rfl) z ?_
       refine (HO1.out _ (KR.out _ z) (KT.out _ z)).mono ?_
       rintro e wp ⟨rfl, hbc⟩
       replace z := z.trans (hbc.mono z.size)
       clear hbc
       refine ⟨_, rfl, ?_⟩
       try simp only [Act.put, pS]
       refine anyC_take (i:=4) (oi:=⟨_,_,_,_,_,_⟩) (v := .pointer (some ⟨fb, fo + o.toNat, none⟩)) rfl (by kernel_rfl) (by kernel_rfl) (by kernel_rfl) (fun _ _ _ h => h) (.inl ⟨by kernel_rfl, fun wz hz => by go_simp⟩) ?_; try simp only [Act.put, pS]
       refine anyC_take (i:=5) (oi:=⟨_,_,_,_,_,_⟩) (v := .int .i64 r) rfl (by kernel_rfl) (by kernel_rfl) (by kernel_rfl) (fun _ _ _ h => h) (.inl ⟨by kernel_rfl, fun wz hz => by have c := Q3.out _ hz; go_simp⟩) ?_; try simp only [Act.put, pS]
       refine anyC_call (i := 11) (o := ⟨_, _, _, _, _, _⟩) (f := 10) (args := #[.agg #[.slice a2 M.length ca2, .slice b2 U.length cb2], .int .i64 fx]) rfl (by kernel_rfl) (by kernel_rfl) (by apply runs_call2 (he := enters_of Try.func10 (by kernel_rfl) rfl) <;> rfl) z ?_
       refine (HO2.out _ (KR2.out _ z) (KT2.out _ z)).mono ?_
       rintro e wq ⟨rfl, hbc⟩
       replace z := z.trans (hbc.mono z.size)
       clear hbc
       refine ⟨_, rfl, ?_⟩
       try simp only [Act.put, pS]
       refine anyC_take (i:=12) (oi:=⟨_,_,_,_,_,_⟩) (v := .bool (r != r)) rfl (by kernel_rfl) (by kernel_rfl) (by kernel_rfl) (fun _ _ _ h => h) (.inl ⟨by kernel_rfl, fun wz hz => by go_simp⟩) ?_; try simp only [Act.put, pS]
       refine anyC_done (by kernel_rfl) z ?_ _
       try simp only [Act.put, pS]
       have hrr : (r != r) = false := by simp
       go_wp2
       go_roundw
       case rel => exact ⟨x + 1, by omega, by omega, rfl, z⟩
       case measure => simp [intOf]; omega
    ·go_upto_region 17 with fail
     refine wp_region_any (by kernel_rfl) ?_
     refine any_of_C (C := fun wz => Below w2.heap.size w2 wz) _ _ _ _ ?_
     replace z := z.trans (Dr.below ⟨1, rfl⟩ _)
     change wpAnyC _ _ _ _ _ _ _ _ (wr.drewN 1)
     obtain ⟨wd, hwd⟩ : ∃ x : World, x = wr.drewN 1 := ⟨_, rfl⟩
     rw [← hwd] at z ⊢
     clear hwd
     refine anyC_take (i:=0) (oi:=⟨_,_,_,_,_,_⟩) (v := .agg #[.slice a L.length ca, .slice b T.length cb]) rfl (by kernel_rfl) (by kernel_rfl) (by kernel_rfl) (fun _ _ _ h => h) (.inl ⟨by kernel_rfl, fun wz hz => runs_load (C := fun wz => Below w2.heap.size w2 wz) 26 _ rfl g rfl _ _ _ _ (fun w hw => KA.out _ hw) Try.underlying26 rfl (size_Alg _ _) wz hz⟩) ?_; try simp only [Act.put, pS]
     refine anyC_take (i:=1) (oi:=⟨_,_,_,_,_,_⟩) (v := .agg #[.slice a L.length ca, .slice b T.length cb]) rfl (by kernel_rfl) (by kernel_rfl) (by kernel_rfl) (fun _ _ _ h => h) (.inl ⟨by kernel_rfl, fun wz hz => runs_load (C := fun wz => Below w2.heap.size w2 wz) 26 _ rfl g rfl _ _ _ _ (fun w hw => KA.out _ hw) Try.underlying26 rfl (size_Alg _ _) wz hz⟩) ?_; try simp only [Act.put, pS]
     refine anyC_take (i:=2) (oi:=⟨_,_,_,_,_,_⟩) (v := .agg #[.slice a2 M.length ca2, .slice b2 U.length cb2]) rfl (by kernel_rfl) (by kernel_rfl) (by kernel_rfl) (fun _ _ _ h => h) (.inl ⟨by kernel_rfl, fun wz hz => runs_load (C := fun wz => Below w2.heap.size w2 wz) 26 _ rfl g' rfl _ _ _ _ (fun w hw => KB.out _ hw) Try.underlying26 rfl (size_Alg _ _) wz hz⟩) ?_; try simp only [Act.put, pS]
     refine anyC_take (i:=3) (oi:=⟨_,_,_,_,_,_⟩) (v := .slice (some ⟨fb, fo, none⟩) F.length cf) rfl (by kernel_rfl) (by kernel_rfl) (by kernel_rfl) (fun _ _ _ h => h) (.inl ⟨by kernel_rfl, fun wz hz => by apply runs_moveM <;> rfl⟩) ?_; try simp only [Act.put, pS]
     refine anyC_call (i := 4) (o := ⟨_, _, _, _, _, _⟩) (f := 12) (args := #[.agg #[.slice a L.length ca, .slice b T.length cb], .agg #[.slice a2 M.length ca2, .slice b2 U.length cb2], .slice (some ⟨fb, fo, none⟩) F.length cf]) rfl (by kernel_rfl) (by kernel_rfl) (by apply runs_call3 (he := enters_of Try.func12 (by kernel_rfl) rfl) <;> rfl) z ?_
     refine (HK.out _ (KR.out _ z) (KT.out _ z) (KR2.out _ z) (KT2.out _ z) (KF.out _ z)).mono ?_
     rintro e wp ⟨rfl, hbc⟩
     replace z := z.trans (hbc.mono z.size)
     clear hbc
     refine ⟨_, rfl, ?_⟩
     try simp only [Act.put, pS]
     refine anyC_call (i := 5) (o := ⟨_, _, _, _, _, _⟩) (f := 11) (args := #[.agg #[.slice a L.length ca, .slice b T.length cb], .int .i64 kf]) rfl (by kernel_rfl) (by kernel_rfl) (by apply runs_call2 (he := enters_of Try.func11 (by kernel_rfl) rfl) <;> rfl) z ?_
     refine (HI.out _ (KR.out _ z) (KT.out _ z)).mono ?_
     rintro e wq ⟨rfl, hbc⟩
     replace z := z.trans (hbc.mono z.size)
     clear hbc
     refine ⟨_, rfl, ?_⟩
     try simp only [Act.put, pS]
     refine anyC_law (i := 6) rfl (by kernel_rfl) z ?_
     go_wp2_with fail
     try simp only [Act.put, pS]
     refine anyC_done (by kernel_rfl) z ?_ _
     try simp only [Act.put, pS]
     go_wp2
     go_ret
     exact ⟨rfl, FIN.out _ z⟩
end Go.Proofs.Ytljnbhnnjfnjeaa
