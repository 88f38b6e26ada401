import Derived.Test.YtljnbhnnjfnjeaaMF2
import Derived.Test.YtljnbhnnjfnjeaaMG1
import Derived.Test.YtljnbhnnjfnjeaaSL0
import Derived.Test.YtljnbhnnjfnjeaaQU4
import Derived.Test.YtljnbhnnjfnjeaaN7
import Derived.Test.YtljnbhnnjfnjeaaPY
import Derived.Deep.DeepCutAuto
import Derived.Deep.CutBlock
namespace Go.Proofs.Ytljnbhnnjfnjeaa
open Go.RowKit
set_option linter.unusedVariables false

theorem pS {α : Type _} : (∀ (l : List α) (i : Nat) (a : α), l.toArray.setIfInBounds i a = (l.set i a).toArray) ∧ (∀ (x y : α) (l : List α), (x :: l).set 0 y = y :: l) ∧ (∀ (x y : α) (l : List α) (i : Nat), (x :: l).set (i + 1) y = x :: l.set i y) := by simp
theorem grown_dr0g (w : World) (n g : Nat) : w.grownBy (w.drewN n) (some g) := grown_of_below (Dr.below ⟨n, rfl⟩ _)
theorem rowAt_memR {T : List (List Int)} {j : Nat} (h : j < T.length) : rowAt T (j : Int) ∈ T := by
 unfold rowAt
 simp [List.getD_eq_getElem?_getD, List.getElem?_eq_getElem h]
theorem results_AAt {fn : Func} {p q u : Tmp} (h : fn.results = #[.cell p 26, .cell q 26, .tmp u]) (tmps : Array Value) (w : World) (g g2 : Nat) (hp : tmps.getD p undef = .pointer (some ⟨g, 0, none⟩)) (hq : tmps.getD q undef = .pointer (some ⟨g2, 0, none⟩))
  (s t s2 t2 : Value) {v : Value} (hg : w.heap[g]? = some (.cells #[s, t] 26 (0, 0))) (hg2 : w.heap[g2]? = some (.cells #[s2, t2] 26 (0, 0))) (hu : tmps.getD u undef = v) :
  (results fn tmps).run Try.prog w = .ok (.tuple #[.agg #[s, t], .agg #[s2, t2], v]) w := by
 have hp' : tmps[p]?.getD undef = .pointer (some ⟨g, 0, none⟩) := by simpa using hp
 have hq' : tmps[q]?.getD undef = .pointer (some ⟨g2, 0, none⟩) := by simpa using hq
 have hu' : tmps[u]?.getD undef = v := by simpa using hu
 have hl := run_loadVar_row (P := Try.prog) w g _ 26 _ _ _ hg Try.underlying26 rfl (size_Alg _ _)
 have hl2 := run_loadVar_row (P := Try.prog) w g2 _ 26 _ _ _ hg2 Try.underlying26 rfl (size_Alg _ _)
 simp [results, h, hp', hq', hu', asAddr, hl, hl2]
theorem two_stored {C g : Nat} {m : Int} {w wv : World} (hr : Rdr wv C g m) (gl : g < w.heap.size) (gw : w.grownBy wv (some g)) (A B : Array Value) (zA : wv.heap[w.heap.size]? = some (.cells #[.slice none 0 0, .slice none 0 0] 26 (0, 0))) (zB : wv.heap[w.heap.size + 1]? = some (.cells #[.slice none 0 0, .slice none 0 0] 26 (0, 0))) :
  Kp wv ((wv.setRow w.heap.size A).setRow (w.heap.size + 1) B) ∧ w.grownBy ((wv.setRow w.heap.size A).setRow (w.heap.size + 1) B) (some g) ∧ Rdr ((wv.setRow w.heap.size A).setRow (w.heap.size + 1) B) C g m ∧
   ((wv.setRow w.heap.size A).setRow (w.heap.size + 1) B).heap[w.heap.size]? = some (.cells A 26 (0, 0)) ∧ ((wv.setRow w.heap.size A).setRow (w.heap.size + 1) B).heap[w.heap.size + 1]? = some (.cells B 26 (0, 0)) ∧
   (wv.setRow w.heap.size A).heap[w.heap.size + 1]? = some (.cells #[.slice none 0 0, .slice none 0 0] 26 (0, 0)) ∧ ∀ k : Nat, k ≠ w.heap.size → k ≠ w.heap.size + 1 → ((wv.setRow w.heap.size A).setRow (w.heap.size + 1) B).heap[k]? = wv.heap[k]? := by
 have hz1 : (wv.setRow w.heap.size A).heap[w.heap.size + 1]? = some (.cells #[.slice none 0 0, .slice none 0 0] 26 (0, 0)) := (setRow_other wv _ _ _ (by omega)).trans zB
 have k1 : Kp wv (wv.setRow w.heap.size A) := kp_row zA (fun k hk => setRow_other wv _ k _ hk)
 have k2 : Kp (wv.setRow w.heap.size A) ((wv.setRow w.heap.size A).setRow (w.heap.size + 1) B) := kp_row hz1 (fun k hk => setRow_other _ _ k _ hk)
 exact ⟨k1.trans k2, grown_setRow (grown_setRow gw (Nat.le_refl _) _) (by omega) _, (hr.setRow gl _).setRow (by omega) _, (setRow_other _ _ _ _ (by omega)).trans (setRow_heap _ _ _ _ _ _ zA), setRow_heap _ _ _ _ _ _ hz1, hz1, fun k h1 h2 => (setRow_other _ _ k _ h2).trans (setRow_other _ _ k _ h1)⟩
/-- two algebras (or what is left of them) and a list are handed back -/
def RetMp (C g : Nat) (m : Int) (w : World) (e : Ending) (w' : World) : Prop := ∃ (L M F : List Int) (T U : List (List Int)) (a b a2 b2 f : Option Addr) (ca cb ca2 cb2 cf : Nat), e = .returned (.tuple #[.agg #[.slice a L.length ca, .slice b T.length cb], .agg #[.slice a2 M.length ca2, .slice b2 U.length cb2], .slice f F.length cf]) ∧ F.length ≤ 7 ∧ RY w' a L ∧ TY w' b T ∧ RY w' a2 M ∧ TY w' b2 U ∧ RY w' f F ∧ w.grownBy w' (some g) ∧ Rdr w' C g m
set_option maxRecDepth 100000 in
set_option maxHeartbeats 16000000 in
/-- spec.mapOf -/
theorem mapOf_any (C g : Nat) (m : Int) (w : World) (hr : Rdr w C g m) (m1 : m ≤ 50000) :
  Calls Try.prog 22 #[.pointer (some ⟨g, 0, none⟩)] w (RetMp C g (m + 60) w) := by
 have gl := hr.lt
 obtain ⟨w0, hw0⟩ : ∃ w0, w0 = (w.alloc (.cells #[.slice none 0 0, .slice none 0 0] 26)).alloc (.cells #[.slice none 0 0, .slice none 0 0] 26) := ⟨_, rfl⟩
 have hB0 : Below w.heap.size w w0 := by rw [hw0]; exact ((Below.refl _ _).alloc (Nat.le_refl _) _).alloc (by simp) _
 have zA0 : w0.heap[w.heap.size]? = some (.cells #[.slice none 0 0, .slice none 0 0] 26 (0, 0)) := by rw [hw0, Below.heap_alloc _ _ _ (by simp)]; exact heap_alloc_new w _
 have zB0 : w0.heap[w.heap.size + 1]? = some (.cells #[.slice none 0 0, .slice none 0 0] 26 (0, 0)) := by rw [hw0]; exact heap_alloc2_new _ _ _
 have hr0 := hr.below hB0
 have hg0 : w.grownBy w0 (some g) := grown_of_below hB0
 clear hr
 go_enter Try.func22, Try.ntmps22
 go_wp2_with (rw [← hw0]; clear hw0)
 refine (goodAlgebra_any C g m w0 hr0 (by omega)).mono ?_
 rintro e w1 ⟨L, T, a0, ca, b0, cb, rfl, hGd, ho, hT0, hg1, hr1⟩
 obtain ⟨l1, l6, tl, rl⟩ := gd_len hGd
 have TL := Lib.hid tl
 have RL := Lib.hid rl
 clear tl rl
 have hal := hGd.alg
 obtain ⟨hV1, hVM⟩ := mg_fact hGd
 have hV64 := fls_len L T (show num L ≤ 6 from by unfold num; omega)
 have ry1 := ry_of ho
 have ty1 := ty_of hT0
 have zA1 := box_drawn zA0 (by omega) hg1
 have zB1 := box_drawn zB0 (by omega) hg1
 have hgw := grown_trans hg0 hg1
 have s1 := hgw.size
 have s0 := lt_of_block zB1
 have gl1 := hr1.lt
 clear ho hT0 hg0 hg1 zA0 zB0 hr0
 have HGD := Lib.hid hGd
 have HAL := Lib.hid hal
 have HVM0 := Lib.hid hVM
 obtain ⟨V, hV⟩ : ∃ V, V = fls L T := ⟨_, rfl⟩
 rw [← hV] at hV1 hV64 HVM0
 have HVM := Lib.hid (show ∀ k : Int, 0 ≤ k → k < V.length → afB L T (nth V k) = true ∧ algB (upL (quG L T (nth V k)) ((quW L T (nth V k)).length : Int)) (tabL (quM L T (nth V k)) ((quW L T (nth V k)).length : Int)) = true ∧ (quT L T (nth V k)).length = L.length from fun k k0 k1 => HVM0.out _ (nth_mem' V k0 k1))
 have HFI := Lib.hid (show ∀ w, Rd w a0 L → RdT w b0 T → Calls Try.prog 49 #[.agg #[.slice a0 L.length ca, .slice b0 T.length cb]] w (RetSl w.heap.size V w) from fun w h1 h2 => by rw [hV]; exact specFilters_any a0 b0 ca cb L T w h1 h2 HAL.out)
 clear hV hGd hal hVM HVM0
 go_upto_region 3 with (first
  | (refine wpList_store_row rfl 26 _ _ rfl w1.heap.size #[.slice a0 L.length ca, .slice b0 T.length cb] rfl rfl _ _ (heap_alloc_new w1 (.cells #[.slice none 0 0, .slice none 0 0] 26)) (size_Alg _ _) rfl (one_sl2 _ _ _ _ _ _) ?_; rw [World.setRow_alloc_new]; obtain ⟨g5, hg5⟩ : ∃ b, b = w1.heap.size := ⟨_, rfl⟩; obtain ⟨w2, hw2⟩ : ∃ x, x = w1.alloc (.cells #[.slice a0 L.length ca, .slice b0 T.length cb] 26) := ⟨_, rfl⟩; rw [← hw2, ← hg5]; have hb2 : Below w1.heap.size w1 w2 := (by rw [hw2]; exact (Below.refl _ _).alloc (Nat.le_refl _) _); have x5 : w2.heap[g5]? = some (.cells #[.slice a0 L.length ca, .slice b0 T.length cb] 26 (0, 0)) := (by rw [hw2, hg5]; exact heap_alloc_new w1 _); have g5g : g < g5 := (by omega); have g5z : w.heap.size + 1 < g5 := (by omega); clear hw2 hg5)
  | (refine wpList_load_row_w rfl 26 _ rfl g5 rfl _ _ _ _ x5 Try.underlying26 rfl (size_Alg _ _) ?_)
  | (go_at_call 49; refine (HFI.out w2 (ry1.kp (kp_below hb2)).rd (ty1.kp (kp_below hb2)).rd).mono ?_; rintro e w3 ⟨la, lc, rfl, hlo, hb3⟩))
 have hb23 : Below w1.heap.size w1 w3 := hb2.trans (hb3.mono hb2.size)
 have hr3 := hr1.below hb23
 have hgw3 := grown_new hgw hb23
 have K5 := Lib.hid (show ∀ wz, w3.grownBy wz (some g) → wz.heap[g5]? = some (.cells #[.slice a0 L.length ca, .slice b0 T.length cb] 26 (0, 0)) from fun wz hz => box_drawn ((hb3.block _ (lt_of_block x5)).trans x5) (by omega) hz)
 have KZ := Lib.hid (show ∀ wz, w3.grownBy wz (some g) → wz.heap[w.heap.size]? = some (.cells #[.slice none 0 0, .slice none 0 0] 26 (0, 0)) ∧ wz.heap[w.heap.size + 1]? = some (.cells #[.slice none 0 0, .slice none 0 0] 26 (0, 0)) from fun wz hz => ⟨box_drawn ((hb23.block _ (lt_of_block zA1)).trans zA1) (by omega) hz, box_drawn ((hb23.block _ (lt_of_block zB1)).trans zB1) (by omega) hz⟩)
 have KRY := Lib.hid (show ∀ wz, w3.grownBy wz (some g) → RY wz a0 L ∧ TY wz b0 T from fun wz hz => ⟨(ry1.kp (kp_below hb23)).kp (kp_drawn hr3 hz), (ty1.kp (kp_below hb23)).kp (kp_drawn hr3 hz)⟩)
 have KRT := Lib.hid (show ∀ wz, w3.grownBy wz (some g) → Rd wz a0 L ∧ RdT wz b0 T from fun wz hz => ⟨(KRY.out wz hz).1.rd, (KRY.out wz hz).2.rd⟩)
 have ryV := ry_of hlo
 obtain ⟨vb, vo, vc, rfl, hvb, hvc⟩ := ryV (fun e => by rw [e] at hV1; simp at hV1)
 have KV := Lib.hid (show ∀ wz, w3.grownBy wz (some g) → ∀ k : Int, 0 ≤ k → k < V.length → wz.cell? ⟨vb, vo + k.toNat, none⟩ = some (.int .i64 (nth V k)) from fun wz hz k k0 k1 => by
  obtain ⟨b', o', c', e, _, hc⟩ := ((ry_of hlo).kp (kp_drawn hr3 hz)) (fun e => by rw [e] at hV1; simp at hV1)
  simp only [Option.some.injEq, Addr.mk.injEq] at e
  rw [e.1, e.2.1]; exact hc.at k k0 k1)
 have gl3 := hr3.lt
 have v64 : (V.length : Int) ≤ 64 := by omega
 have v1 : (1 : Int) ≤ V.length := by omega
 clear ryV hvb hvc hlo ry1 ty1 zA1 zB1 x5 hb2 hb3 hb23 hr1 hgw HFI
 go_cut [7, 8] (fun sg sf wx => ∃ (M : List Int) (U : List (List Int)) (F : List Int) (qa : Option Addr) (qc : Nat) (qb : Option Addr) (qd : Nat) (qs : Option Addr) (qq g7 : Nat), sg = .pointer (some ⟨g7, 0, none⟩) ∧ sf = .slice qs F.length qq ∧ algB M U = true ∧ F.length = L.length ∧ F.length ≤ qq ∧ w3.grownBy wx (some g) ∧ Rdr wx C g (m + 7 + 1) ∧ w3.heap.size ≤ g7 ∧ wx.heap[g7]? = some (.cells #[.slice qa M.length qc, .slice qb U.length qd] 26 (0, 0)) ∧ RY wx qa M ∧ TY wx qb U ∧ RY wx qs F)
 case first =>
  refine wp_region_any (by kernel_rfl) ?_
  refine any_of_C (C := fun wz => w3.grownBy wz (some g)) _ _ _ _ ?_
  refine anyC_take (i:=0) (oi:=⟨_,_,_,_,_,_⟩) (v := .agg #[.slice a0 L.length ca, .slice b0 T.length cb]) rfl (by kernel_rfl) (by kernel_rfl) (by kernel_rfl) (fun _ _ _ h => h) (.inl ⟨by kernel_rfl, fun wz hz => runs_load (C := fun wz => w3.grownBy wz (some g)) 26 _ rfl g5 rfl _ _ _ _ (fun w hw => K5.out _ hw) Try.underlying26 rfl (size_Alg _ _) wz hz⟩) ?_; try simp only [Act.put, pS]
  refine anyC_take (i:=1) (oi:=⟨_,_,_,_,_,_⟩) (v := .slice (some ⟨vb, vo, none⟩) V.length lc) rfl (by kernel_rfl) (by kernel_rfl) (by kernel_rfl) (fun _ _ _ h => h) (.inl ⟨by kernel_rfl, fun wz hz => by apply runs_moveM <;> rfl⟩) ?_; try simp only [Act.put, pS]
  refine anyC_take (i:=2) (oi:=⟨_,_,_,_,_,_⟩) (v := .pointer (some ⟨g, 0, none⟩)) rfl (by kernel_rfl) (by kernel_rfl) (by kernel_rfl) (fun _ _ _ h => h) (.inl ⟨by kernel_rfl, fun wz hz => by apply runs_moveM <;> rfl⟩) ?_; try simp only [Act.put, pS]
  refine anyC_take (i:=3) (oi:=⟨_,_,_,_,_,_⟩) (v := .slice (some ⟨vb, vo, none⟩) V.length lc) rfl (by kernel_rfl) (by kernel_rfl) (by kernel_rfl) (fun _ _ _ h => h) (.inl ⟨by kernel_rfl, fun wz hz => by apply runs_moveM <;> rfl⟩) ?_; try simp only [Act.put, pS]
  refine anyC_take (i:=4) (oi:=⟨_,_,_,_,_,_⟩) (v := .int .i64 (V.length : Int)) rfl (by kernel_rfl) (by kernel_rfl) (by kernel_rfl) (fun _ _ _ h => h) (.inl ⟨by kernel_rfl, fun wz hz => by go_simp⟩) ?_; try simp only [Act.put, pS]
  have zd : w3.grownBy (w3.drewN 1) (some g) := grown_dr0g w3 1 g
  have hrd : Rdr (w3.drewN 1) C g (m + 7) := hr3.below (Dr.below ⟨1, rfl⟩ _)
  have szd : w3.heap.size ≤ (w3.drewN 1).heap.size := zd.size
  change wpAnyC _ _ _ _ _ _ _ _ (w3.drewN 1)
  obtain ⟨wd, hwd⟩ : ∃ x : World, x = w3.drewN 1 := ⟨_, rfl⟩
  rw [← hwd] at zd hrd szd ⊢
  clear hwd
  refine anyC_two (i := 5) (j := 12) (f := 51) (args := #[.pointer (some ⟨g, 0, none⟩), .int .i64 (V.length : Int)]) rfl rfl (by kernel_rfl) rfl (by apply runs_call2 (he := enters_of Try.func51 (by kernel_rfl) rfl) <;> rfl) zd ?_ ?_
  ·refine (pick_any C g (m + 7) V.length wd hrd (by omega) (by omega) (by omega)).mono ?_
   rintro e wp ⟨k, rfl, k0, k1, hgp, hrp⟩
   refine ⟨_, rfl, ?_⟩
   try simp only [Act.put, pS]
   have zp := grown_trans zd hgp
   have szp : w3.heap.size ≤ wp.heap.size := zp.size
   refine anyC_take (i:=6) (oi:=⟨_,_,_,_,_,_⟩) (v := .pointer (some ⟨vb, vo + k.toNat, none⟩)) rfl (by kernel_rfl) (by kernel_rfl) (by kernel_rfl) (fun _ _ _ h => h) (.inl ⟨by kernel_rfl, fun wz hz => by go_simp⟩) ?_; try simp only [Act.put]
   obtain ⟨f, hf⟩ : ∃ f, f = nth V k := ⟨_, rfl⟩
   have hFC := HVM.out k k0 k1
   rw [← hf] at hFC
   obtain ⟨haf, hMU, hqT⟩ := hFC
   have KF := Lib.hid (show ∀ wz, w3.grownBy wz (some g) → wz.cell? ⟨vb, vo + k.toNat, none⟩ = some (.int .i64 f) from fun wz hz => by rw [hf]; exact KV.out wz hz k k0 k1)
   clear hf
   refine anyC_take (i:=7) (oi:=⟨_,_,_,_,_,_⟩) (v := .int .i64 f) rfl (by kernel_rfl) (by kernel_rfl) (by kernel_rfl) (fun _ _ _ h => h) (.inl ⟨by kernel_rfl, fun wz hz => by have c := KF.out _ hz; go_simp⟩) ?_; try simp only [Act.put]
   refine anyC_two (i := 8) (j := 12) (f := 50) (args := #[.agg #[.slice a0 L.length ca, .slice b0 T.length cb], .int .i64 f]) rfl rfl (by kernel_rfl) rfl (by apply runs_call2 (he := enters_of Try.func50 (by kernel_rfl) rfl) <;> rfl) zp ?_ ?_
   ·refine (specQuotientS_any a0 b0 ca cb L T f wp (KRT.out _ zp).1 (KRT.out _ zp).2 haf).mono ?_
    rintro e wq ⟨qa, qc, qb, qd, qs, qq, rfl, ho4, hr4, hs4, hb4⟩
    refine ⟨_, rfl, ?_⟩
    try simp only [Act.put]
    obtain ⟨M, hM⟩ : ∃ M, M = upL (quG L T f) ((quW L T f).length : Int) := ⟨_, rfl⟩
    obtain ⟨U, hU⟩ : ∃ U, U = tabL (quM L T f) ((quW L T f).length : Int) := ⟨_, rfl⟩
    obtain ⟨F, hF⟩ : ∃ F, F = quT L T f := ⟨_, rfl⟩
    rw [← hM, ← hU] at hMU
    rw [← hF] at hqT
    have HQT := Lib.hid hqT
    clear hqT
    rw [← hM] at ho4
    rw [← hU] at hr4
    rw [← hF] at hs4
    rw [← hM, ← hU, ← hF]
    clear hM hU hF
    have sy := ry_of ho4
    have ty := ty_of hr4
    have fy := ry_of hs4
    have fc := own_cap hs4
    have zq := grown_new zp hb4
    have hrq := hrp.below hb4
    have szq : w3.heap.size ≤ wq.heap.size := zq.size
    refine anyC_take (i:=9) (oi:=⟨_,_,_,_,_,_⟩) (v := .tuple #[.agg #[.slice qa M.length qc, .slice qb U.length qd], .slice qs F.length qq]) rfl (by kernel_rfl) (by kernel_rfl) (by kernel_rfl) (fun _ _ _ h => h) (.inl ⟨by kernel_rfl, fun wz hz => by apply runs_moveM <;> rfl⟩) ?_; try simp only [Act.put]
    refine anyC_take (i:=10) (oi:=⟨_,_,_,_,_,_⟩) (v := .agg #[.slice qa M.length qc, .slice qb U.length qd]) rfl (by kernel_rfl) (by kernel_rfl) (by kernel_rfl) (fun _ _ _ h => h) (.inl ⟨by kernel_rfl, fun wz hz => by apply runs_extract <;> rfl⟩) ?_; try simp only [Act.put]
    refine anyC_take (i:=11) (oi:=⟨_,_,_,_,_,_⟩) (v := .slice qs F.length qq) rfl (by kernel_rfl) (by kernel_rfl) (by kernel_rfl) (fun _ _ _ h => h) (.inl ⟨by kernel_rfl, fun wz hz => by apply runs_extract <;> rfl⟩) ?_; try simp only [Act.put]
    refine anyC_law (i := 12) rfl (by kernel_rfl) zq ?_
    go_wp2_with fail
    obtain ⟨g7, hg7⟩ : ∃ x : Nat, x = wq.heap.size := ⟨_, rfl⟩
    obtain ⟨wA, hwA⟩ : ∃ x : World, x = wq.alloc (.cells #[.slice none 0 0, .slice none 0 0] 26) := ⟨_, rfl⟩
    rw [← hwA, ← hg7]
    have hbA : Below wq.heap.size wq wA := by rw [hwA]; exact (Below.refl _ _).alloc (Nat.le_refl _) _
    have hzg : wA.heap[g7]? = some (.cells #[.slice none 0 0, .slice none 0 0] 26 (0, 0)) := by rw [hwA, hg7]; exact heap_alloc_new wq _
    have lg : w3.heap.size ≤ g7 := by rw [hg7]; assumption
    clear hwA hg7
    have zA := grown_new zq hbA
    have hrA := hrq.below hbA
    replace sy := sy.kp (kp_below hbA)
    replace ty := ty.kp (kp_below hbA)
    replace fy := fy.kp (kp_below hbA)
    try simp only [Act.put, pS]
    refine anyC_law (i := 13) rfl (by kernel_rfl) zA ?_
    refine wpList_store_row rfl 26 _ _ rfl g7 #[.slice qa M.length qc, .slice qb U.length qd] rfl rfl _ _ hzg (size_Alg _ _) rfl (one_sl2 _ _ _ _ _ _) ?_
    unfold wpList
    have zF := grown_setRow zA lg #[.slice qa M.length qc, .slice qb U.length qd]
    have hkF := kp_row hzg (w' := wA.setRow g7 #[.slice qa M.length qc, .slice qb U.length qd]) (fun k hk => setRow_other _ g7 k _ hk)
    have hrF := (hrA).setRow (show g < g7 by omega) #[.slice qa M.length qc, .slice qb U.length qd]
    refine anyC_law (i := 14) rfl (by kernel_rfl) zF ?_
    go_wp2_with fail
    try simp only [Act.put, pS]
    refine anyC_done (by kernel_rfl) zF ?_ _
    try simp only [Act.put, pS]
    go_wp2_with fail
    go_meet
    exact ⟨M, U, F, qa, qc, qb, qd, qs, qq, g7, rfl, rfl, hMU, HQT.out, fc, zF, hrF, lg, setRow_heap _ _ _ _ _ _ hzg, sy.kp hkF, ty.kp hkF, fy.kp hkF⟩
   ·go_wp2_with fail
    obtain ⟨g7, hg7⟩ : ∃ x : Nat, x = wp.heap.size := ⟨_, rfl⟩
    obtain ⟨wA, hwA⟩ : ∃ x : World, x = wp.alloc (.cells #[.slice none 0 0, .slice none 0 0] 26) := ⟨_, rfl⟩
    rw [← hwA, ← hg7]
    have hbA : Below wp.heap.size wp wA := by rw [hwA]; exact (Below.refl _ _).alloc (Nat.le_refl _) _
    have hzg : wA.heap[g7]? = some (.cells #[.slice none 0 0, .slice none 0 0] 26 (0, 0)) := by rw [hwA, hg7]; exact heap_alloc_new wp _
    have lg : w3.heap.size ≤ g7 := by rw [hg7]; assumption
    clear hwA hg7
    have zA := grown_new zp hbA
    have hrA := hrp.below hbA
    try simp only [Act.put, pS]
    refine anyC_call (i := 8) (o := ⟨_, _, _, _, _, _⟩) (f := 50) (args := #[.agg #[.slice a0 L.length ca, .slice b0 T.length cb], .int .i64 f]) rfl (by kernel_rfl) (by kernel_rfl) (by apply runs_call2 (he := enters_of Try.func50 (by kernel_rfl) rfl) <;> rfl) zA ?_
    refine (specQuotientS_any a0 b0 ca cb L T f wA (KRT.out _ zA).1 (KRT.out _ zA).2 haf).mono ?_
    rintro e wq ⟨qa, qc, qb, qd, qs, qq, rfl, ho4, hr4, hs4, hb4⟩
    refine ⟨_, rfl, ?_⟩
    try simp only [Act.put, pS]
    obtain ⟨M, hM⟩ : ∃ M, M = upL (quG L T f) ((quW L T f).length : Int) := ⟨_, rfl⟩
    obtain ⟨U, hU⟩ : ∃ U, U = tabL (quM L T f) ((quW L T f).length : Int) := ⟨_, rfl⟩
    obtain ⟨F, hF⟩ : ∃ F, F = quT L T f := ⟨_, rfl⟩
    rw [← hM, ← hU] at hMU
    rw [← hF] at hqT
    have HQT := Lib.hid hqT
    clear hqT
    rw [← hM] at ho4
    rw [← hU] at hr4
    rw [← hF] at hs4
    rw [← hM, ← hU, ← hF]
    clear hM hU hF
    have sy := ry_of ho4
    have ty := ty_of hr4
    have fy := ry_of hs4
    have fc := own_cap hs4
    have zq := grown_new zA hb4
    have hrq := hrA.below hb4
    replace hzg := (hb4.block _ (lt_of_block hzg)).trans hzg
    refine anyC_take (i:=9) (oi:=⟨_,_,_,_,_,_⟩) (v := .tuple #[.agg #[.slice qa M.length qc, .slice qb U.length qd], .slice qs F.length qq]) rfl (by kernel_rfl) (by kernel_rfl) (by kernel_rfl) (fun _ _ _ h => h) (.inl ⟨by kernel_rfl, fun wz hz => by apply runs_moveM <;> rfl⟩) ?_; try simp only [Act.put, pS]
    refine anyC_take (i:=10) (oi:=⟨_,_,_,_,_,_⟩) (v := .agg #[.slice qa M.length qc, .slice qb U.length qd]) rfl (by kernel_rfl) (by kernel_rfl) (by kernel_rfl) (fun _ _ _ h => h) (.inl ⟨by kernel_rfl, fun wz hz => by apply runs_extract <;> rfl⟩) ?_; try simp only [Act.put, pS]
    refine anyC_take (i:=11) (oi:=⟨_,_,_,_,_,_⟩) (v := .slice qs F.length qq) rfl (by kernel_rfl) (by kernel_rfl) (by kernel_rfl) (fun _ _ _ h => h) (.inl ⟨by kernel_rfl, fun wz hz => by apply runs_extract <;> rfl⟩) ?_; try simp only [Act.put, pS]
    refine anyC_law (i := 13) rfl (by kernel_rfl) zq ?_
    refine wpList_store_row rfl 26 _ _ rfl g7 #[.slice qa M.length qc, .slice qb U.length qd] rfl rfl _ _ hzg (size_Alg _ _) rfl (one_sl2 _ _ _ _ _ _) ?_
    unfold wpList
    have zF := grown_setRow zq lg #[.slice qa M.length qc, .slice qb U.length qd]
    have hkF := kp_row hzg (w' := wq.setRow g7 #[.slice qa M.length qc, .slice qb U.length qd]) (fun k hk => setRow_other _ g7 k _ hk)
    have hrF := (hrq).setRow (show g < g7 by omega) #[.slice qa M.length qc, .slice qb U.length qd]
    refine anyC_law (i := 14) rfl (by kernel_rfl) zF ?_
    go_wp2_with fail
    try simp only [Act.put, pS]
    refine anyC_done (by kernel_rfl) zF ?_ _
    try simp only [Act.put, pS]
    go_wp2_with fail
    go_meet
    exact ⟨M, U, F, qa, qc, qb, qd, qs, qq, g7, rfl, rfl, hMU, HQT.out, fc, zF, hrF, lg, setRow_heap _ _ _ _ _ _ hzg, sy.kp hkF, ty.kp hkF, fy.kp hkF⟩
  ·go_wp2_with fail
   obtain ⟨g7, hg7⟩ : ∃ x : Nat, x = wd.heap.size := ⟨_, rfl⟩
   obtain ⟨wA, hwA⟩ : ∃ x : World, x = wd.alloc (.cells #[.slice none 0 0, .slice none 0 0] 26) := ⟨_, rfl⟩
   rw [← hwA, ← hg7]
   have hbA : Below wd.heap.size wd wA := by rw [hwA]; exact (Below.refl _ _).alloc (Nat.le_refl _) _
   have hzg : wA.heap[g7]? = some (.cells #[.slice none 0 0, .slice none 0 0] 26 (0, 0)) := by rw [hwA, hg7]; exact heap_alloc_new wd _
   have lg : w3.heap.size ≤ g7 := by rw [hg7]; assumption
   clear hwA hg7
   have zA := grown_new zd hbA
   have hrA := hrd.below hbA
   try simp only [Act.put, pS]
   refine anyC_call (i := 5) (o := ⟨_, _, _, _, _, _⟩) (f := 51) (args := #[.pointer (some ⟨g, 0, none⟩), .int .i64 (V.length : Int)]) rfl (by kernel_rfl) (by kernel_rfl) (by apply runs_call2 (he := enters_of Try.func51 (by kernel_rfl) rfl) <;> rfl) zA ?_
   refine (pick_any C g (m + 7) V.length wA hrA (by omega) (by omega) (by omega)).mono ?_
   rintro e wp ⟨k, rfl, k0, k1, hgp, hrp⟩
   refine ⟨_, rfl, ?_⟩
   try simp only [Act.put, pS]
   have zp := grown_trans zA hgp
   replace hzg := box_drawn hzg (by omega) hgp
   refine anyC_take (i:=6) (oi:=⟨_,_,_,_,_,_⟩) (v := .pointer (some ⟨vb, vo + k.toNat, none⟩)) rfl (by kernel_rfl) (by kernel_rfl) (by kernel_rfl) (fun _ _ _ h => h) (.inl ⟨by kernel_rfl, fun wz hz => by go_simp⟩) ?_; try simp only [Act.put, pS]
   obtain ⟨f, hf⟩ : ∃ f, f = nth V k := ⟨_, rfl⟩
   have hFC := HVM.out k k0 k1
   rw [← hf] at hFC
   obtain ⟨haf, hMU, hqT⟩ := hFC
   have KF := Lib.hid (show ∀ wz, w3.grownBy wz (some g) → wz.cell? ⟨vb, vo + k.toNat, none⟩ = some (.int .i64 f) from fun wz hz => by rw [hf]; exact KV.out wz hz k k0 k1)
   clear hf
   refine anyC_take (i:=7) (oi:=⟨_,_,_,_,_,_⟩) (v := .int .i64 f) rfl (by kernel_rfl) (by kernel_rfl) (by kernel_rfl) (fun _ _ _ h => h) (.inl ⟨by kernel_rfl, fun wz hz => by have c := KF.out _ hz; go_simp⟩) ?_; try simp only [Act.put, pS]
   refine anyC_call (i := 8) (o := ⟨_, _, _, _, _, _⟩) (f := 50) (args := #[.agg #[.slice a0 L.length ca, .slice b0 T.length cb], .int .i64 f]) rfl (by kernel_rfl) (by kernel_rfl) (by apply runs_call2 (he := enters_of Try.func50 (by kernel_rfl) rfl) <;> rfl) zp ?_
   refine (specQuotientS_any a0 b0 ca cb L T f wp (KRT.out _ zp).1 (KRT.out _ zp).2 haf).mono ?_
   rintro e wq ⟨qa, qc, qb, qd, qs, qq, rfl, ho4, hr4, hs4, hb4⟩
   refine ⟨_, rfl, ?_⟩
   try simp only [Act.put, pS]
   obtain ⟨M, hM⟩ : ∃ M, M = upL (quG L T f) ((quW L T f).length : Int) := ⟨_, rfl⟩
   obtain ⟨U, hU⟩ : ∃ U, U = tabL (quM L T f) ((quW L T f).length : Int) := ⟨_, rfl⟩
   obtain ⟨F, hF⟩ : ∃ F, F = quT L T f := ⟨_, rfl⟩
   rw [← hM, ← hU] at hMU
   rw [← hF] at hqT
   have HQT := Lib.hid hqT
   clear hqT
   rw [← hM] at ho4
   rw [← hU] at hr4
   rw [← hF] at hs4
   rw [← hM, ← hU, ← hF]
   clear hM hU hF
   have sy := ry_of ho4
   have ty := ty_of hr4
   have fy := ry_of hs4
   have fc := own_cap hs4
   have zq := grown_new zp hb4
   have hrq := hrp.below hb4
   replace hzg := (hb4.block _ (lt_of_block hzg)).trans hzg
   refine anyC_take (i:=9) (oi:=⟨_,_,_,_,_,_⟩) (v := .tuple #[.agg #[.slice qa M.length qc, .slice qb U.length qd], .slice qs F.length qq]) rfl (by kernel_rfl) (by kernel_rfl) (by kernel_rfl) (fun _ _ _ h => h) (.inl ⟨by kernel_rfl, fun wz hz => by apply runs_moveM <;> rfl⟩) ?_; try simp only [Act.put, pS]
   refine anyC_take (i:=10) (oi:=⟨_,_,_,_,_,_⟩) (v := .agg #[.slice qa M.length qc, .slice qb U.length qd]) rfl (by kernel_rfl) (by kernel_rfl) (by kernel_rfl) (fun _ _ _ h => h) (.inl ⟨by kernel_rfl, fun wz hz => by apply runs_extract <;> rfl⟩) ?_; try simp only [Act.put, pS]
   refine anyC_take (i:=11) (oi:=⟨_,_,_,_,_,_⟩) (v := .slice qs F.length qq) rfl (by kernel_rfl) (by kernel_rfl) (by kernel_rfl) (fun _ _ _ h => h) (.inl ⟨by kernel_rfl, fun wz hz => by apply runs_extract <;> rfl⟩) ?_; try simp only [Act.put, pS]
   refine anyC_law (i := 13) rfl (by kernel_rfl) zq ?_
   refine wpList_store_row rfl 26 _ _ rfl g7 #[.slice qa M.length qc, .slice qb U.length qd] rfl rfl _ _ hzg (size_Alg _ _) rfl (one_sl2 _ _ _ _ _ _) ?_
   unfold wpList
   have zF := grown_setRow zq lg #[.slice qa M.length qc, .slice qb U.length qd]
   have hkF := kp_row hzg (w' := wq.setRow g7 #[.slice qa M.length qc, .slice qb U.length qd]) (fun k hk => setRow_other _ g7 k _ hk)
   have hrF := (hrq).setRow (show g < g7 by omega) #[.slice qa M.length qc, .slice qb U.length qd]
   refine anyC_law (i := 14) rfl (by kernel_rfl) zF ?_
   go_wp2_with fail
   try simp only [Act.put, pS]
   refine anyC_done (by kernel_rfl) zF ?_ _
   try simp only [Act.put, pS]
   go_wp2_with fail
   go_meet
   exact ⟨M, U, F, qa, qc, qb, qd, qs, qq, g7, rfl, rfl, hMU, HQT.out, fc, zF, hrF, lg, setRow_heap _ _ _ _ _ _ hzg, sy.kp hkF, ty.kp hkF, fy.kp hkF⟩
 case rest =>
  obtain ⟨M, U, F, qa, qc, qb, qd, qs, qq, g7, rfl, rfl, hMU, hFL, hFq, hgx, hrx, lg7, xB, ryM, tyU, ryF⟩ := hcut
  have HFL := Lib.hid hFL
  clear hFL
  obtain ⟨i0, hi, hz0, hz1, hz2⟩ := info_parts info_int
  have gwc := grown_trans hgw3 hgx
  have x5c := K5.out wc hgx
  obtain ⟨zAc, zBc⟩ := KZ.out wc hgx
  obtain ⟨ryL, tyT⟩ := KRY.out wc hgx
  have lg5 : g5 < w3.heap.size := lt_of_block (K5.out w3 (grown_refl _ _))
  have szc : w3.heap.size ≤ wc.heap.size := hgx.size
  have hFl1 := Lib.hid (show 1 ≤ F.length ∧ F.length ≤ 6 from by have := HFL.out; omega)
  have cw : C ≤ w.heap.size := by have := hr3.low; omega
  have sw3 : w.heap.size ≤ w3.heap.size := hgw3.size
  clear K5 KZ KRY KRT KV HVM hgw3 hgx hV1 hV64 v64 v1
  go_wp2_with fail
  refine (pick_any C g (m + 7 + 1) 4 wc hrx (by omega) (by omega) (by omega)).mono ?_
  rintro e wk ⟨k, rfl, k0, k1, hgk, hrk⟩
  have gwk := grown_trans gwc hgk
  have x5k := box_drawn x5c (by omega) hgk
  have x7k := box_drawn xB (by omega) hgk
  have zAk := box_drawn zAc (by omega) hgk
  have zBk := box_drawn zBc (by omega) hgk
  have hkk := kp_drawn hrx hgk
  have ryLk := ryL.kp hkk
  have tyTk := tyT.kp hkk
  have ryMk := ryM.kp hkk
  have tyUk := tyU.kp hkk
  have ryFk := ryF.kp hkk
  have szk : wc.heap.size ≤ wk.heap.size := hgk.size
  have lg7k := lt_of_block x7k
  clear hgk hrx gwc x5c xB zAc zBc ryL tyT ryM tyU ryF hkk
  go_upto_block 0 with fail
  go_cut [8, 9, 10] (fun sf _ _ wx => ∃ (L M F : List Int) (T U : List (List Int)) (a b a2 b2 f : Option Addr) (ca cb ca2 cb2 cf : Nat), sf = .slice f F.length cf ∧ algB L T = true ∧ algB M U = true ∧ 1 ≤ F.length ∧ F.length ≤ 6 ∧ F.length ≤ cf ∧ w.grownBy wx (some g) ∧ Rdr wx C g (m + 20) ∧ wx.heap[g5]? = some (.cells #[.slice a L.length ca, .slice b T.length cb] 26 (0, 0)) ∧ wx.heap[g7]? = some (.cells #[.slice a2 M.length ca2, .slice b2 U.length cb2] 26 (0, 0)) ∧ wx.heap[w.heap.size]? = some (.cells #[.slice none 0 0, .slice none 0 0] 26 (0, 0)) ∧ wx.heap[w.heap.size + 1]? = some (.cells #[.slice none 0 0, .slice none 0 0] 26 (0, 0)) ∧ RY wx a L ∧ TY wx b T ∧ RY wx a2 M ∧ TY wx b2 U ∧ RY wx f F)
  case first =>
   have hk : k = 0 ∨ k = 1 ∨ 2 ≤ k := by omega
   rcases hk with rfl | rfl | h2
   ·go_wp2_with (first
     | (refine wpList_load_row_w rfl 26 _ rfl g5 rfl _ _ _ _ x5k Try.underlying26 rfl (size_Alg _ _) ?_)
     | (refine wpList_store_row rfl 26 _ _ rfl g7 #[.slice a0 L.length ca, .slice b0 T.length cb] rfl rfl _ _ x7k (size_Alg _ _) rfl (one_sl2 _ _ _ _ _ _) ?_; obtain ⟨ws, hws⟩ : ∃ x : World, x = wk.setRow g7 #[.slice a0 L.length ca, .slice b0 T.length cb] := ⟨_, rfl⟩; rw [← hws]))
    have gws : w.grownBy ws (some g) := by rw [hws]; exact grown_setRow gwk (by omega) _
    have hrs : Rdr ws C g (m + 7 + 1 + 1) := by rw [hws]; exact hrk.setRow (by omega) _
    have hks : Kp wk ws := by rw [hws]; exact kp_row x7k (fun k hk => setRow_other wk g7 k _ hk)
    have x5s : ws.heap[g5]? = some (.cells #[.slice a0 L.length ca, .slice b0 T.length cb] 26 (0, 0)) := by rw [hws]; exact (setRow_other wk g7 _ _ (by omega)).trans x5k
    have x7s : ws.heap[g7]? = some (.cells #[.slice a0 L.length ca, .slice b0 T.length cb] 26 (0, 0)) := by rw [hws]; exact setRow_heap _ _ _ _ _ _ x7k
    have zAs : ws.heap[w.heap.size]? = some (.cells #[.slice none 0 0, .slice none 0 0] 26 (0, 0)) := by rw [hws]; exact (setRow_other wk g7 _ _ (by omega)).trans zAk
    have zBs : ws.heap[w.heap.size + 1]? = some (.cells #[.slice none 0 0, .slice none 0 0] 26 (0, 0)) := by rw [hws]; exact (setRow_other wk g7 _ _ (by omega)).trans zBk
    have ryLs := ryLk.kp hks
    have tyTs := tyTk.kp hks
    have lgs := lt_of_block x7s
    have hszs : wk.heap.size = ws.heap.size := by rw [hws]; simp
    try rw [← hws]
    try rw [hszs]
    clear hszs hws hks x5k x7k zAk zBk ryLk tyTk ryMk tyUk ryFk gwk hrk
    go_loopw [8, 9] (fun fv iv wr => ∃ (j : Nat) (G : List Int), j ≤ L.length ∧ iv = .int .i64 (j : Int) ∧ G.length = j ∧ Own ws.heap.size wr fv G ∧ Below ws.heap.size ws wr) (fun _ iv _ => (7 - intOf iv).toNat)
    case atStart => exact ⟨0, [], by omega, rfl, rfl, Own.row (L := []) (heap_alloc_new ws _) (Nat.le_refl _) (Nat.zero_le _), (Below.refl _ _).alloc (Nat.le_refl _) _⟩
    case round =>
     obtain ⟨j, G, jL, rfl, hGl, hown, hbr⟩ := hrel
     obtain ⟨va, vc, rfl, _⟩ := hown.slice
     have c0 := (bx_cells ((hbr.block _ (lt_of_block x5s)).trans x5s)).1
     have g6 : G.length ≤ 6 := by omega
     have HGL := Lib.hid hGl
     have hbrs := hbr.size
     clear hGl
     by_cases hj : (j : Int) < L.length
     ·have ki : IntKind.i64.wrap ((j : Int) + 1) = (j : Int) + 1 := IntWalk.i64_in _ (by omega)
      go_wp2_with (at_builtin; refine wpList_append_own _ rfl _ _ 23 rfl ws.heap.size 3 i0 (.int .i64 0) 1 8 Try.underlying23 hi hz0 hz1 hz2 rfl (by decide) _ _ _ rfl (World.ownsRow.alloc hown _) ⟨wr.heap.size, 0, none⟩ 1 1 [.int .i64 (j : Int)] rfl (by simp) (cell_one_new _ _ _) (fun x hx => by simp at hx; first | (subst hx; rfl) | (obtain ⟨y, _, rfl⟩ := hx; rfl)) (by unfold maxLen; first | omega | (simp; omega)) (by first | omega | (simp; omega)) (by first | omega | (simp; omega)) ?_; intro v4 w4 hown4 hgrow4 _)
      have ho4 : Own ws.heap.size w4 v4 (G ++ [(j : Int)]) := by unfold Own; rw [List.map_append, List.length_append]; exact hown4
      have hb4 : Below ws.heap.size ws w4 := (hbr.alloc hbr.size _).grown hgrow4 (by have := hbr.size; simp; omega) (fun q hq => (World.ownsRow.lt hown q hq).1)
      clear hown4 hgrow4 c0
      go_roundw
      case rel => exact ⟨j + 1, G ++ [(j : Int)], by omega, by simp, by rw [List.length_append, HGL.out]; rfl, ho4, hb4⟩
      case measure => simp [intOf]; omega
     ·have hGL2 := Lib.hid (show 1 ≤ G.length ∧ G.length ≤ 6 from by have := HGL.out; omega)
      have hkb := kp_below hbr
      go_wp2
      go_meet
      exact ⟨L, L, G, T, T, a0, b0, a0, b0, va, ca, cb, ca, cb, vc, rfl, HAL.out, HAL.out, hGL2.out.1, hGL2.out.2, own_cap hown, grown_new gws hbr, (hrs.below hbr).more (by omega), (hbr.block _ (lt_of_block x5s)).trans x5s, (hbr.block _ (lt_of_block x7s)).trans x7s, (hbr.block _ (lt_of_block zAs)).trans zAs, (hbr.block _ (lt_of_block zBs)).trans zBs, ryLs.kp hkb, tyTs.kp hkb, ryLs.kp hkb, tyTs.kp hkb, ry_of hown⟩
   ·go_wp2_with (first
     | (go_at_call 52; refine (algebraOf_any C g (m + 7 + 1 + 1) 3 wk hrk (by omega) (by omega) (by omega)).mono ?_; rintro e wa ⟨L1, T1, aa, cca, bb, ccb, rfl, ⟨hG1, l3⟩, hoA, hTA, hga, hra⟩; have x5a := box_drawn x5k (by omega) hga; have lga := hra.lt)
     | (refine wpList_store_row rfl 26 _ _ rfl g5 #[.slice aa L1.length cca, .slice bb T1.length ccb] rfl rfl _ _ x5a (size_Alg _ _) rfl (one_sl2 _ _ _ _ _ _) ?_; obtain ⟨ws, hws⟩ : ∃ x : World, x = wa.setRow g5 #[.slice aa L1.length cca, .slice bb T1.length ccb] := ⟨_, rfl⟩; rw [← hws])
     | (refine wpList_load_row_w rfl 26 _ rfl g5 rfl _ _ _ _ (by rw [hws]; exact setRow_heap _ _ _ _ _ _ x5a) Try.underlying26 rfl (size_Alg _ _) ?_)
     | (refine wpList_load_row_w rfl 26 _ rfl g7 rfl _ _ _ _ (by rw [hws]; exact (setRow_other wa g5 _ _ (by omega)).trans (box_drawn x7k (by omega) hga)) Try.underlying26 rfl (size_Alg _ _) ?_))
    have hka := kp_drawn hrk hga
    have x7a := box_drawn x7k (by omega) hga
    have zAa := box_drawn zAk (by omega) hga
    have zBa := box_drawn zBk (by omega) hga
    have gwa := grown_trans gwk hga
    have sza := hga.size
    have gws : w.grownBy ws (some g) := by rw [hws]; exact grown_setRow gwa (by omega) _
    have hrs : Rdr ws C g (m + 7 + 1 + 1 + 3) := by rw [hws]; exact hra.setRow (by omega) _
    have hks : Kp wa ws := by rw [hws]; exact kp_row x5a (fun k hk => setRow_other wa g5 k _ hk)
    have x5s : ws.heap[g5]? = some (.cells #[.slice aa L1.length cca, .slice bb T1.length ccb] 26 (0, 0)) := by rw [hws]; exact setRow_heap _ _ _ _ _ _ x5a
    have x7s : ws.heap[g7]? = some (.cells #[.slice qa M.length qc, .slice qb U.length qd] 26 (0, 0)) := by rw [hws]; exact (setRow_other wa g5 _ _ (by omega)).trans x7a
    have zAs : ws.heap[w.heap.size]? = some (.cells #[.slice none 0 0, .slice none 0 0] 26 (0, 0)) := by rw [hws]; exact (setRow_other wa g5 _ _ (by omega)).trans zAa
    have zBs : ws.heap[w.heap.size + 1]? = some (.cells #[.slice none 0 0, .slice none 0 0] 26 (0, 0)) := by rw [hws]; exact (setRow_other wa g5 _ _ (by omega)).trans zBa
    have ry1 := (ry_of hoA).kp hks
    have ty1 := (ty_of hTA).kp hks
    have ryMs := (ryMk.kp hka).kp hks
    have tyUs := (tyUk.kp hka).kp hks
    have ryFs := (ryFk.kp hka).kp hks
    have lgs := lt_of_block x7s
    have hszs : wa.heap.size = ws.heap.size := by rw [hws]; simp
    try rw [← hws]
    try rw [hszs]
    clear hszs
    have lzs := lt_of_block zBs
    obtain ⟨q1, q6, qt, _⟩ := gd_len hG1
    have QT := Lib.hid qt
    have hal1 := hG1.alg
    obtain ⟨mn1, mn6, _⟩ := latB_parts (alg_lat hMU)
    have hml : 1 ≤ M.length := by have : num M = M.length := rfl; omega
    have hul := shape_len (alg_shape hMU)
    have HUL := Lib.hid hul
    obtain ⟨ab1, ao1, _, rfl, _, _⟩ := ry1 (fun e => by rw [e] at q1; simp at q1)
    obtain ⟨tb1, to1, _, rfl, _, _⟩ := ty1 (fun e => by have := QT.out; rw [e] at this; simp at this; omega)
    obtain ⟨mb1, mo1, _, rfl, _, _⟩ := ryMs (fun e => by rw [e] at hml; simp at hml)
    obtain ⟨ub1, uo1, _, rfl, _, _⟩ := tyUs (fun e => by have := HUL.out; rw [e] at this; simp at this; have : num M = M.length := rfl; omega)
    have hbE : Below ws.heap.size ws (ws.alloc (.cells #[] 3)) := (Below.refl _ _).alloc (Nat.le_refl _) _
    have hMF := mapsF_some ab1 ao1 cca tb1 to1 ccb mb1 mo1 qc ub1 uo1 qd L1 M T1 U hal1 hMU L1.length ws.heap.size 0 0 [] (ws.alloc (.cells #[] 3)) (by simp) (fun i i0 i1 => absurd i1 (by simp; omega)) (ry1.kp (kp_below hbE)).rd (ty1.kp (kp_below hbE)).rd (ryMs.kp (kp_below hbE)).rd (tyUs.kp (kp_below hbE)).rd (fun e => absurd rfl e)
    clear qt hul x5k x5a x7k x7a zAk zBk zAa zBa ryLk tyTk ryMk tyUk ryFk gwk hrk hks hka hga hra hoA hTA gwa mn1 mn6 hws
    refine hMF.mono ?_
    rintro e wm ⟨R, hRn, hRl, u, rfl, hrows, hun, hbm⟩
    have hR6 : R.length ≤ 46656 := by
     have h1 : 6 ^ L1.length ≤ 6 ^ 6 := Nat.pow_le_pow_right (by decide) q6
     have h3 : 6 ^ 6 = 46656 := by decide
     omega
    have hbs : Below ws.heap.size ws wm := hbE.trans (hbm.mono hbE.size)
    have hrm := hrs.below hbs
    have gwm := grown_new gws hbs
    have hkm := kp_below hbs
    have x5m := (hbs.block _ (lt_of_block x5s)).trans x5s
    have x7m := (hbs.block _ (lt_of_block x7s)).trans x7s
    have zAm := (hbs.block _ (lt_of_block zAs)).trans zAs
    have zBm := (hbs.block _ (lt_of_block zBs)).trans zBs
    have ry1m := ry1.kp hkm
    have ty1m := ty1.kp hkm
    have ryMm := ryMs.kp hkm
    have tyUm := tyUs.kp hkm
    have ryFm := ryFs.kp hkm
    have hrows' := hrows
    obtain ⟨us, r1, _⟩ := hrows'
    obtain ⟨ug, uc, rfl, ugl, _⟩ := rows_shape r1 hun
    have HRN := Lib.hid hRn
    clear hMF hRn hRl r1 hun hbm hbE hbs hkm x5s x7s zAs zBs ry1 ty1 ryMs tyUs ryFs hrs gws
    by_cases hR0 : R.length = 0
    ·have hRf : ¬ (0 : Int) < R.length := by omega
     go_wp2
     go_meet
     exact ⟨L1, M, F, T1, U, _, _, _, _, qs, cca, ccb, qc, qd, qq, rfl, hal1, hMU, hFl1.out.1, hFl1.out.2, hFq, gwm, hrm.more (by omega), x5m, x7m, zAm, zBm, ry1m, ty1m, ryMm, tyUm, ryFm⟩
    ·have hRt : (0 : Int) < R.length := by omega
     go_wp2_with fail
     refine (pick_any C g (m + 7 + 1 + 1 + 3) R.length wm hrm (by omega) (by omega) (by omega)).mono ?_
     rintro e wn ⟨i, rfl, i0', i1', hgn, hrn⟩
     have hrn' := hrows.drawn hrm hgn
     obtain ⟨us, r1, r2⟩ := hrn'
     obtain ⟨u, hu, ho⟩ := r2 i.toNat (by omega)
     obtain ⟨g', hg', c0⟩ := rows_cell r1 hu
     injection hg' with hg'
     injection hg' with hg' _ _
     subst hg'
     have hlen := HRN.out (rowAt R (i.toNat : Int)) (rowAt_memR (by omega))
     obtain ⟨H, hH⟩ : ∃ H, H = rowAt R (i.toNat : Int) := ⟨_, rfl⟩
     rw [← hH] at ho hlen
     have HLE := Lib.hid (show 1 ≤ H.length ∧ H.length ≤ 6 from by omega)
     obtain ⟨fa, fcap, rfl, _⟩ := ho.slice
     have hkn := kp_drawn hrm hgn
     have hryH := ry_of ho
     have hcapH := own_cap ho
     clear hH hlen r1 r2 hu hR0
     go_wp2
     go_meet
     exact ⟨L1, M, H, T1, U, _, _, _, _, fa, cca, ccb, qc, qd, fcap, rfl, hal1, hMU, HLE.out.1, HLE.out.2, hcapH, grown_trans gwm hgn, hrn.more (by omega), box_drawn x5m (by omega) hgn, box_drawn x7m (by omega) hgn, box_drawn zAm (by omega) hgn, box_drawn zBm (by omega) hgn, ry1m.kp hkn, ty1m.kp hkn, ryMm.kp hkn, tyUm.kp hkn, hryH⟩
   ·have hk0 : (k == 0) = false := by rw [beq_eq_false_iff_ne]; omega
    have hk1 : (k == 1) = false := by rw [beq_eq_false_iff_ne]; omega
    go_wp2
    go_meet
    exact ⟨L, M, F, T, U, a0, b0, qa, qb, qs, ca, cb, qc, qd, qq, rfl, HAL.out, hMU, hFl1.out.1, hFl1.out.2, hFq, gwk, hrk.more (by omega), x5k, x7k, zAk, zBk, ryLk, tyTk, ryMk, tyUk, ryFk⟩
  case rest =>
   obtain ⟨L, M, F, T, U, a, b, a2, b2, f, ca, cb, ca2, cb2, cf, rfl, hA, hB, f1, f6, fcf, gwt, hrt, x5t, x7t, zAt, zBt, ryAt, tyAt, ryBt, tyBt, ryFt⟩ := hcut
   have g5n := lt_of_block x5k
   go_wp2_with fail
   refine (pick_any C g (m + 20) 16 wc hrt (by omega) (by omega) (by omega)).mono ?_
   rintro e w4 ⟨k, rfl, k0, k1, hg4, hr4⟩
   have gw4 := grown_trans gwt hg4
   have x54 := box_drawn x5t (by omega) hg4
   have x74 := box_drawn x7t (by omega) hg4
   have zA4 := box_drawn zAt (by omega) hg4
   have zB4 := box_drawn zBt (by omega) hg4
   have hk4 := kp_drawn hrt hg4
   have ryA := ryAt.kp hk4
   have tyA := tyAt.kp hk4
   have ryB := ryBt.kp hk4
   have tyB := tyBt.kp hk4
   have ryF := ryFt.kp hk4
   have l5 := lt_of_block x54
   have l7 := lt_of_block x74
   have lA := lt_of_block zA4
   have lB := lt_of_block zB4
   have HA := Lib.hid hA
   have HB := Lib.hid hB
   have hC4 : C ≤ w4.heap.size := by have := hr4.low; have := hr4.lt; omega
   obtain ⟨fb, fo, _, rfl, _, _⟩ := ryF (fun e => by rw [e] at f1; simp at f1)
   have hbE : Below w4.heap.size w4 (w4.alloc (.cells #[] 3)) := (Below.refl _ _).alloc (Nat.le_refl _) _
   have hoE : Own w4.heap.size (w4.alloc (.cells #[] 3)) (.slice (some ⟨w4.heap.size, 0, none⟩) 0 0) [] := Own.row (L := []) (heap_alloc_new w4 _) (Nat.le_refl _) (Nat.zero_le _)
   have HNW := Lib.hid (rd_cells ((ryF.kp (kp_below hbE)).rd))
   clear hA hB gwt hg4 hrt x5t x7t zAt zBt ryAt tyAt ryBt tyBt ryFt hk4
   clear gwk x5k x7k zAk zBk ryLk tyTk ryMk tyUk ryFk hrk
   have hk : k = 0 ∨ k = 1 ∨ k = 2 ∨ 3 ≤ k := by omega
   rcases hk with rfl | rfl | rfl | h3
   ·go_upto_region 25 with (first
     | (at_builtin; refine wpList_append_own _ rfl _ _ 23 rfl w4.heap.size 3 i0 (.int .i64 0) 1 8 Try.underlying23 hi hz0 hz1 hz2 rfl (by decide) _ _ _ rfl hoE ⟨fb, fo, none⟩ F.length cf (F.map fun x => Value.int .i64 x) rfl (by simp) HNW.out (fun x hx => by simp at hx; obtain ⟨y, _, rfl⟩ := hx; rfl) (by unfold maxLen; first | omega | (simp; done) | (simp; omega)) (by first | omega | (simp; done) | (simp; omega)) (by first | omega | (simp; done) | (simp; omega)) ?_; intro v5 w5 hown hgrow _; have ho5 : Own w4.heap.size w5 v5 F := (by unfold Own; simpa using hown); have hb5 : Below w4.heap.size w4 w5 := hbE.grown hgrow (by simp) (fun q hq => (World.ownsRow.lt hoE q hq).1); have hb5s := hb5.size; clear hown hgrow; obtain ⟨gv, cv, rfl, gvl, _⟩ := ho5.shape.resolve_left (fun h => (by have := h.2; rw [this] at f1; simp at f1)))
     | (at_builtin; refine wpList_append_own _ rfl _ _ 23 rfl w4.heap.size 3 i0 (.int .i64 0) 1 8 Try.underlying23 hi hz0 hz1 hz2 rfl (by decide) _ _ _ rfl (World.ownsRow.alloc ho5 _) ⟨w5.heap.size, 0, none⟩ 1 1 [.int .i64 0] rfl rfl (cell_one_new _ _ _) (fun x hx => by simp at hx; subst hx; rfl) (by unfold maxLen; first | omega | (simp; done) | (simp; omega)) (by first | omega | (simp; done) | (simp; omega)) (by first | omega | (simp; done) | (simp; omega)) ?_; intro v7 w7 hown hgrow _; have ho7 : Own w4.heap.size w7 v7 (F ++ [0]) := (by unfold Own; rw [List.map_append, List.length_append]; exact hown); have hb7 : Below w4.heap.size w4 w7 := (hb5.alloc hb5.size _).grown hgrow (by simp; omega) (fun q hq => (World.ownsRow.lt ho5 q hq).1); clear hown hgrow; obtain ⟨va, vc, rfl, _⟩ := ho7.slice))
    have hk7 := kp_below hb7
    have x57 := (((hb7).block _ (lt_of_block x54)).trans x54)
    have x77 := (((hb7).block _ (lt_of_block x74)).trans x74)
    have zA7 := (((hb7).block _ (lt_of_block zA4)).trans zA4)
    have zB7 := (((hb7).block _ (lt_of_block zB4)).trans zB4)
    have HLN := Lib.hid (show (F ++ [(0 : Int)]).length = F.length + 1 from by simp)
    have fl7 : (F ++ [(0 : Int)]).length ≤ 7 := by simp; omega
    refine wp_region_any (by kernel_rfl) ?_
    refine any_of_C (C := fun wz => wz.heap[g5]? = some (.cells #[.slice a L.length ca, .slice b T.length cb] 26 (0, 0)) ∧ wz.heap[g7]? = some (.cells #[.slice a2 M.length ca2, .slice b2 U.length cb2] 26 (0, 0))) _ _ _ _ ?_
    have hbd : Below w7.heap.size w7 (w7.drewN 1) := Dr.below ⟨1, rfl⟩ _
    change wpAnyC _ _ _ _ _ _ _ _ (w7.drewN 1)
    obtain ⟨wd, hwd⟩ : ∃ x : World, x = w7.drewN 1 := ⟨_, rfl⟩
    rw [← hwd] at hbd ⊢
    clear hwd
    have gwd := grown_new (grown_new gw4 hb7) hbd
    have hrd := (hr4.below hb7).below hbd
    have x5d := (hbd.block _ (lt_of_block x57)).trans x57
    have x7d := (hbd.block _ (lt_of_block x77)).trans x77
    have zAd := (hbd.block _ (lt_of_block zA7)).trans zA7
    have zBd := (hbd.block _ (lt_of_block zB7)).trans zB7
    have kd := kp_below hbd
    have szd := hbd.size
    refine anyC_take (i:=0) (oi:=⟨_,_,_,_,_,_⟩) (v := .agg #[.slice a L.length ca, .slice b T.length cb]) rfl (by kernel_rfl) (by kernel_rfl) (by kernel_rfl) (fun _ _ _ h => h) (.inl ⟨by kernel_rfl, fun wz hz => runs_load (C := fun wz => wz.heap[g5]? = some (.cells #[.slice a L.length ca, .slice b T.length cb] 26 (0, 0)) ∧ wz.heap[g7]? = some (.cells #[.slice a2 M.length ca2, .slice b2 U.length cb2] 26 (0, 0))) 26 _ rfl g5 rfl _ _ _ _ (fun w hw => hw.1) Try.underlying26 rfl (size_Alg _ _) wz hz⟩) ?_; try simp only [Act.put, pS]
    refine anyC_take (i:=1) (oi:=⟨_,_,_,_,_,_⟩) (v := .agg #[.slice a2 M.length ca2, .slice b2 U.length cb2]) rfl (by kernel_rfl) (by kernel_rfl) (by kernel_rfl) (fun _ _ _ h => h) (.inl ⟨by kernel_rfl, fun wz hz => runs_load (C := fun wz => wz.heap[g5]? = some (.cells #[.slice a L.length ca, .slice b T.length cb] 26 (0, 0)) ∧ wz.heap[g7]? = some (.cells #[.slice a2 M.length ca2, .slice b2 U.length cb2] 26 (0, 0))) 26 _ rfl g7 rfl _ _ _ _ (fun w hw => hw.2) Try.underlying26 rfl (size_Alg _ _) wz hz⟩) ?_; try simp only [Act.put, pS]
    refine anyC_take (i:=2) (oi:=⟨_,_,_,_,_,_⟩) (v := .slice va (F.length + 1) vc) rfl (by kernel_rfl) (by kernel_rfl) (by kernel_rfl) (fun _ _ _ h => h) (.inl ⟨by kernel_rfl, fun wz hz => by apply runs_moveM <;> rfl⟩) ?_; try simp only [Act.put, pS]
    obtain ⟨hk, gE, rE, hE1, hE2, hz1, hoth⟩ := two_stored hrd gl gwd #[.slice a L.length ca, .slice b T.length cb] #[.slice a2 M.length ca2, .slice b2 U.length cb2] zAd zBd
    have p5 := (hoth g5 (by omega) (by omega)).trans x5d
    have p7 := (hoth g7 (by omega) (by omega)).trans x7d
    have q5 := (setRow_other wd w.heap.size g5 #[.slice a L.length ca, .slice b T.length cb] (by omega)).trans x5d
    have q7 := (setRow_other wd w.heap.size g7 #[.slice a L.length ca, .slice b T.length cb] (by omega)).trans x7d
    refine anyC_law (i := 3) rfl (by kernel_rfl) ⟨x5d, x7d⟩ ?_
    refine wpList_store_row rfl 26 _ _ rfl w.heap.size #[.slice a L.length ca, .slice b T.length cb] rfl rfl _ _ zAd (size_Alg _ _) rfl (one_sl2 _ _ _ _ _ _) ?_
    unfold wpList
    refine anyC_law (i := 4) rfl (by kernel_rfl) ⟨q5, q7⟩ ?_
    refine wpList_store_row rfl 26 _ _ rfl (w.heap.size + 1) #[.slice a2 M.length ca2, .slice b2 U.length cb2] rfl rfl _ _ hz1 (size_Alg _ _) rfl (one_sl2 _ _ _ _ _ _) ?_
    unfold wpList
    obtain ⟨wE, hwE⟩ : ∃ x : World, x = (wd.setRow w.heap.size #[.slice a L.length ca, .slice b T.length cb]).setRow (w.heap.size + 1) #[.slice a2 M.length ca2, .slice b2 U.length cb2] := ⟨_, rfl⟩
    rw [← hwE] at hk gE rE hE1 hE2 hoth p5 p7 ⊢
    clear hwE q5 q7 hoth hz1
    refine anyC_law (i := 5) rfl (by kernel_rfl) ⟨p5, p7⟩ ?_
    go_wp2_with fail
    try simp only [Act.put, pS]
    refine anyC_done (by kernel_rfl) ⟨p5, p7⟩ ?_ _
    try simp only [Act.put, pS]
    go_wp2_with fail
    refine bodyPost_ret (v := .tuple #[.agg #[.slice a L.length ca, .slice b T.length cb], .agg #[.slice a2 M.length ca2, .slice b2 U.length cb2], .slice va (F.length + 1) vc]) (results_AAt rfl _ _ w.heap.size (w.heap.size + 1) rfl rfl _ _ _ _ hE1 hE2 rfl) rfl ?_
    exact ⟨_, _, (F ++ [(0 : Int)]), _, _, _, _, _, _, _, _, _, _, _, _, by rw [HLN.out], fl7, ((ryA.kp hk7).kp kd).kp hk, ((tyA.kp hk7).kp kd).kp hk, ((ryB.kp hk7).kp kd).kp hk, ((tyB.kp hk7).kp kd).kp hk, ((ry_of ho7).kp kd).kp hk, gE, rE.more (by omega)⟩
   ·go_wp2_with (at_builtin; go_loud (refine wpList_append_own _ rfl _ _ 23 rfl w4.heap.size 3 i0 (.int .i64 0) 1 8 Try.underlying23 hi hz0 hz1 hz2 rfl (by decide) _ _ _ rfl hoE ⟨fb, fo, none⟩ F.length cf (F.map fun x => Value.int .i64 x) rfl (by simp) HNW.out (fun x hx => by simp at hx; obtain ⟨y, _, rfl⟩ := hx; rfl) (by unfold maxLen; first | omega | (simp; done) | (simp; omega)) (by first | omega | (simp; done) | (simp; omega)) (by first | omega | (simp; done) | (simp; omega)) ?_; intro v5 w5 hown hgrow _; have ho5 : Own w4.heap.size w5 v5 F := (by unfold Own; simpa using hown); have hb5 : Below w4.heap.size w4 w5 := hbE.grown hgrow (by simp) (fun q hq => (World.ownsRow.lt hoE q hq).1); have hb5s := hb5.size; clear hown hgrow; obtain ⟨gv, cv, rfl, gvl, _⟩ := ho5.shape.resolve_left (fun h => (by have := h.2; rw [this] at f1; simp at f1))))
    have hr5 := hr4.below hb5
    have gw5 := grown_new gw4 hb5
    have fi : (1 : Int) ≤ F.length := by omega
    refine (pick_any C g (m + 20 + 1) F.length w5 hr5 (by omega) fi (by omega)).mono ?_
    rintro e w7 ⟨q, rfl, q0, q1, hg7', hr7⟩
    have ho7 := ho5.drawn hr5 hg7'
    have hrow : Row (w7.alloc (.cells #[.int .i64 0, .int .i64 1, .int .i64 (-1), .int .i64 6] 3)) w7.heap.size [0, 1, -1, 6] := heap_alloc_new w7 _
    have hown := Own.row hrow (Nat.le_refl _) (by unfold maxLen; simp)
    have hr8 := hr7.alloc (.cells #[.int .i64 0, .int .i64 1, .int .i64 (-1), .int .i64 6] 3)
    have hg8 := grown_alloc hg7' (.cells #[.int .i64 0, .int .i64 1, .int .i64 (-1), .int .i64 6] 3)
    have ho8 := ho7.alloc (.cells #[.int .i64 0, .int .i64 1, .int .i64 (-1), .int .i64 6] 3)
    go_wp2_with fail
    refine (one_any C g (m + 20 + 1 + 1) _ _ [0, 1, -1, 6] _ hr8 (by omega) (hown.held hr8) (by simp) (by simp)).mono ?_
    rintro e w9 ⟨i, i0', i1', rfl, hg9', hr9⟩
    obtain ⟨zv, hzv⟩ : ∃ u, u = nth [0, 1, -1, 6] i := ⟨_, rfl⟩
    rw [← hzv]
    clear hzv
    have hg9 := grown_trans hg8 hg9'
    have ho9 := ho8.drawn hr8 hg9'
    have hfr := ho9.freeAt q.toNat
    have hce := ho9.cellAt q0 q1
    obtain ⟨hoA, hgA'⟩ := ho9.stored q.toNat zv
    have hgA : w5.grownBy (w9.setCell ⟨gv, q.toNat, none⟩ (.int .i64 zv)) (some g) ∨ True := .inr trivial
    have hrA : Rdr (w9.setCell ⟨gv, q.toNat, none⟩ (.int .i64 zv)) C g (m + 20 + 5) := (hr9.app ho9 hC4 hgA').more (by omega)
    have hgwA : w.grownBy (w9.setCell ⟨gv, q.toNat, none⟩ (.int .i64 zv)) (some g) := grown_app (grown_trans gw5 hg9) hgA' (fun q hq => by injection hq with hq; omega)
    have hg4A : w4.grownBy (w9.setCell ⟨gv, q.toNat, none⟩ (.int .i64 zv)) (some g) := grown_app (grown_trans (grown_of_below hb5) hg9) hgA' (fun q hq => by injection hq with hq; omega)
    have HLL := Lib.hid (show (F.set q.toNat zv).length = F.length from List.length_set)
    have hk7 := kp_drawn hr4 hg4A
    go_upto_region 25 with fail
    obtain ⟨wA, hwA⟩ : ∃ x : World, x = w9.setCell ⟨gv, q.toNat, none⟩ (.int .i64 zv) := ⟨_, rfl⟩
    rw [← hwA] at hoA hrA hgwA hg4A hk7 ⊢
    clear hwA
    have x5A := box_drawn x54 (by omega) hg4A
    have x7A := box_drawn x74 (by omega) hg4A
    have zAA := box_drawn zA4 (by omega) hg4A
    have zBA := box_drawn zB4 (by omega) hg4A
    obtain ⟨F', hF'⟩ : ∃ F', F' = F.set q.toNat zv := ⟨_, rfl⟩
    rw [← hF'] at hoA HLL
    have fl7 : F'.length ≤ 7 := by have := HLL.out; omega
    refine wp_region_any (by kernel_rfl) ?_
    refine any_of_C (C := fun wz => wz.heap[g5]? = some (.cells #[.slice a L.length ca, .slice b T.length cb] 26 (0, 0)) ∧ wz.heap[g7]? = some (.cells #[.slice a2 M.length ca2, .slice b2 U.length cb2] 26 (0, 0))) _ _ _ _ ?_
    have hbd : Below wA.heap.size wA (wA.drewN 1) := Dr.below ⟨1, rfl⟩ _
    change wpAnyC _ _ _ _ _ _ _ _ (wA.drewN 1)
    obtain ⟨wd, hwd⟩ : ∃ x : World, x = wA.drewN 1 := ⟨_, rfl⟩
    rw [← hwd] at hbd ⊢
    clear hwd
    have gwd := grown_new hgwA hbd
    have hrd := hrA.below hbd
    have x5d := (hbd.block _ (lt_of_block x5A)).trans x5A
    have x7d := (hbd.block _ (lt_of_block x7A)).trans x7A
    have zAd := (hbd.block _ (lt_of_block zAA)).trans zAA
    have zBd := (hbd.block _ (lt_of_block zBA)).trans zBA
    have kd := kp_below hbd
    have szd := hbd.size
    refine anyC_take (i:=0) (oi:=⟨_,_,_,_,_,_⟩) (v := .agg #[.slice a L.length ca, .slice b T.length cb]) rfl (by kernel_rfl) (by kernel_rfl) (by kernel_rfl) (fun _ _ _ h => h) (.inl ⟨by kernel_rfl, fun wz hz => runs_load (C := fun wz => wz.heap[g5]? = some (.cells #[.slice a L.length ca, .slice b T.length cb] 26 (0, 0)) ∧ wz.heap[g7]? = some (.cells #[.slice a2 M.length ca2, .slice b2 U.length cb2] 26 (0, 0))) 26 _ rfl g5 rfl _ _ _ _ (fun w hw => hw.1) Try.underlying26 rfl (size_Alg _ _) wz hz⟩) ?_; try simp only [Act.put, pS]
    refine anyC_take (i:=1) (oi:=⟨_,_,_,_,_,_⟩) (v := .agg #[.slice a2 M.length ca2, .slice b2 U.length cb2]) rfl (by kernel_rfl) (by kernel_rfl) (by kernel_rfl) (fun _ _ _ h => h) (.inl ⟨by kernel_rfl, fun wz hz => runs_load (C := fun wz => wz.heap[g5]? = some (.cells #[.slice a L.length ca, .slice b T.length cb] 26 (0, 0)) ∧ wz.heap[g7]? = some (.cells #[.slice a2 M.length ca2, .slice b2 U.length cb2] 26 (0, 0))) 26 _ rfl g7 rfl _ _ _ _ (fun w hw => hw.2) Try.underlying26 rfl (size_Alg _ _) wz hz⟩) ?_; try simp only [Act.put, pS]
    refine anyC_take (i:=2) (oi:=⟨_,_,_,_,_,_⟩) (v := .slice (some ⟨gv, 0, none⟩) (F.length) cv) rfl (by kernel_rfl) (by kernel_rfl) (by kernel_rfl) (fun _ _ _ h => h) (.inl ⟨by kernel_rfl, fun wz hz => by apply runs_moveM <;> rfl⟩) ?_; try simp only [Act.put, pS]
    obtain ⟨hk, gE, rE, hE1, hE2, hz1, hoth⟩ := two_stored hrd gl gwd #[.slice a L.length ca, .slice b T.length cb] #[.slice a2 M.length ca2, .slice b2 U.length cb2] zAd zBd
    have p5 := (hoth g5 (by omega) (by omega)).trans x5d
    have p7 := (hoth g7 (by omega) (by omega)).trans x7d
    have q5 := (setRow_other wd w.heap.size g5 #[.slice a L.length ca, .slice b T.length cb] (by omega)).trans x5d
    have q7 := (setRow_other wd w.heap.size g7 #[.slice a L.length ca, .slice b T.length cb] (by omega)).trans x7d
    refine anyC_law (i := 3) rfl (by kernel_rfl) ⟨x5d, x7d⟩ ?_
    refine wpList_store_row rfl 26 _ _ rfl w.heap.size #[.slice a L.length ca, .slice b T.length cb] rfl rfl _ _ zAd (size_Alg _ _) rfl (one_sl2 _ _ _ _ _ _) ?_
    unfold wpList
    refine anyC_law (i := 4) rfl (by kernel_rfl) ⟨q5, q7⟩ ?_
    refine wpList_store_row rfl 26 _ _ rfl (w.heap.size + 1) #[.slice a2 M.length ca2, .slice b2 U.length cb2] rfl rfl _ _ hz1 (size_Alg _ _) rfl (one_sl2 _ _ _ _ _ _) ?_
    unfold wpList
    obtain ⟨wE, hwE⟩ : ∃ x : World, x = (wd.setRow w.heap.size #[.slice a L.length ca, .slice b T.length cb]).setRow (w.heap.size + 1) #[.slice a2 M.length ca2, .slice b2 U.length cb2] := ⟨_, rfl⟩
    rw [← hwE] at hk gE rE hE1 hE2 hoth p5 p7 ⊢
    clear hwE q5 q7 hoth hz1
    refine anyC_law (i := 5) rfl (by kernel_rfl) ⟨p5, p7⟩ ?_
    go_wp2_with fail
    try simp only [Act.put, pS]
    refine anyC_done (by kernel_rfl) ⟨p5, p7⟩ ?_ _
    try simp only [Act.put, pS]
    go_wp2_with fail
    refine bodyPost_ret (v := .tuple #[.agg #[.slice a L.length ca, .slice b T.length cb], .agg #[.slice a2 M.length ca2, .slice b2 U.length cb2], .slice (some ⟨gv, 0, none⟩) (F.length) cv]) (results_AAt rfl _ _ w.heap.size (w.heap.size + 1) rfl rfl _ _ _ _ hE1 hE2 rfl) rfl ?_
    exact ⟨_, _, F', _, _, _, _, _, _, _, _, _, _, _, _, by rw [HLL.out], fl7, ((ryA.kp hk7).kp kd).kp hk, ((tyA.kp hk7).kp kd).kp hk, ((ryB.kp hk7).kp kd).kp hk, ((tyB.kp hk7).kp kd).kp hk, ((ry_of hoA).kp kd).kp hk, gE, rE.more (by omega)⟩
   ·obtain ⟨ma1, ma6, _⟩ := latB_parts (alg_lat HA.out)
    obtain ⟨mb1, mb6, _⟩ := latB_parts (alg_lat HB.out)
    have ha1 : 1 ≤ L.length ∧ L.length ≤ 6 := by have : num L = L.length := rfl; omega
    have hb1 : 1 ≤ M.length ∧ M.length ≤ 6 := by have : num M = M.length := rfl; omega
    have ta : T.length = L.length := by have := shape_len (alg_shape HA.out); have : num L = L.length := rfl; omega
    have tb : U.length = M.length := by have := shape_len (alg_shape HB.out); have : num M = M.length := rfl; omega
    have TA := Lib.hid ta
    have TB := Lib.hid tb
    have RA := Lib.hid (show ∀ j : Nat, j < T.length → (rowAt T j).length = L.length from fun j hj => by have h := shape_row (alg_shape HA.out) (x := (j : Int)) (by omega) (by have : num L = L.length := rfl; omega); have : num L = L.length := rfl; omega)
    have RB := Lib.hid (show ∀ j : Nat, j < U.length → (rowAt U j).length = M.length from fun j hj => by have h := shape_row (alg_shape HB.out) (x := (j : Int)) (by omega) (by have : num M = M.length := rfl; omega); have : num M = M.length := rfl; omega)
    clear ta tb
    obtain ⟨ab, ao, _, rfl, _, _⟩ := ryA (fun e => by rw [e] at ha1; simp at ha1)
    obtain ⟨tb, tq, _, rfl, _, _⟩ := tyA (fun e => by have := TA.out; rw [e] at this; simp at this; omega)
    obtain ⟨mb, mo, _, rfl, _, _⟩ := ryB (fun e => by rw [e] at hb1; simp at hb1)
    obtain ⟨ub, uo, _, rfl, _, _⟩ := tyB (fun e => by have := TB.out; rw [e] at this; simp at this; omega)
    go_upto_region 24 with fail
    refine wp_region_any (by kernel_rfl) ?_
    refine any_of_C (C := fun wz => wz.heap[g5]? = some (.cells #[.slice (some ⟨ab, ao, none⟩) L.length ca, .slice (some ⟨tb, tq, none⟩) T.length cb] 26 (0, 0)) ∧ wz.heap[g7]? = some (.cells #[.slice (some ⟨mb, mo, none⟩) M.length ca2, .slice (some ⟨ub, uo, none⟩) U.length cb2] 26 (0, 0))) _ _ _ _ ?_
    have hbd : Below w4.heap.size w4 (w4.drewN 1) := Dr.below ⟨1, rfl⟩ _
    change wpAnyC _ _ _ _ _ _ _ _ (w4.drewN 1)
    obtain ⟨wd, hwd⟩ : ∃ x : World, x = w4.drewN 1 := ⟨_, rfl⟩
    rw [← hwd] at hbd ⊢
    clear hwd
    have gwd := grown_new gw4 hbd
    have hrd := hr4.below hbd
    have x5d := (hbd.block _ (lt_of_block x54)).trans x54
    have x7d := (hbd.block _ (lt_of_block x74)).trans x74
    have zAd := (hbd.block _ (lt_of_block zA4)).trans zA4
    have zBd := (hbd.block _ (lt_of_block zB4)).trans zB4
    have kd := kp_below hbd
    have szd := hbd.size
    refine anyC_take (i:=0) (oi:=⟨_,_,_,_,_,_⟩) (v := .pointer (some ⟨g, 0, none⟩)) rfl (by kernel_rfl) (by kernel_rfl) (by kernel_rfl) (fun _ _ _ h => h) (.inl ⟨by kernel_rfl, fun wz hz => by apply runs_moveM <;> rfl⟩) ?_; try simp only [Act.put, pS]
    refine anyC_take (i:=1) (oi:=⟨_,_,_,_,_,_⟩) (v := .agg #[.slice (some ⟨ab, ao, none⟩) L.length ca, .slice (some ⟨tb, tq, none⟩) T.length cb]) rfl (by kernel_rfl) (by kernel_rfl) (by kernel_rfl) (fun _ _ _ h => h) (.inl ⟨by kernel_rfl, fun wz hz => runs_load (C := fun wz => wz.heap[g5]? = some (.cells #[.slice (some ⟨ab, ao, none⟩) L.length ca, .slice (some ⟨tb, tq, none⟩) T.length cb] 26 (0, 0)) ∧ wz.heap[g7]? = some (.cells #[.slice (some ⟨mb, mo, none⟩) M.length ca2, .slice (some ⟨ub, uo, none⟩) U.length cb2] 26 (0, 0))) 26 _ rfl g5 rfl _ _ _ _ (fun w hw => hw.1) Try.underlying26 rfl (size_Alg _ _) wz hz⟩) ?_; try simp only [Act.put, pS]
    refine anyC_take (i:=3) (oi:=⟨_,_,_,_,_,_⟩) (v := .pointer (some ⟨g, 0, none⟩)) rfl (by kernel_rfl) (by kernel_rfl) (by kernel_rfl) (fun _ _ _ h => h) (.inl ⟨by kernel_rfl, fun wz hz => by apply runs_moveM <;> rfl⟩) ?_; try simp only [Act.put, pS]
    refine anyC_take (i:=4) (oi:=⟨_,_,_,_,_,_⟩) (v := .agg #[.slice (some ⟨mb, mo, none⟩) M.length ca2, .slice (some ⟨ub, uo, none⟩) U.length cb2]) rfl (by kernel_rfl) (by kernel_rfl) (by kernel_rfl) (fun _ _ _ h => h) (.inl ⟨by kernel_rfl, fun wz hz => runs_load (C := fun wz => wz.heap[g5]? = some (.cells #[.slice (some ⟨ab, ao, none⟩) L.length ca, .slice (some ⟨tb, tq, none⟩) T.length cb] 26 (0, 0)) ∧ wz.heap[g7]? = some (.cells #[.slice (some ⟨mb, mo, none⟩) M.length ca2, .slice (some ⟨ub, uo, none⟩) U.length cb2] 26 (0, 0))) 26 _ rfl g7 rfl _ _ _ _ (fun w hw => hw.2) Try.underlying26 rfl (size_Alg _ _) wz hz⟩) ?_; try simp only [Act.put, pS]
    refine anyC_take (i:=6) (oi:=⟨_,_,_,_,_,_⟩) (v := .slice (some ⟨fb, fo, none⟩) F.length cf) rfl (by kernel_rfl) (by kernel_rfl) (by kernel_rfl) (fun _ _ _ h => h) (.inl ⟨by kernel_rfl, fun wz hz => by apply runs_moveM <;> rfl⟩) ?_; try simp only [Act.put, pS]
    refine anyC_call (i := 2) (o := ⟨_, _, _, _, _, _⟩) (f := 55) (args := #[.pointer (some ⟨g, 0, none⟩), .agg #[.slice (some ⟨ab, ao, none⟩) L.length ca, .slice (some ⟨tb, tq, none⟩) T.length cb]]) rfl (by kernel_rfl) (by kernel_rfl) (by apply runs_call2 (he := enters_of Try.func55 (by kernel_rfl) rfl) <;> rfl) ⟨x5d, x7d⟩ ?_
    refine (bent_any C g (m + 20 + 1) wd hrd (by omega) ab ao tb tq ca cb L T (ryA.kp kd) (tyA.kp kd) ha1.1 ha1.2 TA.out RA.out).mono ?_
    rintro e w5 ⟨L3, T3, a3, ca3, b3, cb3, rfl, _, ry3, ty3, hg5, hr5⟩
    refine ⟨_, rfl, ?_⟩
    try simp only [Act.put, pS]
    have x55 := box_drawn x5d (by omega) hg5
    have x75 := box_drawn x7d (by omega) hg5
    have hk5 := kp_drawn hrd hg5
    have hs5 := hg5.size
    refine anyC_call (i := 5) (o := ⟨_, _, _, _, _, _⟩) (f := 55) (args := #[.pointer (some ⟨g, 0, none⟩), .agg #[.slice (some ⟨mb, mo, none⟩) M.length ca2, .slice (some ⟨ub, uo, none⟩) U.length cb2]]) rfl (by kernel_rfl) (by kernel_rfl) (by apply runs_call2 (he := enters_of Try.func55 (by kernel_rfl) rfl) <;> rfl) ⟨x55, x75⟩ ?_
    refine (bent_any C g (m + 20 + 1 + 5) w5 hr5 (by omega) mb mo ub uo ca2 cb2 M U ((ryB.kp kd).kp hk5) ((tyB.kp kd).kp hk5) hb1.1 hb1.2 TB.out RB.out).mono ?_
    rintro e w6 ⟨M3, U3, a4, ca4, b4, cb4, rfl, _, ry4, ty4, hg6, hr6⟩
    refine ⟨_, rfl, ?_⟩
    try simp only [Act.put, pS]
    have x56 := box_drawn x55 (by omega) hg6
    have x76 := box_drawn x75 (by omega) hg6
    have zA6 := box_drawn (box_drawn zAd (by omega) hg5) (by omega) hg6
    have zB6 := box_drawn (box_drawn zBd (by omega) hg5) (by omega) hg6
    have hk6 := kp_drawn hr5 hg6
    have gw6 := grown_trans (grown_trans gwd hg5) hg6
    have fl7 : F.length ≤ 7 := by omega
    obtain ⟨hk, gE, rE, hE1, hE2, hz1, hoth⟩ := two_stored hr6 gl gw6 #[.slice a3 L3.length ca3, .slice b3 T3.length cb3] #[.slice a4 M3.length ca4, .slice b4 U3.length cb4] zA6 zB6
    have p5 := (hoth g5 (by omega) (by omega)).trans x56
    have p7 := (hoth g7 (by omega) (by omega)).trans x76
    have q5 := (setRow_other w6 w.heap.size g5 #[.slice a3 L3.length ca3, .slice b3 T3.length cb3] (by omega)).trans x56
    have q7 := (setRow_other w6 w.heap.size g7 #[.slice a3 L3.length ca3, .slice b3 T3.length cb3] (by omega)).trans x76
    refine anyC_law (i := 7) rfl (by kernel_rfl) ⟨x56, x76⟩ ?_
    refine wpList_store_row rfl 26 _ _ rfl w.heap.size #[.slice a3 L3.length ca3, .slice b3 T3.length cb3] rfl rfl _ _ zA6 (size_Alg _ _) rfl (one_sl2 _ _ _ _ _ _) ?_
    unfold wpList
    refine anyC_law (i := 8) rfl (by kernel_rfl) ⟨q5, q7⟩ ?_
    refine wpList_store_row rfl 26 _ _ rfl (w.heap.size + 1) #[.slice a4 M3.length ca4, .slice b4 U3.length cb4] rfl rfl _ _ hz1 (size_Alg _ _) rfl (one_sl2 _ _ _ _ _ _) ?_
    unfold wpList
    obtain ⟨wE, hwE⟩ : ∃ x : World, x = (w6.setRow w.heap.size #[.slice a3 L3.length ca3, .slice b3 T3.length cb3]).setRow (w.heap.size + 1) #[.slice a4 M3.length ca4, .slice b4 U3.length cb4] := ⟨_, rfl⟩
    rw [← hwE] at hk gE rE hE1 hE2 hoth p5 p7 ⊢
    clear hwE q5 q7 hoth hz1
    refine anyC_law (i := 9) rfl (by kernel_rfl) ⟨p5, p7⟩ ?_
    go_wp2_with fail
    try simp only [Act.put, pS]
    refine anyC_done (by kernel_rfl) ⟨p5, p7⟩ ?_ _
    try simp only [Act.put, pS]
    go_wp2_with fail
    refine bodyPost_ret (v := .tuple #[.agg #[.slice a3 L3.length ca3, .slice b3 T3.length cb3], .agg #[.slice a4 M3.length ca4, .slice b4 U3.length cb4], .slice (some ⟨fb, fo, none⟩) (F.length) cf]) (results_AAt rfl _ _ w.heap.size (w.heap.size + 1) rfl rfl _ _ _ _ hE1 hE2 rfl) rfl ?_
    exact ⟨_, _, F, _, _, _, _, _, _, _, _, _, _, _, _, rfl, fl7, (ry3.kp hk6).kp hk, (ty3.kp hk6).kp hk, (ry4).kp hk, (ty4).kp hk, (((ryF.kp kd).kp hk5).kp hk6).kp hk, gE, rE.more (by omega)⟩
   ·have k00 : (k == 0) = false := by rw [beq_eq_false_iff_ne]; omega
    have k01 : (k == 1) = false := by rw [beq_eq_false_iff_ne]; omega
    have k02 : (k == 2) = false := by rw [beq_eq_false_iff_ne]; omega
    go_upto_region 25 with fail
    have hkr := kp_below (Below.refl w4.heap.size w4)
    have fl7 : F.length ≤ 7 := by omega
    refine wp_region_any (by kernel_rfl) ?_
    refine any_of_C (C := fun wz => wz.heap[g5]? = some (.cells #[.slice a L.length ca, .slice b T.length cb] 26 (0, 0)) ∧ wz.heap[g7]? = some (.cells #[.slice a2 M.length ca2, .slice b2 U.length cb2] 26 (0, 0))) _ _ _ _ ?_
    have hbd : Below w4.heap.size w4 (w4.drewN 1) := Dr.below ⟨1, rfl⟩ _
    change wpAnyC _ _ _ _ _ _ _ _ (w4.drewN 1)
    obtain ⟨wd, hwd⟩ : ∃ x : World, x = w4.drewN 1 := ⟨_, rfl⟩
    rw [← hwd] at hbd ⊢
    clear hwd
    have gwd := grown_new gw4 hbd
    have hrd := hr4.below hbd
    have x5d := (hbd.block _ (lt_of_block x54)).trans x54
    have x7d := (hbd.block _ (lt_of_block x74)).trans x74
    have zAd := (hbd.block _ (lt_of_block zA4)).trans zA4
    have zBd := (hbd.block _ (lt_of_block zB4)).trans zB4
    have kd := kp_below hbd
    have szd := hbd.size
    refine anyC_take (i:=0) (oi:=⟨_,_,_,_,_,_⟩) (v := .agg #[.slice a L.length ca, .slice b T.length cb]) rfl (by kernel_rfl) (by kernel_rfl) (by kernel_rfl) (fun _ _ _ h => h) (.inl ⟨by kernel_rfl, fun wz hz => runs_load (C := fun wz => wz.heap[g5]? = some (.cells #[.slice a L.length ca, .slice b T.length cb] 26 (0, 0)) ∧ wz.heap[g7]? = some (.cells #[.slice a2 M.length ca2, .slice b2 U.length cb2] 26 (0, 0))) 26 _ rfl g5 rfl _ _ _ _ (fun w hw => hw.1) Try.underlying26 rfl (size_Alg _ _) wz hz⟩) ?_; try simp only [Act.put, pS]
    refine anyC_take (i:=1) (oi:=⟨_,_,_,_,_,_⟩) (v := .agg #[.slice a2 M.length ca2, .slice b2 U.length cb2]) rfl (by kernel_rfl) (by kernel_rfl) (by kernel_rfl) (fun _ _ _ h => h) (.inl ⟨by kernel_rfl, fun wz hz => runs_load (C := fun wz => wz.heap[g5]? = some (.cells #[.slice a L.length ca, .slice b T.length cb] 26 (0, 0)) ∧ wz.heap[g7]? = some (.cells #[.slice a2 M.length ca2, .slice b2 U.length cb2] 26 (0, 0))) 26 _ rfl g7 rfl _ _ _ _ (fun w hw => hw.2) Try.underlying26 rfl (size_Alg _ _) wz hz⟩) ?_; try simp only [Act.put, pS]
    refine anyC_take (i:=2) (oi:=⟨_,_,_,_,_,_⟩) (v := .slice (some ⟨fb, fo, none⟩) (F.length) cf) rfl (by kernel_rfl) (by kernel_rfl) (by kernel_rfl) (fun _ _ _ h => h) (.inl ⟨by kernel_rfl, fun wz hz => by apply runs_moveM <;> rfl⟩) ?_; try simp only [Act.put, pS]
    obtain ⟨hk, gE, rE, hE1, hE2, hz1, hoth⟩ := two_stored hrd gl gwd #[.slice a L.length ca, .slice b T.length cb] #[.slice a2 M.length ca2, .slice b2 U.length cb2] zAd zBd
    have p5 := (hoth g5 (by omega) (by omega)).trans x5d
    have p7 := (hoth g7 (by omega) (by omega)).trans x7d
    have q5 := (setRow_other wd w.heap.size g5 #[.slice a L.length ca, .slice b T.length cb] (by omega)).trans x5d
    have q7 := (setRow_other wd w.heap.size g7 #[.slice a L.length ca, .slice b T.length cb] (by omega)).trans x7d
    refine anyC_law (i := 3) rfl (by kernel_rfl) ⟨x5d, x7d⟩ ?_
    refine wpList_store_row rfl 26 _ _ rfl w.heap.size #[.slice a L.length ca, .slice b T.length cb] rfl rfl _ _ zAd (size_Alg _ _) rfl (one_sl2 _ _ _ _ _ _) ?_
    unfold wpList
    refine anyC_law (i := 4) rfl (by kernel_rfl) ⟨q5, q7⟩ ?_
    refine wpList_store_row rfl 26 _ _ rfl (w.heap.size + 1) #[.slice a2 M.length ca2, .slice b2 U.length cb2] rfl rfl _ _ hz1 (size_Alg _ _) rfl (one_sl2 _ _ _ _ _ _) ?_
    unfold wpList
    obtain ⟨wE, hwE⟩ : ∃ x : World, x = (wd.setRow w.heap.size #[.slice a L.length ca, .slice b T.length cb]).setRow (w.heap.size + 1) #[.slice a2 M.length ca2, .slice b2 U.length cb2] := ⟨_, rfl⟩
    rw [← hwE] at hk gE rE hE1 hE2 hoth p5 p7 ⊢
    clear hwE q5 q7 hoth hz1
    refine anyC_law (i := 5) rfl (by kernel_rfl) ⟨p5, p7⟩ ?_
    go_wp2_with fail
    try simp only [Act.put, pS]
    refine anyC_done (by kernel_rfl) ⟨p5, p7⟩ ?_ _
    try simp only [Act.put, pS]
    go_wp2_with fail
    refine bodyPost_ret (v := .tuple #[.agg #[.slice a L.length ca, .slice b T.length cb], .agg #[.slice a2 M.length ca2, .slice b2 U.length cb2], .slice (some ⟨fb, fo, none⟩) (F.length) cf]) (results_AAt rfl _ _ w.heap.size (w.heap.size + 1) rfl rfl _ _ _ _ hE1 hE2 rfl) rfl ?_
    exact ⟨_, _, F, _, _, _, _, _, _, _, _, _, _, _, _, rfl, fl7, ((ryA.kp hkr).kp kd).kp hk, ((tyA.kp hkr).kp kd).kp hk, ((ryB.kp hkr).kp kd).kp hk, ((tyB.kp hkr).kp kd).kp hk, ((ryF).kp kd).kp hk, gE, rE.more (by omega)⟩
end Go.Proofs.Ytljnbhnnjfnjeaa
