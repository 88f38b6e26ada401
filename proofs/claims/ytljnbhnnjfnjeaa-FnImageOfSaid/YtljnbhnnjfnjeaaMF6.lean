import Derived.Test.YtljnbhnnjfnjeaaMF9
import Derived.Test.YtljnbhnnjfnjeaaMP1
import Derived.Test.YtljnbhnnjfnjeaaB15
import Derived.Test.YtljnbhnnjfnjeaaB9
import Derived.Test.YtljnbhnnjfnjeaaSL0
namespace Go.Proofs.Ytljnbhnnjfnjeaa
open Go.RowKit
set_option linter.unusedVariables false

set_option maxRecDepth 100000 in
set_option maxHeartbeats 8000000 in
/-- laws.FnImageOf -/
theorem lawPImageOf (a0 : Option Addr) (len0 cap0 : Nat) (w : World) (hy : RdY w a0 len0 w.heap.size) (hc : len0 ≤ cap0) (hm : len0 ≤ maxLen) :
    Calls Try.prog 5 #[.slice a0 len0 cap0] w fun e w' => e = .returned (.bool true) ∧ Below w.heap.size w w' := by
  by_cases hbig : 1048576 < len0
  · have hbig2 : (1048576 : Int) < len0 := by omega
    go_enter Try.func5, Try.ntmps5
    go_wp2
    go_ret
    exact ⟨rfl, Below.refl _ _⟩
  · have hs : len0 ≤ 1048576 := by omega
    have hs2 : ¬ (1048576 : Int) < len0 := by omega
    go_enter Try.func5, Try.ntmps5
    go_wp2_with fail
    refine (drawImageOf_any a0 len0 cap0 w hy hc hs).mono ?_
    rintro e w1 ⟨L, M, F, T, U, a, b, a2, b2, f, ca, cb, ca2, cb2, cf, rfl, f7, hr, hT, hr2, hT2, hf, hb⟩
    have _ := hm
    clear hs hs2 hbig hy hm hc
    have f8 : F.length ≤ 1048576 := by omega
    obtain ⟨wv, hwv⟩ : ∃ wv, wv = (w1.alloc (.cells #[.slice none 0 0, .slice none 0 0] 26)).alloc (.cells #[.slice none 0 0, .slice none 0 0] 26) := ⟨_, rfl⟩
    obtain ⟨w2, hw2⟩ : ∃ x, x = (wv.setRow w1.heap.size #[.slice a L.length ca, .slice b T.length cb]).setRow (w1.heap.size + 1) #[.slice a2 M.length ca2, .slice b2 U.length cb2] := ⟨_, rfl⟩
    have hZ1 : wv.heap[w1.heap.size]? = some (.cells #[.slice none 0 0, .slice none 0 0] 26 (0, 0)) := by rw [hwv, Below.heap_alloc _ _ _ (by simp)]; exact heap_alloc_new w1 _
    have hZ2 : (wv.setRow w1.heap.size #[.slice a L.length ca, .slice b T.length cb]).heap[w1.heap.size + 1]? = some (.cells #[.slice none 0 0, .slice none 0 0] 26 (0, 0)) := (setRow_other _ _ _ _ (by omega)).trans (by rw [hwv]; exact heap_alloc2_new _ _ _)
    have hbv : Below w1.heap.size w1 wv := by rw [hwv]; exact ((Below.refl _ _).alloc (Nat.le_refl _) _).alloc (by simp) _
    have hby : Below w1.heap.size w1 w2 := by rw [hw2]; exact below_setRow' (below_setRow' hbv (Nat.le_refl _) _) (by omega) _
    have hB : Below w.heap.size w w2 := hb.trans (hby.mono hb.size)
    obtain ⟨g, hg⟩ : ∃ b, b = w1.heap.size := ⟨_, rfl⟩
    obtain ⟨g', hg'⟩ : ∃ b, b = w1.heap.size + 1 := ⟨_, rfl⟩
    have x1 : w2.heap[g]? = some (.cells #[.slice a L.length ca, .slice b T.length cb] 26 (0, 0)) := by rw [hw2, hg]; exact (setRow_other _ _ _ _ (by omega)).trans (setRow_heap _ _ _ _ _ _ hZ1)
    have x2 : w2.heap[g']? = some (.cells #[.slice a2 M.length ca2, .slice b2 U.length cb2] 26 (0, 0)) := by rw [hw2, hg']; exact setRow_heap _ _ _ _ _ _ hZ2
    have KA := Lib.hid (show ∀ wz, Below w2.heap.size w2 wz → wz.heap[g]? = some (.cells #[.slice a L.length ca, .slice b T.length cb] 26 (0, 0)) from fun wz h => (h.block _ (lt_of_block x1)).trans x1)
    have KB := Lib.hid (show ∀ wz, Below w2.heap.size w2 wz → wz.heap[g']? = some (.cells #[.slice a2 M.length ca2, .slice b2 U.length cb2] 26 (0, 0)) from fun wz h => (h.block _ (lt_of_block x2)).trans x2)
    have KR := Lib.hid (show ∀ wz, Below w2.heap.size w2 wz → Rd wz a L from fun wz h => (hr.below hby).below h)
    have KT := Lib.hid (show ∀ wz, Below w2.heap.size w2 wz → RdT wz b T from fun wz h => (hT.below hby).below h)
    have KR2 := Lib.hid (show ∀ wz, Below w2.heap.size w2 wz → Rd wz a2 M from fun wz h => (hr2.below hby).below h)
    have KT2 := Lib.hid (show ∀ wz, Below w2.heap.size w2 wz → RdT wz b2 U from fun wz h => (hT2.below hby).below h)
    have KF := Lib.hid (show ∀ wz, Below w2.heap.size w2 wz → Rd wz f F from fun wz h => (hf.below hby).below h)
    have FIN := Lib.hid (show ∀ wz, Below w2.heap.size w2 wz → Below w.heap.size w wz from fun wz h => hB.trans (h.mono hB.size))
    have z : Below w2.heap.size w2 w2 := Below.refl _ _
    clear hr hT hr2 hT2 hf hb hB hby hbv x1 x2
    obtain ⟨k, hk⟩ : ∃ k, k = imgI L T M U F := ⟨_, rfl⟩
    have HI := Lib.hid (show ∀ w, Rd w a L → RdT w b T → Rd w a2 M → RdT w b2 U → Rd w f F → Calls Try.prog 17 #[.agg #[.slice a L.length ca, .slice b T.length cb], .agg #[.slice a2 M.length ca2, .slice b2 U.length cb2], .slice f F.length cf] w fun e w' => e = .returned (.int .i64 k) ∧ Below w.heap.size w w' from fun w h1 h2 h3 h4 h5 => by rw [hk]; exact implImageOf_any _ _ _ _ L T _ _ _ _ M U _ _ F w h1 h2 h3 h4 h5 f8)
    have HS := Lib.hid (show ∀ w, Rd w a L → RdT w b T → Rd w a2 M → RdT w b2 U → Rd w f F → Calls Try.prog 19 #[.agg #[.slice a L.length ca, .slice b T.length cb], .agg #[.slice a2 M.length ca2, .slice b2 U.length cb2], .slice f F.length cf] w fun e w' => e = .returned (.int .i64 k) ∧ Below w.heap.size w w' from fun w h1 h2 h3 h4 h5 => by rw [hk]; exact specImageOf_any _ _ _ _ L T _ _ _ _ M U _ _ F w h1 h2 h3 h4 h5 f8)
    cases hV : isMapB L T M U F with
    | false =>
      have hk1 : k = -1 := by rw [hk]; unfold imgI; rw [hV]; rfl
      clear hk hV
      subst hk1
      go_wp2_with (first
      | go_skip
      | (rw [← hwv]; clear hwv)
      | (rw [← hw2, ← hg', ← hg]; clear hw2 hg' hg)
      | (refine wpList_store_row rfl 26 _ _ rfl w1.heap.size #[.slice a L.length ca, .slice b T.length cb] rfl rfl _ _ hZ1 (size_Alg _ _) rfl (one_sl2 _ _ _ _ _ _) ?_)
      | (refine wpList_store_row rfl 26 _ _ rfl (w1.heap.size + 1) #[.slice a2 M.length ca2, .slice b2 U.length cb2] rfl rfl _ _ hZ2 (size_Alg _ _) rfl (one_sl2 _ _ _ _ _ _) ?_)
      | (refine wpList_load_row_w rfl 26 _ rfl g rfl _ _ _ _ (KA.out _ z) Try.underlying26 rfl (size_Alg _ _) ?_)
      | (refine wpList_load_row_w rfl 26 _ rfl g' rfl _ _ _ _ (KB.out _ z) Try.underlying26 rfl (size_Alg _ _) ?_)
      | (go_at_call 17; refine (HI.out _ (KR.out _ z) (KT.out _ z) (KR2.out _ z) (KT2.out _ z) (KF.out _ z)).mono ?_; rintro e wz ⟨rfl, hb⟩; replace z := z.trans (hb.mono z.size))
      | (go_at_call 19; refine (HS.out _ (KR.out _ z) (KT.out _ z) (KR2.out _ z) (KT2.out _ z) (KF.out _ z)).mono ?_; rintro e wz ⟨rfl, hb⟩; replace z := z.trans (hb.mono z.size)))
      go_ret
      exact ⟨rfl, FIN.out _ z⟩
    | true =>
      have hMF := mapF_of hV
      have hk1 : k = setL F := by rw [hk]; unfold imgI; rw [hV]; rfl
      obtain ⟨hp, p0, p1⟩ := hMF.part
      rw [← hk1] at hp p0 p1
      have hin : inL (algV M U (prts M U)) k = true := by
        rw [algV_t hMF.a2]
        unfold inL
        rw [List.contains_iff_mem]
        exact (filtTo_mem _ _ _).2 ⟨p0, p1, by rw [← pr_eq]; exact hp⟩
      have hlen : (algV M U (prts M U)).length ≤ 1073741824 := by
        rw [algV_t hMF.a2]
        have := prts_len M U (lat_len (alg_lat hMF.a2)).2
        omega
      obtain ⟨V, hVV⟩ : ∃ V, V = algV M U (prts M U) := ⟨_, rfl⟩
      have HP := Lib.hid (show ∀ w, Rd w a2 M → RdT w b2 U → Calls Try.prog 21 #[.agg #[.slice a2 M.length ca2, .slice b2 U.length cb2]] w (RetSl w.heap.size V w) from fun w h1 h2 => by rw [hVV]; exact implPartsOf_any _ _ _ _ M U w h1 h2)
      rw [← hVV] at hin hlen
      have HIN := Lib.hid hin
      clear hk hV hk1 hMF hp p1 hVV hin
      have pn : ¬ k < 0 := by omega
      go_wp2_with (first
      | go_skip
      | (rw [← hwv]; clear hwv)
      | (rw [← hw2, ← hg', ← hg]; clear hw2 hg' hg)
      | (refine wpList_store_row rfl 26 _ _ rfl w1.heap.size #[.slice a L.length ca, .slice b T.length cb] rfl rfl _ _ hZ1 (size_Alg _ _) rfl (one_sl2 _ _ _ _ _ _) ?_)
      | (refine wpList_store_row rfl 26 _ _ rfl (w1.heap.size + 1) #[.slice a2 M.length ca2, .slice b2 U.length cb2] rfl rfl _ _ hZ2 (size_Alg _ _) rfl (one_sl2 _ _ _ _ _ _) ?_)
      | (refine wpList_load_row_w rfl 26 _ rfl g rfl _ _ _ _ (KA.out _ z) Try.underlying26 rfl (size_Alg _ _) ?_)
      | (refine wpList_load_row_w rfl 26 _ rfl g' rfl _ _ _ _ (KB.out _ z) Try.underlying26 rfl (size_Alg _ _) ?_)
      | (go_at_call 17; refine (HI.out _ (KR.out _ z) (KT.out _ z) (KR2.out _ z) (KT2.out _ z) (KF.out _ z)).mono ?_; rintro e wz ⟨rfl, hb⟩; replace z := z.trans (hb.mono z.size))
      | (go_at_call 19; refine (HS.out _ (KR.out _ z) (KT.out _ z) (KR2.out _ z) (KT2.out _ z) (KF.out _ z)).mono ?_; rintro e wz ⟨rfl, hb⟩; replace z := z.trans (hb.mono z.size))
      | (go_at_call 21; refine (HP.out _ (KR2.out _ z) (KT2.out _ z)).mono ?_; rintro e wz ⟨pa, pc, rfl, hpo, hb⟩; replace z := z.trans (hb.mono z.size))
      | (go_at_call 20; refine (lawIsIn_any _ _ V k _ hpo.rd hlen).mono ?_; rw [HIN.out]; rintro e wz ⟨rfl, hd⟩; replace z := z.trans (hd.below _)))
      go_ret
      exact ⟨rfl, FIN.out _ z⟩
end Go.Proofs.Ytljnbhnnjfnjeaa
