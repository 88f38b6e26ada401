import Derived.Test.YtidbilgnclfplaaTM11
namespace Go.Proofs.Ytidbilgnclfplaa
open Go.RowKit
set_option linter.unusedVariables false

theorem rowAt_one (t : List Int) : rowAt [t] ((0 : Nat) : Int) = t := rfl
theorem tmCells_one {w : World} {tb : Nat} {at_ : Option Addr} {ct : Nat} {t : List Int} (hc : w.cell? ⟨tb, 0, none⟩ = some (.slice at_ t.length ct)) (hr : Rd w at_ t) (h1 : t.length ≤ ct) (h2 : t.length ≤ 1048576) : TmCells w tb [t] := fun j hj => by
  have : j = 0 := by simp at hj; omega
  subst this
  exact ⟨at_, ct, hc, hr, h1, h2⟩
theorem all_one {t : List Int} : (∀ j : Nat, j < [t].length → vtB (rowAt [t] j) = true) ↔ vtB t = true := by
  refine ⟨fun h => h 0 (by simp), fun h j hj => ?_⟩
  have : j = 0 := by simp at hj; omega
  subst this
  exact h
theorem nmB_has (L N : List Int) : nmB L N = (withB L N && decide (num N = 3)) := by
  unfold nmB withB
  congr 1
  refine allI_congr fun i i0 i1 => ?_
  unfold nmR inE
  congr 1
  have hn : num L = L.length := rfl
  by_cases h : nth N i < (L.length : Int)
  · rw [decide_eq_true h, decide_eq_true (by omega)]
  · rw [decide_eq_false h, decide_eq_false (by omega)]
/-- an algebra and one term are read, by a caller -/
theorem readAT_one (a b : Option Addr) (ca cb : Nat) (L : List Int) (T : List (List Int)) (at_ : Option Addr) (ct : Nat) (t : List Int) (w : World) (hr : Rd w a L) (hT : RdT w b T) (ht : Rd w at_ t) (hct : t.length ≤ ct) (hmt : t.length ≤ 1048576) :
    Calls Try.prog 59 #[.agg #[.slice a L.length ca, .slice b T.length cb], .slice (some ⟨w.heap.size, 0, none⟩) 1 1] (w.alloc (.cells #[.slice at_ t.length ct] 22)) fun e w' =>
      (algB L T = true ∧ vtB t = true ∧ ∃ nb, e = .returned (.tuple #[.agg (algOf L T), .slice (some ⟨nb, 0, none⟩) 1 1, .bool true]) ∧ w.heap.size ≤ nb ∧ NdAt w' nb [tmV t.length t] ∧ Below w.heap.size w w') ∨
      ((algB L T && vtB t) = false ∧ e = .returned (.tuple #[.agg zeroAlg, .slice none 0 0, .bool false]) ∧ Below w.heap.size w w') := by
  have hb : Below w.heap.size w (w.alloc (.cells #[.slice at_ t.length ct] 22)) := (Below.refl _ _).alloc (Nat.le_refl _) _
  have hc : (w.alloc (.cells #[.slice at_ t.length ct] 22)).cell? ⟨w.heap.size, 0, none⟩ = some (.slice at_ t.length ct) := by rw [cell_of_row _ w.heap.size 0 _ _ _ (heap_alloc_new w _)]; rfl
  have hs : w.heap.size ≤ (w.alloc (.cells #[.slice at_ t.length ct] 22)).heap.size := hb.size
  refine (readAT_any a b ca cb L T w.heap.size 1 [t] _ (hr.below hb) (hT.below hb) (tmCells_one hc (ht.below hb) hct hmt) (by simp)).mono fun e w' h => ?_
  rcases h with ⟨h1, h2, nb, he, hn, hN, hbb⟩ | ⟨h1, he, hbb⟩
  · exact .inl ⟨h1, all_one.1 h2, nb, he, Nat.le_trans hs hn, hN, hb.trans (hbb.mono hs)⟩
  · refine .inr ⟨?_, he, hb.trans (hbb.mono hs)⟩
    rw [Bool.eq_false_iff]
    intro h
    rw [Bool.and_eq_true] at h
    exact h1 ⟨h.1, all_one.2 h.2⟩
set_option maxRecDepth 100000 in
set_option maxHeartbeats 4000000 in
/-- impl.ValueOf -/
theorem implValueOf_any (a b : Option Addr) (ca cb : Nat) (L : List Int) (T : List (List Int)) (at_ : Option Addr) (ct : Nat) (t : List Int) (an : Option Addr) (cn : Nat) (N : List Int) (w : World) (hr : Rd w a L) (hT : RdT w b T) (ht : Rd w at_ t) (hn : Rd w an N) (hmt : t.length ≤ 1048576) (hm : N.length ≤ 1048576) (hct : t.length ≤ ct) :
    Calls Try.prog 25 #[.agg #[.slice a L.length ca, .slice b T.length cb], .slice at_ t.length ct, .slice an N.length cn] w fun e w' => e = .returned (.int .i64 (vofI L T t N)) ∧ Below w.heap.size w w' := by
  obtain ⟨w1, hw1⟩ : ∃ w1, w1 = w.alloc (.cells #[.slice a L.length ca, .slice b T.length cb] 33) := ⟨_, rfl⟩
  have hB : Below w.heap.size w w1 := by rw [hw1]; exact (Below.refl _ _).alloc (Nat.le_refl _) _
  have hx1 : w1.heap[w.heap.size]? = some (.cells #[.slice a L.length ca, .slice b T.length cb] 33 (0, 0)) := by rw [hw1]; exact heap_alloc_new w _
  have KX := Lib.hid (show ∀ wz, Below w1.heap.size w1 wz → wz.heap[w.heap.size]? = some (.cells #[.slice a L.length ca, .slice b T.length cb] 33 (0, 0)) from fun wz h => (h.block _ (lt_of_block hx1)).trans hx1)
  have KN := Lib.hid (show ∀ wz, Below w1.heap.size w1 wz → Rd wz an N from fun wz h => (hn.below hB).below h)
  have HC := Lib.hid (readAT_one a b ca cb L T at_ ct t w1 (hr.below hB) (hT.below hB) (ht.below hB) hct hmt)
  have z : Below w1.heap.size w1 w1 := Below.refl _ _
  clear hr hT ht hn hx1
  go_enter Try.func25, Try.ntmps25
  go_wp2_with (first
    | (rw [← hw1]; clear hw1)
    | (refine wpList_load_row_w rfl 33 _ rfl w.heap.size rfl _ _ _ _ (KX.out _ (by assumption)) Try.underlying33 rfl (size_Alg _ _) ?_))
  refine HC.out.mono ?_
  rintro e w2 (⟨hA, hv, nb, rfl, hnb, hN, hb2⟩ | ⟨hno, rfl, hb2⟩)
  · replace z := hb2
    obtain ⟨l15, htm⟩ := vtB_parts hv
    obtain ⟨T1, y1, e1⟩ := tmV_if htm
    have l6 : (L.length : Int) ≤ 6 := (lat_len (alg_lat hA)).2
    by_cases hlen : N.length = 3
    · have hneq : ((N.length : Int) != 3) = false := by rw [hlen]; rfl
      cases hq : withB L N with
      | false =>
        have HV := Lib.hid (show vofI L T t N = -1 by unfold vofI; rw [nmB_has, hq, hA, hv]; rfl)
        clear hb2 HC htm e1 hA hv
        have HQ := Lib.hid hq
        have HL := Lib.hid hlen
        clear hq hlen
        go_wp2_with (first
          | go_skip
          | (refine wpList_store_row rfl 72 _ _ rfl w2.heap.size (algOf L T) rfl rfl _ _ (heap_alloc_new w2 (.cells zeroAlg 72)) (size_alg _ _ _ _ _ _) rfl (one_alg _ _ _ _ _ _) ?_; rw [World.setRow_alloc_new]; obtain ⟨bl, hbl⟩ : ∃ bl, bl = w2.heap.size := ⟨_, rfl⟩; obtain ⟨w3, hw3⟩ : ∃ w3, w3 = w2.alloc (.cells (algOf L T) 72) := ⟨_, rfl⟩; rw [← hw3, ← hbl]; have hAl : AlgAt w3 bl L T := (by rw [hw3, hbl]; exact AlgAt.new w2 L T); have q3 : Below w2.heap.size w2 w3 := (by rw [hw3]; exact (Below.refl _ _).alloc (Nat.le_refl _) _); replace hN := hN.below q3 hN.lt; replace z := z.trans (q3.mono z.size); have asz := hAl.size; clear hw3 hbl q3)
          | (refine wpList_load_mid_w rfl 70 _ rfl bl 0 rfl _ _ hAl.lat Try.underlying70 rfl (size_latOf L) ?_)
          | (go_at_call 60; refine (ret_below (has_any an cn L N _ (KN.out _ z) hm) HQ.out).mono ?_; rintro e w4 ⟨rfl, h4⟩; replace z := z.trans (h4.mono z.size)))
        go_ret
        exact ⟨by rw [HV.out]; rfl, hB.trans (z.mono hB.size)⟩
      | true =>
        have hnm : nmB L N = true := by rw [nmB_has, hq, decide_eq_true (by unfold num; omega)]; rfl
        have hNe := (nmB_parts hnm).2
        have HV := Lib.hid (show vofI L T t N = vlI L T N t.length t by unfold vofI; rw [hnm, hA, hv]; rfl)
        obtain ⟨nb2, no2, rfl⟩ := rd_some (KN.out _ z) (fun e => by rw [e] at hlen; cases hlen)
        have HS := Lib.hid (fun (ba : Nat) (wz : World) (hz : Below w1.heap.size w1 wz) (ha : AlgAt wz ba L T) => value_any L T ba N nb2 no2 cn hlen hA hNe t.length t [] wz htm ha (KN.out _ hz))
        rw [e1] at HS hN
        have k0 := hN.cell (k := 0) (v := .iface T1 y1) rfl
        clear hb2 HC htm e1 hA hv hNe hnm
        have HQ := Lib.hid hq
        have HL := Lib.hid hlen
        clear hq hlen k0
        go_wp2_with (first
          | go_skip
          | (refine wpList_store_row rfl 72 _ _ rfl w2.heap.size (algOf L T) rfl rfl _ _ (heap_alloc_new w2 (.cells zeroAlg 72)) (size_alg _ _ _ _ _ _) rfl (one_alg _ _ _ _ _ _) ?_; rw [World.setRow_alloc_new]; obtain ⟨bl, hbl⟩ : ∃ bl, bl = w2.heap.size := ⟨_, rfl⟩; obtain ⟨w3, hw3⟩ : ∃ w3, w3 = w2.alloc (.cells (algOf L T) 72) := ⟨_, rfl⟩; rw [← hw3, ← hbl]; have hAl : AlgAt w3 bl L T := (by rw [hw3, hbl]; exact AlgAt.new w2 L T); have q3 : Below w2.heap.size w2 w3 := (by rw [hw3]; exact (Below.refl _ _).alloc (Nat.le_refl _) _); replace hN := hN.below q3 hN.lt; replace z := z.trans (q3.mono z.size); have asz := hAl.size; clear hw3 hbl q3)
          | (refine wpList_load_mid_w rfl 70 _ rfl bl 0 rfl _ _ hAl.lat Try.underlying70 rfl (size_latOf L) ?_)
          | (go_at_call 60; refine (ret_below (has_any _ cn L N _ (KN.out _ z) hm) HQ.out).mono ?_; rintro e w4 ⟨rfl, h4⟩; replace z := z.trans (h4.mono z.size); replace hAl := hAl.below h4 hAl.lt; replace hN := hN.below h4 hN.lt; have k0 := hN.cell (k := 0) (v := .iface T1 y1) rfl)
          | (go_at_call 61; refine (HS.out bl _ z hAl).mono ?_; rintro e w5 ⟨rfl, h5⟩; replace z := z.trans (h5.mono z.size)))
        go_ret
        exact ⟨by rw [HV.out]; rfl, hB.trans (z.mono hB.size)⟩
    · have hneq : ((N.length : Int) != 3) = true := by rw [bne_iff_ne]; omega
      have HV := Lib.hid (show vofI L T t N = -1 by unfold vofI; rw [nmB_has, hA, hv, decide_eq_false (show ¬ num N = 3 by unfold num; omega)]; simp)
      clear hb2 HC htm e1 hA hv hlen
      go_wp2_with (first
        | go_skip
        | (refine wpList_store_row rfl 72 _ _ rfl w2.heap.size (algOf L T) rfl rfl _ _ (heap_alloc_new w2 (.cells zeroAlg 72)) (size_alg _ _ _ _ _ _) rfl (one_alg _ _ _ _ _ _) ?_; rw [World.setRow_alloc_new]; obtain ⟨bl, hbl⟩ : ∃ bl, bl = w2.heap.size := ⟨_, rfl⟩; obtain ⟨w3, hw3⟩ : ∃ w3, w3 = w2.alloc (.cells (algOf L T) 72) := ⟨_, rfl⟩; rw [← hw3, ← hbl]; have hAl : AlgAt w3 bl L T := (by rw [hw3, hbl]; exact AlgAt.new w2 L T); have q3 : Below w2.heap.size w2 w3 := (by rw [hw3]; exact (Below.refl _ _).alloc (Nat.le_refl _) _); replace hN := hN.below q3 hN.lt; replace z := z.trans (q3.mono z.size); have asz := hAl.size; clear hw3 hbl q3))
      go_ret
      exact ⟨by rw [HV.out]; rfl, hB.trans (z.mono hB.size)⟩
  · replace z := hb2
    have HV := Lib.hid (show vofI L T t N = -1 by
      unfold vofI
      have : (algB L T && (vtB t && nmB L N)) = false := by rw [← Bool.and_assoc, hno]; rfl
      rw [this]; rfl)
    clear hb2 HC hno
    go_wp2_with (first
      | go_skip
      | (refine wpList_store_row rfl 72 _ _ rfl w2.heap.size zeroAlg rfl rfl _ _ (heap_alloc_new w2 (.cells zeroAlg 72)) size_zeroAlg rfl one_zeroAlg ?_; rw [World.setRow_alloc_new]; obtain ⟨bl, hbl⟩ : ∃ bl, bl = w2.heap.size := ⟨_, rfl⟩; obtain ⟨w3, hw3⟩ : ∃ w3, w3 = w2.alloc (.cells zeroAlg 72) := ⟨_, rfl⟩; rw [← hw3, ← hbl]; replace z : Below w1.heap.size w1 w3 := (by rw [hw3]; exact z.alloc z.size _); clear hw3 hbl))
    go_ret
    exact ⟨by rw [HV.out]; rfl, hB.trans (z.mono hB.size)⟩
end Go.Proofs.Ytidbilgnclfplaa
