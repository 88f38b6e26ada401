import Derived.Test.YtidbilgnclfplaaTM22
namespace Go.Proofs.Ytidbilgnclfplaa
open Go.RowKit
set_option linter.unusedVariables false

theorem lpF_some {L : List Int} {T : List (List Int)} {p t : List Int} {k : Int} (n1 : 1 ≤ L.length) (n6 : L.length ≤ 6) (h : ∀ j : Int, 0 ≤ j → j < (L.length : Int) * L.length * L.length → lpQ L T p t k (tr3 L.length j) = true) : lpF L T p t k = some k := by
  unfold lpF
  rw [f3_never n1 n6 (fun j j0 j1 => by rw [h j j0 j1]; rfl)]
  rfl
theorem lpF_none {L : List Int} {T : List (List Int)} {p t : List Int} {k j : Int} (n1 : 1 ≤ L.length) (n6 : L.length ≤ 6) (j0 : 0 ≤ j) (j1 : j < (L.length : Int) * L.length * L.length) (h : lpQ L T p t k (tr3 L.length j) = false) : lpF L T p t k = none := by
  unfold lpF
  cases e : f3 L.length (fun N => !(lpQ L T p t k N)) with
  | some v => rfl
  | none =>
    obtain ⟨x, y, z, x0, x1, y0, y1, z0, z1, _, ht⟩ := tr3_parts (n := L.length) (by omega) (by omega) j0 j1
    have := (f3_none.1 e) x y z x0 x1 y0 y1 z0 z1
    rw [← ht, h] at this
    cases this
set_option maxRecDepth 100000 in
set_option maxHeartbeats 8000000 in
theorem specLeastPower_yes (ab ao ca tb to cb : Nat) (L : List Int) (T : List (List Int)) (pb po cp : Nat) (p : List Int) (eb eo ct : Nat) (t : List Int) (w : World) (hr : Rd w (some ⟨ab, ao, none⟩) L) (hT : RdT w (some ⟨tb, to, none⟩) T) (hp : Rd w (some ⟨pb, po, none⟩) p) (ht : Rd w (some ⟨eb, eo, none⟩) t) (hmp : p.length ≤ 1048576) (hmt : t.length ≤ 1048576) (hA : algB L T = true) (hvp : vtB p = true) (hvt : vtB t = true) :
    Calls Try.prog 34 #[.agg #[.slice (some ⟨ab, ao, none⟩) L.length ca, .slice (some ⟨tb, to, none⟩) T.length cb], .slice (some ⟨pb, po, none⟩) p.length cp, .slice (some ⟨eb, eo, none⟩) t.length ct] w fun e w' => e = .returned (.tuple #[.int .i64 ((lpI L T p t).getD 0), .bool (lpI L T p t).isSome]) ∧ Below w.heap.size w w' := by
  obtain ⟨w1, hw1⟩ : ∃ w1, w1 = w.alloc (.cells #[.slice (some ⟨ab, ao, none⟩) L.length ca, .slice (some ⟨tb, to, none⟩) T.length cb] 33) := ⟨_, rfl⟩
  have hB : Below w.heap.size w w1 := by rw [hw1]; exact (Below.refl _ _).alloc (Nat.le_refl _) _
  have hx1 : w1.heap[w.heap.size]? = some (.cells #[.slice (some ⟨ab, ao, none⟩) L.length ca, .slice (some ⟨tb, to, none⟩) T.length cb] 33 (0, 0)) := by rw [hw1]; exact heap_alloc_new w _
  have KX := Lib.hid (show ∀ wz, Below w1.heap.size w1 wz → wz.heap[w.heap.size]? = some (.cells #[.slice (some ⟨ab, ao, none⟩) L.length ca, .slice (some ⟨tb, to, none⟩) T.length cb] 33 (0, 0)) from fun wz h => (h.block _ (lt_of_block hx1)).trans hx1)
  have KL := Lib.hid (show ∀ wz, Below w1.heap.size w1 wz → Rd wz (some ⟨ab, ao, none⟩) L from fun wz h => (hr.below hB).below h)
  have KT := Lib.hid (show ∀ wz, Below w1.heap.size w1 wz → RdT wz (some ⟨tb, to, none⟩) T from fun wz h => (hT.below hB).below h)
  have Kp := Lib.hid (show ∀ wz, Below w1.heap.size w1 wz → Rd wz (some ⟨pb, po, none⟩) p from fun wz h => (hp.below hB).below h)
  have Kt := Lib.hid (show ∀ wz, Below w1.heap.size w1 wz → Rd wz (some ⟨eb, eo, none⟩) t from fun wz h => (ht.below hB).below h)
  have z : Below w1.heap.size w1 w1 := Below.refl _ _
  clear hr hT hx1 hp ht
  have l0 := lat_len (alg_lat hA)
  have n1 : 1 ≤ L.length := by have : num L = L.length := rfl; omega
  have n6 : L.length ≤ 6 := by have : num L = L.length := rfl; omega
  have n6I : (L.length : Int) ≤ 6 := by omega
  have HN1 := Lib.hid n1
  have HS1 := Lib.hid (fun (i : Int) (i0 : 0 ≤ i) (i1 : i < (L.length : Int) * L.length * L.length) (N : List Int) (hN : N = tr3 L.length i) (ra rc : Nat) (wz : World) (hz : Below w1.heap.size w1 wz) (hn : Rd wz (some ⟨ra, 0, none⟩) N) => specVal0_any L T ab ao ca tb to cb p pb po cp hA hvp n1 n6 i i0 i1 N hN ra rc wz (KL.out _ hz) (KT.out _ hz) (Kp.out _ hz) hn)
  have HS2 := Lib.hid (fun (i : Int) (i0 : 0 ≤ i) (i1 : i < (L.length : Int) * L.length * L.length) (N : List Int) (hN : N = tr3 L.length i) (ra rc : Nat) (wz : World) (hz : Below w1.heap.size w1 wz) (hn : Rd wz (some ⟨ra, 0, none⟩) N) => specVal0_any L T ab ao ca tb to cb t eb eo ct hA hvt n1 n6 i i0 i1 N hN ra rc wz (KL.out _ hz) (KT.out _ hz) (Kt.out _ hz) hn)
  have V1 := Lib.hid (fun (wz : World) (hz : Below w1.heap.size w1 wz) => ret_toT2 (specValid_any (some ⟨pb, po, none⟩) cp p wz (Kp.out _ hz) hmp) hvp)
  have V2 := Lib.hid (fun (wz : World) (hz : Below w1.heap.size w1 wz) => ret_toT2 (specValid_any (some ⟨eb, eo, none⟩) ct t wz (Kt.out _ hz) hmt) hvt)
  have HV := Lib.hid (show lpI L T p t = fsI 21 (lpF L T p t) by unfold lpI; rw [hA, hvp, hvt]; rfl)
  have HMO := Lib.hid (fun (N : List Int) (hN : ∀ i, 0 ≤ i → i < 3 → El L (nth N i)) (k : Int) (k0 : 0 ≤ k) => lpQ_succ hA hvp hvt hN k0)
  have HSM := Lib.hid (latB_parts (alg_lat hA)).2.2
  have HVE := Lib.hid (fun (N : List Int) (hN : ∀ i, 0 ≤ i → i < 3 → El L (nth N i)) => And.intro (vlI_el hA hN p.length p [] (vtB_parts hvp).2) (vlI_el hA hN t.length t [] (vtB_parts hvt).2))
  have HPW := Lib.hid (fun (x k : Int) (x0 : 0 ≤ x) (x1 : x < num L) (k0 : 0 ≤ k) (k1 : k ≤ 64) (wz : World) (hz : Below w1.heap.size w1 wz) => And.intro (pow_any (some ⟨ab, ao, none⟩) (some ⟨tb, to, none⟩) ca cb L T x k wz (KL.out _ hz) (KT.out _ hz) hA x0 x1 k0 k1) (powr_lt (k := k) (alg_lat hA) (algB_parts hA).2.1 x0 x1))
  obtain ⟨np, hnp⟩ : ∃ n, n = p.length := ⟨_, rfl⟩
  obtain ⟨nt, hnt⟩ : ∃ n, n = t.length := ⟨_, rfl⟩
  rw [← hnp] at V1 HS1 ⊢
  rw [← hnt] at V2 HS2 ⊢
  have HNP := Lib.hid hnp
  have HNT := Lib.hid hnt
  clear l0 hnp hnt
  go_enter Try.func34, Try.ntmps34
  go_wp2_with (first | go_skip | (rw [← hw1]; clear hw1) | (refine wpList_load_row_w rfl 33 _ rfl w.heap.size rfl _ _ _ _ (KX.out _ (by assumption)) Try.underlying33 rfl (size_Alg _ _) ?_) | (go_at_call 54; refine (ret_toT (validAlgebra_any _ _ _ _ L T _ (KL.out _ z) (KT.out _ z)) (congrArg Value.bool hA)).mono ?_; rintro e w2 ⟨rfl, hb⟩; replace z := z.trans (hb.mono z.size); have c0 := (bx_cells (KX.out _ z)).1) | (go_at_call_of 55 np; refine (V1.out _ z).mono ?_; rintro e w' ⟨rfl, rfl⟩) | (go_at_call_of 55 nt; refine (V2.out _ z).mono ?_; rintro e w' ⟨rfl, rfl⟩) | (go_at_call 63; refine (assignments_any L.length _ n1 n6).mono ?_; rintro e w3 ⟨G, c, rfl, hS, hb⟩; replace z := z.trans (hb.mono z.size); obtain ⟨S, hSe⟩ : ∃ S, S = asnT L.length 3 := ⟨_, rfl⟩; rw [← hSe] at hS ⊢; obtain ⟨m, hm⟩ : ∃ m, m = S.length := ⟨_, rfl⟩; rw [← hm]; have HSE := Lib.hid hSe; have HM := Lib.hid hm; clear hSe hm c0))
  have HSS := Lib.hid (show ∀ wz, Below w3.heap.size w3 wz → TabS wz G S from fun wz hz => hS.below hz)
  have HZ3 := Lib.hid z
  have z3 : Below w3.heap.size w3 w3 := Below.refl _ _
  have HML := Lib.hid (show (m : Int) = (L.length : Int) * L.length * L.length by rw [HM.out, HSE.out]; exact asn_len3 _)
  have hmm : m ≤ 216 := by
    rw [HM.out, HSE.out, asnT_len]
    exact asn_pow n6 (by omega)
  clear hS z hb
  go_loopw [9, 10, 11, 12] (fun mv iv _ _ wr => ∃ mo i : Int, 0 ≤ mo ∧ mo ≤ 20 ∧ 0 ≤ i ∧ i ≤ m ∧ mv = .int .i64 mo ∧ iv = .int .i64 i ∧ (∀ j : Int, 0 ≤ j → j < i → lpQ L T p t mo (tr3 L.length j) = true) ∧ (∀ k : Int, 0 ≤ k → k < mo → ∃ j : Int, 0 ≤ j ∧ j < (L.length : Int) * L.length * L.length ∧ lpQ L T p t k (tr3 L.length j) = false) ∧ Below w3.heap.size w3 wr) (fun _ iv _ _ _ => ((m : Int) - intOf iv).toNat)
  case atStart => exact ⟨0, 0, by omega, by omega, by omega, by omega, rfl, rfl, fun j j0 j1 => by omega, fun k k0 k1 => by omega, z3⟩
  case round =>
    clear z3
    obtain ⟨mo, i, mo0, mo1, i0, i1, rfl, rfl, hj, hk, z3⟩ := hrel
    have HJ := Lib.hid hj
    have HK := Lib.hid hk
    clear hj hk
    have z := HZ3.out.trans (z3.mono HZ3.out.size)
    by_cases hi : i < m
    · have hi3 : i < (L.length : Int) * L.length * L.length := by rw [← HML.out]; exact hi
      obtain ⟨ra, rc, d0, r0⟩ := (HSS.out _ z3) i i0 (by have := HM.out; omega)
      have hrow : rowAt S i = tr3 L.length i := by rw [HSE.out]; exact asn_row3 n1 n6 i0 hi3
      rw [hrow] at d0 r0
      obtain ⟨N, hN⟩ : ∃ N, N = tr3 L.length i := ⟨_, rfl⟩
      have HC1 := Lib.hid (fun (wz : World) (hz : Below w1.heap.size w1 wz) (hn : Rd wz (some ⟨ra, 0, none⟩) N) => HS1.out i i0 hi3 N hN ra rc wz hz hn)
      have HC2 := Lib.hid (fun (wz : World) (hz : Below w1.heap.size w1 wz) (hn : Rd wz (some ⟨ra, 0, none⟩) N) => HS2.out i i0 hi3 N hN ra rc wz hz hn)
      rw [← hN] at d0 r0
      have HEL := Lib.hid (show ∀ j, 0 ≤ j → j < 3 → El L (nth N j) by rw [hN]; exact tr3_el n1 n6 i0 hi3)
      obtain ⟨⟨v0, v1⟩, u0, u1⟩ := HVE.out N HEL.out
      have hq : ∀ k, lpQ L T p t k (tr3 L.length i) = bl L (powr L T (vlI L T N np p) k) (vlI L T N nt t) := fun k => by rw [HNP.out, HNT.out, ← hN]; rfl
      rw [← HNP.out] at v0 v1
      rw [← HNT.out] at u0 u1
      obtain ⟨V, hV⟩ : ∃ V, V = vlI L T N np p := ⟨_, rfl⟩
      obtain ⟨U, hU⟩ : ∃ U, U = vlI L T N nt t := ⟨_, rfl⟩
      rw [← hV] at HC1 hq v0 v1
      rw [← hU] at HC2 hq u0 u1
      have HQ := Lib.hid hq
      have HR := Lib.hid r0
      have HZR := Lib.hid (Below.refl wr.heap.size wr)
      have HI3 := Lib.hid hi3
      have hnn : N.length ≤ 3 := by rw [hN]; exact Nat.le_refl 3
      have HNE := Lib.hid hN
      clear hrow r0 hV hU hN hi3 hq
      go_wp2
      refine region_in (Below wr.heap.size wr) (by kernel_rfl) (by kernel_rfl) (Dr.below ⟨1, rfl⟩ _) fun hne => ?_
      have r1 : ∀ s : In (Below wr.heap.size wr), s.w.cell? ⟨G, i.toNat, none⟩ = some (.slice (some ⟨ra, 0, none⟩) N.length rc) := fun s => by rw [s.h.cell (by exact block_lt_of_cell d0)]; exact d0
      repeat (first
        | (go_big_quiet_want; refine quiet_load_row 33 _ rfl w.heap.size rfl _ _ _ _ (fun w' ⟨s, hs⟩ => by rw [hs]; exact KX.out _ (in_transT z s)) Try.underlying33 rfl (size_Alg _ _) ?_; simp only [Act.put, List.setIfInBounds_toArray, List.set_cons_succ, List.set_cons_zero]; go_big_quiet_on)
        | go_big_quiet_step ((go_at_call_of 57 np; exact in_below _ (Nat.le_refl _) (HC1.out _ (in_transT z (by assumption)) (HR.out.below (in_transT HZR.out (by assumption)))))))
      refine wpQuiet_nil ?_
      intro s
      have z7 := in_transT z s
      have hw7' := s.h
      obtain ⟨w7, hw7⟩ : ∃ x : World, x = s.w := ⟨_, rfl⟩
      rw [← hw7] at z7 hw7' ⊢
      clear hw7 r1

      go_wp2
      replace HZR := Lib.hid hw7'
      replace z := z7
      replace z3 := z3.trans (hw7'.mono z3.size)
      clear z7 hw7'
      refine region_in (Below w7.heap.size w7) (by kernel_rfl) (by kernel_rfl) (Dr.below ⟨1, rfl⟩ _) fun hne => ?_
      have r1 : ∀ s : In (Below w7.heap.size w7), s.w.cell? ⟨G, i.toNat, none⟩ = some (.slice (some ⟨ra, 0, none⟩) N.length rc) := fun s => by rw [(in_transT HZR.out s).cell (by exact block_lt_of_cell d0)]; exact d0
      repeat (first
        | (go_big_quiet_want; refine quiet_load_row 33 _ rfl w.heap.size rfl _ _ _ _ (fun w' ⟨s, hs⟩ => by rw [hs]; exact KX.out _ (in_transT z s)) Try.underlying33 rfl (size_Alg _ _) ?_; simp only [Act.put, List.setIfInBounds_toArray, List.set_cons_succ, List.set_cons_zero]; go_big_quiet_on)
        | go_big_quiet_step ((go_at_call_of 57 nt; exact in_below _ (Nat.le_refl _) (HC2.out _ (in_transT z (by assumption)) (HR.out.below (in_transT HZR.out (by assumption)))))))
      refine wpQuiet_nil ?_
      intro s
      have z7 := in_transT z s
      have hw7' := s.h
      obtain ⟨w8, hw8⟩ : ∃ x : World, x = s.w := ⟨_, rfl⟩
      rw [← hw8] at z7 hw7' ⊢
      clear hw8 r1

      go_wp2
      replace z3 := z3.trans (hw7'.mono z3.size)
      clear z7 hw7' z d0 HZR
      go_loopw [9] (fun mv wr => ∃ q : Int, mo ≤ q ∧ q ≤ 20 ∧ mv = .int .i64 q ∧ (∀ j : Int, 0 ≤ j → j < i → lpQ L T p t q (tr3 L.length j) = true) ∧ (∀ k : Int, 0 ≤ k → k < q → ∃ j : Int, 0 ≤ j ∧ j < (L.length : Int) * L.length * L.length ∧ lpQ L T p t k (tr3 L.length j) = false) ∧ Below w3.heap.size w3 wr) (fun mv _ => (21 - intOf mv).toNat)
      case atStart => exact ⟨mo, by omega, by omega, rfl, HJ.out, HK.out, z3⟩
      case round =>
        clear z3
        obtain ⟨q, q0, q1, rfl, hj, hk, z3⟩ := hrel
        have HJ2 := Lib.hid hj
        have HK2 := Lib.hid hk
        clear hj hk
        have z := HZ3.out.trans (z3.mono HZ3.out.size)
        have HP := Lib.hid (fun (wz : World) (hz : Below w1.heap.size w1 wz) => (HPW.out V q v0 v1 (by omega) (by omega) wz hz).1)
        obtain ⟨p0, p1⟩ := (HPW.out V q v0 v1 (by omega) (by omega) _ z).2
        have hq := HQ.out q
        obtain ⟨P, hP⟩ : ∃ P, P = powr L T V q := ⟨_, rfl⟩
        rw [← hP] at HP p0 p1 hq
        clear hP
        cases hb : bl L P U with
        | true =>
          have HB := Lib.hid (show ∀ (wz : World) (hz : Below w1.heap.size w1 wz), Calls Try.prog 71 #[.slice (some ⟨ab, ao, none⟩) L.length ca, .int .i64 P, .int .i64 U] wz fun e w' => e = .returned (.bool true) ∧ Below wz.heap.size wz w' from fun wz hz => (ret_toT2 (below_any ab ao ca L P U wz (rdCells3 (KL.out _ hz) HN1.out) HSM.out p0 p1 u0 (by have : num L = L.length := rfl; omega)) hb).mono fun _ _ h => ⟨h.1, h.2 ▸ Below.refl _ _⟩)
          have HQT := Lib.hid (show lpQ L T p t q (tr3 L.length i) = true by rw [hq, hb])
          clear hq hb
          go_wp2
          refine region_in (Below wr.heap.size wr) (by kernel_rfl) (by kernel_rfl) (Dr.below ⟨1, rfl⟩ _) fun hne => ?_
          have r2 : ∀ s : In (Below wr.heap.size wr), s.w.cell? ⟨w.heap.size, 0, none⟩ = some (.slice (some ⟨ab, ao, none⟩) L.length ca) := fun s => (bx_cells (KX.out _ (in_transT z s))).1
          repeat (first
            | (go_big_quiet_want; refine quiet_load_row 33 _ rfl w.heap.size rfl _ _ _ _ (fun w' ⟨s, hs⟩ => by rw [hs]; exact KX.out _ (in_transT z s)) Try.underlying33 rfl (size_Alg _ _) ?_; simp only [Act.put, List.setIfInBounds_toArray, List.set_cons_succ, List.set_cons_zero]; go_big_quiet_on)
            | go_big_quiet_step ((first | (go_at_call 72; exact in_below _ (Nat.le_refl _) (HP.out _ (in_transT z (by assumption)))) | (go_at_call 71; exact in_below _ (Nat.le_refl _) (HB.out _ (in_transT z (by assumption)))))))
          refine wpQuiet_nil ?_
          intro s
          have z7 := in_transT z s
          have hw7' := s.h
          obtain ⟨w7, hw7⟩ : ∃ x : World, x = s.w := ⟨_, rfl⟩
          rw [← hw7] at z7 hw7' ⊢
          clear hw7 r2

          go_wp2
          go_roundw
          case rel => exact ⟨q, i + 1, by omega, by omega, by omega, by omega, rfl, rfl, fun j j0 j1 => by
            by_cases e : j = i
            · rw [e]; exact HQT.out
            · exact HJ2.out j j0 (by omega), HK2.out, z3.trans (hw7'.mono z3.size)⟩
          case measure => simp [intOf]; omega
        | false =>
          have HB := Lib.hid (show ∀ (wz : World) (hz : Below w1.heap.size w1 wz), Calls Try.prog 71 #[.slice (some ⟨ab, ao, none⟩) L.length ca, .int .i64 P, .int .i64 U] wz fun e w' => e = .returned (.bool false) ∧ Below wz.heap.size wz w' from fun wz hz => (ret_toT2 (below_any ab ao ca L P U wz (rdCells3 (KL.out _ hz) HN1.out) HSM.out p0 p1 u0 (by have : num L = L.length := rfl; omega)) hb).mono fun _ _ h => ⟨h.1, h.2 ▸ Below.refl _ _⟩)
          have HQF := Lib.hid (show lpQ L T p t q (tr3 L.length i) = false by rw [hq, hb])
          have HK3 := Lib.hid (show ∀ k : Int, 0 ≤ k → k < q + 1 → ∃ j : Int, 0 ≤ j ∧ j < (L.length : Int) * L.length * L.length ∧ lpQ L T p t k (tr3 L.length j) = false from fun k k0 k1 => by
            by_cases e : k = q
            · rw [e]; exact ⟨i, i0, HI3.out, HQF.out⟩
            · exact HK2.out k k0 (by omega))
          clear hq hb
          by_cases hq20 : q + 1 > 20
          · go_wp2
            refine region_in (Below wr.heap.size wr) (by kernel_rfl) (by kernel_rfl) (Dr.below ⟨1, rfl⟩ _) fun hne => ?_
            have r2 : ∀ s : In (Below wr.heap.size wr), s.w.cell? ⟨w.heap.size, 0, none⟩ = some (.slice (some ⟨ab, ao, none⟩) L.length ca) := fun s => (bx_cells (KX.out _ (in_transT z s))).1
            repeat (first
              | (go_big_quiet_want; refine quiet_load_row 33 _ rfl w.heap.size rfl _ _ _ _ (fun w' ⟨s, hs⟩ => by rw [hs]; exact KX.out _ (in_transT z s)) Try.underlying33 rfl (size_Alg _ _) ?_; simp only [Act.put, List.setIfInBounds_toArray, List.set_cons_succ, List.set_cons_zero]; go_big_quiet_on)
              | go_big_quiet_step ((first | (go_at_call 72; exact in_below _ (Nat.le_refl _) (HP.out _ (in_transT z (by assumption)))) | (go_at_call 71; exact in_below _ (Nat.le_refl _) (HB.out _ (in_transT z (by assumption)))))))
            refine wpQuiet_nil ?_
            intro s
            have z7 := in_transT z s
            have hw7' := s.h
            obtain ⟨w7, hw7⟩ : ∃ x : World, x = s.w := ⟨_, rfl⟩
            rw [← hw7] at z7 hw7' ⊢
            clear hw7 r2

            go_wp2
            go_ret2
            have hn : fsI 21 (lpF L T p t) = none := fsI_none fun k k0 k1 => by
              obtain ⟨j, j0, j1, hj⟩ := HK3.out k k0 (by omega)
              exact lpF_none HN1.out n6 j0 j1 hj
            rw [HV.out, hn]
            exact ⟨rfl, hB.trans (z7.mono hB.size)⟩
          · go_wp2
            refine region_in (Below wr.heap.size wr) (by kernel_rfl) (by kernel_rfl) (Dr.below ⟨1, rfl⟩ _) fun hne => ?_
            have r2 : ∀ s : In (Below wr.heap.size wr), s.w.cell? ⟨w.heap.size, 0, none⟩ = some (.slice (some ⟨ab, ao, none⟩) L.length ca) := fun s => (bx_cells (KX.out _ (in_transT z s))).1
            repeat (first
              | (go_big_quiet_want; refine quiet_load_row 33 _ rfl w.heap.size rfl _ _ _ _ (fun w' ⟨s, hs⟩ => by rw [hs]; exact KX.out _ (in_transT z s)) Try.underlying33 rfl (size_Alg _ _) ?_; simp only [Act.put, List.setIfInBounds_toArray, List.set_cons_succ, List.set_cons_zero]; go_big_quiet_on)
              | go_big_quiet_step ((first | (go_at_call 72; exact in_below _ (Nat.le_refl _) (HP.out _ (in_transT z (by assumption)))) | (go_at_call 71; exact in_below _ (Nat.le_refl _) (HB.out _ (in_transT z (by assumption)))))))
            refine wpQuiet_nil ?_
            intro s
            have z7 := in_transT z s
            have hw7' := s.h
            obtain ⟨w7, hw7⟩ : ∃ x : World, x = s.w := ⟨_, rfl⟩
            rw [← hw7] at z7 hw7' ⊢
            clear hw7 r2

            go_wp2
            go_roundw
            case rel => exact ⟨q + 1, by omega, by omega, rfl, fun j j0 j1 => HMO.out _ (tr3_el HN1.out n6 j0 (by have := HI3.out; omega)) q (by omega) (HJ2.out j j0 j1), HK3.out, z3.trans (hw7'.mono z3.size)⟩
            case measure => simp [intOf]; omega
    · have hf : fsI 21 (lpF L T p t) = some mo := fsI_some mo0 (by omega) (lpF_some HN1.out n6 (fun j j0 j1 => HJ.out j j0 (by have := HML.out; omega))) (fun k k0 k1 => by
        obtain ⟨j, j0, j1, hj⟩ := HK.out k k0 k1
        exact lpF_none HN1.out n6 j0 j1 hj)
      have HF := Lib.hid hf
      clear hf
      go_wp2
      go_ret2
      rw [HV.out, HF.out]
      exact ⟨rfl, hB.trans (z.mono hB.size)⟩
/-- spec.LeastPower -/
theorem specLeastPower_any (a b : Option Addr) (ca cb : Nat) (L : List Int) (T : List (List Int)) (ap : Option Addr) (cp : Nat) (p : List Int) (at_ : Option Addr) (ct : Nat) (t : List Int) (w : World) (hr : Rd w a L) (hT : RdT w b T) (hp : Rd w ap p) (ht : Rd w at_ t) (hmp : p.length ≤ 1048576) (hmt : t.length ≤ 1048576) :
    Calls Try.prog 34 #[.agg #[.slice a L.length ca, .slice b T.length cb], .slice ap p.length cp, .slice at_ t.length ct] w fun e w' => e = .returned (.tuple #[.int .i64 ((lpI L T p t).getD 0), .bool (lpI L T p t).isSome]) ∧ Below w.heap.size w w' := by
  cases hno : algB L T && (vtB p && vtB t) with
  | false => exact specLeastPower_no a b ca cb L T ap cp p at_ ct t w hr hT hp ht hmp hmt hno
  | true =>
    rw [Bool.and_eq_true, Bool.and_eq_true] at hno
    obtain ⟨hA, hvp, hvt⟩ := hno
    obtain ⟨ab, ao, rfl⟩ := rd_some hr (fun e => absurd (show L.length = 0 by rw [e]; rfl) (by have := (lat_len (alg_lat hA)).1; have : num L = L.length := rfl; omega))
    obtain ⟨tb, to, rfl⟩ := rdT_some hT hA
    obtain ⟨pb, po, rfl⟩ := rd_some hp (fun e => by have htm := (vtB_parts hvp).2; rw [e] at htm; cases htm)
    obtain ⟨eb, eo, rfl⟩ := rd_some ht (fun e => by have htm := (vtB_parts hvt).2; rw [e] at htm; cases htm)
    exact specLeastPower_yes ab ao ca tb to cb L T pb po cp p eb eo ct t w hr hT hp ht hmp hmt hA hvp hvt
end Go.Proofs.Ytidbilgnclfplaa
