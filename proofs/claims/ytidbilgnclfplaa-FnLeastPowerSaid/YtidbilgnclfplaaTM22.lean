import Derived.Test.YtidbilgnclfplaaTM21
import Derived.Test.YtidbilgnclfplaaTM18
namespace Go.Proofs.Ytidbilgnclfplaa
open Go.RowKit
set_option linter.unusedVariables false

theorem rdCells3 {w : World} {b o : Nat} {V : List Int} (h : Rd w (some ⟨b, o, none⟩) V) (hn : 1 ≤ V.length) : Cells w b o V := by
  obtain ⟨b', o', e, hc⟩ := h (fun e => by rw [e] at hn; exact absurd hn (by simp))
  injection e with e
  injection e with e1 e2
  subst e1 e2
  exact hc
theorem lpQ_succ {L : List Int} {T : List (List Int)} (h : algB L T = true) {p t : List Int} (hvp : vtB p = true) (hvt : vtB t = true) {N : List Int} (hN : ∀ i, 0 ≤ i → i < 3 → El L (nth N i)) {k : Int} (k0 : 0 ≤ k) (hq : lpQ L T p t k N = true) : lpQ L T p t (k + 1) N = true := by
  unfold lpQ at hq ⊢
  have hl := alg_lat h
  have hs := (algB_parts h).2.1
  have ep := vlI_el h hN p.length p [] (vtB_parts hvp).2
  have et := vlI_el h hN t.length t [] (vtB_parts hvt).2
  have e1 := powr_lt (k := k) hl hs ep.1 ep.2
  have e2 := powr_lt (k := k + 1) hl hs ep.1 ep.2
  refine bl_trans hl e2 e1 et ?_ hq
  rw [powr_succ L T _ k0]
  exact tv_le1 h e1 ep
set_option maxRecDepth 100000 in
set_option maxHeartbeats 4000000 in
theorem specFollows_no (a b : Option Addr) (ca cb : Nat) (L : List Int) (T : List (List Int)) (ap : Option Addr) (cp : Nat) (p : List Int) (at_ : Option Addr) (ct : Nat) (t : List Int) (w : World) (hr : Rd w a L) (hT : RdT w b T) (hp : Rd w ap p) (ht : Rd w at_ t) (hmp : p.length ≤ 1048576) (hmt : t.length ≤ 1048576) (hno : (algB L T && (vtB p && vtB t)) = false) :
    Calls Try.prog 32 #[.agg #[.slice a L.length ca, .slice b T.length cb], .slice ap p.length cp, .slice at_ t.length ct] w fun e w' => e = .returned (.bool (flB L T p t)) ∧ Below w.heap.size w w' := by
  obtain ⟨w1, hw1⟩ : ∃ w1, w1 = w.alloc (.cells #[.slice a L.length ca, .slice b T.length cb] 33) := ⟨_, rfl⟩
  have hB : Below w.heap.size w w1 := by rw [hw1]; exact (Below.refl _ _).alloc (Nat.le_refl _) _
  have hx1 : w1.heap[w.heap.size]? = some (.cells #[.slice a L.length ca, .slice b T.length cb] 33 (0, 0)) := by rw [hw1]; exact heap_alloc_new w _
  have KX := Lib.hid (show ∀ wz, Below w1.heap.size w1 wz → wz.heap[w.heap.size]? = some (.cells #[.slice a L.length ca, .slice b T.length cb] 33 (0, 0)) from fun wz h => (h.block _ (lt_of_block hx1)).trans hx1)
  have KL := Lib.hid (show ∀ wz, Below w1.heap.size w1 wz → Rd wz a L from fun wz h => (hr.below hB).below h)
  have KT := Lib.hid (show ∀ wz, Below w1.heap.size w1 wz → RdT wz b T from fun wz h => (hT.below hB).below h)
  have Kp := Lib.hid (show ∀ wz, Below w1.heap.size w1 wz → Rd wz ap p from fun wz h => (hp.below hB).below h)
  have Kt := Lib.hid (show ∀ wz, Below w1.heap.size w1 wz → Rd wz at_ t from fun wz h => (ht.below hB).below h)
  have z : Below w1.heap.size w1 w1 := Below.refl _ _
  clear hr hT hx1 hp ht
  have HV := Lib.hid (show flB L T p t = false by unfold flB; rw [hno]; rfl)
  cases hA : algB L T with
  | false =>
    go_enter Try.func32, Try.ntmps32
    go_wp2_with (first | go_skip | (rw [← hw1]; clear hw1) | (refine wpList_load_row_w rfl 33 _ rfl w.heap.size rfl _ _ _ _ (KX.out _ (by assumption)) Try.underlying33 rfl (size_Alg _ _) ?_) | (go_at_call 54; refine (ret_toT (validAlgebra_any _ _ _ _ L T _ (KL.out _ z) (KT.out _ z)) (congrArg Value.bool hA)).mono ?_; rintro e w2 ⟨rfl, hb⟩; replace z := z.trans (hb.mono z.size)))
    go_ret
    exact ⟨ret_bool (by rw [HV.out]), hB.trans (z.mono hB.size)⟩
  | true =>
    rw [hA, Bool.true_and] at hno
    cases hvp : vtB p with
    | false =>
      go_enter Try.func32, Try.ntmps32
      go_wp2_with (first | go_skip | (rw [← hw1]; clear hw1) | (refine wpList_load_row_w rfl 33 _ rfl w.heap.size rfl _ _ _ _ (KX.out _ (by assumption)) Try.underlying33 rfl (size_Alg _ _) ?_) | (go_at_call 54; refine (ret_toT (validAlgebra_any _ _ _ _ L T _ (KL.out _ z) (KT.out _ z)) (congrArg Value.bool hA)).mono ?_; rintro e w2 ⟨rfl, hb⟩; replace z := z.trans (hb.mono z.size)) | (go_at_call 55; refine (ret_toT2 (specValid_any ap cp p _ (Kp.out _ z) hmp) hvp).mono ?_; rintro e w' ⟨rfl, rfl⟩))
      go_ret
      exact ⟨ret_bool (by rw [HV.out]), hB.trans (z.mono hB.size)⟩
    | true =>
      have hvt : vtB t = false := by rw [hvp] at hno; exact hno
      have V1 := Lib.hid (fun (wz : World) (hz : Below w1.heap.size w1 wz) => ret_toT2 (specValid_any ap cp p wz (Kp.out _ hz) hmp) hvp)
      have V2 := Lib.hid (fun (wz : World) (hz : Below w1.heap.size w1 wz) => ret_toT2 (specValid_any at_ ct t wz (Kt.out _ hz) hmt) hvt)
      obtain ⟨np, hnp⟩ : ∃ n, n = p.length := ⟨_, rfl⟩
      obtain ⟨nt, hnt⟩ : ∃ n, n = t.length := ⟨_, rfl⟩
      rw [← hnp] at V1 ⊢
      rw [← hnt] at V2 ⊢
      clear hnp hnt
      go_enter Try.func32, Try.ntmps32
      go_wp2_with (first | go_skip | (rw [← hw1]; clear hw1) | (refine wpList_load_row_w rfl 33 _ rfl w.heap.size rfl _ _ _ _ (KX.out _ (by assumption)) Try.underlying33 rfl (size_Alg _ _) ?_) | (go_at_call 54; refine (ret_toT (validAlgebra_any _ _ _ _ L T _ (KL.out _ z) (KT.out _ z)) (congrArg Value.bool hA)).mono ?_; rintro e w2 ⟨rfl, hb⟩; replace z := z.trans (hb.mono z.size)) | (go_at_call_of 55 np; refine (V1.out _ z).mono ?_; rintro e w' ⟨rfl, rfl⟩) | (go_at_call_of 55 nt; refine (V2.out _ z).mono ?_; rintro e w' ⟨rfl, rfl⟩))
      go_ret
      exact ⟨ret_bool (by rw [HV.out]), hB.trans (z.mono hB.size)⟩
set_option maxRecDepth 100000 in
set_option maxHeartbeats 4000000 in
theorem specLeastPower_no (a b : Option Addr) (ca cb : Nat) (L : List Int) (T : List (List Int)) (ap : Option Addr) (cp : Nat) (p : List Int) (at_ : Option Addr) (ct : Nat) (t : List Int) (w : World) (hr : Rd w a L) (hT : RdT w b T) (hp : Rd w ap p) (ht : Rd w at_ t) (hmp : p.length ≤ 1048576) (hmt : t.length ≤ 1048576) (hno : (algB L T && (vtB p && vtB t)) = false) :
    Calls Try.prog 34 #[.agg #[.slice a L.length ca, .slice b T.length cb], .slice ap p.length cp, .slice at_ t.length ct] w fun e w' => e = .returned (.tuple #[.int .i64 ((lpI L T p t).getD 0), .bool (lpI L T p t).isSome]) ∧ Below w.heap.size w w' := by
  obtain ⟨w1, hw1⟩ : ∃ w1, w1 = w.alloc (.cells #[.slice a L.length ca, .slice b T.length cb] 33) := ⟨_, rfl⟩
  have hB : Below w.heap.size w w1 := by rw [hw1]; exact (Below.refl _ _).alloc (Nat.le_refl _) _
  have hx1 : w1.heap[w.heap.size]? = some (.cells #[.slice a L.length ca, .slice b T.length cb] 33 (0, 0)) := by rw [hw1]; exact heap_alloc_new w _
  have KX := Lib.hid (show ∀ wz, Below w1.heap.size w1 wz → wz.heap[w.heap.size]? = some (.cells #[.slice a L.length ca, .slice b T.length cb] 33 (0, 0)) from fun wz h => (h.block _ (lt_of_block hx1)).trans hx1)
  have KL := Lib.hid (show ∀ wz, Below w1.heap.size w1 wz → Rd wz a L from fun wz h => (hr.below hB).below h)
  have KT := Lib.hid (show ∀ wz, Below w1.heap.size w1 wz → RdT wz b T from fun wz h => (hT.below hB).below h)
  have Kp := Lib.hid (show ∀ wz, Below w1.heap.size w1 wz → Rd wz ap p from fun wz h => (hp.below hB).below h)
  have Kt := Lib.hid (show ∀ wz, Below w1.heap.size w1 wz → Rd wz at_ t from fun wz h => (ht.below hB).below h)
  have z : Below w1.heap.size w1 w1 := Below.refl _ _
  clear hr hT hx1 hp ht
  have HV := Lib.hid (show lpI L T p t = none by unfold lpI; rw [hno]; rfl)
  cases hA : algB L T with
  | false =>
    go_enter Try.func34, Try.ntmps34
    go_wp2_with (first | go_skip | (rw [← hw1]; clear hw1) | (refine wpList_load_row_w rfl 33 _ rfl w.heap.size rfl _ _ _ _ (KX.out _ (by assumption)) Try.underlying33 rfl (size_Alg _ _) ?_) | (go_at_call 54; refine (ret_toT (validAlgebra_any _ _ _ _ L T _ (KL.out _ z) (KT.out _ z)) (congrArg Value.bool hA)).mono ?_; rintro e w2 ⟨rfl, hb⟩; replace z := z.trans (hb.mono z.size)))
    go_ret2
    rw [HV.out]
    exact ⟨rfl, hB.trans (z.mono hB.size)⟩
  | true =>
    rw [hA, Bool.true_and] at hno
    cases hvp : vtB p with
    | false =>
      go_enter Try.func34, Try.ntmps34
      go_wp2_with (first | go_skip | (rw [← hw1]; clear hw1) | (refine wpList_load_row_w rfl 33 _ rfl w.heap.size rfl _ _ _ _ (KX.out _ (by assumption)) Try.underlying33 rfl (size_Alg _ _) ?_) | (go_at_call 54; refine (ret_toT (validAlgebra_any _ _ _ _ L T _ (KL.out _ z) (KT.out _ z)) (congrArg Value.bool hA)).mono ?_; rintro e w2 ⟨rfl, hb⟩; replace z := z.trans (hb.mono z.size)) | (go_at_call 55; refine (ret_toT2 (specValid_any ap cp p _ (Kp.out _ z) hmp) hvp).mono ?_; rintro e w' ⟨rfl, rfl⟩))
      go_ret2
      rw [HV.out]
      exact ⟨rfl, hB.trans (z.mono hB.size)⟩
    | true =>
      have hvt : vtB t = false := by rw [hvp] at hno; exact hno
      have V1 := Lib.hid (fun (wz : World) (hz : Below w1.heap.size w1 wz) => ret_toT2 (specValid_any ap cp p wz (Kp.out _ hz) hmp) hvp)
      have V2 := Lib.hid (fun (wz : World) (hz : Below w1.heap.size w1 wz) => ret_toT2 (specValid_any at_ ct t wz (Kt.out _ hz) hmt) hvt)
      obtain ⟨np, hnp⟩ : ∃ n, n = p.length := ⟨_, rfl⟩
      obtain ⟨nt, hnt⟩ : ∃ n, n = t.length := ⟨_, rfl⟩
      rw [← hnp] at V1 ⊢
      rw [← hnt] at V2 ⊢
      clear hnp hnt
      go_enter Try.func34, Try.ntmps34
      go_wp2_with (first | go_skip | (rw [← hw1]; clear hw1) | (refine wpList_load_row_w rfl 33 _ rfl w.heap.size rfl _ _ _ _ (KX.out _ (by assumption)) Try.underlying33 rfl (size_Alg _ _) ?_) | (go_at_call 54; refine (ret_toT (validAlgebra_any _ _ _ _ L T _ (KL.out _ z) (KT.out _ z)) (congrArg Value.bool hA)).mono ?_; rintro e w2 ⟨rfl, hb⟩; replace z := z.trans (hb.mono z.size)) | (go_at_call_of 55 np; refine (V1.out _ z).mono ?_; rintro e w' ⟨rfl, rfl⟩) | (go_at_call_of 55 nt; refine (V2.out _ z).mono ?_; rintro e w' ⟨rfl, rfl⟩))
      go_ret2
      rw [HV.out]
      exact ⟨rfl, hB.trans (z.mono hB.size)⟩
set_option maxRecDepth 100000 in
set_option maxHeartbeats 8000000 in
theorem specFollows_yes (ab ao ca tb to cb : Nat) (L : List Int) (T : List (List Int)) (pb po cp : Nat) (p : List Int) (eb eo ct : Nat) (t : List Int) (w : World) (hr : Rd w (some ⟨ab, ao, none⟩) L) (hT : RdT w (some ⟨tb, to, none⟩) T) (hp : Rd w (some ⟨pb, po, none⟩) p) (ht : Rd w (some ⟨eb, eo, none⟩) t) (hmp : p.length ≤ 1048576) (hmt : t.length ≤ 1048576) (hA : algB L T = true) (hvp : vtB p = true) (hvt : vtB t = true) :
    Calls Try.prog 32 #[.agg #[.slice (some ⟨ab, ao, none⟩) L.length ca, .slice (some ⟨tb, to, none⟩) T.length cb], .slice (some ⟨pb, po, none⟩) p.length cp, .slice (some ⟨eb, eo, none⟩) t.length ct] w fun e w' => e = .returned (.bool (flB L T p t)) ∧ Below w.heap.size w w' := by
  obtain ⟨w1, hw1⟩ : ∃ w1, w1 = w.alloc (.cells #[.slice (some ⟨ab, ao, none⟩) L.length ca, .slice (some ⟨tb, to, none⟩) T.length cb] 33) := ⟨_, rfl⟩
  have hB : Below w.heap.size w w1 := by rw [hw1]; exact (Below.refl _ _).alloc (Nat.le_refl _) _
  have hx1 : w1.heap[w.heap.size]? = some (.cells #[.slice (some ⟨ab, ao, none⟩) L.length ca, .slice (some ⟨tb, to, none⟩) T.length cb] 33 (0, 0)) := by rw [hw1]; exact heap_alloc_new w _
  have KX := Lib.hid (show ∀ wz, Below w1.heap.size w1 wz → wz.heap[w.heap.size]? = some (.cells #[.slice (some ⟨ab, ao, none⟩) L.length ca, .slice (some ⟨tb, to, none⟩) T.length cb] 33 (0, 0)) from fun wz h => (h.block _ (lt_of_block hx1)).trans hx1)
  have KL := Lib.hid (show ∀ wz, Below w1.heap.size w1 wz → Rd wz (some ⟨ab, ao, none⟩) L from fun wz h => (hr.below hB).below h)
  have KT := Lib.hid (show ∀ wz, Below w1.heap.size w1 wz → RdT wz (some ⟨tb, to, none⟩) T from fun wz h => (hT.below hB).below h)
  have Kp := Lib.hid (show ∀ wz, Below w1.heap.size w1 wz → Rd wz (some ⟨pb, po, none⟩) p from fun wz h => (hp.below hB).below h)
  have Kt := Lib.hid (show ∀ wz, Below w1.heap.size w1 wz → Rd wz (some ⟨eb, eo, none⟩) t from fun wz h => (ht.below hB).below h)
  have z : Below w1.heap.size w1 w1 := Below.refl _ _
  clear hr hT hx1 hp ht
  have l0 := lat_len (alg_lat hA)
  have n1 : 1 ≤ L.length := by have : num L = L.length := rfl; omega
  have n6 : L.length ≤ 6 := by have : num L = L.length := rfl; omega
  have n6I : (L.length : Int) ≤ 6 := by omega
  have HN1 := Lib.hid n1
  have HS1 := Lib.hid (fun (i : Int) (i0 : 0 ≤ i) (i1 : i < (L.length : Int) * L.length * L.length) (N : List Int) (hN : N = tr3 L.length i) (ra rc : Nat) (wz : World) (hz : Below w1.heap.size w1 wz) (hn : Rd wz (some ⟨ra, 0, none⟩) N) => specVal0_any L T ab ao ca tb to cb p pb po cp hA hvp n1 n6 i i0 i1 N hN ra rc wz (KL.out _ hz) (KT.out _ hz) (Kp.out _ hz) hn)
  have HS2 := Lib.hid (fun (i : Int) (i0 : 0 ≤ i) (i1 : i < (L.length : Int) * L.length * L.length) (N : List Int) (hN : N = tr3 L.length i) (ra rc : Nat) (wz : World) (hz : Below w1.heap.size w1 wz) (hn : Rd wz (some ⟨ra, 0, none⟩) N) => specVal0_any L T ab ao ca tb to cb t eb eo ct hA hvt n1 n6 i i0 i1 N hN ra rc wz (KL.out _ hz) (KT.out _ hz) (Kt.out _ hz) hn)
  have V1 := Lib.hid (fun (wz : World) (hz : Below w1.heap.size w1 wz) => ret_toT2 (specValid_any (some ⟨pb, po, none⟩) cp p wz (Kp.out _ hz) hmp) hvp)
  have V2 := Lib.hid (fun (wz : World) (hz : Below w1.heap.size w1 wz) => ret_toT2 (specValid_any (some ⟨eb, eo, none⟩) ct t wz (Kt.out _ hz) hmt) hvt)
  have HV := Lib.hid (show flB L T p t = (f3 L.length (fun N => !(!(hdB L T p N) || hdB L T t N))).isNone by unfold flB; rw [hA, hvp, hvt]; rfl)
  obtain ⟨np, hnp⟩ : ∃ n, n = p.length := ⟨_, rfl⟩
  obtain ⟨nt, hnt⟩ : ∃ n, n = t.length := ⟨_, rfl⟩
  rw [← hnp] at V1 HS1 ⊢
  rw [← hnt] at V2 HS2 ⊢
  have HNP := Lib.hid hnp
  have HNT := Lib.hid hnt
  clear l0 hnp hnt
  go_enter Try.func32, Try.ntmps32
  go_wp2_with (first | go_skip | (rw [← hw1]; clear hw1) | (refine wpList_load_row_w rfl 33 _ rfl w.heap.size rfl _ _ _ _ (KX.out _ (by assumption)) Try.underlying33 rfl (size_Alg _ _) ?_) | (go_at_call 54; refine (ret_toT (validAlgebra_any _ _ _ _ L T _ (KL.out _ z) (KT.out _ z)) (congrArg Value.bool hA)).mono ?_; rintro e w2 ⟨rfl, hb⟩; replace z := z.trans (hb.mono z.size); have c0 := (bx_cells (KX.out _ z)).1) | (go_at_call_of 55 np; refine (V1.out _ z).mono ?_; rintro e w' ⟨rfl, rfl⟩) | (go_at_call_of 55 nt; refine (V2.out _ z).mono ?_; rintro e w' ⟨rfl, rfl⟩) | (go_at_call 63; refine (assignments_any L.length _ n1 n6).mono ?_; rintro e w3 ⟨G, c, rfl, hS, hb⟩; replace z := z.trans (hb.mono z.size); obtain ⟨S, hSe⟩ : ∃ S, S = asnT L.length 3 := ⟨_, rfl⟩; rw [← hSe] at hS ⊢; obtain ⟨m, hm⟩ : ∃ m, m = S.length := ⟨_, rfl⟩; rw [← hm]; have HSE := Lib.hid hSe; have HM := Lib.hid hm; clear hSe hm c0))
  have HSS := Lib.hid (show ∀ wz, Below w3.heap.size w3 wz → TabS wz G S from fun wz hz => hS.below hz)
  have HZ3 := Lib.hid z
  have z3 : Below w3.heap.size w3 w3 := Below.refl _ _
  have HML := Lib.hid (show (m : Int) = (L.length : Int) * L.length * L.length by rw [HM.out, HSE.out]; exact asn_len3 _)
  have hmm : m ≤ 216 := by
    rw [HM.out, HSE.out, asnT_len]
    exact asn_pow n6 (by omega)
  clear hS z hb
  go_loopw [9] (fun iv wr => ∃ i : Int, 0 ≤ i ∧ i ≤ m ∧ iv = .int .i64 i ∧ (∀ j : Int, 0 ≤ j → j < i → (!(!(hdB L T p (tr3 L.length j)) || hdB L T t (tr3 L.length j))) = false) ∧ Below w3.heap.size w3 wr) (fun iv _ => ((m : Int) - intOf iv).toNat)
  case atStart => exact ⟨0, by omega, by omega, rfl, fun j j0 j1 => by omega, z3⟩
  case round =>
    clear z3
    obtain ⟨i, i0, i1, rfl, hj, z3⟩ := hrel
    have HJ := Lib.hid hj
    clear hj
    have z := HZ3.out.trans (z3.mono HZ3.out.size)
    by_cases hi : i < m
    · have hi3 : i < (L.length : Int) * L.length * L.length := by rw [← HML.out]; exact hi
      obtain ⟨ra, rc, d0, r0⟩ := (HSS.out _ z3) i i0 (by have := HM.out; omega)
      have hrow : rowAt S i = tr3 L.length i := by rw [HSE.out]; exact asn_row3 n1 n6 i0 hi3
      rw [hrow] at d0 r0
      obtain ⟨N, hN⟩ : ∃ N, N = tr3 L.length i := ⟨_, rfl⟩
      have HC1 := Lib.hid (fun (wz : World) (hz : Below w1.heap.size w1 wz) (hn : Rd wz (some ⟨ra, 0, none⟩) N) => HS1.out i i0 hi3 N hN ra rc wz hz hn)
      have HC2 := Lib.hid (fun (wz : World) (hz : Below w1.heap.size w1 wz) (hn : Rd wz (some ⟨ra, 0, none⟩) N) => HS2.out i i0 hi3 N hN ra rc wz hz hn)
      rw [← hN] at d0 r0
      have HEL := Lib.hid (show ∀ j, 0 ≤ j → j < 3 → El L (nth N j) by rw [hN]; exact tr3_el n1 n6 i0 hi3)
      have hq1 : hdB L T p (tr3 L.length i) = (vlI L T N np p == (L.length : Int) - 1) := by rw [HNP.out, ← hN]; rfl
      have hq2 : hdB L T t (tr3 L.length i) = (vlI L T N nt t == (L.length : Int) - 1) := by rw [HNT.out, ← hN]; rfl
      obtain ⟨V, hV⟩ : ∃ V, V = vlI L T N np p := ⟨_, rfl⟩
      obtain ⟨U, hU⟩ : ∃ U, U = vlI L T N nt t := ⟨_, rfl⟩
      rw [← hV] at HC1 hq1
      rw [← hU] at HC2 hq2
      have HR := Lib.hid r0
      have HZR := Lib.hid (Below.refl wr.heap.size wr)
      have HI3 := Lib.hid hi3
      have hnn : N.length ≤ 3 := by rw [hN]; exact Nat.le_refl 3
      clear hrow r0 hV hU hN hi3
      cases hb : (V == (L.length : Int) - 1) with
      | false =>
        have HQ := Lib.hid (show (!(!(hdB L T p (tr3 L.length i)) || hdB L T t (tr3 L.length i))) = false by rw [hq1, hb]; rfl)
        clear hq1 hq2
        go_wp2
        refine region_in (Below wr.heap.size wr) (by kernel_rfl) (by kernel_rfl) (Dr.below ⟨1, rfl⟩ _) fun hne => ?_
        have r1 : ∀ s : In (Below wr.heap.size wr), s.w.cell? ⟨G, i.toNat, none⟩ = some (.slice (some ⟨ra, 0, none⟩) N.length rc) := fun s => by rw [s.h.cell (by exact block_lt_of_cell d0)]; exact d0
        repeat (first
          | (go_big_quiet_want; refine quiet_load_row 33 _ rfl w.heap.size rfl _ _ _ _ (fun w' ⟨s, hs⟩ => by rw [hs]; exact KX.out _ (in_transT z s)) Try.underlying33 rfl (size_Alg _ _) ?_; simp only [Act.put, List.setIfInBounds_toArray, List.set_cons_succ, List.set_cons_zero]; go_big_quiet_on)
          | go_big_quiet_step ((first | (go_at_call_of 57 np; exact in_below _ (Nat.le_refl _) (HC1.out _ (in_transT z (by assumption)) (HR.out.below (in_transT HZR.out (by assumption))))) | (go_at_call_of 57 nt; exact in_below _ (Nat.le_refl _) (HC2.out _ (in_transT z (by assumption)) (HR.out.below (in_transT HZR.out (by assumption))))))))
        refine wpQuiet_nil ?_
        intro s
        have z7 := in_transT z s
        have hw7' := s.h
        obtain ⟨w7, hw7⟩ : ∃ x : World, x = s.w := ⟨_, rfl⟩
        rw [← hw7] at z7 hw7' ⊢
        clear hw7 r1

        go_wp2
        go_roundw
        case rel => exact ⟨i + 1, by omega, by omega, rfl, fun j j0 j1 => by
          by_cases e : j = i
          · rw [e]; exact HQ.out
          · exact HJ.out j j0 (by omega), z3.trans (hw7'.mono z3.size)⟩
        case measure => simp [intOf]; omega
      | true =>
        cases hb3 : (U == (L.length : Int) - 1) with
        | true =>
          have hb2 : (U != (L.length : Int) - 1) = false := by rw [bne, hb3]; rfl
          have HQ := Lib.hid (show (!(!(hdB L T p (tr3 L.length i)) || hdB L T t (tr3 L.length i))) = false by rw [hq1, hq2, hb, hb3]; rfl)
          clear hq1 hq2 hb3
          go_wp2
          refine region_in (Below wr.heap.size wr) (by kernel_rfl) (by kernel_rfl) (Dr.below ⟨1, rfl⟩ _) fun hne => ?_
          have r1 : ∀ s : In (Below wr.heap.size wr), s.w.cell? ⟨G, i.toNat, none⟩ = some (.slice (some ⟨ra, 0, none⟩) N.length rc) := fun s => by rw [s.h.cell (by exact block_lt_of_cell d0)]; exact d0
          repeat (first
            | (go_big_quiet_want; refine quiet_load_row 33 _ rfl w.heap.size rfl _ _ _ _ (fun w' ⟨s, hs⟩ => by rw [hs]; exact KX.out _ (in_transT z s)) Try.underlying33 rfl (size_Alg _ _) ?_; simp only [Act.put, List.setIfInBounds_toArray, List.set_cons_succ, List.set_cons_zero]; go_big_quiet_on)
            | go_big_quiet_step ((first | (go_at_call_of 57 np; exact in_below _ (Nat.le_refl _) (HC1.out _ (in_transT z (by assumption)) (HR.out.below (in_transT HZR.out (by assumption))))) | (go_at_call_of 57 nt; exact in_below _ (Nat.le_refl _) (HC2.out _ (in_transT z (by assumption)) (HR.out.below (in_transT HZR.out (by assumption))))))))
          refine wpQuiet_nil ?_
          intro s
          have z7 := in_transT z s
          have hw7' := s.h
          obtain ⟨w7, hw7⟩ : ∃ x : World, x = s.w := ⟨_, rfl⟩
          rw [← hw7] at z7 hw7' ⊢
          clear hw7 r1

          go_wp2
          go_roundw
          case rel => exact ⟨i + 1, by omega, by omega, rfl, fun j j0 j1 => by
            by_cases e : j = i
            · rw [e]; exact HQ.out
            · exact HJ.out j j0 (by omega), z3.trans (hw7'.mono z3.size)⟩
          case measure => simp [intOf]; omega
        | false =>
          have hb2 : (U != (L.length : Int) - 1) = true := by rw [bne, hb3]; rfl
          have HQ := Lib.hid (show (!(!(hdB L T p (tr3 L.length i)) || hdB L T t (tr3 L.length i))) = true by rw [hq1, hq2, hb, hb3]; rfl)
          clear hq1 hq2 hb3
          go_wp2
          refine region_in (Below wr.heap.size wr) (by kernel_rfl) (by kernel_rfl) (Dr.below ⟨1, rfl⟩ _) fun hne => ?_
          have r1 : ∀ s : In (Below wr.heap.size wr), s.w.cell? ⟨G, i.toNat, none⟩ = some (.slice (some ⟨ra, 0, none⟩) N.length rc) := fun s => by rw [s.h.cell (by exact block_lt_of_cell d0)]; exact d0
          repeat (first
            | (go_big_quiet_want; refine quiet_load_row 33 _ rfl w.heap.size rfl _ _ _ _ (fun w' ⟨s, hs⟩ => by rw [hs]; exact KX.out _ (in_transT z s)) Try.underlying33 rfl (size_Alg _ _) ?_; simp only [Act.put, List.setIfInBounds_toArray, List.set_cons_succ, List.set_cons_zero]; go_big_quiet_on)
            | go_big_quiet_step ((first | (go_at_call_of 57 np; exact in_below _ (Nat.le_refl _) (HC1.out _ (in_transT z (by assumption)) (HR.out.below (in_transT HZR.out (by assumption))))) | (go_at_call_of 57 nt; exact in_below _ (Nat.le_refl _) (HC2.out _ (in_transT z (by assumption)) (HR.out.below (in_transT HZR.out (by assumption))))))))
          refine wpQuiet_nil ?_
          intro s
          have z7 := in_transT z s
          have hw7' := s.h
          obtain ⟨w7, hw7⟩ : ∃ x : World, x = s.w := ⟨_, rfl⟩
          rw [← hw7] at z7 hw7' ⊢
          clear hw7 r1

          go_wp2
          go_ret
          have hf := f3_first (n := L.length) (p := fun N => !(!(hdB L T p N) || hdB L T t N)) HN1.out n6 i0 HI3.out HQ.out HJ.out
          exact ⟨ret_bool (by rw [HV.out, hf]; rfl), hB.trans (z7.mono hB.size)⟩
    · have HF := Lib.hid (f3_never (n := L.length) (p := fun N => !(!(hdB L T p N) || hdB L T t N)) HN1.out n6 (fun j j0 j1 => HJ.out j j0 (by have := HML.out; omega)))
      go_wp2
      go_ret
      exact ⟨ret_bool (by rw [HV.out, HF.out]; rfl), hB.trans (z.mono hB.size)⟩
/-- spec.Follows -/
theorem specFollows_any (a b : Option Addr) (ca cb : Nat) (L : List Int) (T : List (List Int)) (ap : Option Addr) (cp : Nat) (p : List Int) (at_ : Option Addr) (ct : Nat) (t : List Int) (w : World) (hr : Rd w a L) (hT : RdT w b T) (hp : Rd w ap p) (ht : Rd w at_ t) (hmp : p.length ≤ 1048576) (hmt : t.length ≤ 1048576) :
    Calls Try.prog 32 #[.agg #[.slice a L.length ca, .slice b T.length cb], .slice ap p.length cp, .slice at_ t.length ct] w fun e w' => e = .returned (.bool (flB L T p t)) ∧ Below w.heap.size w w' := by
  cases hno : algB L T && (vtB p && vtB t) with
  | false => exact specFollows_no a b ca cb L T ap cp p at_ ct t w hr hT hp ht hmp hmt hno
  | true =>
    rw [Bool.and_eq_true, Bool.and_eq_true] at hno
    obtain ⟨hA, hvp, hvt⟩ := hno
    obtain ⟨ab, ao, rfl⟩ := rd_some hr (fun e => absurd (show L.length = 0 by rw [e]; rfl) (by have := (lat_len (alg_lat hA)).1; have : num L = L.length := rfl; omega))
    obtain ⟨tb, to, rfl⟩ := rdT_some hT hA
    obtain ⟨pb, po, rfl⟩ := rd_some hp (fun e => by have htm := (vtB_parts hvp).2; rw [e] at htm; cases htm)
    obtain ⟨eb, eo, rfl⟩ := rd_some ht (fun e => by have htm := (vtB_parts hvt).2; rw [e] at htm; cases htm)
    exact specFollows_yes ab ao ca tb to cb L T pb po cp p eb eo ct t w hr hT hp ht hmp hmt hA hvp hvt
end Go.Proofs.Ytidbilgnclfplaa
