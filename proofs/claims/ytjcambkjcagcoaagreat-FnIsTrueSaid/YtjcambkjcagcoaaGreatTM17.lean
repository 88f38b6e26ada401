import Derived.Test.YtjcambkjcagcoaaGreatTM15
import Derived.Test.YtjcambkjcagcoaaGreatTM16
namespace Go.Proofs.YtjcambkjcagcoaaGreat
open Go.RowKit
set_option linter.unusedVariables false

theorem ret_toT2 {f : FuncId} {args : Array Value} {w : World} {v v' : Bool} (h : Calls Tryz.prog f args w fun e w' => e = .returned (.bool v) ∧ w = w') (e : v = v') : Calls Tryz.prog f args w fun e w' => e = .returned (.bool v') ∧ w = w' := by rw [← e]; exact h
theorem asn_len3 (n : Nat) : ((asnT n 3).length : Int) = (n : Int) * n * n := by
  rw [asnT_len, Nat.pow_succ, Nat.pow_succ, Nat.pow_succ, Nat.pow_zero, Nat.one_mul]
  simp
theorem asn_row3 {n : Nat} (n1 : 1 ≤ n) (n6 : n ≤ 6) {i : Int} (i0 : 0 ≤ i) (i1 : i < (n : Int) * n * n) : rowAt (asnT n 3) i = tr3 n i := by
  have h := asnT_row n n1 n6 i.toNat (by
    have : ((i.toNat : Nat) : Int) < ((n * n * n : Nat) : Int) := by rw [Int.toNat_of_nonneg i0]; simpa using i1
    omega)
  rw [Int.toNat_of_nonneg i0] at h
  exact h
theorem tr3_el {L : List Int} (n1 : 1 ≤ L.length) (n6 : L.length ≤ 6) {i : Int} (i0 : 0 ≤ i) (i1 : i < (L.length : Int) * L.length * L.length) : ∀ j, 0 ≤ j → j < 3 → El L (nth (tr3 L.length i) j) := fun j j0 j1 => by
  obtain ⟨x, y, z, x0, x1, y0, y1, z0, z1, _, e⟩ := tr3_parts (n := L.length) (by omega) (by omega) i0 i1
  rw [e]
  exact el3 x0 x1 y0 y1 z0 z1 j j0 j1
/-- the value of a term with the elements of a number, in the model -/
theorem specVal0_any (L : List Int) (T : List (List Int)) (ab ao ca tb to cb : Nat) (t : List Int) (eb eo ct : Nat) (hA : algB L T = true) (hv : vtB t = true) (n1 : 1 ≤ L.length) (n6 : L.length ≤ 6) (i : Int) (i0 : 0 ≤ i) (i1 : i < (L.length : Int) * L.length * L.length) (N : List Int) (hN : N = tr3 L.length i) (ra rc : Nat) (w : World)
    (hL : Rd w (some ⟨ab, ao, none⟩) L) (hT : RdT w (some ⟨tb, to, none⟩) T) (ht : Rd w (some ⟨eb, eo, none⟩) t) (hn : Rd w (some ⟨ra, 0, none⟩) N) :
    Calls Tryz.prog 123 #[.agg #[.slice (some ⟨ab, ao, none⟩) L.length ca, .slice (some ⟨tb, to, none⟩) T.length cb], .slice (some ⟨eb, eo, none⟩) t.length ct, .int .i64 0, .slice (some ⟨ra, 0, none⟩) N.length rc] w fun e w' => e = .returned (.int .i64 (vlI L T N t.length t)) ∧ Below w.heap.size w w' := by
  subst hN
  obtain ⟨l15, htm⟩ := vtB_parts hv
  have := specValue_any L T ab ao ca tb to cb t eb eo ct (tr3 L.length i) ra 0 rc rfl hA (tr3_el n1 n6 i0 i1) l15 t.length 0 [] w hL hT ht hn htm
  exact this
set_option maxRecDepth 100000 in
set_option maxHeartbeats 4000000 in
theorem specRefuteTerm_no (a b : Option Addr) (ca cb : Nat) (L : List Int) (T : List (List Int)) (at_ : Option Addr) (ct : Nat) (t : List Int) (w : World) (hr : Rd w a L) (hT : RdT w b T) (ht : Rd w at_ t) (hmt : t.length ≤ 1048576) (hno : (algB L T && vtB t) = false) :
    Calls Tryz.prog 68 #[.agg #[.slice a L.length ca, .slice b T.length cb], .slice at_ t.length ct] w (RetSsb ((rfI L T t).getD []) (rfI L T t).isSome w) := by
  obtain ⟨w1, hw1⟩ : ∃ w1, w1 = w.alloc (.cells #[.slice a L.length ca, .slice b T.length cb] 26) := ⟨_, rfl⟩
  have hB : Below w.heap.size w w1 := by rw [hw1]; exact (Below.refl _ _).alloc (Nat.le_refl _) _
  have hx1 : w1.heap[w.heap.size]? = some (.cells #[.slice a L.length ca, .slice b T.length cb] 26 (0, 0)) := by rw [hw1]; exact heap_alloc_new w _
  have KX := Lib.hid (show ∀ wz, Below w1.heap.size w1 wz → wz.heap[w.heap.size]? = some (.cells #[.slice a L.length ca, .slice b T.length cb] 26 (0, 0)) from fun wz h => (h.block _ (lt_of_block hx1)).trans hx1)
  have KL := Lib.hid (show ∀ wz, Below w1.heap.size w1 wz → Rd wz a L from fun wz h => (hr.below hB).below h)
  have KT := Lib.hid (show ∀ wz, Below w1.heap.size w1 wz → RdT wz b T from fun wz h => (hT.below hB).below h)
  have Kt := Lib.hid (show ∀ wz, Below w1.heap.size w1 wz → Rd wz at_ t from fun wz h => (ht.below hB).below h)
  have z : Below w1.heap.size w1 w1 := Below.refl _ _
  clear hr hT hx1 ht
  have HV := Lib.hid (show rfI L T t = none by unfold rfI; rw [hno]; rfl)
  cases hA : algB L T with
  | false =>
    go_enter Tryz.func68, Tryz.ntmps68
    go_wp2_with (first | go_skip | (rw [← hw1]; clear hw1) | (refine wpList_load_row_w rfl 26 _ rfl w.heap.size rfl _ _ _ _ (KX.out _ (by assumption)) Tryz.underlying26 rfl (size_Alg _ _) ?_) | (go_at_call 46; refine (ret_toT (validAlgebra_any _ _ _ _ L T _ (KL.out _ z) (KT.out _ z)) (congrArg Value.bool hA)).mono ?_; rintro e w2 ⟨rfl, hb⟩; replace z := z.trans (hb.mono z.size)))
    go_ret2
    rw [HV.out]
    exact ⟨_, _, _, rfl, ⟨none, 0, rfl, fun h => absurd rfl h⟩, hB.trans (z.mono hB.size)⟩
  | true =>
    have hv : vtB t = false := by rw [hA] at hno; simpa using hno
    go_enter Tryz.func68, Tryz.ntmps68
    go_wp2_with (first | go_skip | (rw [← hw1]; clear hw1) | (refine wpList_load_row_w rfl 26 _ rfl w.heap.size rfl _ _ _ _ (KX.out _ (by assumption)) Tryz.underlying26 rfl (size_Alg _ _) ?_) | (go_at_call 46; refine (ret_toT (validAlgebra_any _ _ _ _ L T _ (KL.out _ z) (KT.out _ z)) (congrArg Value.bool hA)).mono ?_; rintro e w2 ⟨rfl, hb⟩; replace z := z.trans (hb.mono z.size)) | (go_at_call 67; refine (ret_toT2 (specValid_any _ _ _ _ (Kt.out _ z) hmt) hv).mono ?_; rintro e w' ⟨rfl, rfl⟩))
    go_ret2
    rw [HV.out]
    exact ⟨_, _, _, rfl, ⟨none, 0, rfl, fun h => absurd rfl h⟩, hB.trans (z.mono hB.size)⟩
set_option maxRecDepth 100000 in
set_option maxHeartbeats 4000000 in
theorem specRefuteTerm_yes (ab ao ca tb to cb : Nat) (L : List Int) (T : List (List Int)) (eb eo ct : Nat) (t : List Int) (w : World) (hr : Rd w (some ⟨ab, ao, none⟩) L) (hT : RdT w (some ⟨tb, to, none⟩) T) (ht : Rd w (some ⟨eb, eo, none⟩) t) (hmt : t.length ≤ 1048576) (hA : algB L T = true) (hv : vtB t = true) :
    Calls Tryz.prog 68 #[.agg #[.slice (some ⟨ab, ao, none⟩) L.length ca, .slice (some ⟨tb, to, none⟩) T.length cb], .slice (some ⟨eb, eo, none⟩) t.length ct] w (RetSsb ((rfI L T t).getD []) (rfI L T t).isSome w) := by
  obtain ⟨w1, hw1⟩ : ∃ w1, w1 = w.alloc (.cells #[.slice (some ⟨ab, ao, none⟩) L.length ca, .slice (some ⟨tb, to, none⟩) T.length cb] 26) := ⟨_, rfl⟩
  have hB : Below w.heap.size w w1 := by rw [hw1]; exact (Below.refl _ _).alloc (Nat.le_refl _) _
  have hx1 : w1.heap[w.heap.size]? = some (.cells #[.slice (some ⟨ab, ao, none⟩) L.length ca, .slice (some ⟨tb, to, none⟩) T.length cb] 26 (0, 0)) := by rw [hw1]; exact heap_alloc_new w _
  have KX := Lib.hid (show ∀ wz, Below w1.heap.size w1 wz → wz.heap[w.heap.size]? = some (.cells #[.slice (some ⟨ab, ao, none⟩) L.length ca, .slice (some ⟨tb, to, none⟩) T.length cb] 26 (0, 0)) from fun wz h => (h.block _ (lt_of_block hx1)).trans hx1)
  have KL := Lib.hid (show ∀ wz, Below w1.heap.size w1 wz → Rd wz (some ⟨ab, ao, none⟩) L from fun wz h => (hr.below hB).below h)
  have KT := Lib.hid (show ∀ wz, Below w1.heap.size w1 wz → RdT wz (some ⟨tb, to, none⟩) T from fun wz h => (hT.below hB).below h)
  have Kt := Lib.hid (show ∀ wz, Below w1.heap.size w1 wz → Rd wz (some ⟨eb, eo, none⟩) t from fun wz h => (ht.below hB).below h)
  have z : Below w1.heap.size w1 w1 := Below.refl _ _
  clear hr hT hx1 ht
  have l0 := lat_len (alg_lat hA)
  have n1 : 1 ≤ L.length := by have : num L = L.length := rfl; omega
  have n6 : L.length ≤ 6 := by have : num L = L.length := rfl; omega
  have n6I : (L.length : Int) ≤ 6 := by omega
  have HN1 := Lib.hid n1
  have HV := Lib.hid (show rfI L T t = f3 L.length (fun N => !(hdB L T t N)) by unfold rfI; rw [hA, hv]; rfl)
  have HS := Lib.hid (fun (i : Int) (i0 : 0 ≤ i) (i1 : i < (L.length : Int) * L.length * L.length) (N : List Int) (hN : N = tr3 L.length i) (ra rc : Nat) (wz : World) (hz : Below w1.heap.size w1 wz) (hn : Rd wz (some ⟨ra, 0, none⟩) N) => specVal0_any L T ab ao ca tb to cb t eb eo ct hA hv n1 n6 i i0 i1 N hN ra rc wz (KL.out _ hz) (KT.out _ hz) (Kt.out _ hz) hn)
  clear l0
  go_enter Tryz.func68, Tryz.ntmps68
  go_wp2_with (first | go_skip | (rw [← hw1]; clear hw1) | (refine wpList_load_row_w rfl 26 _ rfl w.heap.size rfl _ _ _ _ (KX.out _ (by assumption)) Tryz.underlying26 rfl (size_Alg _ _) ?_) | (go_at_call 46; refine (ret_toT (validAlgebra_any _ _ _ _ L T _ (KL.out _ z) (KT.out _ z)) (congrArg Value.bool hA)).mono ?_; rintro e w2 ⟨rfl, hb⟩; replace z := z.trans (hb.mono z.size); have c0 := (bx_cells (KX.out _ z)).1) | (go_at_call 67; refine (ret_toT2 (specValid_any _ _ _ _ (Kt.out _ z) hmt) hv).mono ?_; rintro e w' ⟨rfl, rfl⟩) | (go_at_call 122; refine (assignments_any L.length _ n1 n6).mono ?_; rintro e w3 ⟨G, c, rfl, hS, hb⟩; replace z := z.trans (hb.mono z.size); obtain ⟨S, hSe⟩ : ∃ S, S = asnT L.length 3 := ⟨_, rfl⟩; rw [← hSe] at hS ⊢; obtain ⟨m, hm⟩ : ∃ m, m = S.length := ⟨_, rfl⟩; rw [← hm]; have HSE := Lib.hid hSe; have HM := Lib.hid hm; clear hSe hm c0))
  have HSS := Lib.hid (show ∀ wz, Below w3.heap.size w3 wz → TabS wz G S from fun wz hz => hS.below hz)
  have HZ3 := Lib.hid z
  have z3 : Below w3.heap.size w3 w3 := Below.refl _ _
  have HML := Lib.hid (show (m : Int) = (L.length : Int) * L.length * L.length by rw [HM.out, HSE.out]; exact asn_len3 _)
  have hmm : m ≤ 216 := by
    rw [HM.out, HSE.out, asnT_len]
    exact asn_pow n6 (by omega)
  clear hS z hb
  go_loopw [7] (fun iv wr => ∃ i : Int, 0 ≤ i ∧ i ≤ m ∧ iv = .int .i64 i ∧ (∀ j : Int, 0 ≤ j → j < i → (!(hdB L T t (tr3 L.length j))) = false) ∧ Below w3.heap.size w3 wr) (fun iv _ => ((m : Int) - intOf iv).toNat)
  case atStart => exact ⟨0, by omega, by omega, rfl, fun j j0 j1 => by omega, z3⟩
  case round =>
    clear z3
    obtain ⟨i, i0, i1, rfl, hj, z3⟩ := hrel
    have HJ := Lib.hid hj
    clear hj
    have z := HZ3.out.trans (z3.mono HZ3.out.size)
    by_cases hi : i < m
    · have hi3 : i < (L.length : Int) * L.length * L.length := by rw [← HML.out]; exact hi
      obtain ⟨ra, rc, d0, r0⟩ := (HSS.out _ z3) i i0 (by have := HM.out; omega)
      have hrow : rowAt S i = tr3 L.length i := by rw [HSE.out]; exact asn_row3 n1 n6 i0 hi3
      rw [hrow] at d0 r0
      obtain ⟨N, hN⟩ : ∃ N, N = tr3 L.length i := ⟨_, rfl⟩
      have HC := Lib.hid (fun (wz : World) (hz : Below w1.heap.size w1 wz) (hn : Rd wz (some ⟨ra, 0, none⟩) N) => HS.out i i0 hi3 N hN ra rc wz hz hn)
      have hq : hdB L T t (tr3 L.length i) = (vlI L T N t.length t == (L.length : Int) - 1) := by rw [← hN]; rfl
      rw [← hN] at d0 r0
      obtain ⟨V, hV⟩ : ∃ V, V = vlI L T N t.length t := ⟨_, rfl⟩
      rw [← hV] at HC hq
      have HR := Lib.hid r0
      have HN := Lib.hid hN
      have HI3 := Lib.hid hi3
      have hnn : N.length ≤ 3 := by rw [hN]; exact Nat.le_refl 3
      clear hrow r0 hV hN hi3
      cases hb : (V == (L.length : Int) - 1) with
      | true =>
        have hb2 : (V != (L.length : Int) - 1) = false := by rw [bne, hb]; rfl
        have HQ := Lib.hid (show (!(hdB L T t (tr3 L.length i))) = false by rw [hq, hb]; rfl)
        clear hq hb
        go_wp2
        refine region_in (Below wr.heap.size wr) (by kernel_rfl) (by kernel_rfl) (Dr.below ⟨1, rfl⟩ _) fun hne => ?_
        have r1 : ∀ s : In (Below wr.heap.size wr), s.w.cell? ⟨G, i.toNat, none⟩ = some (.slice (some ⟨ra, 0, none⟩) N.length rc) := fun s => by rw [s.h.cell (by exact block_lt_of_cell d0)]; exact d0
        have r2 : ∀ s : In (Below wr.heap.size wr), s.w.cell? ⟨w.heap.size, 0, none⟩ = some (.slice (some ⟨ab, ao, none⟩) L.length ca) := fun s => (bx_cells (KX.out _ (in_transT z s))).1
        repeat (first
          | (go_big_quiet_want; refine quiet_load_row 26 _ rfl w.heap.size rfl _ _ _ _ (fun w' ⟨s, hs⟩ => by rw [hs]; exact KX.out _ (in_transT z s)) Tryz.underlying26 rfl (size_Alg _ _) ?_; simp only [Act.put, List.setIfInBounds_toArray, List.set_cons_succ, List.set_cons_zero]; go_big_quiet_on)
          | go_big_quiet_step ((go_at_call 123; exact in_below _ (Nat.le_refl _) (HC.out _ (in_transT z (by assumption)) (HR.out.below (In.h (by assumption)))))))
        refine wpQuiet_nil ?_
        intro s
        have z7 := in_transT z s
        have hw7' := s.h
        obtain ⟨w7, hw7⟩ : ∃ x : World, x = s.w := ⟨_, rfl⟩
        rw [← hw7] at z7 hw7' ⊢
        clear hw7 r1 r2
        go_wp2
        go_roundw
        case rel => exact ⟨i + 1, by omega, by omega, rfl, fun j j0 j1 => by
          by_cases e : j = i
          · rw [e]; exact HQ.out
          · exact HJ.out j j0 (by omega), z3.trans (hw7'.mono z3.size)⟩
        case measure => simp [intOf]; omega
      | false =>
        have hb2 : (V != (L.length : Int) - 1) = true := by rw [bne, hb]; rfl
        have HQ := Lib.hid (show (!(hdB L T t (tr3 L.length i))) = true by rw [hq, hb]; rfl)
        clear hq hb
        go_wp2
        refine region_in (Below wr.heap.size wr) (by kernel_rfl) (by kernel_rfl) (Dr.below ⟨1, rfl⟩ _) fun hne => ?_
        have r1 : ∀ s : In (Below wr.heap.size wr), s.w.cell? ⟨G, i.toNat, none⟩ = some (.slice (some ⟨ra, 0, none⟩) N.length rc) := fun s => by rw [s.h.cell (by exact block_lt_of_cell d0)]; exact d0
        have r2 : ∀ s : In (Below wr.heap.size wr), s.w.cell? ⟨w.heap.size, 0, none⟩ = some (.slice (some ⟨ab, ao, none⟩) L.length ca) := fun s => (bx_cells (KX.out _ (in_transT z s))).1
        repeat (first
          | (go_big_quiet_want; refine quiet_load_row 26 _ rfl w.heap.size rfl _ _ _ _ (fun w' ⟨s, hs⟩ => by rw [hs]; exact KX.out _ (in_transT z s)) Tryz.underlying26 rfl (size_Alg _ _) ?_; simp only [Act.put, List.setIfInBounds_toArray, List.set_cons_succ, List.set_cons_zero]; go_big_quiet_on)
          | go_big_quiet_step ((go_at_call 123; exact in_below _ (Nat.le_refl _) (HC.out _ (in_transT z (by assumption)) (HR.out.below (In.h (by assumption)))))))
        refine wpQuiet_nil ?_
        intro s
        have z7 := in_transT z s
        have hw7' := s.h
        obtain ⟨w7, hw7⟩ : ∃ x : World, x = s.w := ⟨_, rfl⟩
        rw [← hw7] at z7 hw7' ⊢
        clear hw7 r1 r2
        have e0 : w7.cell? ⟨G, i.toNat, none⟩ = some (.slice (some ⟨ra, 0, none⟩) N.length rc) := by rw [hw7'.cell (by exact block_lt_of_cell d0)]; exact d0
        go_wp2
        go_ret2
        have hf := f3_first (n := L.length) (p := fun N => !(hdB L T t N)) HN1.out n6 i0 HI3.out HQ.out HJ.out
        rw [HV.out, hf, ← HN.out]
        exact ⟨_, _, _, rfl, ⟨_, rc, rfl, HR.out.below hw7'⟩, hB.trans (z7.mono hB.size)⟩
    · have hf := f3_never (n := L.length) (p := fun N => !(hdB L T t N)) HN1.out n6 (fun j j0 j1 => HJ.out j j0 (by have := HML.out; omega))
      have HF := Lib.hid hf
      clear hf
      go_wp2
      go_ret2
      rw [HV.out, HF.out]
      exact ⟨_, _, _, rfl, ⟨none, 0, rfl, fun h => absurd rfl h⟩, hB.trans (z.mono hB.size)⟩
/-- spec.RefuteTerm -/
theorem specRefuteTerm_any (a b : Option Addr) (ca cb : Nat) (L : List Int) (T : List (List Int)) (at_ : Option Addr) (ct : Nat) (t : List Int) (w : World) (hr : Rd w a L) (hT : RdT w b T) (ht : Rd w at_ t) (hmt : t.length ≤ 1048576) :
    Calls Tryz.prog 68 #[.agg #[.slice a L.length ca, .slice b T.length cb], .slice at_ t.length ct] w (RetSsb ((rfI L T t).getD []) (rfI L T t).isSome w) := by
  cases hno : algB L T && vtB t with
  | false => exact specRefuteTerm_no a b ca cb L T at_ ct t w hr hT ht hmt hno
  | true =>
    rw [Bool.and_eq_true] at hno
    obtain ⟨hA, hv⟩ := hno
    obtain ⟨ab, ao, rfl⟩ := rd_some hr (fun e => absurd (show L.length = 0 by rw [e]; rfl) (by have := (lat_len (alg_lat hA)).1; have : num L = L.length := rfl; omega))
    obtain ⟨tb, to, rfl⟩ := rdT_some hT hA
    obtain ⟨eb, eo, rfl⟩ := rd_some ht (fun e => by have htm := (vtB_parts hv).2; rw [e] at htm; cases htm)
    exact specRefuteTerm_yes ab ao ca tb to cb L T eb eo ct t w hr hT ht hmt hA hv
end Go.Proofs.YtjcambkjcagcoaaGreat
