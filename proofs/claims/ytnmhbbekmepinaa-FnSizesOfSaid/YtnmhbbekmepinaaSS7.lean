import Derived.Test.YtnmhbbekmepinaaSS6
namespace Go.Proofs.Ytnmhbbekmepinaa
open Go.RowKit
set_option linter.unusedVariables false

theorem lstTo_cgr {g h : Int → Int} {k : Int} (hh : ∀ i, 0 ≤ i → i < k → g i = h i) : lstTo g k = lstTo h k := by
  unfold lstTo
  exact List.map_congr_left fun i hi => hh i (by omega) (by have := List.mem_range.1 hi; omega)
theorem gapsL_snoc (F : List Int) (hF : 0 < F.length) (y : Int) : gapsL (F ++ [y]) = gapsL F ++ [y - nth F ((F.length : Int) - 1)] := by
  unfold gapsL
  rw [List.length_append, List.length_singleton, show (((F.length + 1 : Nat) : Int)) - 1 = ((F.length : Int) - 1) + 1 by omega, lstTo_succ _ _ (by omega)]
  congr 1
  · refine lstTo_cgr fun i i0 i1 => ?_
    rw [nth_app1 (by omega) (by omega), nth_app1 i0 (by omega)]
  · rw [show (F.length : Int) - 1 + 1 = (F.length : Int) by omega, nth_app2, nth_app1 (by omega) (by omega)]
def lastL (F : List Int) : Int := nth F ((F.length : Int) - 1)
theorem lastL_snoc (F : List Int) (y : Int) : lastL (F ++ [y]) = y := by
  unfold lastL
  rw [List.length_append, List.length_singleton, show (((F.length + 1 : Nat) : Int)) - 1 = (F.length : Int) by omega]
  exact nth_app2
theorem filt_one {p : Int → Bool} (h : p 0 = true) : filtTo p 1 = [0] := by
  rw [show (1 : Int) = 0 + 1 from rfl, filtTo_succ _ 0 (by omega), if_pos h]
  rfl
theorem filt_pos {p : Int → Bool} (h : p 0 = true) {x : Int} (hx : 1 ≤ x) : 0 < (filtTo p x).length := by
  have := (filt_first h (x - 1).toNat).1
  rwa [show ((x - 1).toNat : Int) + 1 = x by omega] at this
theorem lastL_rng {p : Int → Bool} (h : p 0 = true) {x : Int} (hx : 1 ≤ x) : 0 ≤ lastL (filtTo p x) ∧ lastL (filtTo p x) < x := by
  have h1 := filt_pos h hx
  have := (filtTo_mem p x _).1 (nth_in (A := filtTo p x) (p := ((filtTo p x).length : Int) - 1) (by omega) (by omega))
  exact ⟨this.1, this.2.1⟩
set_option maxRecDepth 100000 in
set_option maxHeartbeats 8000000 in
theorem specSizesOf_yes (a b : Option Addr) (ca cb : Nat) (L : List Int) (T : List (List Int)) (w : World) (hr : Rd w a L) (hT : RdT w b T) (h : algB L T = true) (hch : chainB L = true) (hdv : hasB 1 L T = true) : Calls Try.prog 44 #[.agg #[.slice a L.length ca, .slice b T.length cb]] w (RetSsb (sqL L T) (sqB L T) w) := by
  obtain ⟨l1, l6, hsm⟩ := latB_parts (alg_lat h)
  obtain ⟨ab, ao, rfl, _⟩ := hr (fun e => by rw [e] at l1; simp [num] at l1)
  obtain ⟨tb, to, rfl, _⟩ := tab_of hT (alg_shape h) l1
  obtain ⟨w1, hw1⟩ : ∃ w1, w1 = w.alloc (.cells #[.slice (some ⟨ab, ao, none⟩) L.length ca, .slice (some ⟨tb, to, none⟩) T.length cb] 27) := ⟨_, rfl⟩
  have hB : Below w.heap.size w w1 := by rw [hw1]; exact (Below.refl _ _).alloc (Nat.le_refl _) _
  have hx : w1.heap[w.heap.size]? = some (.cells #[.slice (some ⟨ab, ao, none⟩) L.length ca, .slice (some ⟨tb, to, none⟩) T.length cb] 27 (0, 0)) := by rw [hw1]; exact heap_alloc_new w _
  have Kx := Lib.hid (show ∀ wz, Below w1.heap.size w1 wz → wz.heap[w.heap.size]? = some (.cells #[.slice (some ⟨ab, ao, none⟩) L.length ca, .slice (some ⟨tb, to, none⟩) T.length cb] 27 (0, 0)) from fun wz h => (h.block _ (lt_of_block hx)).trans hx)
  have KR := Lib.hid (show ∀ wz, Below w1.heap.size w1 wz → Rd wz (some ⟨ab, ao, none⟩) L from fun wz h => (hr.below hB).below h)
  have KT := Lib.hid (show ∀ wz, Below w1.heap.size w1 wz → RdT wz (some ⟨tb, to, none⟩) T from fun wz h => (hT.below hB).below h)
  have z1 : Below w1.heap.size w1 w1 := Below.refl _ _
  clear hr hT hx
  have KC := Lib.hid (show ∀ wz, Below w1.heap.size w1 wz → Cells wz ab ao L from fun wz hb => by
    obtain ⟨b', off', e, hc⟩ := (KR.out wz hb) (fun e => by rw [e] at l1; simp [num] at l1)
    simp only [Option.some.injEq, Addr.mk.injEq] at e
    rw [e.1, e.2.1]; exact hc)
  obtain ⟨tb', to', e1, rb, ro, rc, hTA⟩ := tab_of (KT.out _ (Below.refl _ _)) (alg_shape h) l1
  simp only [Option.some.injEq, Addr.mk.injEq] at e1
  obtain ⟨rfl, rfl, _⟩ := e1
  have KA := Lib.hid (show ∀ wz, Below w1.heap.size w1 wz → TabAt wz tb to (num L) L.length rb ro rc T from fun wz hb => hTA.below hb)
  have HS6 := Lib.hid hsm
  have n6 : (L.length : Int) ≤ 6 := l6
  have n1 : 1 ≤ (L.length : Int) := l1
  have HA := Lib.hid h
  have HIS0 := Lib.hid (fun (w : World) (h1 : Rd w (some ⟨ab, ao, none⟩) L) (h2 : RdT w (some ⟨tb, to, none⟩) T) => specIs_1 ⟨#[100, 105, 118, 105, 115, 105, 98, 108, 101]⟩ (by decide +kernel) (by decide +kernel) (some ⟨ab, ao, none⟩) (some ⟨tb, to, none⟩) ca cb L T w h1 h2 h)
  have HBB := Lib.hid (show all2 (L.length : Int) (prQ1 L T) = hasB 1 L T from rfl)
  have HIS := Lib.hid (fun (w : World) (h1 : Rd w (some ⟨ab, ao, none⟩) L) (h2 : RdT w (some ⟨tb, to, none⟩) T) => by have := HIS0.out w h1 h2; rw [HBB.out, hdv] at this; exact this)
  have HCH := Lib.hid hch
  obtain ⟨hs5, _⟩ := szI_ok h
  have HP0 := Lib.hid (fixF_0 h)
  have HSD := Lib.hid (show gapsL (filtTo (fixQ T) (num L)) = szI L T from rfl)
  have hsl := szI_len h
  have HST := Lib.hid (fun (w : World) (a : Option Addr) (c : Nat) (h1 : Rd w a (szI L T)) => specStackOfL_any a c (szI L T) w h1 hs5)
  have HKF := Lib.hid (skF _ hs5)
  have hml := sk_size h
  have HF1 := Lib.hid (filt_one (fixF_0 h))
  have hsh := shape_len (alg_shape h)
  obtain ⟨i0, hi, hz0, hz1, hz2⟩ := info_parts info_int
  obtain ⟨S, hS⟩ : ∃ S, S = szI L T := ⟨_, rfl⟩
  obtain ⟨M, hM⟩ : ∃ M, M = (skA S).1 := ⟨_, rfl⟩
  obtain ⟨U, hU⟩ : ∃ U, U = (skA S).2 := ⟨_, rfl⟩
  rw [← hS] at HSD HST HKF hsl hml
  rw [← hM, ← hU] at HST HKF
  rw [← hM] at hml
  have HML := Lib.hid hml
  clear hml
  have HSS := Lib.hid (show skA (szI L T) = (M, U) from by rw [← hS, hM, hU])
  have HSE := Lib.hid (show szI L T = S from hS.symm)
  have nL : num L = L.length := rfl
  have s1 := hB.size
  clear h hTA hch hdv hs5 hS hM hU HIS0
  go_enter Try.func44, Try.ntmps44
  go_wp2_with (first
    | go_skip
    | (rw [← hw1]; clear hw1)
    | (refine wpList_load_row_w rfl 27 _ rfl w.heap.size rfl _ _ _ _ (Kx.out _ (by assumption)) Try.underlying27 rfl (size_Alg _ _) ?_)
    | (go_at_call 73; refine (ret_below (validAlgebra_any _ _ _ _ L T _ (KR.out _ z1) (KT.out _ z1)) HA.out).mono ?_; rintro e w2 ⟨rfl, h2⟩; have z2 : Below w1.heap.size w1 w2 := h2; clear h2; obtain ⟨c0, c1⟩ := bx_cells (Kx.out _ z2))
    | (go_at_call 112; refine (ret_below (isChain_B2 _ _ _ L _ (KC.out _ z2) HS6.out) HCH.out).mono ?_; rintro e w3 ⟨rfl, h3⟩; have z3 := z2.trans (h3.mono z2.size); clear h3 c0 c1; obtain ⟨c0, c1⟩ := bx_cells (Kx.out _ z3))
    | (go_at_call 113; refine (HIS.out _ (KR.out _ z3) (KT.out _ z3)).mono ?_; rintro e w4 ⟨rfl, h4⟩; have z4 := z3.trans (h4.mono z3.size); clear h4; (try clear c0 c1)))
  go_loopw [6, 7, 8] (fun ov lv xv wr => ∃ x : Int, 1 ≤ x ∧ x ≤ num L ∧ xv = .int .i64 x ∧ lv = .int .i64 (lastL (filtTo (fixQ T) x)) ∧ Own w1.heap.size wr ov (gapsL (filtTo (fixQ T) x)) ∧ Below w1.heap.size w1 wr) (fun _ _ xv _ => (10 - intOf xv).toNat)
  case atStart => exact ⟨1, by omega, by omega, rfl, by rw [HF1.out]; rfl, by rw [HF1.out]; exact Own.row (L := []) (heap_alloc_new w4 _) z4.size (Nat.zero_le _), z4.alloc z4.size _⟩
  case round =>
    clear z4 z3 z2 z1
    obtain ⟨x, x1, xn, rfl, rfl, hown, z⟩ := hrel
    obtain ⟨c0, c1⟩ := bx_cells (Kx.out _ z)
    have hs := z.size
    obtain ⟨lr0, lr1⟩ := lastL_rng HP0.out x1
    have hfp := filt_pos HP0.out x1
    have hfl := filtTo_len (fixQ T) x
    have hsu := Lib.hid (filtTo_succ (fixQ T) x (by omega))
    have HFE := Lib.hid (show x = num L → gapsL (filtTo (fixQ T) x) = S from fun e => by rw [e]; exact HSD.out)
    obtain ⟨F, hF⟩ : ∃ F, F = filtTo (fixQ T) x := ⟨_, rfl⟩
    rw [← hF] at hown hsu hfp hfl lr0 lr1 HFE ⊢
    have HGS := Lib.hid (gapsL_snoc F hfp x)
    have HLS := Lib.hid (lastL_snoc F x)
    have hgl : (gapsL F).length ≤ 6 := by
      have := lstTo_len (fun i => nth F (i + 1) - nth F i) ((F.length : Int) - 1) (by omega)
      unfold gapsL
      omega
    obtain ⟨y, hy⟩ : ∃ y, y = lastL F := ⟨_, rfl⟩
    have HGY := Lib.hid (show gapsL (F ++ [x]) = gapsL F ++ [x - y] from by rw [hy]; exact HGS.out)
    rw [← hy] at lr0 lr1 ⊢
    obtain ⟨P, hP⟩ : ∃ P, P = gapsL F := ⟨_, rfl⟩
    rw [← hP] at hown hgl HGY HFE
    have HPP := Lib.hid (show gapsL F = P ∧ lastL F = y from ⟨hP.symm, hy.symm⟩)
    clear hF hy hP hfp hfl HGS
    by_cases hx : x < num L
    · have x0 : 0 ≤ x := by omega
      have dx := (KA.out _ z).row x0 hx
      have exx := (KA.out _ z).cell x0 hx x0 hx
      have hxl : x < L.length := by omega
      have hxt : x < T.length := by omega
      have kw : IntKind.i64.wrap (x - y) = x - y := IntWalk.i64_in _ (by omega)
      have kx : IntKind.i64.wrap (x + 1) = x + 1 := IntWalk.i64_in _ (by omega)
      have hq := Lib.hid (show fixQ T x = (tv T x x == x) from rfl)
      cases hC : tv T x x == x
      all_goals rw [hC] at hq
      case true =>
        have hsu2 := Lib.hid (show filtTo (fixQ T) (x + 1) = F ++ [x] by rw [hsu.out, hq.out]; rfl)
        go_wp2_with (at_builtin; refine wpList_append_own _ rfl _ _ 22 rfl w1.heap.size 3 i0 (.int .i64 0) 1 8 Try.underlying22 hi hz0 hz1 hz2 rfl (by decide) _ _ _ rfl (World.ownsRow.alloc hown _) ⟨wr.heap.size, 0, none⟩ 1 1 [.int .i64 (x - y)] rfl rfl (cell_one_new _ _ _) (fun x hx => by simp at hx; subst hx; rfl) (by unfold maxLen; omega) (by omega) (by simp; omega) ?_; intro v' w2 hown1 hgrow _)
        go_roundw
        case rel => exact ⟨x + 1, by omega, by omega, rfl, by rw [hsu2.out, HLS.out], by unfold Own; rw [hsu2.out, HGY.out, List.map_append, List.length_append]; exact hown1, (z.alloc hs _).grown hgrow (by simp; omega) (fun q hq => (World.ownsRow.lt hown q hq).1)⟩
        case measure => simp [intOf]; omega
      case false =>
        have hsu2 := Lib.hid (show filtTo (fixQ T) (x + 1) = F by rw [hsu.out, hq.out]; rfl)
        go_wp2
        go_roundw
        case rel => exact ⟨x + 1, by omega, by omega, rfl, by rw [hsu2.out, HPP.out.2], by rw [hsu2.out, HPP.out.1]; exact hown, z⟩
        case measure => simp [intOf]; omega
    · have e : x = num L := by omega
      have hxl : ¬ x < (L.length : Int) := by omega
      rw [HFE.out e] at hown hgl
      clear HGY HPP HFE HLS hsu lr0 lr1 e
      obtain ⟨oa, oc, rfl, _⟩ := hown.slice
      have HOW := Lib.hid hown
      go_wp2_with (first
        | (go_at_call 109; refine (HST.out _ _ _ (HOW.out.rd)).mono ?_; rintro e w5 ⟨qa, qc, qb, qd, rfl, qo, qr, hb5⟩; have z5 := z.trans (hb5.mono hs); have y5 : Below wr.heap.size wr w5 := hb5; have QO := Lib.hid qo.rd; have QT := Lib.hid (rowsAt_rdT qr); clear qo qr hb5)
        | (refine wpList_store_row rfl 27 _ _ rfl w5.heap.size #[.slice qa M.length qc, .slice qb U.length qd] rfl rfl _ _ (heap_alloc_new w5 (.cells #[.slice none 0 0, .slice none 0 0] 27)) (size_Alg _ _) rfl (one_sl2 _ _ _ _ _ _) ?_; rw [World.setRow_alloc_new]; obtain ⟨G, hG⟩ : ∃ g : Nat, g = w5.heap.size := ⟨_, rfl⟩; obtain ⟨w6, hw6⟩ : ∃ x : World, x = w5.alloc (.cells #[.slice qa M.length qc, .slice qb U.length qd] 27) := ⟨_, rfl⟩; rw [← hw6, ← hG]; have qw6 : Below w5.heap.size w5 w6 := (by rw [hw6]; exact (Below.refl _ _).alloc (Nat.le_refl _) _); have hxG : w6.heap[G]? = some (.cells #[.slice qa M.length qc, .slice qb U.length qd] 27 (0, 0)) := (by rw [hw6, hG]; exact heap_alloc_new w5 _); have KG := Lib.hid (show ∀ wz, Below w6.heap.size w6 wz → wz.heap[G]? = some (.cells #[.slice qa M.length qc, .slice qb U.length qd] 27 (0, 0)) from fun wz h => (h.block _ (lt_of_block hxG)).trans hxG); have z6 : Below w1.heap.size w1 w6 := z5.trans (qw6.mono z5.size); have y6 := y5.trans (qw6.mono y5.size); replace QO := Lib.hid (QO.out.below qw6); replace QT := Lib.hid (QT.out.below qw6); clear z5 y5 qw6 hw6 hG hxG))
      have zz : Below w6.heap.size w6 w6 := Below.refl _ _
      obtain ⟨mb, mo, rfl, hmc⟩ := QO.out.pos (show 1 ≤ num M by show (1 : Int) ≤ M.length; have := HML.out; omega)
      have hmlat := alg_lat HKF.out.alg
      obtain ⟨ub, uo, rfl, vb, vo, vc, hUA⟩ := tab_of QT.out (alg_shape HKF.out.alg) (lat_len hmlat).1
      have hul := shape_len (alg_shape HKF.out.alg)
      have KMC := Lib.hid (show ∀ wz, Below w6.heap.size w6 wz → Cells wz mb mo M from fun wz h => hmc.below h (hmc.lt (show 1 ≤ num M by show (1 : Int) ≤ M.length; have := HML.out; omega)))
      have KU := Lib.hid (show ∀ wz, Below w6.heap.size w6 wz → TabAt wz ub uo (num M) M.length vb vo vc U from fun wz hb => hUA.below hb)
      have HUL := Lib.hid (show U.length = M.length by have nM : num M = M.length := rfl; omega)
      clear hul
      have Z6 := Lib.hid z6
      have Y6 := Lib.hid y6
      have s6 := z6.size
      clear hmc hUA hown c0 c1 z hmlat z6 y6 QO QT
      have E := Lib.hid (show ∀ wz, Below w6.heap.size w6 wz → RetSsb S true w (.returned (.tuple #[.slice oa S.length oc, .bool true])) wz ∧ Below w.heap.size w wz from fun wz hz => ⟨⟨oa, _, oc, rfl, ⟨oa, oc, rfl, ((HOW.out.below Y6.out).below hz).rd⟩, hB.trans ((Z6.out.trans (hz.mono s6)).mono s1)⟩, hB.trans ((Z6.out.trans (hz.mono s6)).mono s1)⟩)
      go_loopw [10, 11] (fun xv _ wr => ∃ x : Int, 0 ≤ x ∧ x ≤ L.length ∧ xv = .int .i64 x ∧ (∀ i j : Int, 0 ≤ i → i < x → 0 ≤ j → j < L.length → nth M i = nth L i ∧ tv U i j = tv T i j) ∧ Below w6.heap.size w6 wr) (fun xv _ _ => (10 - intOf xv).toNat)
      case atStart => exact ⟨0, by omega, by omega, rfl, fun i j i0 i1 => by omega, zz⟩
      case round =>
        clear zz
        obtain ⟨x, x0, x1, rfl, heq, zo⟩ := hrel
        have HEQ := Lib.hid heq
        clear heq
        obtain ⟨c0, c1⟩ := bx_cells (Kx.out _ (Z6.out.trans (zo.mono s6)))
        by_cases hxl : x < L.length
        · obtain ⟨wo, rfl⟩ : ∃ wo : World, wo = wr := ⟨_, rfl⟩
          go_wp2
          go_loopw [11] (fun yv wr => ∃ y : Int, 0 ≤ y ∧ y ≤ L.length ∧ yv = .int .i64 y ∧ (∀ j : Int, 0 ≤ j → j < y → nth M x = nth L x ∧ tv U x j = tv T x j) ∧ Below w6.heap.size w6 wr) (fun yv _ => (10 - intOf yv).toNat)
          case atStart => exact ⟨0, by omega, by omega, rfl, fun j j0 j1 => by omega, zo⟩
          case round =>
            clear c0 c1
            obtain ⟨y, y0, y1, rfl, hrow, zi⟩ := hrel
            have HRW := Lib.hid hrow
            clear hrow
            obtain ⟨c0, c1⟩ := bx_cells (Kx.out _ (Z6.out.trans (zi.mono s6)))
            by_cases hyl : y < L.length
            · have hxm : x < M.length := by have := HML.out; omega
              have hym : y < M.length := by have := HML.out; omega
              have hxu : x < U.length := by have := HML.out; have := HUL.out; omega
              have hxt : x < T.length := by omega
              obtain ⟨g0, g1⟩ := bx_cells (KG.out _ zi)
              have zl := Z6.out.trans (zi.mono s6)
              have m0 := (KMC.out _ zi).at x x0 hxm
              have l0 := (KC.out _ zl).at x x0 hxl
              have dx := (KA.out _ zl).row x0 (show x < num L from hxl)
              have ex := (KA.out _ zl).cell x0 (show x < num L from hxl) y0 (show y < num L from hyl)
              have ux := (KU.out _ zi).row x0 (show x < num M from hxm)
              have vx := (KU.out _ zi).cell x0 (show x < num M from hxm) y0 (show y < num M from hym)
              have ky : IntKind.i64.wrap (y + 1) = y + 1 := IntWalk.i64_in _ (by omega)
              have HNO := Lib.hid (show nth M x ≠ nth L x ∨ tv U x y ≠ tv T x y → sqB L T = false ∧ sqL L T = [] from fun hd => sq_no fun e => by
                rw [HSS.out] at e
                injection e with e1 e2
                rcases hd with hd | hd
                · exact hd (by rw [e1])
                · exact hd (by rw [e2]))
              cases q1 : nth M x != nth L x with
              | true =>
                have hv := Lib.hid (HNO.out (.inl (by rw [bne_iff_ne] at q1; exact q1)))
                go_wp2
                go_quiet (fail)
                go_wp2
                go_ret2
                rw [hv.out.1, hv.out.2]
                exact ⟨none, 0, 0, rfl, ⟨none, 0, rfl, fun h => absurd rfl h⟩, (E.out _ (zi.trans (Dr.below ⟨_, rfl⟩ _))).2⟩
              | false =>
                cases q2 : tv U x y != tv T x y with
                | true =>
                  have hv := Lib.hid (HNO.out (.inr (by rw [bne_iff_ne] at q2; exact q2)))
                  go_wp2
                  go_quiet (fail)
                  go_wp2
                  go_ret2
                  rw [hv.out.1, hv.out.2]
                  exact ⟨none, 0, 0, rfl, ⟨none, 0, rfl, fun h => absurd rfl h⟩, (E.out _ (zi.trans (Dr.below ⟨_, rfl⟩ _))).2⟩
                | false =>
                  have hnx := Lib.hid (show nth M x = nth L x ∧ tv U x y = tv T x y from ⟨by simpa using q1, by simpa using q2⟩)
                  go_wp2
                  go_quiet (fail)
                  go_wp2
                  go_roundw
                  case rel => exact ⟨y + 1, by omega, by omega, rfl, fun j j0 j1 => by
                    by_cases e : j = y
                    · rw [e]; exact hnx.out
                    · exact HRW.out j j0 (by omega), zi.trans (Dr.below ⟨_, rfl⟩ _)⟩
                  case measure => simp [intOf]; omega
            · have e : y = L.length := by omega
              have kx : IntKind.i64.wrap (x + 1) = x + 1 := IntWalk.i64_in _ (by omega)
              have HRN := Lib.hid (show ∀ i j : Int, 0 ≤ i → i < x + 1 → 0 ≤ j → j < L.length → nth M i = nth L i ∧ tv U i j = tv T i j from fun i j i0 i1 j0 j1 => by
                by_cases ei : i = x
                · rw [ei]; exact HRW.out j j0 (by omega)
                · exact HEQ.out i j i0 (by omega) j0 j1)
              clear e
              go_wp2
              go_roundw
              case rel => exact ⟨x + 1, by omega, by omega, rfl, HRN.out, zi⟩
              case measure => simp [intOf]; omega
        · have e : x = L.length := by omega
          have hv := Lib.hid (show sqB L T = true ∧ sqL L T = S from by
            have hh := alg_ext HA.out HKF.out.alg HML.out (fun i hi => (HEQ.out i 0 hi.1 (by have := hi.2; omega) (by omega) (by omega)).1) (fun i j hi hj => (HEQ.out i j hi.1 (by have := hi.2; omega) hj.1 hj.2).2)
            have := sq_yes HA.out (HSS.out.trans hh)
            rw [HSE.out] at this
            exact this)
          clear e
          go_wp2
          go_ret2
          rw [hv.out.1, hv.out.2]
          exact (E.out _ zo).1
/-- spec.SizesOf -/
theorem specSizesOf_any (a b : Option Addr) (ca cb : Nat) (L : List Int) (T : List (List Int)) (w : World) (hr : Rd w a L) (hT : RdT w b T) : Calls Try.prog 44 #[.agg #[.slice a L.length ca, .slice b T.length cb]] w (RetSsb (sqL L T) (sqB L T) w) := by
  cases h : algB L T with
  | false => exact specSizesOf_no a b ca cb L T w hr hT h
  | true =>
    cases h1 : chainB L with
    | false => exact specSizesOf_div a b ca cb L T w hr hT h (.inl h1)
    | true =>
      cases h2 : hasB 1 L T with
      | false => exact specSizesOf_div a b ca cb L T w hr hT h (.inr h2)
      | true => exact specSizesOf_yes a b ca cb L T w hr hT h h1 h2
end Go.Proofs.Ytnmhbbekmepinaa
