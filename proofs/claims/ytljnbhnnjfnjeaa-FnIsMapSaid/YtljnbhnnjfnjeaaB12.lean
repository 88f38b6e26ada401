import Derived.Test.YtljnbhnnjfnjeaaB10
import Derived.Test.YtljnbhnnjfnjeaaB11
namespace Go.Proofs.Ytljnbhnnjfnjeaa
open Go.RowKit

theorem mp_len {L : List Int} {T : List (List Int)} {M : List Int} {U : List (List Int)} {F : List Int} (h : num F ≠ num L) : mpB L T M U F = false := by unfold mpB; rw [decide_eq_false h]; rfl
theorem mp_r {L : List Int} {T : List (List Int)} {M : List Int} {U : List (List Int)} {F : List Int} {x : Int} (x0 : 0 ≤ x) (x1 : x < num L) (h : mpR M F x = false) : mpB L T M U F = false := by unfold mpB; rw [allI_false x x0 x1 h]; simp
theorem mp_e {L : List Int} {T : List (List Int)} {M : List Int} {U : List (List Int)} {F : List Int} (h : (nth F 0 == 0 && nth F (num L - 1) == num M - 1) = false) : mpB L T M U F = false := by unfold mpB; rw [h]; simp
theorem mp_q {L : List Int} {T : List (List Int)} {M : List Int} {U : List (List Int)} {F : List Int} {x y : Int} (x0 : 0 ≤ x) (x1 : x < num L) (y0 : 0 ≤ y) (y1 : y < num L) (h : mpQ L T M U F x y = false) : mpB L T M U F = false := by
  have e : all2 (num L) (mpQ L T M U F) = false := allI_false (p := fun x => allI (num L) (mpQ L T M U F x)) x x0 x1 (allI_false y y0 y1 h)
  unfold mpB; rw [e]; simp
theorem mp_t {L : List Int} {T : List (List Int)} {M : List Int} {U : List (List Int)} {F : List Int} (h1 : num F = num L) (h2 : AllTo (num L) (mpR M F)) (h3 : (nth F 0 == 0 && nth F (num L - 1) == num M - 1) = true) (h4 : all2 (num L) (mpQ L T M U F) = true) : mpB L T M U F = true := by
  unfold mpB; rw [decide_eq_true h1, h2.all (Int.le_refl _), h3, h4]; rfl
theorem bne_not {a b : Int} {r : Bool} (h : (a != b) = r) : (a == b) = !r := by rw [← h]; unfold bne; simp
set_option maxRecDepth 100000 in
set_option maxHeartbeats 8000000 in
/-- spec.isMap -/
theorem specIsMapM_any (a b : Option Addr) (ca cb : Nat) (L : List Int) (T : List (List Int)) (a2 b2 : Option Addr) (ca2 cb2 : Nat) (M : List Int) (U : List (List Int)) (af : Option Addr) (cf : Nat) (F : List Int) (w : World) (hr : Rd w a L) (hT : RdT w b T) (hr2 : Rd w a2 M) (hT2 : RdT w b2 U) (hf : Rd w af F) (h : algB L T = true) (h2 : algB M U = true) :
    Calls Try.prog 28 #[.agg #[.slice a L.length ca, .slice b T.length cb], .agg #[.slice a2 M.length ca2, .slice b2 U.length cb2], .slice af F.length cf] w fun e w' => e = .returned (.bool (mpB L T M U F)) ∧ Below w.heap.size w w' := by
  obtain ⟨hlat, hsh, _⟩ := algB_parts h
  obtain ⟨hlat2, hsh2, _⟩ := algB_parts h2
  obtain ⟨n1, n6, hs⟩ := latB_parts hlat
  obtain ⟨m1, m6, hs2⟩ := latB_parts hlat2
  have hnl : num L = L.length := rfl
  have hnm : num M = M.length := rfl
  have hnf : num F = F.length := rfl
  have hlt := shape_len hsh
  have hlt2 := shape_len hsh2
  obtain ⟨w1, hw1⟩ : ∃ w1, w1 = (w.alloc (.cells #[.slice a L.length ca, .slice b T.length cb] 26)).alloc (.cells #[.slice a2 M.length ca2, .slice b2 U.length cb2] 26) := ⟨_, rfl⟩
  have hB : Below w.heap.size w w1 := by rw [hw1]; exact ((Below.refl _ _).alloc (Nat.le_refl _) _).alloc (by simp) _
  have hx : w1.heap[w.heap.size]? = some (.cells #[.slice a L.length ca, .slice b T.length cb] 26 (0, 0)) := by rw [hw1, Below.heap_alloc _ _ _ (by simp)]; exact heap_alloc_new w _
  have hx2 : w1.heap[w.heap.size + 1]? = some (.cells #[.slice a2 M.length ca2, .slice b2 U.length cb2] 26 (0, 0)) := by rw [hw1]; exact heap_alloc2_new _ _ _
  obtain ⟨ab, ao, rfl, hcl⟩ := (hr.below hB).pos n1
  obtain ⟨ab2, ao2, rfl, hcl2⟩ := (hr2.below hB).pos m1
  obtain ⟨B, off, rfl, rb, ro, rc, htab⟩ := tab_of (hT.below hB) hsh n1
  obtain ⟨B2, off2, rfl, rb2, ro2, rc2, htab2⟩ := tab_of (hT2.below hB) hsh2 m1
  have Kx := Lib.hid (show ∀ wz, Below w1.heap.size w1 wz → wz.heap[w.heap.size]? = some (.cells #[.slice (some ⟨ab, ao, none⟩) L.length ca, .slice (some ⟨B, off, none⟩) T.length cb] 26 (0, 0)) from fun wz h => (h.block _ (lt_of_block hx)).trans hx)
  have Kx2 := Lib.hid (show ∀ wz, Below w1.heap.size w1 wz → wz.heap[w.heap.size + 1]? = some (.cells #[.slice (some ⟨ab2, ao2, none⟩) M.length ca2, .slice (some ⟨B2, off2, none⟩) U.length cb2] 26 (0, 0)) from fun wz h => (h.block _ (lt_of_block hx2)).trans hx2)
  have KR := Lib.hid (show ∀ wz, Below w1.heap.size w1 wz → Rd wz (some ⟨ab, ao, none⟩) L from fun wz h => (hr.below hB).below h)
  have KT := Lib.hid (show ∀ wz, Below w1.heap.size w1 wz → RdT wz (some ⟨B, off, none⟩) T from fun wz h => (hT.below hB).below h)
  have KR2 := Lib.hid (show ∀ wz, Below w1.heap.size w1 wz → Rd wz (some ⟨ab2, ao2, none⟩) M from fun wz h => (hr2.below hB).below h)
  have KT2 := Lib.hid (show ∀ wz, Below w1.heap.size w1 wz → RdT wz (some ⟨B2, off2, none⟩) U from fun wz h => (hT2.below hB).below h)
  have KF := Lib.hid (show ∀ wz, Below w1.heap.size w1 wz → Rd wz af F from fun wz h => (hf.below hB).below h)
  have HCL := Lib.hid (show ∀ wz, Below w1.heap.size w1 wz → Cells wz ab ao L from fun wz h => hcl.below h (hcl.lt n1))
  have HCL2 := Lib.hid (show ∀ wz, Below w1.heap.size w1 wz → Cells wz ab2 ao2 M from fun wz h => hcl2.below h (hcl2.lt m1))
  have HTAB := Lib.hid (show ∀ wz, Below w1.heap.size w1 wz → TabAt wz B off (num L) L.length rb ro rc T from fun wz h => htab.below h)
  have HTAB2 := Lib.hid (show ∀ wz, Below w1.heap.size w1 wz → TabAt wz B2 off2 (num M) M.length rb2 ro2 rc2 U from fun wz h => htab2.below h)
  have z1 : Below w1.heap.size w1 w1 := Below.refl _ _
  obtain ⟨c0, c1⟩ := bx_cells (Kx.out _ z1)
  obtain ⟨c2, c3⟩ := bx_cells (Kx2.out _ z1)
  have HSH := Lib.hid hsh
  have HSH2 := Lib.hid hsh2
  have HLAT := Lib.hid hlat
  have HLAT2 := Lib.hid hlat2
  have HA := Lib.hid h
  have HA2 := Lib.hid h2
  have l1 : (1 : Int) ≤ L.length := by omega
  have l6 : (L.length : Int) ≤ 6 := by omega
  have lm1 : (1 : Int) ≤ M.length := by omega
  have lm6 : (M.length : Int) ≤ 6 := by omega
  have hnt : num L ≤ T.length := by omega
  have hnu : num M ≤ U.length := by omega
  have k1 : IntKind.i64.wrap ((L.length : Int) - 1) = (L.length : Int) - 1 := IntWalk.i64_in _ (by omega)
  have k2 : IntKind.i64.wrap ((M.length : Int) - 1) = (M.length : Int) - 1 := IntWalk.i64_in _ (by omega)
  clear hr hT hr2 hT2 hf hcl hcl2 htab htab2 hsh hsh2 hlat hlat2 h h2 hlt hlt2 hx hx2
  by_cases hlen : num F = num L
  · have hfl : (F.length : Int) = L.length := by omega
    have hne : ((F.length : Int) != (L.length : Int)) = false := by rw [hfl]; simp
    obtain ⟨fb, fo, rfl, hcf⟩ := (KF.out _ z1).pos (show 1 ≤ num F by omega)
    have HCF := Lib.hid (show ∀ wz, Below w1.heap.size w1 wz → Cells wz fb fo F from fun wz h => hcf.below h (hcf.lt (show 1 ≤ num F by omega)))
    clear hcf KF
    go_enter Try.func28, Try.ntmps28
    go_wp2_with (first
      | go_skip
      | (rw [← hw1]; clear hw1))
    go_loopw [8] (fun c wr => ∃ x : Int, 0 ≤ x ∧ x ≤ num L ∧ c = .int .i64 x ∧ AllTo x (mpR M F) ∧ Dr w1 wr) (fun c _ => (6 - intOf c).toNat)
    case atStart => exact ⟨0, by omega, by omega, rfl, AllTo.zero _, Dr.refl _⟩
    case round =>
      clear c0 c1 c2 c3
      obtain ⟨x, x0, x1, rfl, hx, hd⟩ := hrel
      have z3 : Below w1.heap.size w1 wr := hd.below _
      obtain ⟨c0, c1⟩ := bx_cells (Kx.out _ z3)
      obtain ⟨c2, c3⟩ := bx_cells (Kx2.out _ z3)
      by_cases hxn : x < num L
      · have hxl : x < L.length := by omega
        have hxf : x < F.length := by omega
        have df := (HCF.out _ z3).at x x0 (by omega)
        have hq := Lib.hid (show mpR M F x = (decide (0 ≤ nth F x) && decide (nth F x ≤ (M.length : Int) - 1)) from rfl)
        cases hC : (decide (0 ≤ nth F x) && decide (nth F x ≤ (M.length : Int) - 1)) with
        | false =>
          rw [hC] at hq
          have hf := Lib.hid (mp_r (L := L) (T := T) (U := U) x0 hxn hq.out)
          have HQ := Lib.hid hC
          clear hC
          go_wp2
          go_quiet ((go_at_call 60; exact q_same (inRange_is _ 0 _ _ HQ.out)))
          go_wp2
          go_ret
          exact ⟨ret_bool (by rw [hf.out]), hB.trans ((hd.more _).below _)⟩
        | true =>
          rw [hC] at hq
          have HQ := Lib.hid hC
          clear hC
          go_wp2
          go_quiet ((go_at_call 60; exact q_same (inRange_is _ 0 _ _ HQ.out)))
          go_wp2
          go_roundw
          case rel => exact ⟨x + 1, by omega, by omega, rfl, hx.succ hq.out, hd.more _⟩
          case measure => simp [intOf]; omega
      · have e : x = num L := by omega
        have HR := Lib.hid (e ▸ hx : AllTo (num L) (mpR M F))
        have RNG := Lib.hid (mpR_all.1 (HR.out.all (Int.le_refl _)))
        have f0l : (0 : Int) < F.length := by omega
        have fll : (L.length : Int) - 1 < F.length := by omega
        have fl0 : (0 : Int) ≤ (L.length : Int) - 1 := by omega
        have df0 : wr.cell? ⟨fb, fo, none⟩ = some (.int .i64 (nth F 0)) := (HCF.out _ z3).at 0 (by omega) (by omega)
        have df1 : wr.cell? ⟨fb, fo + (L.length - 1), none⟩ = some (.int .i64 (nth F ((L.length : Int) - 1))) := by
          have := (HCF.out _ z3).at ((L.length : Int) - 1) (by omega) (by omega)
          rwa [show ((L.length : Int) - 1).toNat = L.length - 1 by omega] at this
        have hqe := Lib.hid (show (nth F 0 == 0 && nth F (num L - 1) == num M - 1) = (nth F 0 == 0 && nth F ((L.length : Int) - 1) == (M.length : Int) - 1) from rfl)
        clear hx e
        cases hE1 : nth F 0 != 0 with
        | true =>
          have e1 := bne_not hE1
          have hf := Lib.hid (mp_e (L := L) (T := T) (M := M) (U := U) (F := F) (by rw [hqe.out, e1]; rfl))
          go_wp2
          go_quiet (fail)
          go_wp2
          go_ret
          exact ⟨ret_bool (by rw [hf.out]), hB.trans ((hd.more _).below _)⟩
        | false =>
          have e1 := bne_not hE1
          cases hE2 : nth F ((L.length : Int) - 1) != (M.length : Int) - 1 with
          | true =>
            have e2 := bne_not hE2
            have hf := Lib.hid (mp_e (L := L) (T := T) (M := M) (U := U) (F := F) (by rw [hqe.out, e1, e2]; rfl))
            go_wp2
            go_quiet (fail)
            go_wp2
            go_ret
            exact ⟨ret_bool (by rw [hf.out]), hB.trans ((hd.more _).below _)⟩
          | false =>
            have e2 := bne_not hE2
            have HE := Lib.hid (show (nth F 0 == 0 && nth F (num L - 1) == num M - 1) = true by rw [hqe.out, e1, e2]; rfl)
            go_wp2
            go_quiet (fail)
            go_wp2
            obtain ⟨w5, hw5⟩ : ∃ w5 : World, w5 = wr := ⟨_, rfl⟩
            go_loopw [9, 10] (fun c _ wr => ∃ x : Int, 0 ≤ x ∧ x ≤ num L ∧ c = .int .i64 x ∧ AllTo x (fun x => allI (num L) (mpQ L T M U F x)) ∧ Below w1.heap.size w1 wr) (fun c _ _ => (6 - intOf c).toNat)
            case atStart => exact ⟨0, by omega, by omega, rfl, AllTo.zero _, (hd.more _).below _⟩
            case round =>
              clear c0 c1 c2 c3 z3 hw5 w5 df0 df1 hd hqe hE1 hE2 e1 e2 x0 x1
              obtain ⟨x, x0, x1, rfl, hax, z3⟩ := hrel
              by_cases hxn : x < num L
              · have hxl : x < L.length := by omega
                have hxt : x < T.length := by omega
                have hxf : x < F.length := by omega
                obtain ⟨fx0, fx1⟩ := RNG.out x x0 hxn
                have fxm : nth F x < M.length := by omega
                have fxu : nth F x < U.length := by omega
                go_wp2
                obtain ⟨wq, hwq⟩ : ∃ wq : World, wq = wr := ⟨_, rfl⟩
                go_loopw [10] (fun c wr => ∃ y : Int, 0 ≤ y ∧ y ≤ num L ∧ c = .int .i64 y ∧ AllTo y (mpQ L T M U F x) ∧ Below w1.heap.size w1 wr) (fun c _ => (6 - intOf c).toNat)
                case atStart => exact ⟨0, by omega, by omega, rfl, AllTo.zero _, z3⟩
                case round =>
                  clear z3 hwq
                  obtain ⟨y, y0, y1, rfl, hay, z3⟩ := hrel
                  by_cases hyn : y < num L
                  · have hyl : y < L.length := by omega
                    have hyf : y < F.length := by omega
                    obtain ⟨fy0, fy1⟩ := RNG.out y y0 hyn
                    have fym : nth F y < M.length := by omega
                    obtain ⟨t0, t1⟩ := shape_cell HSH.out x0 hxn y0 hyn
                    obtain ⟨i0, i1⟩ := imp_lt T x y HLAT.out
                    obtain ⟨p0, p1⟩ := lat_mt HLAT.out x0 hxn y0 hyn
                    obtain ⟨j0, j1⟩ := lat_jn HLAT.out x0 hxn y0 hyn
                    have tf : tv T x y < F.length := by omega
                    have if' : imp L T x y < F.length := by omega
                    have pf : mt L x y < F.length := by omega
                    have jf : jn L x y < F.length := by omega
                    have r0 : ∀ s : In (Below wr.heap.size wr), s.w.cell? ⟨w.heap.size, 0, none⟩ = _ := fun s => (bx_cells (Kx.out _ (in_trans z3 s))).1
                    have r1 : ∀ s : In (Below wr.heap.size wr), s.w.cell? ⟨w.heap.size, 1, none⟩ = _ := fun s => (bx_cells (Kx.out _ (in_trans z3 s))).2
                    have r2 : ∀ s : In (Below wr.heap.size wr), s.w.cell? ⟨w.heap.size + 1, 0, none⟩ = _ := fun s => (bx_cells (Kx2.out _ (in_trans z3 s))).1
                    have r3 : ∀ s : In (Below wr.heap.size wr), s.w.cell? ⟨w.heap.size + 1, 1, none⟩ = _ := fun s => (bx_cells (Kx2.out _ (in_trans z3 s))).2
                    have r4 : ∀ s : In (Below wr.heap.size wr), _ := fun s => (HCF.out _ (in_trans z3 s)).at x x0 (by omega)
                    have r5 : ∀ s : In (Below wr.heap.size wr), _ := fun s => (HCF.out _ (in_trans z3 s)).at y y0 (by omega)
                    have r6 : ∀ s : In (Below wr.heap.size wr), _ := fun s => (HCF.out _ (in_trans z3 s)).at (tv T x y) t0 (by omega)
                    have r7 : ∀ s : In (Below wr.heap.size wr), _ := fun s => (HCF.out _ (in_trans z3 s)).at (imp L T x y) i0 (by omega)
                    have r8 : ∀ s : In (Below wr.heap.size wr), _ := fun s => (HCF.out _ (in_trans z3 s)).at (mt L x y) p0 (by omega)
                    have r9 : ∀ s : In (Below wr.heap.size wr), _ := fun s => (HCF.out _ (in_trans z3 s)).at (jn L x y) j0 (by omega)
                    have ra : ∀ s : In (Below wr.heap.size wr), _ := fun s => (HTAB.out _ (in_trans z3 s)).row x0 hxn
                    have rb' : ∀ s : In (Below wr.heap.size wr), _ := fun s => (HTAB.out _ (in_trans z3 s)).cell x0 hxn y0 hyn
                    have rc' : ∀ s : In (Below wr.heap.size wr), _ := fun s => (HTAB2.out _ (in_trans z3 s)).row fx0 fx1
                    have rd' : ∀ s : In (Below wr.heap.size wr), _ := fun s => (HTAB2.out _ (in_trans z3 s)).cell fx0 fx1 fy0 fy1
                    have hq := Lib.hid (show mpQ L T M U F x y = (nth F (tv T x y) == tv U (nth F x) (nth F y) && (nth F (imp L T x y) == imp M U (nth F x) (nth F y) && (nth F (mt L x y) == mt M (nth F x) (nth F y) && nth F (jn L x y) == jn M (nth F x) (nth F y)))) from rfl)
                    cases hq1 : nth F (tv T x y) != tv U (nth F x) (nth F y) with
                    | true =>
                      as_aux_lemma =>
                        have eq1 := bne_not hq1
                        have hf := Lib.hid (mp_q (L := L) (T := T) (M := M) (U := U) x0 hxn y0 hyn (by rw [hq.out, eq1]; rfl))
                        go_wp2
                        refine region_in (Below wr.heap.size wr) (by kernel_rfl) (by kernel_rfl) (Dr.below ⟨1, rfl⟩ _) fun hne => ?_
                        dsimp only [List.append]
                        repeat (first
                          | (go_big_quiet_want; refine quiet_load_row 26 _ rfl w.heap.size rfl _ _ _ _ (fun w' ⟨s, hs⟩ => by rw [hs]; exact Kx.out _ (in_trans z3 s)) Try.underlying26 rfl (size_Alg _ _) ?_; simp only [Act.put, List.setIfInBounds_toArray, List.set_cons_succ, List.set_cons_zero]; go_big_quiet_on)
                          | (go_big_quiet_want; refine quiet_load_row 26 _ rfl (w.heap.size + 1) rfl _ _ _ _ (fun w' ⟨s, hs⟩ => by rw [hs]; exact Kx2.out _ (in_trans z3 s)) Try.underlying26 rfl (size_Alg _ _) ?_; simp only [Act.put, List.setIfInBounds_toArray, List.set_cons_succ, List.set_cons_zero]; go_big_quiet_on)
                          | go_big_quiet_step ((first | fail)))
                        refine wpQuiet_nil ?_
                        intro s
                        have hw2 := s.h
                        obtain ⟨w7, hw2'⟩ : ∃ w7, w7 = s.w := ⟨_, rfl⟩
                        rw [← hw2'] at hw2 ⊢
                        clear hw2'
                        replace z3 := z3.trans (hw2.mono z3.size)
                        go_wp2
                        go_ret
                        exact ⟨ret_bool (by rw [hf.out]), hB.trans (z3.mono hB.size)⟩
                    | false =>
                      have eq1 := bne_not hq1
                      cases hq2 : nth F (imp L T x y) != imp M U (nth F x) (nth F y) with
                      | true =>
                        as_aux_lemma =>
                          have eq2 := bne_not hq2
                          have hf := Lib.hid (mp_q (L := L) (T := T) (M := M) (U := U) x0 hxn y0 hyn (by rw [hq.out, eq1, eq2]; rfl))
                          go_wp2
                          refine region_in (Below wr.heap.size wr) (by kernel_rfl) (by kernel_rfl) (Dr.below ⟨1, rfl⟩ _) fun hne => ?_
                          dsimp only [List.append]
                          repeat (first
                            | (go_big_quiet_want; refine quiet_load_row 26 _ rfl w.heap.size rfl _ _ _ _ (fun w' ⟨s, hs⟩ => by rw [hs]; exact Kx.out _ (in_trans z3 s)) Try.underlying26 rfl (size_Alg _ _) ?_; simp only [Act.put, List.setIfInBounds_toArray, List.set_cons_succ, List.set_cons_zero]; go_big_quiet_on)
                            | (go_big_quiet_want; refine quiet_load_row 26 _ rfl (w.heap.size + 1) rfl _ _ _ _ (fun w' ⟨s, hs⟩ => by rw [hs]; exact Kx2.out _ (in_trans z3 s)) Try.underlying26 rfl (size_Alg _ _) ?_; simp only [Act.put, List.setIfInBounds_toArray, List.set_cons_succ, List.set_cons_zero]; go_big_quiet_on)
                            | go_big_quiet_step ((first | (go_at_call_of 62 (Value.agg #[.slice (some ⟨ab, ao, none⟩) L.length ca, .slice (some ⟨B, off, none⟩) T.length cb]); exact in_below _ (Nat.le_refl _) (imply_any _ _ _ _ L T x y _ (KR.out _ (in_trans z3 _)) (KT.out _ (in_trans z3 _)) HA.out x0 hxn y0 hyn)) | (go_at_call 62; exact in_below _ (Nat.le_refl _) (imply_any _ _ _ _ M U _ _ _ (KR2.out _ (in_trans z3 _)) (KT2.out _ (in_trans z3 _)) HA2.out fx0 fx1 fy0 fy1)))))
                          refine wpQuiet_nil ?_
                          intro s
                          have hw2 := s.h
                          obtain ⟨w7, hw2'⟩ : ∃ w7, w7 = s.w := ⟨_, rfl⟩
                          rw [← hw2'] at hw2 ⊢
                          clear hw2'
                          replace z3 := z3.trans (hw2.mono z3.size)
                          go_wp2
                          go_ret
                          exact ⟨ret_bool (by rw [hf.out]), hB.trans (z3.mono hB.size)⟩
                      | false =>
                        have eq2 := bne_not hq2
                        cases hq3 : nth F (mt L x y) != mt M (nth F x) (nth F y) with
                        | true =>
                          as_aux_lemma =>
                            have eq3 := bne_not hq3
                            have hf := Lib.hid (mp_q (L := L) (T := T) (M := M) (U := U) x0 hxn y0 hyn (by rw [hq.out, eq1, eq2, eq3]; rfl))
                            go_wp2
                            refine region_in (Below wr.heap.size wr) (by kernel_rfl) (by kernel_rfl) (Dr.below ⟨1, rfl⟩ _) fun hne => ?_
                            dsimp only [List.append]
                            repeat (first
                              | (go_big_quiet_want; refine quiet_load_row 26 _ rfl w.heap.size rfl _ _ _ _ (fun w' ⟨s, hs⟩ => by rw [hs]; exact Kx.out _ (in_trans z3 s)) Try.underlying26 rfl (size_Alg _ _) ?_; simp only [Act.put, List.setIfInBounds_toArray, List.set_cons_succ, List.set_cons_zero]; go_big_quiet_on)
                              | (go_big_quiet_want; refine quiet_load_row 26 _ rfl (w.heap.size + 1) rfl _ _ _ _ (fun w' ⟨s, hs⟩ => by rw [hs]; exact Kx2.out _ (in_trans z3 s)) Try.underlying26 rfl (size_Alg _ _) ?_; simp only [Act.put, List.setIfInBounds_toArray, List.set_cons_succ, List.set_cons_zero]; go_big_quiet_on)
                              | go_big_quiet_step ((first | (go_at_call_of 62 (Value.agg #[.slice (some ⟨ab, ao, none⟩) L.length ca, .slice (some ⟨B, off, none⟩) T.length cb]); exact in_below _ (Nat.le_refl _) (imply_any _ _ _ _ L T x y _ (KR.out _ (in_trans z3 _)) (KT.out _ (in_trans z3 _)) HA.out x0 hxn y0 hyn)) | (go_at_call 62; exact in_below _ (Nat.le_refl _) (imply_any _ _ _ _ M U _ _ _ (KR2.out _ (in_trans z3 _)) (KT2.out _ (in_trans z3 _)) HA2.out fx0 fx1 fy0 fy1)) | (go_at_call_of 63 (Value.slice (some ⟨ab, ao, none⟩) L.length ca); exact in_same _ (meet_any _ _ _ L x y _ (HCL.out _ (in_trans z3 _)) hs x0 hxn y0 hyn)) | (go_at_call 63; exact in_same _ (meet_any _ _ _ M _ _ _ (HCL2.out _ (in_trans z3 _)) hs2 fx0 fx1 fy0 fy1)))))
                            refine wpQuiet_nil ?_
                            intro s
                            have hw2 := s.h
                            obtain ⟨w7, hw2'⟩ : ∃ w7, w7 = s.w := ⟨_, rfl⟩
                            rw [← hw2'] at hw2 ⊢
                            clear hw2'
                            replace z3 := z3.trans (hw2.mono z3.size)
                            go_wp2
                            go_ret
                            exact ⟨ret_bool (by rw [hf.out]), hB.trans (z3.mono hB.size)⟩
                        | false =>
                          have eq3 := bne_not hq3
                          cases hq4 : nth F (jn L x y) != jn M (nth F x) (nth F y) with
                          | true =>
                            as_aux_lemma =>
                              have eq4 := bne_not hq4
                              have hf := Lib.hid (mp_q (L := L) (T := T) (M := M) (U := U) x0 hxn y0 hyn (by rw [hq.out, eq1, eq2, eq3, eq4]; rfl))
                              go_wp2
                              refine region_in (Below wr.heap.size wr) (by kernel_rfl) (by kernel_rfl) (Dr.below ⟨1, rfl⟩ _) fun hne => ?_
                              dsimp only [List.append]
                              repeat (first
                                | (go_big_quiet_want; refine quiet_load_row 26 _ rfl w.heap.size rfl _ _ _ _ (fun w' ⟨s, hs⟩ => by rw [hs]; exact Kx.out _ (in_trans z3 s)) Try.underlying26 rfl (size_Alg _ _) ?_; simp only [Act.put, List.setIfInBounds_toArray, List.set_cons_succ, List.set_cons_zero]; go_big_quiet_on)
                                | (go_big_quiet_want; refine quiet_load_row 26 _ rfl (w.heap.size + 1) rfl _ _ _ _ (fun w' ⟨s, hs⟩ => by rw [hs]; exact Kx2.out _ (in_trans z3 s)) Try.underlying26 rfl (size_Alg _ _) ?_; simp only [Act.put, List.setIfInBounds_toArray, List.set_cons_succ, List.set_cons_zero]; go_big_quiet_on)
                                | go_big_quiet_step ((first | (go_at_call_of 62 (Value.agg #[.slice (some ⟨ab, ao, none⟩) L.length ca, .slice (some ⟨B, off, none⟩) T.length cb]); exact in_below _ (Nat.le_refl _) (imply_any _ _ _ _ L T x y _ (KR.out _ (in_trans z3 _)) (KT.out _ (in_trans z3 _)) HA.out x0 hxn y0 hyn)) | (go_at_call 62; exact in_below _ (Nat.le_refl _) (imply_any _ _ _ _ M U _ _ _ (KR2.out _ (in_trans z3 _)) (KT2.out _ (in_trans z3 _)) HA2.out fx0 fx1 fy0 fy1)) | (go_at_call_of 63 (Value.slice (some ⟨ab, ao, none⟩) L.length ca); exact in_same _ (meet_any _ _ _ L x y _ (HCL.out _ (in_trans z3 _)) hs x0 hxn y0 hyn)) | (go_at_call 63; exact in_same _ (meet_any _ _ _ M _ _ _ (HCL2.out _ (in_trans z3 _)) hs2 fx0 fx1 fy0 fy1)) | (go_at_call_of 61 (Value.slice (some ⟨ab, ao, none⟩) L.length ca); exact in_same _ (join_any _ _ _ L x y _ (HCL.out _ (in_trans z3 _)) hs x0 hxn y0 hyn)) | (go_at_call 61; exact in_same _ (join_any _ _ _ M _ _ _ (HCL2.out _ (in_trans z3 _)) hs2 fx0 fx1 fy0 fy1)))))
                              refine wpQuiet_nil ?_
                              intro s
                              have hw2 := s.h
                              obtain ⟨w7, hw2'⟩ : ∃ w7, w7 = s.w := ⟨_, rfl⟩
                              rw [← hw2'] at hw2 ⊢
                              clear hw2'
                              replace z3 := z3.trans (hw2.mono z3.size)
                              go_wp2
                              go_ret
                              exact ⟨ret_bool (by rw [hf.out]), hB.trans (z3.mono hB.size)⟩
                          | false =>
                            have eq4 := bne_not hq4
                            as_aux_lemma =>
                              have hq2 := Lib.hid (show mpQ L T M U F x y = true by rw [hq.out, eq1, eq2, eq3, eq4]; rfl)
                              go_wp2
                              refine region_in (Below wr.heap.size wr) (by kernel_rfl) (by kernel_rfl) (Dr.below ⟨1, rfl⟩ _) fun hne => ?_
                              dsimp only [List.append]
                              repeat (first
                                | (go_big_quiet_want; refine quiet_load_row 26 _ rfl w.heap.size rfl _ _ _ _ (fun w' ⟨s, hs⟩ => by rw [hs]; exact Kx.out _ (in_trans z3 s)) Try.underlying26 rfl (size_Alg _ _) ?_; simp only [Act.put, List.setIfInBounds_toArray, List.set_cons_succ, List.set_cons_zero]; go_big_quiet_on)
                                | (go_big_quiet_want; refine quiet_load_row 26 _ rfl (w.heap.size + 1) rfl _ _ _ _ (fun w' ⟨s, hs⟩ => by rw [hs]; exact Kx2.out _ (in_trans z3 s)) Try.underlying26 rfl (size_Alg _ _) ?_; simp only [Act.put, List.setIfInBounds_toArray, List.set_cons_succ, List.set_cons_zero]; go_big_quiet_on)
                                | go_big_quiet_step ((first | (go_at_call_of 62 (Value.agg #[.slice (some ⟨ab, ao, none⟩) L.length ca, .slice (some ⟨B, off, none⟩) T.length cb]); exact in_below _ (Nat.le_refl _) (imply_any _ _ _ _ L T x y _ (KR.out _ (in_trans z3 _)) (KT.out _ (in_trans z3 _)) HA.out x0 hxn y0 hyn)) | (go_at_call 62; exact in_below _ (Nat.le_refl _) (imply_any _ _ _ _ M U _ _ _ (KR2.out _ (in_trans z3 _)) (KT2.out _ (in_trans z3 _)) HA2.out fx0 fx1 fy0 fy1)) | (go_at_call_of 63 (Value.slice (some ⟨ab, ao, none⟩) L.length ca); exact in_same _ (meet_any _ _ _ L x y _ (HCL.out _ (in_trans z3 _)) hs x0 hxn y0 hyn)) | (go_at_call 63; exact in_same _ (meet_any _ _ _ M _ _ _ (HCL2.out _ (in_trans z3 _)) hs2 fx0 fx1 fy0 fy1)) | (go_at_call_of 61 (Value.slice (some ⟨ab, ao, none⟩) L.length ca); exact in_same _ (join_any _ _ _ L x y _ (HCL.out _ (in_trans z3 _)) hs x0 hxn y0 hyn)) | (go_at_call 61; exact in_same _ (join_any _ _ _ M _ _ _ (HCL2.out _ (in_trans z3 _)) hs2 fx0 fx1 fy0 fy1)))))
                              refine wpQuiet_nil ?_
                              intro s
                              have hw2 := s.h
                              obtain ⟨w7, hw2'⟩ : ∃ w7, w7 = s.w := ⟨_, rfl⟩
                              rw [← hw2'] at hw2 ⊢
                              clear hw2'
                              replace z3 := z3.trans (hw2.mono z3.size)
                              go_wp2
                              go_roundw
                              case rel => exact ⟨y + 1, by omega, by omega, rfl, hay.succ hq2.out, z3⟩
                              case measure => simp [intOf]; omega
                  · have ht := Lib.hid (show allI (num L) (mpQ L T M U F x) = true from hay.all (by omega))
                    go_wp2
                    go_roundw
                    case rel => exact ⟨x + 1, by omega, by omega, rfl, hax.succ ht.out, z3⟩
                    case measure => simp [intOf]; omega
              · have hf := Lib.hid (mp_t (U := U) hlen HR.out HE.out (show all2 (num L) (mpQ L T M U F) = true from hax.all (by omega)))
                go_wp2
                go_ret
                exact ⟨ret_bool (by rw [hf.out]), hB.trans (z3.mono hB.size)⟩
  · have hf := Lib.hid (mp_len (T := T) (M := M) (U := U) hlen)
    have hne : ((F.length : Int) != (L.length : Int)) = true := by simp only [bne_iff_ne, ne_eq]; omega
    go_enter Try.func28, Try.ntmps28
    go_wp2_with (first
      | go_skip
      | (rw [← hw1]; clear hw1))
    go_ret
    exact ⟨ret_bool (by rw [hf.out]), hB⟩
end Go.Proofs.Ytljnbhnnjfnjeaa
