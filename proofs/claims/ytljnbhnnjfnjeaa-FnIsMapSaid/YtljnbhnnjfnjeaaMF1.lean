import Derived.Test.YtljnbhnnjfnjeaaG11
import Derived.Test.YtljnbhnnjfnjeaaA5

namespace Go.Proofs.Ytljnbhnnjfnjeaa
open Go.RowKit
set_option linter.unusedVariables false

theorem runs_moveM {P : Program} {o : Oper} {a : Act} (x : Operand) (ho : o.op = .move x) (v : Value) (hx : a.eval x = v) (w : World) : (execOp a.eval o).run P w = .ok (.value v) w := by
  subst hx
  unfold execOp
  simp [ho]
/-- a guarded call that alone is ready, whose guard is an open Boolean: it leaves the world as it is -/
theorem anyC_call_if {P : Program} {ops : Array Oper} {md : Region.Mode} {Q : Exit → Act → World → Prop} {C : World → Prop} {i : Nat} {o : Oper} {f : FuncId} {args : Array Value} {fuel : Nat} {listed : Array Bool} {a : Act} {w : World} {b : Bool} {v : Value} (hi : ops[i]? = some o)
    (hs : Region.noSelect ops = true) (hf : Region.free md ops listed i = true) (hrc : (Region.ready md ops listed).contains i = true) (hQ : ∀ c a w, Q (.panic c) (a.put o.dst undef) w → Q (.panic c) a w)
    (hr : Region.ready md ops listed = [i]) (hw : Region.wanted o (yielded ops a.tmps) = b) (hx : b = true → (execOp a.eval o).run P w = .ok (.enter f args) w) (hC : C w)
    (hcall : b = true → Calls P f args w fun e w' => e = .returned v ∧ w = w')
    (h : wpAnyC P md ops Q C fuel (listed.setIfInBounds i true) (a.put o.dst (bif b then v else undef)) w) : wpAnyC P md ops Q C (fuel + 1) listed a w := by
  cases b with
  | true => exact anyC_call hi hr hw (hx rfl) hC ((hcall rfl).mono fun e w' ⟨he, hw'⟩ => ⟨v, he, by rw [← hw']; exact h⟩)
  | false => exact anyC_take (v := undef) hi hs hf hrc hQ (.inr ⟨hw, rfl⟩) h
set_option maxRecDepth 100000 in
set_option maxHeartbeats 16000000 in
/-- spec.fits says yes or no -/
theorem specFits_some (ab ao ca tb to cb : Nat) (mb mo cma ub uo cub : Nat) (L M : List Int) (T U : List (List Int)) (fb fo cf : Nat) (F : List Int) (w : World) (h : algB L T = true) (h2 : algB M U = true) (hr : Rd w (some ⟨ab, ao, none⟩) L) (hT : RdT w (some ⟨tb, to, none⟩) T) (hr2 : Rd w (some ⟨mb, mo, none⟩) M) (hT2 : RdT w (some ⟨ub, uo, none⟩) U) (hf : Rd w (some ⟨fb, fo, none⟩) F)
    (k1 : 1 ≤ F.length) (k2 : F.length ≤ L.length) (hel : ∀ i : Int, 0 ≤ i → i < F.length → El M (nth F i)) :
    Calls Try.prog 86 #[.agg #[.slice (some ⟨ab, ao, none⟩) L.length ca, .slice (some ⟨tb, to, none⟩) T.length cb], .agg #[.slice (some ⟨mb, mo, none⟩) M.length cma, .slice (some ⟨ub, uo, none⟩) U.length cub], .slice (some ⟨fb, fo, none⟩) F.length cf] w fun e w' => ∃ q : Bool, e = .returned (.bool q) ∧ Below w.heap.size w w' := by
  obtain ⟨n1, n6, hsL⟩ := latB_parts (alg_lat h)
  obtain ⟨m1, m6, hsM⟩ := latB_parts (alg_lat h2)
  obtain ⟨tb', to', e1, rb, ro, rc, hTA⟩ := tab_of hT (alg_shape h) n1
  obtain ⟨ub', uo', e2, sb, so, sc, hUA⟩ := tab_of hT2 (alg_shape h2) m1
  simp only [Option.some.injEq, Addr.mk.injEq] at e1 e2
  obtain ⟨rfl, rfl, _⟩ := e1
  obtain ⟨rfl, rfl, _⟩ := e2
  have htl := shape_len (alg_shape h)
  have hul := shape_len (alg_shape h2)
  have nL : num L = L.length := rfl
  have nM : num M = M.length := rfl
  obtain ⟨w1, hw1⟩ : ∃ w1, w1 = (w.alloc (.cells #[.slice (some ⟨ab, ao, none⟩) L.length ca, .slice (some ⟨tb, to, none⟩) T.length cb] 26)).alloc (.cells #[.slice (some ⟨mb, mo, none⟩) M.length cma, .slice (some ⟨ub, uo, none⟩) U.length cub] 26) := ⟨_, rfl⟩
  have hB : Below w.heap.size w w1 := by rw [hw1]; exact ((Below.refl _ _).alloc (Nat.le_refl _) _).alloc (by simp) _
  have x1 : w1.heap[w.heap.size]? = some (.cells #[.slice (some ⟨ab, ao, none⟩) L.length ca, .slice (some ⟨tb, to, none⟩) T.length cb] 26 (0, 0)) := by rw [hw1, Below.heap_alloc _ _ _ (by simp)]; exact heap_alloc_new w _
  have x2 : w1.heap[w.heap.size + 1]? = some (.cells #[.slice (some ⟨mb, mo, none⟩) M.length cma, .slice (some ⟨ub, uo, none⟩) U.length cub] 26 (0, 0)) := by rw [hw1]; exact heap_alloc2_new _ _ _
  have KXA := Lib.hid (show ∀ wz, Below w1.heap.size w1 wz → wz.heap[w.heap.size]? = some (.cells #[.slice (some ⟨ab, ao, none⟩) L.length ca, .slice (some ⟨tb, to, none⟩) T.length cb] 26 (0, 0)) from fun wz h => (h.block _ (lt_of_block x1)).trans x1)
  have KXB := Lib.hid (show ∀ wz, Below w1.heap.size w1 wz → wz.heap[w.heap.size + 1]? = some (.cells #[.slice (some ⟨mb, mo, none⟩) M.length cma, .slice (some ⟨ub, uo, none⟩) U.length cub] 26 (0, 0)) from fun wz h => (h.block _ (lt_of_block x2)).trans x2)
  have KTA := Lib.hid (show ∀ wz, Below w1.heap.size w1 wz → TabAt wz tb to (num L) L.length rb ro rc T from fun wz h => (hTA.below hB).below h)
  have KUA := Lib.hid (show ∀ wz, Below w1.heap.size w1 wz → TabAt wz ub uo (num M) M.length sb so sc U from fun wz h => (hUA.below hB).below h)
  have KL := Lib.hid (show ∀ wz, Below w1.heap.size w1 wz → Cells wz ab ao L from fun wz hz => by
    obtain ⟨b', o', e, hc⟩ := ((hr.below hB).below hz) (fun e => absurd (show L.length = 0 by rw [e]; rfl) (by omega))
    simp only [Option.some.injEq, Addr.mk.injEq] at e
    rw [e.1, e.2.1]; exact hc)
  have KM := Lib.hid (show ∀ wz, Below w1.heap.size w1 wz → Cells wz mb mo M from fun wz hz => by
    obtain ⟨b', o', e, hc⟩ := ((hr2.below hB).below hz) (fun e => absurd (show M.length = 0 by rw [e]; rfl) (by omega))
    simp only [Option.some.injEq, Addr.mk.injEq] at e
    rw [e.1, e.2.1]; exact hc)
  have KF := Lib.hid (show ∀ wz, Below w1.heap.size w1 wz → Cells wz fb fo F from fun wz hz => by
    obtain ⟨b', o', e, hc⟩ := ((hf.below hB).below hz) (fun e => absurd (show F.length = 0 by rw [e]; rfl) (by omega))
    simp only [Option.some.injEq, Addr.mk.injEq] at e
    rw [e.1, e.2.1]; exact hc)
  have HA := Lib.hid h
  have HEL := Lib.hid hel
  have HSL := Lib.hid hsL
  have HSM := Lib.hid hsM
  have HTL := Lib.hid htl
  have HUL := Lib.hid hul
  have l6 : (L.length : Int) ≤ 6 := by omega
  have ml6 : (M.length : Int) ≤ 6 := by omega
  have kI : (F.length : Int) ≤ L.length := by omega
  have kJ : (1 : Int) ≤ F.length := by omega
  clear x1 x2 hTA hUA hr hT hr2 hT2 hf h h2 hel hsL hsM htl hul
  go_enter Try.func86, Try.ntmps86
  go_wp2_with (rw [← hw1]; clear hw1)
  go_loopw [8] (fun xv wr => ∃ x : Int, 0 ≤ x ∧ x ≤ F.length ∧ xv = .int .i64 x ∧ Below w1.heap.size w1 wr) (fun xv _ => (7 - intOf xv).toNat)
  case atStart => exact ⟨0, by omega, by omega, rfl, Below.refl _ _⟩
  case round =>
    obtain ⟨x, x0, xk, rfl, hbr⟩ := hrel
    by_cases hx : x < F.length
    · have z1 : ∀ wz, Below wr.heap.size wr wz → Below w1.heap.size w1 wz := fun wz hz => hbr.trans (hz.mono hbr.size)
      have Z1 := Lib.hid z1
      obtain ⟨f0, f1⟩ := HEL.out x x0 hx
      obtain ⟨g0, g1⟩ := HEL.out ((F.length : Int) - 1) (by omega) (by omega)
      obtain ⟨p0, p1⟩ := tv_el HA.out (x := x) (y := (F.length : Int) - 1) ⟨x0, by omega⟩ ⟨by omega, by omega⟩
      obtain ⟨p, hp⟩ : ∃ p, p = tv T x ((F.length : Int) - 1) := ⟨_, rfl⟩
      obtain ⟨fx, hfx⟩ : ∃ p, p = nth F x := ⟨_, rfl⟩
      obtain ⟨fk, hfk⟩ : ∃ p, p = nth F ((F.length : Int) - 1) := ⟨_, rfl⟩
      rw [← hp] at p0 p1
      rw [← hfx] at f0 f1
      rw [← hfk] at g0 g1
      have eN : ((F.length : Int) - 1).toNat = F.length - 1 := by omega
      obtain ⟨q1, hq1⟩ : ∃ q, q = decide (p < (F.length : Int)) := ⟨_, rfl⟩
      obtain ⟨V1, hV1⟩ : ∃ q, q = (nth F p != tv U fx fk) := ⟨_, rfl⟩
      obtain ⟨c1, hc1⟩ : ∃ q, q = (q1 && V1) := ⟨_, rfl⟩
      obtain ⟨q2, hq2⟩ : ∃ q, q = bl L x ((F.length : Int) - 1) := ⟨_, rfl⟩
      obtain ⟨v2, hv2⟩ : ∃ q, q = bl M fx fk := ⟨_, rfl⟩
      obtain ⟨d2, hd2⟩ : ∃ q, q = (c1 || (q2 && !v2)) := ⟨_, rfl⟩
      obtain ⟨q3, hq3⟩ : ∃ q, q = bl L ((F.length : Int) - 1) x := ⟨_, rfl⟩
      obtain ⟨v3, hv3⟩ : ∃ q, q = bl M fk fx := ⟨_, rfl⟩
      obtain ⟨d3, hd3⟩ : ∃ q, q = (d2 || (q3 && !v3)) := ⟨_, rfl⟩
      have KC2 := Lib.hid (show ∀ wz, Below wr.heap.size wr wz → Calls Try.prog 91 #[.slice (some ⟨ab, ao, none⟩) L.length ca, .int .i64 x, .int .i64 ((F.length : Int) - 1)] wz fun e w' => e = .returned (.bool q2) ∧ wz = w' from fun wz hz => by rw [hq2]; exact below_any ab ao ca L x _ wz (KL.out _ (Z1.out _ hz)) HSL.out x0 (by omega) (by omega) (by omega))
      have KC3 := Lib.hid (show ∀ wz, Below wr.heap.size wr wz → Calls Try.prog 91 #[.slice (some ⟨ab, ao, none⟩) L.length ca, .int .i64 ((F.length : Int) - 1), .int .i64 x] wz fun e w' => e = .returned (.bool q3) ∧ wz = w' from fun wz hz => by rw [hq3]; exact below_any ab ao ca L _ x wz (KL.out _ (Z1.out _ hz)) HSL.out (by omega) (by omega) x0 (by omega))
      have KD2 := Lib.hid (show ∀ wz, Below wr.heap.size wr wz → Calls Try.prog 91 #[.slice (some ⟨mb, mo, none⟩) M.length cma, .int .i64 fx, .int .i64 fk] wz fun e w' => e = .returned (.bool v2) ∧ wz = w' from fun wz hz => by rw [hv2]; exact below_any mb mo cma M fx fk wz (KM.out _ (Z1.out _ hz)) HSM.out f0 f1 g0 (by omega))
      have KD3 := Lib.hid (show ∀ wz, Below wr.heap.size wr wz → Calls Try.prog 91 #[.slice (some ⟨mb, mo, none⟩) M.length cma, .int .i64 fk, .int .i64 fx] wz fun e w' => e = .returned (.bool v3) ∧ wz = w' from fun wz hz => by rw [hv3]; exact below_any mb mo cma M fk fx wz (KM.out _ (Z1.out _ hz)) HSM.out g0 g1 f0 (by omega))
      have KA0 := Lib.hid (show ∀ wz, Below wr.heap.size wr wz → wz.cell? ⟨w.heap.size, 0, none⟩ = some (.slice (some ⟨ab, ao, none⟩) L.length ca) from fun wz hz => (bx_cells (KXA.out _ (Z1.out _ hz))).1)
      have KA1 := Lib.hid (show ∀ wz, Below wr.heap.size wr wz → wz.cell? ⟨w.heap.size, 1, none⟩ = some (.slice (some ⟨tb, to, none⟩) T.length cb) from fun wz hz => (bx_cells (KXA.out _ (Z1.out _ hz))).2)
      have KB0 := Lib.hid (show ∀ wz, Below wr.heap.size wr wz → wz.cell? ⟨w.heap.size + 1, 0, none⟩ = some (.slice (some ⟨mb, mo, none⟩) M.length cma) from fun wz hz => (bx_cells (KXB.out _ (Z1.out _ hz))).1)
      have KB1 := Lib.hid (show ∀ wz, Below wr.heap.size wr wz → wz.cell? ⟨w.heap.size + 1, 1, none⟩ = some (.slice (some ⟨ub, uo, none⟩) U.length cub) from fun wz hz => (bx_cells (KXB.out _ (Z1.out _ hz))).2)
      have KRX := Lib.hid (show ∀ wz, Below wr.heap.size wr wz → wz.cell? ⟨tb, to + x.toNat, none⟩ = some (.slice (some ⟨rb x, ro x, none⟩) L.length (rc x)) from fun wz hz => (KTA.out _ (Z1.out _ hz)).row x0 (by omega))
      have KP := Lib.hid (show ∀ wz, Below wr.heap.size wr wz → wz.cell? ⟨rb x, ro x + (F.length - 1), none⟩ = some (.int .i64 p) from fun wz hz => by have := (KTA.out _ (Z1.out _ hz)).cell x0 (show x < num L by omega) (y := (F.length : Int) - 1) (by omega) (by omega); rwa [eN, ← hp] at this)
      have KFP := Lib.hid (show ∀ wz, Below wr.heap.size wr wz → p < (F.length : Int) → wz.cell? ⟨fb, fo + p.toNat, none⟩ = some (.int .i64 (nth F p)) from fun wz hz hlt => (KF.out _ (Z1.out _ hz)).at p p0 hlt)
      have KFX := Lib.hid (show ∀ wz, Below wr.heap.size wr wz → wz.cell? ⟨fb, fo + x.toNat, none⟩ = some (.int .i64 fx) from fun wz hz => by rw [hfx]; exact (KF.out _ (Z1.out _ hz)).at x x0 hx)
      have KFK := Lib.hid (show ∀ wz, Below wr.heap.size wr wz → wz.cell? ⟨fb, fo + (F.length - 1), none⟩ = some (.int .i64 fk) from fun wz hz => by have := (KF.out _ (Z1.out _ hz)).at ((F.length : Int) - 1) (by omega) (by show (F.length : Int) - 1 < (F.length : Int); omega); rwa [eN, ← hfk] at this)
      have KRU := Lib.hid (show ∀ wz, Below wr.heap.size wr wz → wz.cell? ⟨ub, uo + fx.toNat, none⟩ = some (.slice (some ⟨sb fx, so fx, none⟩) M.length (sc fx)) from fun wz hz => (KUA.out _ (Z1.out _ hz)).row f0 f1)
      have KU := Lib.hid (show ∀ wz, Below wr.heap.size wr wz → wz.cell? ⟨sb fx, so fx + fk.toNat, none⟩ = some (.int .i64 (tv U fx fk)) from fun wz hz => (KUA.out _ (Z1.out _ hz)).cell f0 f1 g0 g1)
      have kw : IntKind.i64.wrap ((F.length : Int) - 1) = (F.length : Int) - 1 := IntWalk.i64_in _ (by omega)
      have b1 : ¬ (F.length : Int) - 1 < 0 := by omega
      have b2 : (F.length : Int) - 1 < L.length := by omega
      have b3 : x < (T.length : Int) := by have := HTL.out; omega
      have b4 : fx < (U.length : Int) := by have := HUL.out; omega
      have b5 : fk < (M.length : Int) := g1
      have b6 : (F.length : Int) - 1 < F.length := by omega
      have b7 : (0 : Int) ≤ (F.length : Int) - 1 := by omega
      have z : Below wr.heap.size wr wr := Below.refl _ _
      have b8 : ¬ (F.length : Int) < 1 := by omega
      have HQ1 := Lib.hid hq1
      have HV1 := Lib.hid hV1
      have HC1 := Lib.hid hc1
      have HD2 := Lib.hid hd2
      have HD3 := Lib.hid hd3
      clear hp hfx hfk hq1 hV1 hc1 hd2 hd3 hq2 hq3 hv2 hv3 z1 f1 g1 p1 kI kJ
      go_wp2
      refine wp_region_any (by kernel_rfl) ?_
      refine any_of_C (C := Below wr.heap.size wr) _ _ _ _ ?_
      replace z := z.drew
      refine anyC_take (i := 0) (oi := ⟨_, _, _, _, _, _⟩) (v := .pointer (some ⟨w.heap.size, 1, none⟩)) rfl (by kernel_rfl) (by kernel_rfl) (by kernel_rfl) (fun _ _ _ h => h) (.inl ⟨by kernel_rfl, fun wz hz => by go_simp⟩) ?_
      (try simp only [Act.put, List.setIfInBounds_toArray, List.set_cons_zero, List.set_cons_succ])
      refine anyC_take (i := 1) (oi := ⟨_, _, _, _, _, _⟩) (v := .slice (some ⟨tb, to, none⟩) T.length cb) rfl (by kernel_rfl) (by kernel_rfl) (by kernel_rfl) (fun _ _ _ h => h) (.inl ⟨by kernel_rfl, fun wz hz => by have c := KA1.out _ hz; go_simp⟩) ?_
      (try simp only [Act.put, List.setIfInBounds_toArray, List.set_cons_zero, List.set_cons_succ])
      refine anyC_take (i := 2) (oi := ⟨_, _, _, _, _, _⟩) (v := .int .i64 x) rfl (by kernel_rfl) (by kernel_rfl) (by kernel_rfl) (fun _ _ _ h => h) (.inl ⟨by kernel_rfl, fun wz hz => by apply runs_moveM <;> rfl⟩) ?_
      (try simp only [Act.put, List.setIfInBounds_toArray, List.set_cons_zero, List.set_cons_succ])
      refine anyC_take (i := 3) (oi := ⟨_, _, _, _, _, _⟩) (v := .pointer (some ⟨tb, to + x.toNat, none⟩)) rfl (by kernel_rfl) (by kernel_rfl) (by kernel_rfl) (fun _ _ _ h => h) (.inl ⟨by kernel_rfl, fun wz hz => by go_simp⟩) ?_
      (try simp only [Act.put, List.setIfInBounds_toArray, List.set_cons_zero, List.set_cons_succ])
      refine anyC_take (i := 4) (oi := ⟨_, _, _, _, _, _⟩) (v := .slice (some ⟨rb x, ro x, none⟩) L.length (rc x)) rfl (by kernel_rfl) (by kernel_rfl) (by kernel_rfl) (fun _ _ _ h => h) (.inl ⟨by kernel_rfl, fun wz hz => by have c := KRX.out _ hz; go_simp⟩) ?_
      (try simp only [Act.put, List.setIfInBounds_toArray, List.set_cons_zero, List.set_cons_succ])
      refine anyC_take (i := 5) (oi := ⟨_, _, _, _, _, _⟩) (v := .int .i64 (F.length : Int)) rfl (by kernel_rfl) (by kernel_rfl) (by kernel_rfl) (fun _ _ _ h => h) (.inl ⟨by kernel_rfl, fun wz hz => by apply runs_moveM <;> rfl⟩) ?_
      (try simp only [Act.put, List.setIfInBounds_toArray, List.set_cons_zero, List.set_cons_succ])
      refine anyC_take (i := 6) (oi := ⟨_, _, _, _, _, _⟩) (v := .int .i64 ((F.length : Int) - 1)) rfl (by kernel_rfl) (by kernel_rfl) (by kernel_rfl) (fun _ _ _ h => h) (.inl ⟨by kernel_rfl, fun wz hz => by go_simp⟩) ?_
      (try simp only [Act.put, List.setIfInBounds_toArray, List.set_cons_zero, List.set_cons_succ])
      refine anyC_take (i := 7) (oi := ⟨_, _, _, _, _, _⟩) (v := .pointer (some ⟨rb x, ro x + (F.length - 1), none⟩)) rfl (by kernel_rfl) (by kernel_rfl) (by kernel_rfl) (fun _ _ _ h => h) (.inl ⟨by kernel_rfl, fun wz hz => by go_simp⟩) ?_
      (try simp only [Act.put, List.setIfInBounds_toArray, List.set_cons_zero, List.set_cons_succ])
      refine anyC_take (i := 8) (oi := ⟨_, _, _, _, _, _⟩) (v := .int .i64 p) rfl (by kernel_rfl) (by kernel_rfl) (by kernel_rfl) (fun _ _ _ h => h) (.inl ⟨by kernel_rfl, fun wz hz => by have c := KP.out _ hz; go_simp⟩) ?_
      (try simp only [Act.put, List.setIfInBounds_toArray, List.set_cons_zero, List.set_cons_succ])
      refine anyC_take (i := 9) (oi := ⟨_, _, _, _, _, _⟩) (v := .int .i64 (F.length : Int)) rfl (by kernel_rfl) (by kernel_rfl) (by kernel_rfl) (fun _ _ _ h => h) (.inl ⟨by kernel_rfl, fun wz hz => by apply runs_moveM <;> rfl⟩) ?_
      (try simp only [Act.put, List.setIfInBounds_toArray, List.set_cons_zero, List.set_cons_succ])
      refine anyC_take (i := 10) (oi := ⟨_, _, _, _, _, _⟩) (v := .bool q1) rfl (by kernel_rfl) (by kernel_rfl) (by kernel_rfl) (fun _ _ _ h => h) (.inl ⟨by kernel_rfl, fun wz hz => by rw [HQ1.out]; go_simp⟩) ?_
      (try simp only [Act.put, List.setIfInBounds_toArray, List.set_cons_zero, List.set_cons_succ])
      refine anyC_take (i := 11) (oi := ⟨_, _, _, _, _, _⟩) (v := .bool q1) rfl (by kernel_rfl) (by kernel_rfl) (by kernel_rfl) (fun _ _ _ h => h) (.inl ⟨by kernel_rfl, fun wz hz => by apply runs_moveM <;> rfl⟩) ?_
      (try simp only [Act.put, List.setIfInBounds_toArray, List.set_cons_zero, List.set_cons_succ])
      refine anyC_take (i := 12) (oi := ⟨_, _, _, _, _, _⟩) (v := (bif q1 then .slice (some ⟨fb, fo, none⟩) F.length cf else undef)) rfl (by kernel_rfl) (by kernel_rfl) (by kernel_rfl) (fun _ _ _ h => h) (by cases q1 <;> first | exact .inr ⟨by kernel_rfl, rfl⟩ | exact .inl ⟨by kernel_rfl, fun wz hz => by apply runs_moveM <;> rfl⟩) ?_
      (try simp only [Act.put, List.setIfInBounds_toArray, List.set_cons_zero, List.set_cons_succ])
      refine anyC_take (i := 13) (oi := ⟨_, _, _, _, _, _⟩) (v := (bif q1 then .pointer (some ⟨w.heap.size, 1, none⟩) else undef)) rfl (by kernel_rfl) (by kernel_rfl) (by kernel_rfl) (fun _ _ _ h => h) (by cases q1 <;> first | exact .inr ⟨by kernel_rfl, rfl⟩ | exact .inl ⟨by kernel_rfl, fun wz hz => by go_simp⟩) ?_
      (try simp only [Act.put, List.setIfInBounds_toArray, List.set_cons_zero, List.set_cons_succ])
      refine anyC_take (i := 14) (oi := ⟨_, _, _, _, _, _⟩) (v := (bif q1 then .slice (some ⟨tb, to, none⟩) T.length cb else undef)) rfl (by kernel_rfl) (by kernel_rfl) (by kernel_rfl) (fun _ _ _ h => h) (by cases q1 <;> first | exact .inr ⟨by kernel_rfl, rfl⟩ | exact .inl ⟨by kernel_rfl, fun wz hz => by have c := KA1.out _ hz; go_simp⟩) ?_
      (try simp only [Act.put, List.setIfInBounds_toArray, List.set_cons_zero, List.set_cons_succ])
      refine anyC_take (i := 15) (oi := ⟨_, _, _, _, _, _⟩) (v := (bif q1 then .int .i64 x else undef)) rfl (by kernel_rfl) (by kernel_rfl) (by kernel_rfl) (fun _ _ _ h => h) (by cases q1 <;> first | exact .inr ⟨by kernel_rfl, rfl⟩ | exact .inl ⟨by kernel_rfl, fun wz hz => by apply runs_moveM <;> rfl⟩) ?_
      (try simp only [Act.put, List.setIfInBounds_toArray, List.set_cons_zero, List.set_cons_succ])
      refine anyC_take (i := 16) (oi := ⟨_, _, _, _, _, _⟩) (v := (bif q1 then .pointer (some ⟨tb, to + x.toNat, none⟩) else undef)) rfl (by kernel_rfl) (by kernel_rfl) (by kernel_rfl) (fun _ _ _ h => h) (by cases q1 <;> first | exact .inr ⟨by kernel_rfl, rfl⟩ | exact .inl ⟨by kernel_rfl, fun wz hz => by go_simp⟩) ?_
      (try simp only [Act.put, List.setIfInBounds_toArray, List.set_cons_zero, List.set_cons_succ])
      refine anyC_take (i := 17) (oi := ⟨_, _, _, _, _, _⟩) (v := (bif q1 then .slice (some ⟨rb x, ro x, none⟩) L.length (rc x) else undef)) rfl (by kernel_rfl) (by kernel_rfl) (by kernel_rfl) (fun _ _ _ h => h) (by cases q1 <;> first | exact .inr ⟨by kernel_rfl, rfl⟩ | exact .inl ⟨by kernel_rfl, fun wz hz => by have c := KRX.out _ hz; go_simp⟩) ?_
      (try simp only [Act.put, List.setIfInBounds_toArray, List.set_cons_zero, List.set_cons_succ])
      refine anyC_take (i := 18) (oi := ⟨_, _, _, _, _, _⟩) (v := (bif q1 then .int .i64 (F.length : Int) else undef)) rfl (by kernel_rfl) (by kernel_rfl) (by kernel_rfl) (fun _ _ _ h => h) (by cases q1 <;> first | exact .inr ⟨by kernel_rfl, rfl⟩ | exact .inl ⟨by kernel_rfl, fun wz hz => by apply runs_moveM <;> rfl⟩) ?_
      (try simp only [Act.put, List.setIfInBounds_toArray, List.set_cons_zero, List.set_cons_succ])
      refine anyC_take (i := 19) (oi := ⟨_, _, _, _, _, _⟩) (v := (bif q1 then .int .i64 ((F.length : Int) - 1) else undef)) rfl (by kernel_rfl) (by kernel_rfl) (by kernel_rfl) (fun _ _ _ h => h) (by cases q1 <;> first | exact .inr ⟨by kernel_rfl, rfl⟩ | exact .inl ⟨by kernel_rfl, fun wz hz => by go_simp⟩) ?_
      (try simp only [Act.put, List.setIfInBounds_toArray, List.set_cons_zero, List.set_cons_succ])
      refine anyC_take (i := 20) (oi := ⟨_, _, _, _, _, _⟩) (v := (bif q1 then .pointer (some ⟨rb x, ro x + (F.length - 1), none⟩) else undef)) rfl (by kernel_rfl) (by kernel_rfl) (by kernel_rfl) (fun _ _ _ h => h) (by cases q1 <;> first | exact .inr ⟨by kernel_rfl, rfl⟩ | exact .inl ⟨by kernel_rfl, fun wz hz => by go_simp⟩) ?_
      (try simp only [Act.put, List.setIfInBounds_toArray, List.set_cons_zero, List.set_cons_succ])
      refine anyC_take (i := 21) (oi := ⟨_, _, _, _, _, _⟩) (v := (bif q1 then .int .i64 p else undef)) rfl (by kernel_rfl) (by kernel_rfl) (by kernel_rfl) (fun _ _ _ h => h) (by cases q1 <;> first | exact .inr ⟨by kernel_rfl, rfl⟩ | exact .inl ⟨by kernel_rfl, fun wz hz => by have c := KP.out _ hz; go_simp⟩) ?_
      (try simp only [Act.put, List.setIfInBounds_toArray, List.set_cons_zero, List.set_cons_succ])
      refine anyC_take (i := 22) (oi := ⟨_, _, _, _, _, _⟩) (v := (bif q1 then .pointer (some ⟨fb, fo + p.toNat, none⟩) else undef)) rfl (by kernel_rfl) (by kernel_rfl) (by kernel_rfl) (fun _ _ _ h => h) (by cases q1 <;> first | exact .inr ⟨by kernel_rfl, rfl⟩ | exact .inl ⟨by kernel_rfl, fun wz hz => by have hlt := of_decide_eq_true HQ1.out.symm; go_simp⟩) ?_
      (try simp only [Act.put, List.setIfInBounds_toArray, List.set_cons_zero, List.set_cons_succ])
      refine anyC_take (i := 23) (oi := ⟨_, _, _, _, _, _⟩) (v := (bif q1 then .int .i64 (nth F p) else undef)) rfl (by kernel_rfl) (by kernel_rfl) (by kernel_rfl) (fun _ _ _ h => h) (by cases q1 <;> first | exact .inr ⟨by kernel_rfl, rfl⟩ | exact .inl ⟨by kernel_rfl, fun wz hz => by have c := KFP.out _ hz (of_decide_eq_true HQ1.out.symm); go_simp⟩) ?_
      (try simp only [Act.put, List.setIfInBounds_toArray, List.set_cons_zero, List.set_cons_succ])
      refine anyC_take (i := 24) (oi := ⟨_, _, _, _, _, _⟩) (v := (bif q1 then .pointer (some ⟨w.heap.size + 1, 1, none⟩) else undef)) rfl (by kernel_rfl) (by kernel_rfl) (by kernel_rfl) (fun _ _ _ h => h) (by cases q1 <;> first | exact .inr ⟨by kernel_rfl, rfl⟩ | exact .inl ⟨by kernel_rfl, fun wz hz => by go_simp⟩) ?_
      (try simp only [Act.put, List.setIfInBounds_toArray, List.set_cons_zero, List.set_cons_succ])
      refine anyC_take (i := 25) (oi := ⟨_, _, _, _, _, _⟩) (v := (bif q1 then .slice (some ⟨ub, uo, none⟩) U.length cub else undef)) rfl (by kernel_rfl) (by kernel_rfl) (by kernel_rfl) (fun _ _ _ h => h) (by cases q1 <;> first | exact .inr ⟨by kernel_rfl, rfl⟩ | exact .inl ⟨by kernel_rfl, fun wz hz => by have c := KB1.out _ hz; go_simp⟩) ?_
      (try simp only [Act.put, List.setIfInBounds_toArray, List.set_cons_zero, List.set_cons_succ])
      refine anyC_take (i := 26) (oi := ⟨_, _, _, _, _, _⟩) (v := (bif q1 then .slice (some ⟨fb, fo, none⟩) F.length cf else undef)) rfl (by kernel_rfl) (by kernel_rfl) (by kernel_rfl) (fun _ _ _ h => h) (by cases q1 <;> first | exact .inr ⟨by kernel_rfl, rfl⟩ | exact .inl ⟨by kernel_rfl, fun wz hz => by apply runs_moveM <;> rfl⟩) ?_
      (try simp only [Act.put, List.setIfInBounds_toArray, List.set_cons_zero, List.set_cons_succ])
      refine anyC_take (i := 27) (oi := ⟨_, _, _, _, _, _⟩) (v := (bif q1 then .int .i64 x else undef)) rfl (by kernel_rfl) (by kernel_rfl) (by kernel_rfl) (fun _ _ _ h => h) (by cases q1 <;> first | exact .inr ⟨by kernel_rfl, rfl⟩ | exact .inl ⟨by kernel_rfl, fun wz hz => by apply runs_moveM <;> rfl⟩) ?_
      (try simp only [Act.put, List.setIfInBounds_toArray, List.set_cons_zero, List.set_cons_succ])
      refine anyC_take (i := 28) (oi := ⟨_, _, _, _, _, _⟩) (v := (bif q1 then .pointer (some ⟨fb, fo + x.toNat, none⟩) else undef)) rfl (by kernel_rfl) (by kernel_rfl) (by kernel_rfl) (fun _ _ _ h => h) (by cases q1 <;> first | exact .inr ⟨by kernel_rfl, rfl⟩ | exact .inl ⟨by kernel_rfl, fun wz hz => by go_simp⟩) ?_
      (try simp only [Act.put, List.setIfInBounds_toArray, List.set_cons_zero, List.set_cons_succ])
      refine anyC_take (i := 29) (oi := ⟨_, _, _, _, _, _⟩) (v := (bif q1 then .int .i64 fx else undef)) rfl (by kernel_rfl) (by kernel_rfl) (by kernel_rfl) (fun _ _ _ h => h) (by cases q1 <;> first | exact .inr ⟨by kernel_rfl, rfl⟩ | exact .inl ⟨by kernel_rfl, fun wz hz => by have c := KFX.out _ hz; go_simp⟩) ?_
      (try simp only [Act.put, List.setIfInBounds_toArray, List.set_cons_zero, List.set_cons_succ])
      refine anyC_take (i := 30) (oi := ⟨_, _, _, _, _, _⟩) (v := (bif q1 then .pointer (some ⟨ub, uo + fx.toNat, none⟩) else undef)) rfl (by kernel_rfl) (by kernel_rfl) (by kernel_rfl) (fun _ _ _ h => h) (by cases q1 <;> first | exact .inr ⟨by kernel_rfl, rfl⟩ | exact .inl ⟨by kernel_rfl, fun wz hz => by go_simp⟩) ?_
      (try simp only [Act.put, List.setIfInBounds_toArray, List.set_cons_zero, List.set_cons_succ])
      refine anyC_take (i := 31) (oi := ⟨_, _, _, _, _, _⟩) (v := (bif q1 then .slice (some ⟨sb fx, so fx, none⟩) M.length (sc fx) else undef)) rfl (by kernel_rfl) (by kernel_rfl) (by kernel_rfl) (fun _ _ _ h => h) (by cases q1 <;> first | exact .inr ⟨by kernel_rfl, rfl⟩ | exact .inl ⟨by kernel_rfl, fun wz hz => by have c := KRU.out _ hz; go_simp⟩) ?_
      (try simp only [Act.put, List.setIfInBounds_toArray, List.set_cons_zero, List.set_cons_succ])
      refine anyC_take (i := 32) (oi := ⟨_, _, _, _, _, _⟩) (v := (bif q1 then .slice (some ⟨fb, fo, none⟩) F.length cf else undef)) rfl (by kernel_rfl) (by kernel_rfl) (by kernel_rfl) (fun _ _ _ h => h) (by cases q1 <;> first | exact .inr ⟨by kernel_rfl, rfl⟩ | exact .inl ⟨by kernel_rfl, fun wz hz => by apply runs_moveM <;> rfl⟩) ?_
      (try simp only [Act.put, List.setIfInBounds_toArray, List.set_cons_zero, List.set_cons_succ])
      refine anyC_take (i := 33) (oi := ⟨_, _, _, _, _, _⟩) (v := (bif q1 then .int .i64 (F.length : Int) else undef)) rfl (by kernel_rfl) (by kernel_rfl) (by kernel_rfl) (fun _ _ _ h => h) (by cases q1 <;> first | exact .inr ⟨by kernel_rfl, rfl⟩ | exact .inl ⟨by kernel_rfl, fun wz hz => by apply runs_moveM <;> rfl⟩) ?_
      (try simp only [Act.put, List.setIfInBounds_toArray, List.set_cons_zero, List.set_cons_succ])
      refine anyC_take (i := 34) (oi := ⟨_, _, _, _, _, _⟩) (v := (bif q1 then .int .i64 ((F.length : Int) - 1) else undef)) rfl (by kernel_rfl) (by kernel_rfl) (by kernel_rfl) (fun _ _ _ h => h) (by cases q1 <;> first | exact .inr ⟨by kernel_rfl, rfl⟩ | exact .inl ⟨by kernel_rfl, fun wz hz => by go_simp⟩) ?_
      (try simp only [Act.put, List.setIfInBounds_toArray, List.set_cons_zero, List.set_cons_succ])
      refine anyC_take (i := 35) (oi := ⟨_, _, _, _, _, _⟩) (v := (bif q1 then .pointer (some ⟨fb, fo + (F.length - 1), none⟩) else undef)) rfl (by kernel_rfl) (by kernel_rfl) (by kernel_rfl) (fun _ _ _ h => h) (by cases q1 <;> first | exact .inr ⟨by kernel_rfl, rfl⟩ | exact .inl ⟨by kernel_rfl, fun wz hz => by go_simp⟩) ?_
      (try simp only [Act.put, List.setIfInBounds_toArray, List.set_cons_zero, List.set_cons_succ])
      refine anyC_take (i := 36) (oi := ⟨_, _, _, _, _, _⟩) (v := (bif q1 then .int .i64 fk else undef)) rfl (by kernel_rfl) (by kernel_rfl) (by kernel_rfl) (fun _ _ _ h => h) (by cases q1 <;> first | exact .inr ⟨by kernel_rfl, rfl⟩ | exact .inl ⟨by kernel_rfl, fun wz hz => by have c := KFK.out _ hz; go_simp⟩) ?_
      (try simp only [Act.put, List.setIfInBounds_toArray, List.set_cons_zero, List.set_cons_succ])
      refine anyC_take (i := 37) (oi := ⟨_, _, _, _, _, _⟩) (v := (bif q1 then .pointer (some ⟨sb fx, so fx + fk.toNat, none⟩) else undef)) rfl (by kernel_rfl) (by kernel_rfl) (by kernel_rfl) (fun _ _ _ h => h) (by cases q1 <;> first | exact .inr ⟨by kernel_rfl, rfl⟩ | exact .inl ⟨by kernel_rfl, fun wz hz => by go_simp⟩) ?_
      (try simp only [Act.put, List.setIfInBounds_toArray, List.set_cons_zero, List.set_cons_succ])
      refine anyC_take (i := 38) (oi := ⟨_, _, _, _, _, _⟩) (v := (bif q1 then .int .i64 (tv U fx fk) else undef)) rfl (by kernel_rfl) (by kernel_rfl) (by kernel_rfl) (fun _ _ _ h => h) (by cases q1 <;> first | exact .inr ⟨by kernel_rfl, rfl⟩ | exact .inl ⟨by kernel_rfl, fun wz hz => by have c := KU.out _ hz; go_simp⟩) ?_
      (try simp only [Act.put, List.setIfInBounds_toArray, List.set_cons_zero, List.set_cons_succ])
      refine anyC_take (i := 39) (oi := ⟨_, _, _, _, _, _⟩) (v := (bif q1 then .bool V1 else undef)) rfl (by kernel_rfl) (by kernel_rfl) (by kernel_rfl) (fun _ _ _ h => h) (by cases q1 <;> first | exact .inr ⟨by kernel_rfl, rfl⟩ | exact .inl ⟨by kernel_rfl, fun wz hz => by rw [HV1.out]; go_simp⟩) ?_
      (try simp only [Act.put, List.setIfInBounds_toArray, List.set_cons_zero, List.set_cons_succ])
      refine anyC_take (i := 40) (oi := ⟨_, _, _, _, _, _⟩) (v := .bool c1) rfl (by kernel_rfl) (by kernel_rfl) (by kernel_rfl) (fun _ _ _ h => h) (.inl ⟨by kernel_rfl, fun wz hz => by rw [HC1.out]; cases q1 <;> cases V1 <;> go_simp⟩) ?_
      (try simp only [Act.put, List.setIfInBounds_toArray, List.set_cons_zero, List.set_cons_succ])
      refine anyC_take (i := 41) (oi := ⟨_, _, _, _, _, _⟩) (v := .bool c1) rfl (by kernel_rfl) (by kernel_rfl) (by kernel_rfl) (fun _ _ _ h => h) (.inl ⟨by kernel_rfl, fun wz hz => by apply runs_moveM <;> rfl⟩) ?_
      (try simp only [Act.put, List.setIfInBounds_toArray, List.set_cons_zero, List.set_cons_succ])
      refine anyC_take (i := 42) (oi := ⟨_, _, _, _, _, _⟩) (v := (bif !c1 then .pointer (some ⟨w.heap.size, 0, none⟩) else undef)) rfl (by kernel_rfl) (by kernel_rfl) (by kernel_rfl) (fun _ _ _ h => h) (by cases c1 <;> cases q2 <;> first | exact .inr ⟨by kernel_rfl, rfl⟩ | exact .inl ⟨by kernel_rfl, fun wz hz => by go_simp⟩) ?_
      (try simp only [Act.put, List.setIfInBounds_toArray, List.set_cons_zero, List.set_cons_succ])
      refine anyC_take (i := 43) (oi := ⟨_, _, _, _, _, _⟩) (v := (bif !c1 then .slice (some ⟨ab, ao, none⟩) L.length ca else undef)) rfl (by kernel_rfl) (by kernel_rfl) (by kernel_rfl) (fun _ _ _ h => h) (by cases c1 <;> cases q2 <;> first | exact .inr ⟨by kernel_rfl, rfl⟩ | exact .inl ⟨by kernel_rfl, fun wz hz => by have c := KA0.out _ hz; go_simp⟩) ?_
      (try simp only [Act.put, List.setIfInBounds_toArray, List.set_cons_zero, List.set_cons_succ])
      refine anyC_take (i := 44) (oi := ⟨_, _, _, _, _, _⟩) (v := (bif !c1 then .int .i64 x else undef)) rfl (by kernel_rfl) (by kernel_rfl) (by kernel_rfl) (fun _ _ _ h => h) (by cases c1 <;> cases q2 <;> first | exact .inr ⟨by kernel_rfl, rfl⟩ | exact .inl ⟨by kernel_rfl, fun wz hz => by apply runs_moveM <;> rfl⟩) ?_
      (try simp only [Act.put, List.setIfInBounds_toArray, List.set_cons_zero, List.set_cons_succ])
      refine anyC_take (i := 45) (oi := ⟨_, _, _, _, _, _⟩) (v := (bif !c1 then .int .i64 (F.length : Int) else undef)) rfl (by kernel_rfl) (by kernel_rfl) (by kernel_rfl) (fun _ _ _ h => h) (by cases c1 <;> cases q2 <;> first | exact .inr ⟨by kernel_rfl, rfl⟩ | exact .inl ⟨by kernel_rfl, fun wz hz => by apply runs_moveM <;> rfl⟩) ?_
      (try simp only [Act.put, List.setIfInBounds_toArray, List.set_cons_zero, List.set_cons_succ])
      refine anyC_take (i := 46) (oi := ⟨_, _, _, _, _, _⟩) (v := (bif !c1 then .int .i64 ((F.length : Int) - 1) else undef)) rfl (by kernel_rfl) (by kernel_rfl) (by kernel_rfl) (fun _ _ _ h => h) (by cases c1 <;> cases q2 <;> first | exact .inr ⟨by kernel_rfl, rfl⟩ | exact .inl ⟨by kernel_rfl, fun wz hz => by go_simp⟩) ?_
      (try simp only [Act.put, List.setIfInBounds_toArray, List.set_cons_zero, List.set_cons_succ])
      refine anyC_call_if (i := 47) (o := ⟨_, _, _, _, _, _⟩) (f := 91) (args := #[.slice (some ⟨ab, ao, none⟩) L.length ca, .int .i64 x, .int .i64 ((F.length : Int) - 1)]) (b := !c1) (v := .bool q2) rfl (by kernel_rfl) (by kernel_rfl) (by kernel_rfl) (fun _ _ _ h => h) (by kernel_rfl) (by cases c1 <;> cases q2 <;> kernel_rfl) (fun hb => by cases c1 <;> cases q2 <;> first | exact absurd hb (by decide) | (apply runs_call3 (he := enters_of Try.func91 (by kernel_rfl) rfl) <;> rfl)) z (fun hb => KC2.out _ z) ?_
      (try simp only [Act.put, List.setIfInBounds_toArray, List.set_cons_zero, List.set_cons_succ])
      refine anyC_take (i := 48) (oi := ⟨_, _, _, _, _, _⟩) (v := (bif !c1 then .bool q2 else undef)) rfl (by kernel_rfl) (by kernel_rfl) (by kernel_rfl) (fun _ _ _ h => h) (by cases c1 <;> cases q2 <;> first | exact .inr ⟨by kernel_rfl, rfl⟩ | exact .inl ⟨by kernel_rfl, fun wz hz => by apply runs_moveM <;> rfl⟩) ?_
      (try simp only [Act.put, List.setIfInBounds_toArray, List.set_cons_zero, List.set_cons_succ])
      refine anyC_take (i := 49) (oi := ⟨_, _, _, _, _, _⟩) (v := (bif (!c1 && q2) then .pointer (some ⟨w.heap.size + 1, 0, none⟩) else undef)) rfl (by kernel_rfl) (by kernel_rfl) (by kernel_rfl) (fun _ _ _ h => h) (by cases c1 <;> cases q2 <;> first | exact .inr ⟨by kernel_rfl, rfl⟩ | exact .inl ⟨by kernel_rfl, fun wz hz => by go_simp⟩) ?_
      (try simp only [Act.put, List.setIfInBounds_toArray, List.set_cons_zero, List.set_cons_succ])
      refine anyC_take (i := 50) (oi := ⟨_, _, _, _, _, _⟩) (v := (bif (!c1 && q2) then .slice (some ⟨mb, mo, none⟩) M.length cma else undef)) rfl (by kernel_rfl) (by kernel_rfl) (by kernel_rfl) (fun _ _ _ h => h) (by cases c1 <;> cases q2 <;> first | exact .inr ⟨by kernel_rfl, rfl⟩ | exact .inl ⟨by kernel_rfl, fun wz hz => by have c := KB0.out _ hz; go_simp⟩) ?_
      (try simp only [Act.put, List.setIfInBounds_toArray, List.set_cons_zero, List.set_cons_succ])
      refine anyC_take (i := 51) (oi := ⟨_, _, _, _, _, _⟩) (v := (bif (!c1 && q2) then .slice (some ⟨fb, fo, none⟩) F.length cf else undef)) rfl (by kernel_rfl) (by kernel_rfl) (by kernel_rfl) (fun _ _ _ h => h) (by cases c1 <;> cases q2 <;> first | exact .inr ⟨by kernel_rfl, rfl⟩ | exact .inl ⟨by kernel_rfl, fun wz hz => by apply runs_moveM <;> rfl⟩) ?_
      (try simp only [Act.put, List.setIfInBounds_toArray, List.set_cons_zero, List.set_cons_succ])
      refine anyC_take (i := 52) (oi := ⟨_, _, _, _, _, _⟩) (v := (bif (!c1 && q2) then .int .i64 x else undef)) rfl (by kernel_rfl) (by kernel_rfl) (by kernel_rfl) (fun _ _ _ h => h) (by cases c1 <;> cases q2 <;> first | exact .inr ⟨by kernel_rfl, rfl⟩ | exact .inl ⟨by kernel_rfl, fun wz hz => by apply runs_moveM <;> rfl⟩) ?_
      (try simp only [Act.put, List.setIfInBounds_toArray, List.set_cons_zero, List.set_cons_succ])
      refine anyC_take (i := 53) (oi := ⟨_, _, _, _, _, _⟩) (v := (bif (!c1 && q2) then .pointer (some ⟨fb, fo + x.toNat, none⟩) else undef)) rfl (by kernel_rfl) (by kernel_rfl) (by kernel_rfl) (fun _ _ _ h => h) (by cases c1 <;> cases q2 <;> first | exact .inr ⟨by kernel_rfl, rfl⟩ | exact .inl ⟨by kernel_rfl, fun wz hz => by go_simp⟩) ?_
      (try simp only [Act.put, List.setIfInBounds_toArray, List.set_cons_zero, List.set_cons_succ])
      refine anyC_take (i := 54) (oi := ⟨_, _, _, _, _, _⟩) (v := (bif (!c1 && q2) then .int .i64 fx else undef)) rfl (by kernel_rfl) (by kernel_rfl) (by kernel_rfl) (fun _ _ _ h => h) (by cases c1 <;> cases q2 <;> first | exact .inr ⟨by kernel_rfl, rfl⟩ | exact .inl ⟨by kernel_rfl, fun wz hz => by have c := KFX.out _ hz; go_simp⟩) ?_
      (try simp only [Act.put, List.setIfInBounds_toArray, List.set_cons_zero, List.set_cons_succ])
      refine anyC_take (i := 55) (oi := ⟨_, _, _, _, _, _⟩) (v := (bif (!c1 && q2) then .slice (some ⟨fb, fo, none⟩) F.length cf else undef)) rfl (by kernel_rfl) (by kernel_rfl) (by kernel_rfl) (fun _ _ _ h => h) (by cases c1 <;> cases q2 <;> first | exact .inr ⟨by kernel_rfl, rfl⟩ | exact .inl ⟨by kernel_rfl, fun wz hz => by apply runs_moveM <;> rfl⟩) ?_
      (try simp only [Act.put, List.setIfInBounds_toArray, List.set_cons_zero, List.set_cons_succ])
      refine anyC_take (i := 56) (oi := ⟨_, _, _, _, _, _⟩) (v := (bif (!c1 && q2) then .int .i64 (F.length : Int) else undef)) rfl (by kernel_rfl) (by kernel_rfl) (by kernel_rfl) (fun _ _ _ h => h) (by cases c1 <;> cases q2 <;> first | exact .inr ⟨by kernel_rfl, rfl⟩ | exact .inl ⟨by kernel_rfl, fun wz hz => by apply runs_moveM <;> rfl⟩) ?_
      (try simp only [Act.put, List.setIfInBounds_toArray, List.set_cons_zero, List.set_cons_succ])
      refine anyC_take (i := 57) (oi := ⟨_, _, _, _, _, _⟩) (v := (bif (!c1 && q2) then .int .i64 ((F.length : Int) - 1) else undef)) rfl (by kernel_rfl) (by kernel_rfl) (by kernel_rfl) (fun _ _ _ h => h) (by cases c1 <;> cases q2 <;> first | exact .inr ⟨by kernel_rfl, rfl⟩ | exact .inl ⟨by kernel_rfl, fun wz hz => by go_simp⟩) ?_
      (try simp only [Act.put, List.setIfInBounds_toArray, List.set_cons_zero, List.set_cons_succ])
      refine anyC_take (i := 58) (oi := ⟨_, _, _, _, _, _⟩) (v := (bif (!c1 && q2) then .pointer (some ⟨fb, fo + (F.length - 1), none⟩) else undef)) rfl (by kernel_rfl) (by kernel_rfl) (by kernel_rfl) (fun _ _ _ h => h) (by cases c1 <;> cases q2 <;> first | exact .inr ⟨by kernel_rfl, rfl⟩ | exact .inl ⟨by kernel_rfl, fun wz hz => by go_simp⟩) ?_
      (try simp only [Act.put, List.setIfInBounds_toArray, List.set_cons_zero, List.set_cons_succ])
      refine anyC_take (i := 59) (oi := ⟨_, _, _, _, _, _⟩) (v := (bif (!c1 && q2) then .int .i64 fk else undef)) rfl (by kernel_rfl) (by kernel_rfl) (by kernel_rfl) (fun _ _ _ h => h) (by cases c1 <;> cases q2 <;> first | exact .inr ⟨by kernel_rfl, rfl⟩ | exact .inl ⟨by kernel_rfl, fun wz hz => by have c := KFK.out _ hz; go_simp⟩) ?_
      (try simp only [Act.put, List.setIfInBounds_toArray, List.set_cons_zero, List.set_cons_succ])
      refine anyC_call_if (i := 60) (o := ⟨_, _, _, _, _, _⟩) (f := 91) (args := #[.slice (some ⟨mb, mo, none⟩) M.length cma, .int .i64 fx, .int .i64 fk]) (b := (!c1 && q2)) (v := .bool v2) rfl (by kernel_rfl) (by kernel_rfl) (by kernel_rfl) (fun _ _ _ h => h) (by kernel_rfl) (by cases c1 <;> cases q2 <;> kernel_rfl) (fun hb => by cases c1 <;> cases q2 <;> first | exact absurd hb (by decide) | (apply runs_call3 (he := enters_of Try.func91 (by kernel_rfl) rfl) <;> rfl)) z (fun hb => KD2.out _ z) ?_
      (try simp only [Act.put, List.setIfInBounds_toArray, List.set_cons_zero, List.set_cons_succ])
      refine anyC_take (i := 61) (oi := ⟨_, _, _, _, _, _⟩) (v := (bif (!c1 && q2) then .bool !v2 else undef)) rfl (by kernel_rfl) (by kernel_rfl) (by kernel_rfl) (fun _ _ _ h => h) (by cases c1 <;> cases q2 <;> first | exact .inr ⟨by kernel_rfl, rfl⟩ | exact .inl ⟨by kernel_rfl, fun wz hz => by go_simp⟩) ?_
      (try simp only [Act.put, List.setIfInBounds_toArray, List.set_cons_zero, List.set_cons_succ])
      refine anyC_take (i := 62) (oi := ⟨_, _, _, _, _, _⟩) (v := (bif !c1 then .bool (q2 && !v2) else undef)) rfl (by kernel_rfl) (by kernel_rfl) (by kernel_rfl) (fun _ _ _ h => h) (by cases c1 <;> cases q2 <;> cases v2 <;> first | exact .inr ⟨by kernel_rfl, rfl⟩ | exact .inl ⟨by kernel_rfl, fun wz hz => by go_simp⟩) ?_
      (try simp only [Act.put, List.setIfInBounds_toArray, List.set_cons_zero, List.set_cons_succ])
      refine anyC_take (i := 63) (oi := ⟨_, _, _, _, _, _⟩) (v := .bool d2) rfl (by kernel_rfl) (by kernel_rfl) (by kernel_rfl) (fun _ _ _ h => h) (.inl ⟨by kernel_rfl, fun wz hz => by rw [HD2.out]; cases c1 <;> cases q2 <;> cases v2 <;> go_simp⟩) ?_
      (try simp only [Act.put, List.setIfInBounds_toArray, List.set_cons_zero, List.set_cons_succ])
      refine anyC_take (i := 64) (oi := ⟨_, _, _, _, _, _⟩) (v := .bool d2) rfl (by kernel_rfl) (by kernel_rfl) (by kernel_rfl) (fun _ _ _ h => h) (.inl ⟨by kernel_rfl, fun wz hz => by apply runs_moveM <;> rfl⟩) ?_
      (try simp only [Act.put, List.setIfInBounds_toArray, List.set_cons_zero, List.set_cons_succ])
      refine anyC_take (i := 65) (oi := ⟨_, _, _, _, _, _⟩) (v := (bif !d2 then .pointer (some ⟨w.heap.size, 0, none⟩) else undef)) rfl (by kernel_rfl) (by kernel_rfl) (by kernel_rfl) (fun _ _ _ h => h) (by cases d2 <;> cases q3 <;> first | exact .inr ⟨by kernel_rfl, rfl⟩ | exact .inl ⟨by kernel_rfl, fun wz hz => by go_simp⟩) ?_
      (try simp only [Act.put, List.setIfInBounds_toArray, List.set_cons_zero, List.set_cons_succ])
      refine anyC_take (i := 66) (oi := ⟨_, _, _, _, _, _⟩) (v := (bif !d2 then .slice (some ⟨ab, ao, none⟩) L.length ca else undef)) rfl (by kernel_rfl) (by kernel_rfl) (by kernel_rfl) (fun _ _ _ h => h) (by cases d2 <;> cases q3 <;> first | exact .inr ⟨by kernel_rfl, rfl⟩ | exact .inl ⟨by kernel_rfl, fun wz hz => by have c := KA0.out _ hz; go_simp⟩) ?_
      (try simp only [Act.put, List.setIfInBounds_toArray, List.set_cons_zero, List.set_cons_succ])
      refine anyC_take (i := 67) (oi := ⟨_, _, _, _, _, _⟩) (v := (bif !d2 then .int .i64 (F.length : Int) else undef)) rfl (by kernel_rfl) (by kernel_rfl) (by kernel_rfl) (fun _ _ _ h => h) (by cases d2 <;> cases q3 <;> first | exact .inr ⟨by kernel_rfl, rfl⟩ | exact .inl ⟨by kernel_rfl, fun wz hz => by apply runs_moveM <;> rfl⟩) ?_
      (try simp only [Act.put, List.setIfInBounds_toArray, List.set_cons_zero, List.set_cons_succ])
      refine anyC_take (i := 68) (oi := ⟨_, _, _, _, _, _⟩) (v := (bif !d2 then .int .i64 ((F.length : Int) - 1) else undef)) rfl (by kernel_rfl) (by kernel_rfl) (by kernel_rfl) (fun _ _ _ h => h) (by cases d2 <;> cases q3 <;> first | exact .inr ⟨by kernel_rfl, rfl⟩ | exact .inl ⟨by kernel_rfl, fun wz hz => by go_simp⟩) ?_
      (try simp only [Act.put, List.setIfInBounds_toArray, List.set_cons_zero, List.set_cons_succ])
      refine anyC_take (i := 69) (oi := ⟨_, _, _, _, _, _⟩) (v := (bif !d2 then .int .i64 x else undef)) rfl (by kernel_rfl) (by kernel_rfl) (by kernel_rfl) (fun _ _ _ h => h) (by cases d2 <;> cases q3 <;> first | exact .inr ⟨by kernel_rfl, rfl⟩ | exact .inl ⟨by kernel_rfl, fun wz hz => by apply runs_moveM <;> rfl⟩) ?_
      (try simp only [Act.put, List.setIfInBounds_toArray, List.set_cons_zero, List.set_cons_succ])
      refine anyC_call_if (i := 70) (o := ⟨_, _, _, _, _, _⟩) (f := 91) (args := #[.slice (some ⟨ab, ao, none⟩) L.length ca, .int .i64 ((F.length : Int) - 1), .int .i64 x]) (b := !d2) (v := .bool q3) rfl (by kernel_rfl) (by kernel_rfl) (by kernel_rfl) (fun _ _ _ h => h) (by kernel_rfl) (by cases d2 <;> cases q3 <;> kernel_rfl) (fun hb => by cases d2 <;> cases q3 <;> first | exact absurd hb (by decide) | (apply runs_call3 (he := enters_of Try.func91 (by kernel_rfl) rfl) <;> rfl)) z (fun hb => KC3.out _ z) ?_
      (try simp only [Act.put, List.setIfInBounds_toArray, List.set_cons_zero, List.set_cons_succ])
      refine anyC_take (i := 71) (oi := ⟨_, _, _, _, _, _⟩) (v := (bif !d2 then .bool q3 else undef)) rfl (by kernel_rfl) (by kernel_rfl) (by kernel_rfl) (fun _ _ _ h => h) (by cases d2 <;> cases q3 <;> first | exact .inr ⟨by kernel_rfl, rfl⟩ | exact .inl ⟨by kernel_rfl, fun wz hz => by apply runs_moveM <;> rfl⟩) ?_
      (try simp only [Act.put, List.setIfInBounds_toArray, List.set_cons_zero, List.set_cons_succ])
      refine anyC_take (i := 72) (oi := ⟨_, _, _, _, _, _⟩) (v := (bif (!d2 && q3) then .pointer (some ⟨w.heap.size + 1, 0, none⟩) else undef)) rfl (by kernel_rfl) (by kernel_rfl) (by kernel_rfl) (fun _ _ _ h => h) (by cases d2 <;> cases q3 <;> first | exact .inr ⟨by kernel_rfl, rfl⟩ | exact .inl ⟨by kernel_rfl, fun wz hz => by go_simp⟩) ?_
      (try simp only [Act.put, List.setIfInBounds_toArray, List.set_cons_zero, List.set_cons_succ])
      refine anyC_take (i := 73) (oi := ⟨_, _, _, _, _, _⟩) (v := (bif (!d2 && q3) then .slice (some ⟨mb, mo, none⟩) M.length cma else undef)) rfl (by kernel_rfl) (by kernel_rfl) (by kernel_rfl) (fun _ _ _ h => h) (by cases d2 <;> cases q3 <;> first | exact .inr ⟨by kernel_rfl, rfl⟩ | exact .inl ⟨by kernel_rfl, fun wz hz => by have c := KB0.out _ hz; go_simp⟩) ?_
      (try simp only [Act.put, List.setIfInBounds_toArray, List.set_cons_zero, List.set_cons_succ])
      refine anyC_take (i := 74) (oi := ⟨_, _, _, _, _, _⟩) (v := (bif (!d2 && q3) then .slice (some ⟨fb, fo, none⟩) F.length cf else undef)) rfl (by kernel_rfl) (by kernel_rfl) (by kernel_rfl) (fun _ _ _ h => h) (by cases d2 <;> cases q3 <;> first | exact .inr ⟨by kernel_rfl, rfl⟩ | exact .inl ⟨by kernel_rfl, fun wz hz => by apply runs_moveM <;> rfl⟩) ?_
      (try simp only [Act.put, List.setIfInBounds_toArray, List.set_cons_zero, List.set_cons_succ])
      refine anyC_take (i := 75) (oi := ⟨_, _, _, _, _, _⟩) (v := (bif (!d2 && q3) then .int .i64 (F.length : Int) else undef)) rfl (by kernel_rfl) (by kernel_rfl) (by kernel_rfl) (fun _ _ _ h => h) (by cases d2 <;> cases q3 <;> first | exact .inr ⟨by kernel_rfl, rfl⟩ | exact .inl ⟨by kernel_rfl, fun wz hz => by apply runs_moveM <;> rfl⟩) ?_
      (try simp only [Act.put, List.setIfInBounds_toArray, List.set_cons_zero, List.set_cons_succ])
      refine anyC_take (i := 76) (oi := ⟨_, _, _, _, _, _⟩) (v := (bif (!d2 && q3) then .int .i64 ((F.length : Int) - 1) else undef)) rfl (by kernel_rfl) (by kernel_rfl) (by kernel_rfl) (fun _ _ _ h => h) (by cases d2 <;> cases q3 <;> first | exact .inr ⟨by kernel_rfl, rfl⟩ | exact .inl ⟨by kernel_rfl, fun wz hz => by go_simp⟩) ?_
      (try simp only [Act.put, List.setIfInBounds_toArray, List.set_cons_zero, List.set_cons_succ])
      refine anyC_take (i := 77) (oi := ⟨_, _, _, _, _, _⟩) (v := (bif (!d2 && q3) then .pointer (some ⟨fb, fo + (F.length - 1), none⟩) else undef)) rfl (by kernel_rfl) (by kernel_rfl) (by kernel_rfl) (fun _ _ _ h => h) (by cases d2 <;> cases q3 <;> first | exact .inr ⟨by kernel_rfl, rfl⟩ | exact .inl ⟨by kernel_rfl, fun wz hz => by go_simp⟩) ?_
      (try simp only [Act.put, List.setIfInBounds_toArray, List.set_cons_zero, List.set_cons_succ])
      refine anyC_take (i := 78) (oi := ⟨_, _, _, _, _, _⟩) (v := (bif (!d2 && q3) then .int .i64 fk else undef)) rfl (by kernel_rfl) (by kernel_rfl) (by kernel_rfl) (fun _ _ _ h => h) (by cases d2 <;> cases q3 <;> first | exact .inr ⟨by kernel_rfl, rfl⟩ | exact .inl ⟨by kernel_rfl, fun wz hz => by have c := KFK.out _ hz; go_simp⟩) ?_
      (try simp only [Act.put, List.setIfInBounds_toArray, List.set_cons_zero, List.set_cons_succ])
      refine anyC_take (i := 79) (oi := ⟨_, _, _, _, _, _⟩) (v := (bif (!d2 && q3) then .slice (some ⟨fb, fo, none⟩) F.length cf else undef)) rfl (by kernel_rfl) (by kernel_rfl) (by kernel_rfl) (fun _ _ _ h => h) (by cases d2 <;> cases q3 <;> first | exact .inr ⟨by kernel_rfl, rfl⟩ | exact .inl ⟨by kernel_rfl, fun wz hz => by apply runs_moveM <;> rfl⟩) ?_
      (try simp only [Act.put, List.setIfInBounds_toArray, List.set_cons_zero, List.set_cons_succ])
      refine anyC_take (i := 80) (oi := ⟨_, _, _, _, _, _⟩) (v := (bif (!d2 && q3) then .int .i64 x else undef)) rfl (by kernel_rfl) (by kernel_rfl) (by kernel_rfl) (fun _ _ _ h => h) (by cases d2 <;> cases q3 <;> first | exact .inr ⟨by kernel_rfl, rfl⟩ | exact .inl ⟨by kernel_rfl, fun wz hz => by apply runs_moveM <;> rfl⟩) ?_
      (try simp only [Act.put, List.setIfInBounds_toArray, List.set_cons_zero, List.set_cons_succ])
      refine anyC_take (i := 81) (oi := ⟨_, _, _, _, _, _⟩) (v := (bif (!d2 && q3) then .pointer (some ⟨fb, fo + x.toNat, none⟩) else undef)) rfl (by kernel_rfl) (by kernel_rfl) (by kernel_rfl) (fun _ _ _ h => h) (by cases d2 <;> cases q3 <;> first | exact .inr ⟨by kernel_rfl, rfl⟩ | exact .inl ⟨by kernel_rfl, fun wz hz => by go_simp⟩) ?_
      (try simp only [Act.put, List.setIfInBounds_toArray, List.set_cons_zero, List.set_cons_succ])
      refine anyC_take (i := 82) (oi := ⟨_, _, _, _, _, _⟩) (v := (bif (!d2 && q3) then .int .i64 fx else undef)) rfl (by kernel_rfl) (by kernel_rfl) (by kernel_rfl) (fun _ _ _ h => h) (by cases d2 <;> cases q3 <;> first | exact .inr ⟨by kernel_rfl, rfl⟩ | exact .inl ⟨by kernel_rfl, fun wz hz => by have c := KFX.out _ hz; go_simp⟩) ?_
      (try simp only [Act.put, List.setIfInBounds_toArray, List.set_cons_zero, List.set_cons_succ])
      refine anyC_call_if (i := 83) (o := ⟨_, _, _, _, _, _⟩) (f := 91) (args := #[.slice (some ⟨mb, mo, none⟩) M.length cma, .int .i64 fk, .int .i64 fx]) (b := (!d2 && q3)) (v := .bool v3) rfl (by kernel_rfl) (by kernel_rfl) (by kernel_rfl) (fun _ _ _ h => h) (by kernel_rfl) (by cases d2 <;> cases q3 <;> kernel_rfl) (fun hb => by cases d2 <;> cases q3 <;> first | exact absurd hb (by decide) | (apply runs_call3 (he := enters_of Try.func91 (by kernel_rfl) rfl) <;> rfl)) z (fun hb => KD3.out _ z) ?_
      (try simp only [Act.put, List.setIfInBounds_toArray, List.set_cons_zero, List.set_cons_succ])
      refine anyC_take (i := 84) (oi := ⟨_, _, _, _, _, _⟩) (v := (bif (!d2 && q3) then .bool !v3 else undef)) rfl (by kernel_rfl) (by kernel_rfl) (by kernel_rfl) (fun _ _ _ h => h) (by cases d2 <;> cases q3 <;> first | exact .inr ⟨by kernel_rfl, rfl⟩ | exact .inl ⟨by kernel_rfl, fun wz hz => by go_simp⟩) ?_
      (try simp only [Act.put, List.setIfInBounds_toArray, List.set_cons_zero, List.set_cons_succ])
      refine anyC_take (i := 85) (oi := ⟨_, _, _, _, _, _⟩) (v := (bif !d2 then .bool (q3 && !v3) else undef)) rfl (by kernel_rfl) (by kernel_rfl) (by kernel_rfl) (fun _ _ _ h => h) (by cases d2 <;> cases q3 <;> cases v3 <;> first | exact .inr ⟨by kernel_rfl, rfl⟩ | exact .inl ⟨by kernel_rfl, fun wz hz => by go_simp⟩) ?_
      (try simp only [Act.put, List.setIfInBounds_toArray, List.set_cons_zero, List.set_cons_succ])
      refine anyC_take (i := 86) (oi := ⟨_, _, _, _, _, _⟩) (v := .bool d3) rfl (by kernel_rfl) (by kernel_rfl) (by kernel_rfl) (fun _ _ _ h => h) (.inl ⟨by kernel_rfl, fun wz hz => by rw [HD3.out]; cases d2 <;> cases q3 <;> cases v3 <;> go_simp⟩) ?_
      (try simp only [Act.put, List.setIfInBounds_toArray, List.set_cons_zero, List.set_cons_succ])
      refine anyC_done (by kernel_rfl) z ?_ _
      cases d3 with
      | true =>
        go_wp2
        go_ret
        exact ⟨_, rfl, hB.trans ((hbr.trans (z.mono hbr.size)).mono hB.size)⟩
      | false =>
        go_wp2
        go_roundw
        case rel => exact ⟨x + 1, by omega, by omega, rfl, hbr.trans (z.mono hbr.size)⟩
        case measure => simp [intOf]; omega
    · have hF := hB.trans (hbr.mono hB.size)
      go_wp2
      go_ret
      first | exact ⟨_, rfl, hF⟩ | exact hF | exact ⟨true, rfl, hF⟩ | simp [hF]
end Go.Proofs.Ytljnbhnnjfnjeaa
