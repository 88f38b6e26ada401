import Derived.Test.YtmapofenghjinaaN11
import Derived.Test.YtmapofenghjinaaG11
namespace Go.Proofs.Ytmapofenghjinaa
open Go.RowKit

theorem append13 (a b c d : Value) : (#[a] ++ #[b, c, d] : Array Value) = #[a, b, c, d] := rfl
theorem anyC_skip {P : Program} {ops : Array Oper} {md : Region.Mode} {Q : Exit → Act → World → Prop} {C : World → Prop} {i : Nat} {o : Oper} {fuel : Nat} {listed : Array Bool} {a : Act} {w w' : World} (hi : ops[i]? = some o)
    (hr : Region.ready md ops listed = [i]) (hw : Region.wanted o (yielded ops a.tmps) = true) (hx : (execOp a.eval o).run P w = .ok .skip w') (hC : C w)
    (h : wpAnyC P md ops Q C fuel (listed.setIfInBounds i true) (a.put o.dst undef) w') : wpAnyC P md ops Q C (fuel + 1) listed a w := by
  refine ⟨hC, fun h0 => (by rw [hr] at h0; cases h0), fun j hj => ?_⟩
  rw [hr, List.mem_singleton] at hj
  subst hj
  unfold wpOp
  simp only [hi, hw, if_true, Oper.wp, hx, Oper.upon]
  exact .inl h
theorem runs_move {P : Program} {o : Oper} {a : Act} (x : Operand) (ho : o.op = .move x) (v : Value) (hx : a.eval x = v) (w : World) : (execOp a.eval o).run P w = .ok (.value v) w := by
  subst hx
  unfold execOp
  simp [ho]
theorem runs_make3 {P : Program} {o : Oper} {a : Act} (f : FuncId) (x y z : Operand) (ho : o.op = .makeFunc (.func f) #[] #[x, y, z]) (u v t : Value) (hx : a.eval x = u) (hy : a.eval y = v) (hz : a.eval z = t) (w : World) : (execOp a.eval o).run P w = .ok (.value (.func (.func f) #[] #[u, v, t])) w := by
  subst hx hy hz
  unfold execOp
  simp [ho, Instr.makeFunc]
theorem runs_mid {P : Program} {C : World → Prop} {o : Oper} {a : Act} (ty : TypeId) (x : Operand) (ho : o.op = .load ty x) (g f : Nat) (hx : a.eval x = .pointer (some ⟨g, f, none⟩)) (cs : Array Value) (d : TypeDesc)
    (hg : ∀ w, C w → w.rangeAt g f cs.toList) (hu : P.underlying ty = some d) (hd : d.isRow = true) (hi : (P.info? ty).map (·.size) = some cs.size) (w : World) (hC : C w) : (execOp a.eval o).run P w = .ok (.value (.agg cs)) w := by
  unfold execOp
  simp only [ho, hx, Instr.loadAt, Instr.sureAddr, Sem.run_bind, Sem.run_pure, Result.andThen_ok, run_loadVar_mid w g f ty cs.toList d (hg w hC) hu hd (by simpa using hi)]
/-- the classes so far, noughts behind them -/
def mixC (L : List Int) (T : List (List Int)) (f x : Int) : List Int := lstTo (clsI L T f) x ++ List.replicate (L.length - x.toNat) 0
theorem mixC_len {L : List Int} {T : List (List Int)} {f x : Int} (x0 : 0 ≤ x) (x1 : x ≤ num L) : (mixC L T f x).length = L.length := by
  have h := lstTo_len (clsI L T f) x x0
  have : num L = L.length := rfl
  unfold mixC; rw [List.length_append, List.length_replicate]; omega
theorem mixC_set {L : List Int} {T : List (List Int)} {f x : Int} (x0 : 0 ≤ x) (x1 : x < num L) : (mixC L T f x).set x.toNat (clsI L T f x) = mixC L T f (x + 1) := by
  have h := lstTo_len (clsI L T f) x x0
  have hn : num L = L.length := rfl
  unfold mixC
  rw [List.set_append_right (h := by omega), lstTo_succ _ _ x0, List.append_assoc]
  congr 1
  have e1 : x.toNat - (lstTo (clsI L T f) x).length = 0 := by omega
  have e2 : L.length - x.toNat = (L.length - (x + 1).toNat) + 1 := by omega
  rw [e1, e2, List.replicate_succ]
  rfl
theorem mixC_all {L : List Int} {T : List (List Int)} {f : Int} : mixC L T f (num L) = lstTo (clsI L T f) (num L) := by
  have hn : num L = L.length := rfl
  unfold mixC
  rw [show L.length - (num L).toNat = 0 by omega]
  simp
theorem enters_cls : Enters 136 := enters_of Try.func136 (by kernel_rfl) rfl
theorem enters_els1 : Enters 130 := enters_of Try.func130 (by kernel_rfl) rfl
theorem enters_ixf : Enters 135 := enters_of Try.func135 (by kernel_rfl) rfl
/-- what the closure of classesBy reads -/
structure CB (ba bx bf : Nat) (L : List Int) (T : List (List Int)) (f x : Int) (w : World) : Prop where
  alg : AlgAt w ba L T
  x : w.heap[bx]? = some (.cells #[.int .i64 x] 3 (0, 0))
  f : w.heap[bf]? = some (.cells #[.int .i64 f] 3 (0, 0))
theorem CB.below {ba bx bf : Nat} {L : List Int} {T : List (List Int)} {f x : Int} {w w' : World} (h : CB ba bx bf L T f x w) (hb : Below w.heap.size w w') : CB ba bx bf L T f x w' :=
  ⟨h.alg.below hb h.alg.lt, (hb.block _ (lt_of_block h.x)).trans h.x, (hb.block _ (lt_of_block h.f)).trans h.f⟩
set_option maxRecDepth 100000 in
set_option maxHeartbeats 2000000 in
theorem clsClo_any (ba bx bf : Nat) (L : List Int) (T : List (List Int)) (f x y : Int) (w : World) (hC : CB ba bx bf L T f x w) (h : algB L T = true) (f0 : 0 ≤ f) (f6 : f ≤ 63) (x0 : 0 ≤ x) (x1 : x < num L) (y0 : 0 ≤ y) (y1 : y < num L) :
    Calls Try.prog 136 #[.int .i64 y, .pointer (some ⟨ba, 0, none⟩), .pointer (some ⟨bx, 0, none⟩), .pointer (some ⟨bf, 0, none⟩)] w fun e w' => e = .returned (.bool (clsQ L T f x y)) ∧ Below w.heap.size w w' := by
  have n6 := (lat_len (alg_lat h)).2
  obtain ⟨m0, m1⟩ := nearI_el h x y
  have Q := Lib.hid (show ∀ wz, Below w.heap.size w wz → CB ba bx bf L T f x wz from fun wz hz => hC.below hz)
  have hq := Lib.hid (show clsQ L T f x y = ib f (nearI L T x y) from rfl)
  have HA := Lib.hid h
  clear hC h
  go_enter Try.func136, Try.ntmps136
  go_wp2
  refine region_in (Below w.heap.size w) (by kernel_rfl) (by kernel_rfl) (Dr.below ⟨1, rfl⟩ _) fun hne => ?_
  have r1 : ∀ s : In (Below w.heap.size w), s.w.cell? ⟨bx, 0, none⟩ = some (.int .i64 x) := fun s => cell_of_one (Q.out _ s.h).x
  have r2 : ∀ s : In (Below w.heap.size w), s.w.cell? ⟨bf, 0, none⟩ = some (.int .i64 f) := fun s => cell_of_one (Q.out _ s.h).f
  repeat (first
    | (go_big_quiet_want; refine quiet_load_row 70 _ rfl ba rfl _ _ _ _ (fun w' ⟨s, hs⟩ => by rw [hs]; exact (Q.out _ s.h).alg) Try.underlying70 rfl (size_alg _ _ _ _ _ _) ?_; simp only [Act.put, List.setIfInBounds_toArray, List.set_cons_succ, List.set_cons_zero]; go_big_quiet_on)
    | go_big_quiet_step ((first | (go_at_call 137; exact in_below _ (Nat.le_refl _) (nearM_any L T x y _ HA.out x0 x1 y0 y1)) | (go_at_call 84; exact in_below _ (Nat.le_refl _) ((isIn_any (nearI L T x y) f _ m0 (by omega) f0 (by omega)).mono fun _ _ h => ⟨h.1, h.2 ▸ Below.refl _ _⟩)))))
  refine wpQuiet_nil ?_
  intro s
  have hw2 := s.h
  obtain ⟨w2, hw2'⟩ : ∃ w2, w2 = s.w := ⟨_, rfl⟩
  rw [← hw2'] at hw2 ⊢
  clear hw2'
  go_wp2
  go_ret
  exact ⟨ret_bool (by rw [hq.out]), hw2⟩
set_option maxRecDepth 100000 in
set_option maxHeartbeats 4000000 in
theorem classesBy_any (L : List Int) (T : List (List Int)) (f : Int) (w : World) (h : afB L T f = true) :
    Calls Try.prog 80 #[.agg (algOf L T), .int .i64 f] w (RetSl w.heap.size (lstTo (clsI L T f) (num L)) w) := by
  obtain ⟨hA, hF, f0, f6⟩ := afB_parts h
  obtain ⟨n1, n6⟩ := lat_len (alg_lat hA)
  have n6' : (L.length : Int) ≤ 6 := n6
  have hmk := run_make_ints L.length (by omega)
  obtain ⟨w1, hw1⟩ : ∃ w1, w1 = (w.alloc (.cells (algOf L T) 70)).alloc (.cells #[.int .i64 f] 3) := ⟨_, rfl⟩
  have hB : Below w.heap.size w w1 := by rw [hw1]; exact ((Below.refl _ _).alloc (Nat.le_refl _) _).alloc (by simp) _
  have hal : AlgAt w1 w.heap.size L T := by rw [hw1]; exact (AlgAt.new w L T).alloc _
  have hs : w1.heap[w.heap.size + 1]? = some (.cells #[.int .i64 f] 3 (0, 0)) := by rw [hw1]; exact heap_alloc2_new _ _ _
  have c0 := hal.size
  have hz1 : w1.heap.size = w.heap.size + 1 + 1 := by rw [hw1]; simp
  have HA := Lib.hid hA
  clear h hF hA
  go_enter Try.func80, Try.ntmps80
  go_wp2_with (rw [← hw1]; clear hw1)
  clear hmk c0
  go_loopw [6, 13] (fun _ c wr => ∃ x : Int, 0 ≤ x ∧ x ≤ num L ∧ c = .int .i64 x ∧ Row wr (w.heap.size + 1 + 1) (mixC L T f x) ∧ AlgAt wr w.heap.size L T ∧ wr.heap[w.heap.size + 1]? = some (.cells #[.int .i64 f] 3 (0, 0)) ∧ Below w.heap.size w wr) (fun _ c _ => (6 - intOf c).toNat)
  case atStart =>
    refine ⟨0, by omega, by omega, rfl, ?_, hal.alloc _, ?_, hB.alloc hB.size _⟩
    · rw [← hz1]; exact heap_alloc_new w1 _
    · rw [Below.heap_alloc _ _ _ (lt_of_block hs)]; exact hs
  case round =>
    clear hB hal hs hz1 w1
    obtain ⟨x, x0, x1, rfl, hrow, hal, hs, hB⟩ := hrel
    by_cases hx : x < num L
    · have hxl : x < L.length := hx
      go_wp2
      obtain ⟨bx, hbx⟩ : ∃ bx, bx = wr.heap.size := ⟨_, rfl⟩
      obtain ⟨wq, hwq⟩ : ∃ wq, wq = wr.alloc (.cells #[.int .i64 x] 3) := ⟨_, rfl⟩
      rw [← hwq, ← hbx]
      have hC : CB w.heap.size bx (w.heap.size + 1) L T f x wq := by
        rw [hwq, hbx]
        exact ⟨hal.alloc _, heap_alloc_new wr _, by rw [Below.heap_alloc _ _ _ (lt_of_block hs)]; exact hs⟩
      have hrq : Row wq (w.heap.size + 1 + 1) (mixC L T f x) := by rw [hwq]; exact hrow.alloc _
      have hBq : Below w.heap.size w wq := by rw [hwq]; exact hB.alloc hB.size _
      have hlb := hrow.lt
      have hbg : w.heap.size + 1 + 1 < bx := by rw [hbx]; exact hlb
      clear hrow hal hs hB hwq hbx hlb
      refine wp_region_any (by kernel_rfl) ?_
      refine any_of_C (C := CB w.heap.size bx (w.heap.size + 1) L T f x) _ _ _ _ ?_
      refine anyC_take (i := 0) (v := .slice (some ⟨w.heap.size + 1 + 1, 0, none⟩) L.length L.length) rfl (by kernel_rfl) (by kernel_rfl) (by kernel_rfl) (fun _ _ _ h => h) (.inl ⟨rfl, fun wz hz => by apply runs_move <;> rfl⟩) ?_
      refine anyC_take (i := 1) (v := .int .i64 x) rfl (by kernel_rfl) (by kernel_rfl) (by kernel_rfl) (fun _ _ _ h => h) (.inl ⟨rfl, fun wz hz => by have c := cell_of_one hz.x; go_simp⟩) ?_
      refine anyC_take (i := 2) (v := .pointer (some ⟨w.heap.size, 0, none⟩)) rfl (by kernel_rfl) (by kernel_rfl) (by kernel_rfl) (fun _ _ _ h => h) (.inl ⟨rfl, fun wz hz => by go_simp⟩) ?_
      refine anyC_take (i := 3) (v := .agg (latOf L)) rfl (by kernel_rfl) (by kernel_rfl) (by kernel_rfl) (fun _ _ _ h => h) (.inl ⟨rfl, fun wz hz => runs_mid (C := CB w.heap.size bx (w.heap.size + 1) L T f x) 68 _ rfl w.heap.size 0 rfl (latOf L) _ (fun w hw => hw.alg.lat) Try.underlying68 rfl (size_latOf L) wz hz⟩) ?_
      refine anyC_take (i := 5) (v := .func (.func 136) #[] #[.pointer (some ⟨w.heap.size, 0, none⟩), .pointer (some ⟨bx, 0, none⟩), .pointer (some ⟨w.heap.size + 1, 0, none⟩)]) rfl (by kernel_rfl) (by kernel_rfl) (by kernel_rfl) (fun _ _ _ h => h) (.inl ⟨rfl, fun wz hz => by apply runs_make3 <;> rfl⟩) ?_
      have zd : Below wq.heap.size wq (wq.drewN 1) := Dr.below ⟨1, rfl⟩ _
      refine anyC_call (i := 4) (o := _) (f := 130) (args := #[.agg (latOf L)]) rfl (by kernel_rfl) rfl (by apply runs_call1 (he := enters_els1) <;> rfl) (hC.below zd) ?_
      refine (elements_any L (wq.drewN 1) n6').mono ?_
      rintro e w11 ⟨a3, c3, rfl, o3, h3⟩
      have y11 : Below wq.heap.size wq w11 := zd.trans (h3.mono zd.size)
      refine ⟨_, rfl, ?_⟩
      refine anyC_call (i := 6) (o := _) (f := 135) (args := #[.slice a3 (lstTo (fun i => i) (L.length : Int)).length c3, .func (.func 136) #[] #[.pointer (some ⟨w.heap.size, 0, none⟩), .pointer (some ⟨bx, 0, none⟩), .pointer (some ⟨w.heap.size + 1, 0, none⟩)]]) rfl (by kernel_rfl) rfl (by apply runs_call2 (he := enters_ixf) <;> rfl) (hC.below y11) ?_
      refine (indexFunc_any 136 #[.pointer (some ⟨w.heap.size, 0, none⟩), .pointer (some ⟨bx, 0, none⟩), .pointer (some ⟨w.heap.size + 1, 0, none⟩)] a3 c3 _ (L.length : Int) (clsQ L T f x) w11 o3.rd rfl (by omega) n6' enters_cls (fun y wr' y0 y1 hb => by rw [append13]; exact clsClo_any _ _ _ L T f x y wr' ((hC.below y11).below hb) HA.out f0 f6 x0 hx y0 y1)).mono ?_
      rintro e w12 ⟨rfl, h4⟩
      have y12 : Below wq.heap.size wq w12 := y11.trans (h4.mono y11.size)
      refine ⟨_, rfl, ?_⟩
      have hr12 := hrq.below y12 hrq.lt
      have hC12 := hC.below y12
      have hlen := mixC_len (L := L) (T := T) (f := f) x0 (show x ≤ num L by omega)
      have d0 := hr12.cell x0 (by rw [hlen]; exact hxl)
      have fz := hr12.free x.toNat
      have hB12 : Below w.heap.size w w12 := hBq.trans (y12.mono hBq.size)
      have hset := Lib.hid (mixC_set (L := L) (T := T) (f := f) x0 hx)
      have hC13 : CB w.heap.size bx (w.heap.size + 1) L T f x (w12.setCell ⟨w.heap.size + 1 + 1, x.toNat, none⟩ (.int .i64 (clsI L T f x))) :=
        ⟨(heap_setCell_other w12 _ _ _ (by simp <;> omega)).trans hC12.alg, (heap_setCell_other w12 _ _ _ (by simp; omega)).trans hC12.x, (heap_setCell_other w12 _ _ _ (by simp <;> omega)).trans hC12.f⟩
      refine anyC_take (i := 7) (v := .pointer (some ⟨w.heap.size + 1 + 1, x.toNat, none⟩)) rfl (by kernel_rfl) (by kernel_rfl) (by kernel_rfl) (fun _ _ _ h => h) (.inl ⟨rfl, fun wz hz => by go_simp⟩) ?_
      refine anyC_skip (i := 8) (o := _) (w' := w12.setCell ⟨w.heap.size + 1 + 1, x.toNat, none⟩ (.int .i64 (clsI L T f x))) rfl (by kernel_rfl) rfl ?_ hC12 ?_
      · go_simp
        rfl
      refine anyC_done (by kernel_rfl) hC13 ?_ _
      simp only [List.getElem_toArray, List.getElem_cons_zero, List.getElem_cons_succ, Act.put, List.setIfInBounds_toArray, List.set_cons_succ, List.set_cons_zero]
      go_wp2
      go_roundw
      case rel => exact ⟨x + 1, by omega, by omega, rfl, by rw [← hset.out]; exact hr12.set _ _, hC13.alg, hC13.f, hB12.setCell (by simp; omega) _⟩
      case measure => simp [intOf]; omega
    · have e : x = num L := by omega
      subst e
      have hl := lstTo_len (clsI L T f) (num L) (by omega)
      rw [mixC_all] at hrow
      have hlL : (lstTo (clsI L T f) (num L)).length = L.length := by have : num L = L.length := rfl; omega
      have HL := Lib.hid hlL
      clear hl hlL
      go_wp2
      go_ret
      refine ⟨some ⟨w.heap.size + 1 + 1, 0, none⟩, L.length, by rw [HL.out]; rfl, ?_, hB⟩
      have := Own.row (B := w.heap.size) hrow (by omega) (by rw [HL.out]; unfold maxLen; omega)
      rw [HL.out] at this ⊢
      exact this
end Go.Proofs.Ytmapofenghjinaa
