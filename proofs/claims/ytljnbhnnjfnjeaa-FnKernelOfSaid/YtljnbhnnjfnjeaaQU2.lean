import Derived.Test.YtljnbhnnjfnjeaaQU1
namespace Go.Proofs.Ytljnbhnnjfnjeaa
open Go.RowKit
set_option linter.unusedVariables false

def quL (L : List Int) (T : List (List Int)) (f : Int) : List Int := if afB L T f then upL (quG L T f) ((quW L T f).length : Int) else []
def quTb (L : List Int) (T : List (List Int)) (f : Int) : List (List Int) := if afB L T f then tabL (quM L T f) ((quW L T f).length : Int) else []
def quTo (L : List Int) (T : List (List Int)) (f : Int) : List Int := if afB L T f then quT L T f else []
theorem qu_no {L : List Int} {T : List (List Int)} {f : Int} (h : afB L T f = false) : afB L T f = false ∧ quL L T f = [] ∧ quTb L T f = [] ∧ quTo L T f = [] := ⟨h, by unfold quL; rw [h]; rfl, by unfold quTb; rw [h]; rfl, by unfold quTo; rw [h]; rfl⟩
theorem qu_yes {L : List Int} {T : List (List Int)} {f : Int} (h : afB L T f = true) : afB L T f = true ∧ quL L T f = upL (quG L T f) ((quW L T f).length : Int) ∧ quTb L T f = tabL (quM L T f) ((quW L T f).length : Int) ∧ quTo L T f = quT L T f := ⟨h, by unfold quL; rw [h]; rfl, by unfold quTb; rw [h]; rfl, by unfold quTo; rw [h]; rfl⟩
theorem quT_len {L : List Int} {T : List (List Int)} {f : Int} (n1 : 0 ≤ num L) : (quT L T f).length = L.length := by
  have h := lstTo_len (quC L T f) (num L) n1
  have : num L = L.length := rfl
  unfold quT; omega
theorem quW_6 {L : List Int} {T : List (List Int)} {f : Int} (h : afB L T f = true) : (quW L T f).length ≤ 6 := by
  obtain ⟨hA, hF, _, _⟩ := afB_parts h
  have := quW_len hA hF
  have := (lat_len (alg_lat hA)).2
  omega
theorem qu_ti (L : List Int) (T : List (List Int)) (f : Int) : Ti (quL L T f) (quTb L T f) := by
  cases h : afB L T f with
  | false => rw [(qu_no h).2.1, (qu_no h).2.2.1]; exact Ti.zero
  | true =>
    have h6 := quW_6 h
    rw [(qu_yes h).2.1, (qu_yes h).2.2.1]
    refine ⟨by rw [stU_len]; omega, by rw [tabL_len]; omega, fun j hj => ?_⟩
    rw [tabL_len] at hj
    rw [tabL_rlen _ hj]; omega
theorem quTo_len (L : List Int) (T : List (List Int)) (f : Int) : (quTo L T f).length ≤ 6 := by
  cases h : afB L T f with
  | false => rw [(qu_no h).2.2.2]; simp
  | true =>
    obtain ⟨hA, _⟩ := afB_parts h
    obtain ⟨n1, n6⟩ := lat_len (alg_lat hA)
    rw [(qu_yes h).2.2.2, quT_len (by omega)]
    have : num L = L.length := rfl
    omega
/-- an algebra and a list, in blocks of their own that lie apart, and whether there are any -/
def RetGAsb (L : List Int) (T : List (List Int)) (W : List Int) (V : Bool) (w : World) (e : Ending) (w' : World) : Prop :=
  ∃ (a : Option Addr) (n c : Nat) (b : Option Addr) (m d : Nat) (s : Option Addr) (k q z : Nat), e = .returned (.tuple #[.agg #[.slice a n c, .slice b m d], .slice s k q, .bool V]) ∧ GA z w'.heap.size w' (.slice a n c) (.slice b m d) L T ∧ GS w.heap.size z w' (.slice s k q) W ∧ w.heap.size ≤ z ∧ z ≤ w'.heap.size ∧ Below w.heap.size w w'
theorem results_Alg_tmpQ {fn : Func} {p u v : Tmp} (h : fn.results = #[.cell p 26, .tmp u, .tmp v]) (tmps : Array Value) (w : World) (g : Nat) (hp : tmps.getD p undef = .pointer (some ⟨g, 0, none⟩))
    (s t : Value) {x y : Value} (hg : w.heap[g]? = some (.cells #[s, t] 26 (0, 0))) (hu : tmps.getD u undef = x) (hv : tmps.getD v undef = y) :
    (results fn tmps).run Try.prog w = .ok (.tuple #[.agg #[s, t], x, y]) w := by
  have hp' : tmps[p]?.getD undef = .pointer (some ⟨g, 0, none⟩) := by simpa using hp
  have hu' : tmps[u]?.getD undef = x := by simpa using hu
  have hv' : tmps[v]?.getD undef = y := by simpa using hv
  have hl := run_loadVar_row (P := Try.prog) w g _ 26 _ _ _ hg Try.underlying26 rfl (size_Alg _ _)
  simp [results, h, hp', hu', hv', asAddr, hl]
def mixP (p : Int → Int) (n : Nat) (x : Int) : List Int := lstTo p x ++ List.replicate (n - x.toNat) 0
theorem mixP_len {p : Int → Int} {n : Nat} {x : Int} (x0 : 0 ≤ x) (x1 : x ≤ n) : (mixP p n x).length = n := by
  have h := lstTo_len p x x0
  unfold mixP; rw [List.length_append, List.length_replicate]; omega
theorem mixP_set {p : Int → Int} {n : Nat} {x : Int} (x0 : 0 ≤ x) (x1 : x < n) : (mixP p n x).set x.toNat (p x) = mixP p n (x + 1) := by
  have h := lstTo_len p x x0
  unfold mixP
  rw [List.set_append_right (h := by omega), lstTo_succ _ _ x0, List.append_assoc]
  congr 1
  have e1 : x.toNat - (lstTo p x).length = 0 := by omega
  have e2 : n - x.toNat = (n - (x + 1).toNat) + 1 := by omega
  rw [e1, e2, List.replicate_succ]
  rfl
theorem mixP_all {p : Int → Int} {n : Nat} : mixP p n n = lstTo p n := by
  unfold mixP
  rw [show n - ((n : Int)).toNat = 0 by omega]
  simp
theorem enters_ix : Enters 39 := enters_of Try.func39 (by kernel_rfl) rfl
set_option maxRecDepth 100000 in
set_option maxHeartbeats 4000000 in
theorem implQuot_no (a b : Option Addr) (ca cb : Nat) (L : List Int) (T : List (List Int)) (f : Int) (w : World) (hr : Rd w a L) (hT : RdT w b T) (h : afB L T f = false) : Calls Try.prog 15 #[.agg #[.slice a L.length ca, .slice b T.length cb], .int .i64 f] w (RetGAsb (quL L T f) (quTb L T f) (quTo L T f) (afB L T f) w) := by
  obtain ⟨w1, hw1⟩ : ∃ w1, w1 = ((w.alloc (.cells #[.slice a L.length ca, .slice b T.length cb] 26)).alloc (.cells #[.int .i64 f] 3)).alloc (.cells #[.slice none 0 0, .slice none 0 0] 26) := ⟨_, rfl⟩
  have hB : Below w.heap.size w w1 := by rw [hw1]; exact (((Below.refl _ _).alloc (Nat.le_refl _) _).alloc (by simp) _).alloc (by simp; omega) _
  have hx : w1.heap[w.heap.size]? = some (.cells #[.slice a L.length ca, .slice b T.length cb] 26 (0, 0)) := by
    rw [hw1, Below.heap_alloc _ _ _ (by simp; omega), Below.heap_alloc _ _ _ (by simp)]; exact heap_alloc_new w _
  have hx2 : w1.heap[w.heap.size + 1]? = some (.cells #[.int .i64 f] 3 (0, 0)) := by
    rw [hw1, Below.heap_alloc _ _ _ (by simp)]; exact heap_alloc2_new _ _ _
  have hz : w1.heap[w.heap.size + 1 + 1]? = some (.cells #[.slice none 0 0, .slice none 0 0] 26 (0, 0)) := by
    have := heap_alloc_new ((w.alloc (.cells #[.slice a L.length ca, .slice b T.length cb] 26)).alloc (.cells #[.int .i64 f] 3)) (.cells #[.slice none 0 0, .slice none 0 0] 26)
    rw [hw1]; simpa using this
  have Kx := Lib.hid (show ∀ wz, Below w1.heap.size w1 wz → wz.heap[w.heap.size]? = some (.cells #[.slice a L.length ca, .slice b T.length cb] 26 (0, 0)) from fun wz h => (h.block _ (lt_of_block hx)).trans hx)
  have Kf := Lib.hid (show ∀ wz, Below w1.heap.size w1 wz → wz.heap[w.heap.size + 1]? = some (.cells #[.int .i64 f] 3 (0, 0)) from fun wz h => (h.block _ (lt_of_block hx2)).trans hx2)
  have Kz := Lib.hid (show ∀ wz, Below w1.heap.size w1 wz → wz.heap[w.heap.size + 1 + 1]? = some (.cells #[.slice none 0 0, .slice none 0 0] 26 (0, 0)) from fun wz h => (h.block _ (lt_of_block hz)).trans hz)
  have KR := Lib.hid (show ∀ wz, Below w1.heap.size w1 wz → Rd wz a L from fun wz h => (hr.below hB).below h)
  have KT := Lib.hid (show ∀ wz, Below w1.heap.size w1 wz → RdT wz b T from fun wz h => (hT.below hB).below h)
  have hsz : w.heap.size + 1 + 1 < w1.heap.size := lt_of_block hz
  have z1 : Below w1.heap.size w1 w1 := Below.refl _ _
  have cf1 := cell_of_one hx2
  clear hx hx2 hz hr hT
  have HN := Lib.hid h
  have HV := Lib.hid (qu_no h)
  clear h
  go_enter Try.func15, Try.ntmps15
  go_wp2_with (first
    | go_skip
    | (rw [← hw1]; clear hw1)
    | (refine wpList_load_row_w rfl 26 _ rfl w.heap.size rfl _ _ _ _ (Kx.out _ (by assumption)) Try.underlying26 rfl (size_Alg _ _) ?_)
    | (go_at_call 32; refine (readFil_no a b ca cb L T f _ (KR.out _ z1) (KT.out _ z1) HN.out).mono ?_; rintro e w2 ⟨rfl, h2⟩; have z2 : Below w1.heap.size w1 w2 := h2; clear h2)
    | (refine wpList_store_row rfl 52 _ _ rfl w2.heap.size (zeroAlg) rfl rfl _ _ (heap_alloc_new w2 (.cells zeroAlg 52)) size_zeroAlg rfl one_zeroAlg ?_; rw [World.setRow_alloc_new]; obtain ⟨g1, hg1⟩ : ∃ bl, bl = w2.heap.size := ⟨_, rfl⟩; obtain ⟨w3, hw3⟩ : ∃ x : World, x = w2.alloc (.cells (zeroAlg) 52) := ⟨_, rfl⟩; rw [← hw3, ← hg1]; have q3 : Below w2.heap.size w2 w3 := (by rw [hw3]; exact (Below.refl _ _).alloc (Nat.le_refl _) _); have lg1 : w2.heap.size ≤ g1 := Nat.le_of_eq hg1.symm; have z3 : Below w1.heap.size w1 w3 := z2.trans (q3.mono z2.size); have s2 := z2.size; clear hw3 hg1 z2 q3)
    | (refine wpList_store_row rfl 26 _ _ rfl (w.heap.size + 1 + 1) #[.slice none 0 0, .slice none 0 0] rfl rfl _ _ (Kz.out _ z3) (size_Alg _ _) rfl (one_sl2 _ _ _ _ _ _) ?_))
  refine bodyPost_ret (v := .tuple #[.agg #[.slice none 0 0, .slice none 0 0], .slice none 0 0, .bool false]) (results_Alg_tmpQ rfl _ _ (w.heap.size + 1 + 1) rfl _ _ (setRow_heap _ _ _ _ _ _ (Kz.out _ z3)) rfl rfl) rfl ?_
  rw [HV.out.1, HV.out.2.1, HV.out.2.2.1, HV.out.2.2.2]
  have hbz := below_setRow' (hB.trans (z3.mono hB.size)) (by omega : w.heap.size ≤ w.heap.size + 1 + 1) #[.slice none 0 0, .slice none 0 0]
  exact ⟨_, _, _, _, _, _, _, _, _, w.heap.size, rfl, GA.zero _ _ hbz.size _, GS.zero _ _ _, Nat.le_refl _, hbz.size, hbz⟩
set_option maxRecDepth 100000 in
set_option maxHeartbeats 8000000 in
theorem implQuot_yes (a b : Option Addr) (ca cb : Nat) (L : List Int) (T : List (List Int)) (f : Int) (w : World) (hr : Rd w a L) (hT : RdT w b T) (h : afB L T f = true) : Calls Try.prog 15 #[.agg #[.slice a L.length ca, .slice b T.length cb], .int .i64 f] w (RetGAsb (quL L T f) (quTb L T f) (quTo L T f) (afB L T f) w) := by
  obtain ⟨w1, hw1⟩ : ∃ w1, w1 = ((w.alloc (.cells #[.slice a L.length ca, .slice b T.length cb] 26)).alloc (.cells #[.int .i64 f] 3)).alloc (.cells #[.slice none 0 0, .slice none 0 0] 26) := ⟨_, rfl⟩
  have hB : Below w.heap.size w w1 := by rw [hw1]; exact (((Below.refl _ _).alloc (Nat.le_refl _) _).alloc (by simp) _).alloc (by simp; omega) _
  have hx : w1.heap[w.heap.size]? = some (.cells #[.slice a L.length ca, .slice b T.length cb] 26 (0, 0)) := by
    rw [hw1, Below.heap_alloc _ _ _ (by simp; omega), Below.heap_alloc _ _ _ (by simp)]; exact heap_alloc_new w _
  have hx2 : w1.heap[w.heap.size + 1]? = some (.cells #[.int .i64 f] 3 (0, 0)) := by
    rw [hw1, Below.heap_alloc _ _ _ (by simp)]; exact heap_alloc2_new _ _ _
  have hz : w1.heap[w.heap.size + 1 + 1]? = some (.cells #[.slice none 0 0, .slice none 0 0] 26 (0, 0)) := by
    have := heap_alloc_new ((w.alloc (.cells #[.slice a L.length ca, .slice b T.length cb] 26)).alloc (.cells #[.int .i64 f] 3)) (.cells #[.slice none 0 0, .slice none 0 0] 26)
    rw [hw1]; simpa using this
  have Kx := Lib.hid (show ∀ wz, Below w1.heap.size w1 wz → wz.heap[w.heap.size]? = some (.cells #[.slice a L.length ca, .slice b T.length cb] 26 (0, 0)) from fun wz h => (h.block _ (lt_of_block hx)).trans hx)
  have Kf := Lib.hid (show ∀ wz, Below w1.heap.size w1 wz → wz.heap[w.heap.size + 1]? = some (.cells #[.int .i64 f] 3 (0, 0)) from fun wz h => (h.block _ (lt_of_block hx2)).trans hx2)
  have Kz := Lib.hid (show ∀ wz, Below w1.heap.size w1 wz → wz.heap[w.heap.size + 1 + 1]? = some (.cells #[.slice none 0 0, .slice none 0 0] 26 (0, 0)) from fun wz h => (h.block _ (lt_of_block hz)).trans hz)
  have KR := Lib.hid (show ∀ wz, Below w1.heap.size w1 wz → Rd wz a L from fun wz h => (hr.below hB).below h)
  have KT := Lib.hid (show ∀ wz, Below w1.heap.size w1 wz → RdT wz b T from fun wz h => (hT.below hB).below h)
  have hsz : w.heap.size + 1 + 1 < w1.heap.size := lt_of_block hz
  have z1 : Below w1.heap.size w1 w1 := Below.refl _ _
  have cf1 := cell_of_one hx2
  clear hx hx2 hz hr hT
  have HN := Lib.hid h
  obtain ⟨ha, hf, f0, f6⟩ := afB_parts h
  have HA := Lib.hid ha
  have HF := Lib.hid hf
  have HV := Lib.hid (qu_yes h)
  obtain ⟨l1, l6⟩ := lat_len (alg_lat ha)
  have n1 : (1 : Int) ≤ L.length := l1
  have n6 : (L.length : Int) ≤ 6 := l6
  have W6 := quW_6 h
  have W0 := quW_pos (L := L) (T := T) (f := f)
  have hmk := run_make_ints L.length (by omega)
  have hcl : (((lstTo (clsI L T f) (num L)).length : Nat) : Int) = L.length := by have := lstTo_len (clsI L T f) (num L) (by omega); have e : num L = L.length := rfl; omega
  have HCN := Lib.hid (show ∀ x, El L x → nth (lstTo (clsI L T f) (num L)) x = clsI L T f x from fun x hx => lstTo_nth _ hx.1 hx.2)
  have HQ := Lib.hid (show ∀ x, El L x → 0 ≤ quC L T f x ∧ quC L T f x < (quW L T f).length ∧ nth (quW L T f) (quC L T f x) = clsI L T f x ∧ ∀ j, 0 ≤ j → j < quC L T f x → nth (quW L T f) j ≠ clsI L T f x from fun x hx => quC_ok ha hf hx)
  have HTL := Lib.hid (show (quT L T f).length = L.length from quT_len (by omega))
  have HTN := Lib.hid (show ∀ x, El L x → nth (quT L T f) x = quC L T f x from fun x hx => by unfold quT; exact lstTo_nth _ hx.1 hx.2)
  clear h ha hf l1 l6
  go_enter Try.func15, Try.ntmps15
  go_wp2_with (first
    | go_skip
    | (rw [← hw1]; clear hw1)
    | (refine wpList_load_row_w rfl 26 _ rfl w.heap.size rfl _ _ _ _ (Kx.out _ (by assumption)) Try.underlying26 rfl (size_Alg _ _) ?_)
    | (go_at_call 32; refine (readFil_good a b ca cb L T f _ (KR.out _ z1) (KT.out _ z1) HN.out).mono ?_; rintro e w2 ⟨rfl, h2⟩; have z2 : Below w1.heap.size w1 w2 := h2; clear h2)
    | (refine wpList_store_row rfl 52 _ _ rfl w2.heap.size (algOf L T) rfl rfl _ _ (heap_alloc_new w2 (.cells zeroAlg 52)) (size_alg _ _ _ _ _ _) rfl (one_alg _ _ _ _ _ _) ?_; rw [World.setRow_alloc_new]; obtain ⟨g1, hg1⟩ : ∃ bl, bl = w2.heap.size := ⟨_, rfl⟩; obtain ⟨w3, hw3⟩ : ∃ x : World, x = w2.alloc (.cells (algOf L T) 52) := ⟨_, rfl⟩; rw [← hw3, ← hg1]; have hA := (show AlgAt w3 g1 L T from by rw [hw3, hg1]; exact AlgAt.new w2 L T); have ltg := hA.lt; have KA := Lib.hid (show ∀ wz, Below w3.heap.size w3 wz → AlgAt wz g1 L T from fun wz h => hA.below h hA.lt); have q3 : Below w2.heap.size w2 w3 := (by rw [hw3]; exact (Below.refl _ _).alloc (Nat.le_refl _) _); have lg1 : w2.heap.size ≤ g1 := Nat.le_of_eq hg1.symm; have z3 : Below w1.heap.size w1 w3 := z2.trans (q3.mono z2.size); have s2 := z2.size; have s3 := z3.size; have y3 : Below w3.heap.size w3 w3 := Below.refl _ _; have cf3 := cell_of_one (Kf.out _ z3); clear hw3 hg1 z2 q3 hA)
    | (refine wpList_load_row_w rfl 52 _ rfl g1 rfl _ _ _ _ (KA.out _ (by assumption)) Try.underlying52 rfl (size_alg _ _ _ _ _ _) ?_)
    | (go_at_call 37; refine (classesBy_any L T f _ HN.out).mono ?_; rintro e w4 ⟨a4, c4, rfl, o4, h4⟩; have y4 : Below w3.heap.size w3 w4 := h4; have s4 := h4.size; obtain ⟨gc, rfl, lc, tc, hcC⟩ := own_ix o4 (by omega); have KC := Lib.hid hcC; clear hcC y3 h4)
    | (go_at_call 38; refine (headsOf_any L T f _ c4 _ w4 hcl HCN.out o4.rd HA.out HF.out).mono ?_; rintro e w5 ⟨a5, c5, rfl, o5, h5⟩; have y5 : Below w3.heap.size w3 w5 := y4.trans (h5.mono y4.size); have s5 := h5.size; obtain ⟨g, rfl, lg, tg, hcW⟩ := own_ix o5 W0; replace KC := Lib.hid (show ∀ wz, Below w5.heap.size w5 wz → ∀ k : Int, 0 ≤ k → k < (lstTo (clsI L T f) (num L)).length → wz.cell? ⟨gc, k.toNat, none⟩ = some (.int .i64 (nth (lstTo (clsI L T f) (num L)) k)) from fun wz h => KC.out _ (h5.trans (h.mono h5.size))); have KW := Lib.hid hcW; clear hcW y4 h5 o4 o5)
    | (obtain ⟨bo, hbo⟩ : ∃ x : Nat, x = w5.heap.size := ⟨_, rfl⟩; obtain ⟨w6, hw6⟩ : ∃ x : World, x = w5.alloc (.cells #[.slice (some ⟨g, 0, none⟩) (quW L T f).length c5] 23) := ⟨_, rfl⟩; rw [← hw6, ← hbo]; have q6 : Below w5.heap.size w5 w6 := (by rw [hw6]; exact (Below.refl _ _).alloc (Nat.le_refl _) _); have hf6 : w6.heap[bo]? = some (.cells #[.slice (some ⟨g, 0, none⟩) (quW L T f).length c5] 23 (0, 0)) := (by rw [hw6, hbo]; exact heap_alloc_new w5 _); have y6 : Below w3.heap.size w3 w6 := y5.trans (q6.mono y5.size); have s6 := q6.size; have KO := Lib.hid (show ∀ wz, Below w6.heap.size w6 wz → wz.heap[bo]? = some (.cells #[.slice (some ⟨g, 0, none⟩) (quW L T f).length c5] 23 (0, 0)) from fun wz h => (h.block _ (lt_of_block hf6)).trans hf6); replace KW := Lib.hid (show ∀ wz, Below w6.heap.size w6 wz → ∀ k : Int, 0 ≤ k → k < (quW L T f).length → wz.cell? ⟨g, k.toNat, none⟩ = some (.int .i64 (nth (quW L T f) k)) from fun wz h => KW.out _ (q6.trans (h.mono q6.size))); replace KC := Lib.hid (show ∀ wz, Below w6.heap.size w6 wz → ∀ k : Int, 0 ≤ k → k < (lstTo (clsI L T f) (num L)).length → wz.cell? ⟨gc, k.toNat, none⟩ = some (.int .i64 (nth (lstTo (clsI L T f) (num L)) k)) from fun wz h => KC.out _ (q6.trans (h.mono q6.size))); replace KA := Lib.hid (show ∀ wz, Below w6.heap.size w6 wz → AlgAt wz g1 L T from fun wz h => KA.out _ (y6.trans (h.mono y6.size))); have K6 := Lib.hid (show ∀ wz, Below w6.heap.size w6 wz → Below w1.heap.size w1 wz from fun wz h => (z3.trans (y6.mono z3.size)).trans (h.mono (by have := y6.size; omega))); have a6 := (KA.out _ (Below.refl _ _)).size; clear hw6 hbo hf6 y5 q6))
  clear hmk cf1 cf3 a6
  obtain ⟨gt, hgt⟩ : ∃ x : Nat, x = w6.heap.size := ⟨_, rfl⟩
  have HC6 := Lib.hid hcl
  clear hcl
  go_loopw [12, 36] (fun _ c wr => ∃ x : Int, 0 ≤ x ∧ x ≤ L.length ∧ c = .int .i64 x ∧ Row wr w6.heap.size (mixP (quC L T f) L.length x) ∧ wr.heap[w6.heap.size + 1]? = some (.cells #[.slice (some ⟨w6.heap.size, 0, none⟩) L.length L.length] 23 (0, 0)) ∧ Below w6.heap.size w6 wr) (fun _ c _ => (6 - intOf c).toNat)
  case atStart =>
    refine ⟨0, by omega, by omega, rfl, ?_, ?_, ((Below.refl _ _).alloc (Nat.le_refl _) _).alloc (by simp) _⟩
    · exact Row.alloc (heap_alloc_new w6 _) _
    · exact heap_alloc2_new _ _ _
  case round =>
    obtain ⟨x, x0, x1, rfl, hrow, hbt, z⟩ := hrel
    by_cases hx : x < L.length
    · go_wp2
      have hC : Below w6.heap.size w6 wr ∧ wr.heap[w6.heap.size + 1]? = some (.cells #[.slice (some ⟨w6.heap.size, 0, none⟩) L.length L.length] 23 (0, 0)) := ⟨z, hbt⟩
      obtain ⟨i0, i1, i2, i3⟩ := HQ.out x ⟨x0, hx⟩
      have HI3 := Lib.hid i3
      have hxc : x < (lstTo (clsI L T f) (num L)).length := by have := HC6.out; omega
      have hclx := HCN.out x ⟨x0, hx⟩
      have lr := hrow.lt
      obtain ⟨v, hv⟩ : ∃ v, v = clsI L T f x := ⟨_, rfl⟩
      rw [← hv] at hclx i2 HI3
      have hmix := Lib.hid (mixP_set (p := quC L T f) (n := L.length) x0 hx)
      have hlen := mixP_len (p := quC L T f) (n := L.length) x0 x1
      obtain ⟨q, hq⟩ : ∃ q, q = quC L T f x := ⟨_, rfl⟩
      rw [← hq] at i0 i1 i2 hmix HI3
      have HIX := Lib.hid (show ∀ wz, Below w6.heap.size w6 wz → Calls Try.prog 39 #[.slice (some ⟨g, 0, none⟩) (quW L T f).length c5, .int .i64 v] wz fun e w' => e = .returned (.int .i64 q) ∧ wz = w' from fun wz hz => index2_any (some ⟨g, 0, none⟩) c5 (quW L T f) v q wz (fun _ => ⟨g, 0, rfl, fun k hk => by have := KW.out _ hz (k : Int) (by omega) (by omega); rw [Int.toNat_natCast] at this; rw [Nat.zero_add]; exact this⟩) i0 i1 i2 HI3.out (by omega))
      clear hbt i3 hv hq
      refine wp_region_any (by kernel_rfl) ?_
      refine any_of_C (C := fun wz => Below w6.heap.size w6 wz ∧ wz.heap[w6.heap.size + 1]? = some (.cells #[.slice (some ⟨w6.heap.size, 0, none⟩) L.length L.length] 23 (0, 0))) _ _ _ _ ?_
      refine anyC_take (i := 0) (v := .slice (some ⟨w6.heap.size, 0, none⟩) L.length L.length) rfl (by kernel_rfl) (by kernel_rfl) (by kernel_rfl) (fun _ _ _ h => h) (.inl ⟨rfl, fun wz hz => by have c := cell_of_one hz.2; go_simp⟩) ?_
      refine anyC_take (i := 1) (v := .int .i64 x) rfl (by kernel_rfl) (by kernel_rfl) (by kernel_rfl) (fun _ _ _ h => h) (.inl ⟨rfl, fun wz hz => by apply runs_move <;> rfl⟩) ?_
      refine anyC_take (i := 2) (v := .slice (some ⟨g, 0, none⟩) (quW L T f).length c5) rfl (by kernel_rfl) (by kernel_rfl) (by kernel_rfl) (fun _ _ _ h => h) (.inl ⟨rfl, fun wz hz => by have c := cell_of_one (KO.out _ hz.1); go_simp⟩) ?_
      refine anyC_take (i := 3) (v := .slice (some ⟨gc, 0, none⟩) (lstTo (clsI L T f) (num L)).length c4) rfl (by kernel_rfl) (by kernel_rfl) (by kernel_rfl) (fun _ _ _ h => h) (.inl ⟨rfl, fun wz hz => by apply runs_move <;> rfl⟩) ?_
      refine anyC_take (i := 4) (v := .int .i64 x) rfl (by kernel_rfl) (by kernel_rfl) (by kernel_rfl) (fun _ _ _ h => h) (.inl ⟨rfl, fun wz hz => by apply runs_move <;> rfl⟩) ?_
      refine anyC_take (i := 5) (v := .pointer (some ⟨gc, x.toNat, none⟩)) rfl (by kernel_rfl) (by kernel_rfl) (by kernel_rfl) (fun _ _ _ h => h) (.inl ⟨rfl, fun wz hz => by go_simp⟩) ?_
      refine anyC_take (i := 6) (v := .int .i64 v) rfl (by kernel_rfl) (by kernel_rfl) (by kernel_rfl) (fun _ _ _ h => h) (.inl ⟨rfl, fun wz hz => by have c := KC.out _ hz.1 x x0 hxc; rw [hclx] at c; go_simp⟩) ?_
      have zd : Below wr.heap.size wr (wr.drewN 1) := Dr.below ⟨1, rfl⟩ _
      obtain ⟨wd, hwd⟩ : ∃ x : World, x = wr.drewN 1 := ⟨_, rfl⟩
      change wpAnyC _ _ _ _ _ _ _ _ (wr.drewN 1)
      rw [← hwd] at zd ⊢
      have hCd : Below w6.heap.size w6 wd ∧ wd.heap[w6.heap.size + 1]? = some (.cells #[.slice (some ⟨w6.heap.size, 0, none⟩) L.length L.length] 23 (0, 0)) := ⟨hC.1.trans (zd.mono hC.1.size), (zd.block _ (lt_of_block hC.2)).trans hC.2⟩
      have hrowd := hrow.below zd hrow.lt
      clear hwd
      try simp only [List.getElem_toArray, List.getElem_cons_zero, List.getElem_cons_succ, Act.put, List.setIfInBounds_toArray, List.set_cons_succ, List.set_cons_zero]
      refine anyC_call (i := 7) (o := _) (f := 39) (args := #[.slice (some ⟨g, 0, none⟩) (quW L T f).length c5, .int .i64 v]) rfl (by kernel_rfl) rfl (by apply runs_call2 (he := enters_ix) <;> rfl) hCd ?_
      refine (HIX.out _ hCd.1).mono ?_
      rintro e w8 ⟨rfl, rfl⟩
      refine ⟨_, rfl, ?_⟩
      have d0 := hrowd.cell x0 (by rw [hlen]; omega)
      have fz := hrowd.free x.toNat
      refine anyC_take (i := 8) (v := .pointer (some ⟨w6.heap.size, x.toNat, none⟩)) rfl (by kernel_rfl) (by kernel_rfl) (by kernel_rfl) (fun _ _ _ h => h) (.inl ⟨rfl, fun wz hz => by go_simp⟩) ?_
      have hC3 : Below w6.heap.size w6 (wd.setCell ⟨w6.heap.size, x.toNat, none⟩ (.int .i64 q)) ∧ (wd.setCell ⟨w6.heap.size, x.toNat, none⟩ (.int .i64 q)).heap[w6.heap.size + 1]? = some (.cells #[.slice (some ⟨w6.heap.size, 0, none⟩) L.length L.length] 23 (0, 0)) := ⟨hCd.1.setCell (by simp) _, (heap_setCell_other wd _ _ _ (by simp)).trans hCd.2⟩
      refine anyC_skip (i := 9) (o := _) (w' := wd.setCell ⟨w6.heap.size, x.toNat, none⟩ (.int .i64 q)) rfl (by kernel_rfl) rfl ?_ hCd ?_
      · go_simp
      refine anyC_done (by kernel_rfl) hC3 ?_ _
      simp only [List.getElem_toArray, List.getElem_cons_zero, List.getElem_cons_succ, Act.put, List.setIfInBounds_toArray, List.set_cons_succ, List.set_cons_zero]
      go_wp2
      go_roundw
      case rel => exact ⟨x + 1, by omega, by omega, rfl, by rw [← hmix.out]; exact hrowd.set _ _, hC3.2, hC3.1⟩
      case measure => simp [intOf]; omega
    · have e : x = L.length := by omega
      subst e
      rw [mixP_all] at hrow
      obtain ⟨w8, hw8⟩ : ∃ x : World, x = wr := ⟨_, rfl⟩
      rw [← hw8] at hrow hbt z ⊢
      clear hw8
      have s8 := z.size
      have lbt := lt_of_block hbt
      have hrow' : Row w8 w6.heap.size (quT L T f) := hrow
      have K8 := Lib.hid (show ∀ wz, Below w8.heap.size w8 wz → Below w6.heap.size w6 wz from fun wz h => z.trans (h.mono z.size))
      have KB := Lib.hid (show ∀ wz, Below w8.heap.size w8 wz → wz.heap[w6.heap.size + 1]? = some (.cells #[.slice (some ⟨w6.heap.size, 0, none⟩) L.length L.length] 23 (0, 0)) from fun wz h => (h.block _ lbt).trans hbt)
      have KQ := Lib.hid (show ∀ wz, Below w8.heap.size w8 wz → Row wz w6.heap.size (quT L T f) from fun wz h => hrow'.below h hrow'.lt)
      have KQ2 := Lib.hid (show ∀ wz, Below w8.heap.size w8 wz → ∀ k : Int, 0 ≤ k → k < num L → wz.cell? ⟨w6.heap.size, k.toNat, none⟩ = some (.int .i64 (nth (quT L T f) k)) from fun wz h k k0 k1 => (KQ.out _ h).cell k0 (by rw [HTL.out]; exact k1))
      have y8 : Below w8.heap.size w8 w8 := Below.refl _ _
      have b8 := cell_of_one (KO.out _ (K8.out _ y8))
      clear hrow hbt
      go_wp2_with (first
        | go_skip
        | (go_at_call 40; refine (upOf_T 41 #[.pointer (some ⟨g1, 0, none⟩), .pointer (some ⟨bo, 0, none⟩), .pointer (some ⟨w.heap.size + 1, 0, none⟩)] ((quW L T f).length : Int) (quG L T f) w8 (by omega) (by omega) enters_qu1 (fun x y wr x0 x1 y0 y1 hb => quClo1 L T f g1 bo (w.heap.size + 1) g c5 x y wr (KA.out _ (K8.out _ hb)) (KO.out _ (K8.out _ hb)) (Kf.out _ (K6.out _ (K8.out _ hb))) (KW.out _ (K8.out _ hb)) HA.out HF.out f0 f6 x0 x1 y0 y1)).mono ?_; rintro e w9 ⟨rfl, gs9, hb9⟩; obtain ⟨bu, hbu⟩ : ∃ x : Nat, x = w8.heap.size := ⟨_, rfl⟩; rw [← hbu] at gs9 ⊢; have lbu : w8.heap.size ≤ bu := Nat.le_of_eq hbu.symm; have y9 : Below w8.heap.size w8 w9 := hb9; have s9 := hb9.size; have b9 := cell_of_one (KO.out _ (K8.out _ y9)); clear hbu hb9)
        | (go_at_call 43; refine (rowsOf_T 44 #[.pointer (some ⟨w6.heap.size + 1, 0, none⟩), .pointer (some ⟨g1, 0, none⟩), .pointer (some ⟨bo, 0, none⟩)] ((quW L T f).length : Int) (quM L T f) w9 (by omega) (by omega) enters_qu2 (fun x y wr x0 x1 y0 y1 hb => quClo2 L T f (w6.heap.size + 1) g1 bo w6.heap.size L.length g c5 x y wr (KA.out _ (K8.out _ (y9.trans (hb.mono s9)))) (KB.out _ (y9.trans (hb.mono s9))) (KO.out _ (K8.out _ (y9.trans (hb.mono s9)))) (KW.out _ (K8.out _ (y9.trans (hb.mono s9)))) (KQ2.out _ (y9.trans (hb.mono s9))) HA.out HF.out x0 x1 y0 y1)).mono ?_; rintro e w10 ⟨rfl, gt10, hb10⟩; obtain ⟨B, hBB⟩ : ∃ x : Nat, x = w9.heap.size := ⟨_, rfl⟩; rw [← hBB] at gt10 ⊢; have lB : w9.heap.size ≤ B := Nat.le_of_eq hBB.symm; have gs10 := gs9.below hb10; have y10 : Below w8.heap.size w8 w10 := y9.trans (hb10.mono s9); have s10 := hb10.size; clear hBB hb10 gs9))
      have z10 := K6.out _ (K8.out _ y10)
      have hz10 := Kz.out _ z10
      have hbt10 := KB.out _ y10
      refine wp_region_any (by kernel_rfl) ?_
      refine any_of_C (C := fun wz => wz.heap[w6.heap.size + 1]? = some (.cells #[.slice (some ⟨w6.heap.size, 0, none⟩) L.length L.length] 23 (0, 0))) _ _ _ _ ?_
      refine anyC_take (i := 0) (v := .slice (some ⟨bu, 0, none⟩) (upL (quG L T f) ((quW L T f).length : Int)).length (upL (quG L T f) ((quW L T f).length : Int)).length) rfl (by kernel_rfl) (by kernel_rfl) (by kernel_rfl) (fun _ _ _ h => h) (.inl ⟨rfl, fun wz hz => by apply runs_move <;> rfl⟩) ?_
      refine anyC_take (i := 1) (v := .slice (some ⟨B, 0, none⟩) (tabL (quM L T f) ((quW L T f).length : Int)).length (tabL (quM L T f) ((quW L T f).length : Int)).length) rfl (by kernel_rfl) (by kernel_rfl) (by kernel_rfl) (fun _ _ _ h => h) (.inl ⟨rfl, fun wz hz => by apply runs_move <;> rfl⟩) ?_
      refine anyC_take (i := 3) (v := .slice (some ⟨w6.heap.size, 0, none⟩) L.length L.length) rfl (by kernel_rfl) (by kernel_rfl) (by kernel_rfl) (fun _ _ _ h => h) (.inl ⟨rfl, fun wz hz => by have c := cell_of_one hz; go_simp⟩) ?_
      try simp only [List.getElem_toArray, List.getElem_cons_zero, List.getElem_cons_succ, Act.put, List.setIfInBounds_toArray, List.set_cons_succ, List.set_cons_zero]
      have ltb := lt_of_block hbt10
      obtain ⟨wd, hwd⟩ : ∃ x : World, x = w10.drewN 1 := ⟨_, rfl⟩
      change wpAnyC _ _ _ _ _ _ _ _ (w10.drewN 1)
      rw [← hwd]
      have yd : Below w8.heap.size w8 wd := y10.trans (show Below _ w10 wd from by rw [hwd]; exact Dr.below ⟨1, rfl⟩ _)
      have ydd : Below w10.heap.size w10 wd := by rw [hwd]; exact Dr.below ⟨1, rfl⟩ _
      have gsd := gs10.below ydd
      have gtd := gt10.below ydd
      have sd := ydd.size
      have hzd := Kz.out _ (K6.out _ (K8.out _ yd))
      have hbd := KB.out _ yd
      clear hwd gs10 gt10 hz10 hbt10
      refine anyC_law (i := 2) rfl (by kernel_rfl) hbd ?_
      go_wp2_with fail
      try simp only [List.getElem_toArray, List.getElem_cons_zero, List.getElem_cons_succ, Act.put, List.setIfInBounds_toArray, List.set_cons_succ, List.set_cons_zero]
      refine anyC_law (i := 4) rfl (by kernel_rfl) hbd ?_
      refine wpList_store_row rfl 26 _ _ rfl (w.heap.size + 1 + 1) #[.slice (some ⟨bu, 0, none⟩) (upL (quG L T f) ((quW L T f).length : Int)).length (upL (quG L T f) ((quW L T f).length : Int)).length, .slice (some ⟨B, 0, none⟩) (tabL (quM L T f) ((quW L T f).length : Int)).length (tabL (quM L T f) ((quW L T f).length : Int)).length] rfl rfl _ _ hzd (size_Alg _ _) rfl (one_sl2 _ _ _ _ _ _) ?_
      unfold wpList
      have hbe := (setRow_other wd (w.heap.size + 1 + 1) (w6.heap.size + 1) #[.slice (some ⟨bu, 0, none⟩) (upL (quG L T f) ((quW L T f).length : Int)).length (upL (quG L T f) ((quW L T f).length : Int)).length, .slice (some ⟨B, 0, none⟩) (tabL (quM L T f) ((quW L T f).length : Int)).length (tabL (quM L T f) ((quW L T f).length : Int)).length] (by have := z3.size; have := K6.out _ (K8.out _ yd); omega)).trans hbd
      refine anyC_law (i := 5) rfl (by kernel_rfl) hbe ?_
      go_wp2_with fail
      try simp only [List.getElem_toArray, List.getElem_cons_zero, List.getElem_cons_succ, Act.put, List.setIfInBounds_toArray, List.set_cons_succ, List.set_cons_zero]
      refine anyC_law (i := 6) rfl (by kernel_rfl) hbe ?_
      go_wp2_with fail
      try simp only [List.getElem_toArray, List.getElem_cons_zero, List.getElem_cons_succ, Act.put, List.setIfInBounds_toArray, List.set_cons_succ, List.set_cons_zero]
      refine anyC_done (by kernel_rfl) hbe ?_ _
      try simp only [List.getElem_toArray, List.getElem_cons_zero, List.getElem_cons_succ, Act.put, List.setIfInBounds_toArray, List.set_cons_succ, List.set_cons_zero]
      go_wp2_with fail
      refine bodyPost_ret (v := .tuple #[.agg #[.slice (some ⟨bu, 0, none⟩) (upL (quG L T f) ((quW L T f).length : Int)).length (upL (quG L T f) ((quW L T f).length : Int)).length, .slice (some ⟨B, 0, none⟩) (tabL (quM L T f) ((quW L T f).length : Int)).length (tabL (quM L T f) ((quW L T f).length : Int)).length], .slice (some ⟨w6.heap.size, 0, none⟩) L.length L.length, .bool true]) (results_Alg_tmpQ rfl _ _ (w.heap.size + 1 + 1) rfl _ _ (setRow_heap _ _ _ _ _ _ hzd) rfl rfl) rfl ?_
      rw [HV.out.1, HV.out.2.1, HV.out.2.2.1, HV.out.2.2.2]
      have s1 := hB.size
      have s36 := y6.size
      have lq : w6.heap.size < w8.heap.size := by omega
      have hbz := below_setRow' (hB.trans ((K6.out _ (K8.out _ yd)).mono hB.size)) (by omega : w.heap.size ≤ w.heap.size + 1 + 1) #[.slice (some ⟨bu, 0, none⟩) (upL (quG L T f) ((quW L T f).length : Int)).length (upL (quG L T f) ((quW L T f).length : Int)).length, .slice (some ⟨B, 0, none⟩) (tabL (quM L T f) ((quW L T f).length : Int)).length (tabL (quM L T f) ((quW L T f).length : Int)).length]
      have hb11 := below_setRow' (Below.refl (w.heap.size + 1 + 1) wd) (Nat.le_refl _) #[.slice (some ⟨bu, 0, none⟩) (upL (quG L T f) ((quW L T f).length : Int)).length (upL (quG L T f) ((quW L T f).length : Int)).length, .slice (some ⟨B, 0, none⟩) (tabL (quM L T f) ((quW L T f).length : Int)).length (tabL (quM L T f) ((quW L T f).length : Int)).length]
      have s11 := hb11.size
      have hk : ∀ lo hi, w.heap.size + 1 + 1 < lo → Keep lo hi wd (wd.setRow (w.heap.size + 1 + 1) #[.slice (some ⟨bu, 0, none⟩) (upL (quG L T f) ((quW L T f).length : Int)).length (upL (quG L T f) ((quW L T f).length : Int)).length, .slice (some ⟨B, 0, none⟩) (tabL (quM L T f) ((quW L T f).length : Int)).length (tabL (quM L T f) ((quW L T f).length : Int)).length]) := fun lo hi hlo k k1 _ _ => setRow_other wd _ k _ (by omega)
      have hq8 : GS (w6.heap.size) w8.heap.size wd (.slice (some ⟨w6.heap.size, 0, none⟩) (quT L T f).length (quT L T f).length) (quT L T f) := GS.row (KQ.out _ yd) (Nat.le_refl _) lq (by rw [HTL.out]; unfold maxLen; omega)
      rw [HTL.out] at hq8
      exact ⟨_, _, _, _, _, _, _, _, _, w8.heap.size, rfl, ⟨bu, w9.heap.size, B, w10.heap.size, by omega, by omega, by omega, by omega, .inl lB, gsd.keep (hk _ _ (by omega)), gtd.keep (hk _ _ (by omega))⟩, (hq8.keep (hk _ _ (by omega))).wide (by omega) (Nat.le_refl _), by omega, by omega, hbz⟩
/-- impl.QuotientOf -/
theorem implQuotientOf_any (a b : Option Addr) (ca cb : Nat) (L : List Int) (T : List (List Int)) (f : Int) (w : World) (hr : Rd w a L) (hT : RdT w b T) : Calls Try.prog 15 #[.agg #[.slice a L.length ca, .slice b T.length cb], .int .i64 f] w (RetGAsb (quL L T f) (quTb L T f) (quTo L T f) (afB L T f) w) := by
  cases h : afB L T f with
  | false => rw [← h]; exact implQuot_no a b ca cb L T f w hr hT h
  | true => rw [← h]; exact implQuot_yes a b ca cb L T f w hr hT h
end Go.Proofs.Ytljnbhnnjfnjeaa
