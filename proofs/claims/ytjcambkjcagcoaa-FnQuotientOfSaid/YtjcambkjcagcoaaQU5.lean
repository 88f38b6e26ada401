import Derived.Test.YtjcambkjcagcoaaQU4
import Derived.Test.YtjcambkjcagcoaaG3
namespace Go.Proofs.Ytjcambkjcagcoaa
open Go.RowKit
set_option linter.unusedVariables false

def RetSAsb (L : List Int) (T : List (List Int)) (W : List Int) (V : Bool) (w : World) (e : Ending) (w' : World) : Prop :=
  ∃ (a : Option Addr) (n c : Nat) (b : Option Addr) (m d : Nat) (s : Option Addr) (k q : Nat), e = .returned (.tuple #[.agg #[.slice a n c, .slice b m d], .slice s k q, .bool V]) ∧ OA w.heap.size w' (.slice a n c) (.slice b m d) L T ∧ RS w' (.slice s k q) W ∧ Below w.heap.size w w'
set_option maxRecDepth 100000 in
set_option maxHeartbeats 2000000 in
theorem specQuot_alg (a b : Option Addr) (ca cb : Nat) (L : List Int) (T : List (List Int)) (f : Int) (w : World) (hr : Rd w a L) (hT : RdT w b T) (h : algB L T = false) : Calls Try.prog 18 #[.agg #[.slice a L.length ca, .slice b T.length cb], .int .i64 f] w (RetSAsb (quL L T f) (quTb L T f) (quTo L T f) (afB L T f) w) := by
  obtain ⟨w1, hw1⟩ : ∃ w1, w1 = (w.alloc (.cells #[.slice a L.length ca, .slice b T.length cb] 26)).alloc (.cells #[.slice none 0 0, .slice none 0 0] 26) := ⟨_, rfl⟩
  have hB : Below w.heap.size w w1 := by rw [hw1]; exact ((Below.refl _ _).alloc (Nat.le_refl _) _).alloc (by simp) _
  have hx : w1.heap[w.heap.size]? = some (.cells #[.slice a L.length ca, .slice b T.length cb] 26 (0, 0)) := by rw [hw1, Below.heap_alloc _ _ _ (by simp)]; exact heap_alloc_new w _
  have hz : w1.heap[w.heap.size + 1]? = some (.cells #[.slice none 0 0, .slice none 0 0] 26 (0, 0)) := by rw [hw1]; exact heap_alloc2_new _ _ _
  have Kx := Lib.hid (show ∀ wz, Below w1.heap.size w1 wz → wz.heap[w.heap.size]? = some (.cells #[.slice a L.length ca, .slice b T.length cb] 26 (0, 0)) from fun wz h => (h.block _ (lt_of_block hx)).trans hx)
  have Kz := Lib.hid (show ∀ wz, Below w1.heap.size w1 wz → wz.heap[w.heap.size + 1]? = some (.cells #[.slice none 0 0, .slice none 0 0] 26 (0, 0)) from fun wz h => (h.block _ (lt_of_block hz)).trans hz)
  have KR := Lib.hid (show ∀ wz, Below w1.heap.size w1 wz → Rd wz a L from fun wz h => (hr.below hB).below h)
  have KT := Lib.hid (show ∀ wz, Below w1.heap.size w1 wz → RdT wz b T from fun wz h => (hT.below hB).below h)
  have hsz : w.heap.size + 1 < w1.heap.size := lt_of_block hz
  have z1 : Below w1.heap.size w1 w1 := Below.refl _ _
  clear hx hz hr hT
  have HA := Lib.hid h
  have HV := Lib.hid (qu_no (show afB L T f = false by unfold afB; rw [h]; rfl))
  clear h
  go_enter Try.func18, Try.ntmps18
  go_wp2_with (first
    | go_skip
    | (rw [← hw1]; clear hw1)
    | (refine wpList_load_row_w rfl 26 _ rfl w.heap.size rfl _ _ _ _ (Kx.out _ (by assumption)) Try.underlying26 rfl (size_Alg _ _) ?_)
    | (go_at_call 57; refine (ret_below (validAlgebra_any _ _ _ _ L T _ (KR.out _ z1) (KT.out _ z1)) HA.out).mono ?_; rintro e w2 ⟨rfl, h2⟩; have z2 : Below w1.heap.size w1 w2 := h2; clear h2 z1)
    | (refine wpList_store_row rfl 26 _ _ rfl (w.heap.size + 1) #[.slice none 0 0, .slice none 0 0] rfl rfl _ _ (Kz.out _ z2) (size_Alg _ _) rfl (one_sl2 _ _ _ _ _ _) ?_))
  refine bodyPost_ret (v := .tuple #[.agg #[.slice none 0 0, .slice none 0 0], .slice none 0 0, .bool false]) (results_Alg_tmpQ rfl _ _ (w.heap.size + 1) rfl _ _ (setRow_heap _ _ _ _ _ _ (Kz.out _ z2)) rfl rfl) rfl ?_
  rw [HV.out.1, HV.out.2.1, HV.out.2.2.1, HV.out.2.2.2]
  exact ⟨_, _, _, _, _, _, _, _, _, rfl, OA.zero _ _, ⟨none, 0, rfl, fun h => absurd rfl h⟩, below_setRow' (hB.trans (z2.mono hB.size)) (by omega) _⟩
set_option maxRecDepth 100000 in
set_option maxHeartbeats 2000000 in
theorem specQuot_fil (a b : Option Addr) (ca cb : Nat) (L : List Int) (T : List (List Int)) (f : Int) (w : World) (hr : Rd w a L) (hT : RdT w b T) (h : algB L T = true) (h2 : isFilB L T f = false) : Calls Try.prog 18 #[.agg #[.slice a L.length ca, .slice b T.length cb], .int .i64 f] w (RetSAsb (quL L T f) (quTb L T f) (quTo L T f) (afB L T f) w) := by
  obtain ⟨w1, hw1⟩ : ∃ w1, w1 = (w.alloc (.cells #[.slice a L.length ca, .slice b T.length cb] 26)).alloc (.cells #[.slice none 0 0, .slice none 0 0] 26) := ⟨_, rfl⟩
  have hB : Below w.heap.size w w1 := by rw [hw1]; exact ((Below.refl _ _).alloc (Nat.le_refl _) _).alloc (by simp) _
  have hx : w1.heap[w.heap.size]? = some (.cells #[.slice a L.length ca, .slice b T.length cb] 26 (0, 0)) := by rw [hw1, Below.heap_alloc _ _ _ (by simp)]; exact heap_alloc_new w _
  have hz : w1.heap[w.heap.size + 1]? = some (.cells #[.slice none 0 0, .slice none 0 0] 26 (0, 0)) := by rw [hw1]; exact heap_alloc2_new _ _ _
  have Kx := Lib.hid (show ∀ wz, Below w1.heap.size w1 wz → wz.heap[w.heap.size]? = some (.cells #[.slice a L.length ca, .slice b T.length cb] 26 (0, 0)) from fun wz h => (h.block _ (lt_of_block hx)).trans hx)
  have Kz := Lib.hid (show ∀ wz, Below w1.heap.size w1 wz → wz.heap[w.heap.size + 1]? = some (.cells #[.slice none 0 0, .slice none 0 0] 26 (0, 0)) from fun wz h => (h.block _ (lt_of_block hz)).trans hz)
  have KR := Lib.hid (show ∀ wz, Below w1.heap.size w1 wz → Rd wz a L from fun wz h => (hr.below hB).below h)
  have KT := Lib.hid (show ∀ wz, Below w1.heap.size w1 wz → RdT wz b T from fun wz h => (hT.below hB).below h)
  have hsz : w.heap.size + 1 < w1.heap.size := lt_of_block hz
  have z1 : Below w1.heap.size w1 w1 := Below.refl _ _
  clear hx hz hr hT
  have HA := Lib.hid h
  have HF := Lib.hid h2
  have HV := Lib.hid (qu_no (show afB L T f = false by unfold afB; rw [h, h2]; rfl))
  clear h h2
  go_enter Try.func18, Try.ntmps18
  go_wp2_with (first
    | go_skip
    | (rw [← hw1]; clear hw1)
    | (refine wpList_load_row_w rfl 26 _ rfl w.heap.size rfl _ _ _ _ (Kx.out _ (by assumption)) Try.underlying26 rfl (size_Alg _ _) ?_)
    | (go_at_call 57; refine (ret_below (validAlgebra_any _ _ _ _ L T _ (KR.out _ z1) (KT.out _ z1)) HA.out).mono ?_; rintro e w2 ⟨rfl, h2⟩; have z2 : Below w1.heap.size w1 w2 := h2; clear h2 z1)
    | (go_at_call 65; refine (specIsFil_is _ _ _ _ L T f _ (KR.out _ z2) (KT.out _ z2) HA.out HF.out).mono ?_; rintro e w3 ⟨rfl, h3⟩; have z3 : Below w1.heap.size w1 w3 := z2.trans (h3.mono z2.size); clear h3 z2)
    | (refine wpList_store_row rfl 26 _ _ rfl (w.heap.size + 1) #[.slice none 0 0, .slice none 0 0] rfl rfl _ _ (Kz.out _ z3) (size_Alg _ _) rfl (one_sl2 _ _ _ _ _ _) ?_))
  refine bodyPost_ret (v := .tuple #[.agg #[.slice none 0 0, .slice none 0 0], .slice none 0 0, .bool false]) (results_Alg_tmpQ rfl _ _ (w.heap.size + 1) rfl _ _ (setRow_heap _ _ _ _ _ _ (Kz.out _ z3)) rfl rfl) rfl ?_
  rw [HV.out.1, HV.out.2.1, HV.out.2.2.1, HV.out.2.2.2]
  exact ⟨_, _, _, _, _, _, _, _, _, rfl, OA.zero _ _, ⟨none, 0, rfl, fun h => absurd rfl h⟩, below_setRow' (hB.trans (z3.mono hB.size)) (by omega) _⟩
set_option maxRecDepth 100000 in
set_option maxHeartbeats 2000000 in
theorem specQuot_yes (a b : Option Addr) (ca cb : Nat) (L : List Int) (T : List (List Int)) (f : Int) (w : World) (hr : Rd w a L) (hT : RdT w b T) (h : algB L T = true) (h2 : isFilB L T f = true) : Calls Try.prog 18 #[.agg #[.slice a L.length ca, .slice b T.length cb], .int .i64 f] w (RetSAsb (quL L T f) (quTb L T f) (quTo L T f) (afB L T f) w) := by
  obtain ⟨w1, hw1⟩ : ∃ w1, w1 = (w.alloc (.cells #[.slice a L.length ca, .slice b T.length cb] 26)).alloc (.cells #[.slice none 0 0, .slice none 0 0] 26) := ⟨_, rfl⟩
  have hB : Below w.heap.size w w1 := by rw [hw1]; exact ((Below.refl _ _).alloc (Nat.le_refl _) _).alloc (by simp) _
  have hx : w1.heap[w.heap.size]? = some (.cells #[.slice a L.length ca, .slice b T.length cb] 26 (0, 0)) := by rw [hw1, Below.heap_alloc _ _ _ (by simp)]; exact heap_alloc_new w _
  have hz : w1.heap[w.heap.size + 1]? = some (.cells #[.slice none 0 0, .slice none 0 0] 26 (0, 0)) := by rw [hw1]; exact heap_alloc2_new _ _ _
  have Kx := Lib.hid (show ∀ wz, Below w1.heap.size w1 wz → wz.heap[w.heap.size]? = some (.cells #[.slice a L.length ca, .slice b T.length cb] 26 (0, 0)) from fun wz h => (h.block _ (lt_of_block hx)).trans hx)
  have Kz := Lib.hid (show ∀ wz, Below w1.heap.size w1 wz → wz.heap[w.heap.size + 1]? = some (.cells #[.slice none 0 0, .slice none 0 0] 26 (0, 0)) from fun wz h => (h.block _ (lt_of_block hz)).trans hz)
  have KR := Lib.hid (show ∀ wz, Below w1.heap.size w1 wz → Rd wz a L from fun wz h => (hr.below hB).below h)
  have KT := Lib.hid (show ∀ wz, Below w1.heap.size w1 wz → RdT wz b T from fun wz h => (hT.below hB).below h)
  have hsz : w.heap.size + 1 < w1.heap.size := lt_of_block hz
  have z1 : Below w1.heap.size w1 w1 := Below.refl _ _
  clear hx hz hr hT
  have HA := Lib.hid h
  have HF := Lib.hid h2
  have HAF := Lib.hid (show afB L T f = true by unfold afB; rw [h, h2]; rfl)
  have HV := Lib.hid (qu_yes HAF.out)
  clear h h2
  go_enter Try.func18, Try.ntmps18
  go_wp2_with (first
    | go_skip
    | (rw [← hw1]; clear hw1)
    | (refine wpList_load_row_w rfl 26 _ rfl w.heap.size rfl _ _ _ _ (Kx.out _ (by assumption)) Try.underlying26 rfl (size_Alg _ _) ?_)
    | (refine wpList_load_row_w rfl 26 _ rfl g rfl _ _ _ _ (K5.out _ (by assumption)) Try.underlying26 rfl (size_Alg _ _) ?_)
    | (go_at_call 57; refine (ret_below (validAlgebra_any _ _ _ _ L T _ (KR.out _ z1) (KT.out _ z1)) HA.out).mono ?_; rintro e w2 ⟨rfl, h2⟩; have z2 : Below w1.heap.size w1 w2 := h2; clear h2 z1)
    | (go_at_call 65; refine (specIsFil_is _ _ _ _ L T f _ (KR.out _ z2) (KT.out _ z2) HA.out HF.out).mono ?_; rintro e w3 ⟨rfl, h3⟩; have z3 : Below w1.heap.size w1 w3 := z2.trans (h3.mono z2.size); clear h3 z2)
    | (go_at_call 66; refine (specQuotientS_any _ _ _ _ L T f _ (KR.out _ z3) (KT.out _ z3) HAF.out).mono ?_; rintro e w4 ⟨ra, rc, rb, rd, rs, rq, rfl, ho4, hr4, hs4, hb4⟩; have z4 : Below w1.heap.size w1 w4 := z3.trans (hb4.mono z3.size); have s3 := z3.size; have s4 := hb4.size; clear z3 hb4)
    | (refine wpList_store_row rfl 26 _ _ rfl w4.heap.size #[.slice ra (upL (quG L T f) ((quW L T f).length : Int)).length rc, .slice rb (tabL (quM L T f) ((quW L T f).length : Int)).length rd] rfl rfl _ _ (heap_alloc_new w4 (.cells #[.slice none 0 0, .slice none 0 0] 26)) (size_Alg _ _) rfl (one_sl2 _ _ _ _ _ _) ?_; rw [World.setRow_alloc_new]; obtain ⟨g, hg⟩ : ∃ g : Nat, g = w4.heap.size := ⟨_, rfl⟩; obtain ⟨w5, hw5⟩ : ∃ x : World, x = w4.alloc (.cells #[.slice ra (upL (quG L T f) ((quW L T f).length : Int)).length rc, .slice rb (tabL (quM L T f) ((quW L T f).length : Int)).length rd] 26) := ⟨_, rfl⟩; rw [← hw5, ← hg]; have q5 : Below w4.heap.size w4 w5 := (by rw [hw5]; exact (Below.refl _ _).alloc (Nat.le_refl _) _); have hx5 : w5.heap[g]? = some (.cells #[.slice ra (upL (quG L T f) ((quW L T f).length : Int)).length rc, .slice rb (tabL (quM L T f) ((quW L T f).length : Int)).length rd] 26 (0, 0)) := (by rw [hw5, hg]; exact heap_alloc_new w4 _); have K5 := Lib.hid (show ∀ wz, Below w5.heap.size w5 wz → wz.heap[g]? = some (.cells #[.slice ra (upL (quG L T f) ((quW L T f).length : Int)).length rc, .slice rb (tabL (quM L T f) ((quW L T f).length : Int)).length rd] 26 (0, 0)) from fun wz h => (h.block _ (lt_of_block hx5)).trans hx5); have z5 : Below w1.heap.size w1 w5 := z4.trans (q5.mono z4.size); have ho5 := ho4.below q5; have hr5 := hr4.below q5; have hs5 := hs4.below q5; have y5 : Below w5.heap.size w5 w5 := Below.refl _ _; clear hw5 hg hx5 q5 z4 ho4 hr4 hs4)
    | (refine wpList_store_row rfl 26 _ _ rfl (w.heap.size + 1) #[.slice ra (upL (quG L T f) ((quW L T f).length : Int)).length rc, .slice rb (tabL (quM L T f) ((quW L T f).length : Int)).length rd] rfl rfl _ _ (Kz.out _ z5) (size_Alg _ _) rfl (one_sl2 _ _ _ _ _ _) ?_))
  refine bodyPost_ret (v := .tuple #[.agg #[.slice ra (upL (quG L T f) ((quW L T f).length : Int)).length rc, .slice rb (tabL (quM L T f) ((quW L T f).length : Int)).length rd], .slice rs (quT L T f).length rq, .bool true]) (results_Alg_tmpQ rfl _ _ (w.heap.size + 1) rfl _ _ (setRow_heap _ _ _ _ _ _ (Kz.out _ z5)) rfl rfl) rfl ?_
  rw [HV.out.1, HV.out.2.1, HV.out.2.2.1, HV.out.2.2.2]
  have hk : ∀ k, k ≠ w.heap.size + 1 → (w5.setRow (w.heap.size + 1) #[.slice ra (upL (quG L T f) ((quW L T f).length : Int)).length rc, .slice rb (tabL (quM L T f) ((quW L T f).length : Int)).length rd]).heap[k]? = w5.heap[k]? := fun k hk => setRow_other w5 _ k _ hk
  exact ⟨_, _, _, _, _, _, _, _, _, rfl, oa_of (by have := hB.size; omega) (ownsRow_other ho5 (Kz.out _ z5) (by decide) hk) (RowsAt.other hr5 (Kz.out _ z5) (by decide) (by decide) hk), ⟨_, _, rfl, (show Own _ _ _ _ from ownsRow_other hs5 (Kz.out _ z5) (by decide) hk).rd⟩, below_setRow' (hB.trans (z5.mono hB.size)) (by omega) _⟩
/-- spec.QuotientOf -/
theorem specQuotientOf_any (a b : Option Addr) (ca cb : Nat) (L : List Int) (T : List (List Int)) (f : Int) (w : World) (hr : Rd w a L) (hT : RdT w b T) : Calls Try.prog 18 #[.agg #[.slice a L.length ca, .slice b T.length cb], .int .i64 f] w (RetSAsb (quL L T f) (quTb L T f) (quTo L T f) (afB L T f) w) := by
  cases h : algB L T with
  | false => exact specQuot_alg a b ca cb L T f w hr hT h
  | true =>
    cases h2 : isFilB L T f with
    | false => exact specQuot_fil a b ca cb L T f w hr hT h h2
    | true => exact specQuot_yes a b ca cb L T f w hr hT h h2
end Go.Proofs.Ytjcambkjcagcoaa
