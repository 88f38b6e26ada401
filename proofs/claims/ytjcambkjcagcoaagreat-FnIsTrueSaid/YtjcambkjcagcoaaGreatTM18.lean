import Derived.Test.YtjcambkjcagcoaaGreatTM17
namespace Go.Proofs.YtjcambkjcagcoaaGreat
open Go.RowKit
set_option linter.unusedVariables false
set_option maxRecDepth 100000 in
set_option maxHeartbeats 4000000 in
theorem specIsTrue_no (a b : Option Addr) (ca cb : Nat) (L : List Int) (T : List (List Int)) (at_ : Option Addr) (ct : Nat) (t : List Int) (w : World) (hr : Rd w a L) (hT : RdT w b T) (ht : Rd w at_ t) (hmt : t.length ≤ 1048576) (hno : (algB L T && vtB t) = false) :
    Calls Tryz.prog 20 #[.agg #[.slice a L.length ca, .slice b T.length cb], .slice at_ t.length ct] w (fun e w' => e = .returned (.bool (itB L T t)) ∧ Below w.heap.size w w') := by
  obtain ⟨w1, hw1⟩ : ∃ w1, w1 = w.alloc (.cells #[.slice a L.length ca, .slice b T.length cb] 26) := ⟨_, rfl⟩
  have hB : Below w.heap.size w w1 := by rw [hw1]; exact (Below.refl _ _).alloc (Nat.le_refl _) _
  have hx1 : w1.heap[w.heap.size]? = some (.cells #[.slice a L.length ca, .slice b T.length cb] 26 (0, 0)) := by rw [hw1]; exact heap_alloc_new w _
  have KX := Lib.hid (show ∀ wz, Below w1.heap.size w1 wz → wz.heap[w.heap.size]? = some (.cells #[.slice a L.length ca, .slice b T.length cb] 26 (0, 0)) from fun wz h => (h.block _ (lt_of_block hx1)).trans hx1)
  have KL := Lib.hid (show ∀ wz, Below w1.heap.size w1 wz → Rd wz a L from fun wz h => (hr.below hB).below h)
  have KT := Lib.hid (show ∀ wz, Below w1.heap.size w1 wz → RdT wz b T from fun wz h => (hT.below hB).below h)
  have Kt := Lib.hid (show ∀ wz, Below w1.heap.size w1 wz → Rd wz at_ t from fun wz h => (ht.below hB).below h)
  have z : Below w1.heap.size w1 w1 := Below.refl _ _
  clear hr hT hx1 ht
  have HV := Lib.hid (show itB L T t = false by unfold itB; rw [hno]; rfl)
  cases hA : algB L T with
  | false =>
    go_enter Tryz.func20, Tryz.ntmps20
    go_wp2_with (first | go_skip | (rw [← hw1]; clear hw1) | (refine wpList_load_row_w rfl 26 _ rfl w.heap.size rfl _ _ _ _ (KX.out _ (by assumption)) Tryz.underlying26 rfl (size_Alg _ _) ?_) | (go_at_call 46; refine (ret_toT (validAlgebra_any _ _ _ _ L T _ (KL.out _ z) (KT.out _ z)) (congrArg Value.bool hA)).mono ?_; rintro e w2 ⟨rfl, hb⟩; replace z := z.trans (hb.mono z.size)))
    go_ret
    exact ⟨ret_bool (by rw [HV.out]), hB.trans (z.mono hB.size)⟩
  | true =>
    have hv : vtB t = false := by rw [hA] at hno; simpa using hno
    go_enter Tryz.func20, Tryz.ntmps20
    go_wp2_with (first | go_skip | (rw [← hw1]; clear hw1) | (refine wpList_load_row_w rfl 26 _ rfl w.heap.size rfl _ _ _ _ (KX.out _ (by assumption)) Tryz.underlying26 rfl (size_Alg _ _) ?_) | (go_at_call 46; refine (ret_toT (validAlgebra_any _ _ _ _ L T _ (KL.out _ z) (KT.out _ z)) (congrArg Value.bool hA)).mono ?_; rintro e w2 ⟨rfl, hb⟩; replace z := z.trans (hb.mono z.size)) | (go_at_call 67; refine (ret_toT2 (specValid_any _ _ _ _ (Kt.out _ z) hmt) hv).mono ?_; rintro e w' ⟨rfl, rfl⟩))
    go_ret
    exact ⟨ret_bool (by rw [HV.out]), hB.trans (z.mono hB.size)⟩
set_option maxRecDepth 100000 in
set_option maxHeartbeats 4000000 in
/-- spec.IsTrue -/
theorem specIsTrue_any (a b : Option Addr) (ca cb : Nat) (L : List Int) (T : List (List Int)) (at_ : Option Addr) (ct : Nat) (t : List Int) (w : World) (hr : Rd w a L) (hT : RdT w b T) (ht : Rd w at_ t) (hmt : t.length ≤ 1048576) :
    Calls Tryz.prog 20 #[.agg #[.slice a L.length ca, .slice b T.length cb], .slice at_ t.length ct] w fun e w' => e = .returned (.bool (itB L T t)) ∧ Below w.heap.size w w' := by
  cases hno : algB L T && vtB t with
  | false => exact specIsTrue_no a b ca cb L T at_ ct t w hr hT ht hmt hno
  | true =>
    have hno' := hno
    rw [Bool.and_eq_true] at hno'
    obtain ⟨hA, hv⟩ := hno'
    have HV := Lib.hid (show itB L T t = !(rfI L T t).isSome by
      unfold itB rfI
      rw [hno, if_pos rfl, Bool.true_and]
      cases f3 L.length (fun N => !(hdB L T t N)) <;> rfl)
    obtain ⟨w1, hw1⟩ : ∃ w1, w1 = w.alloc (.cells #[.slice a L.length ca, .slice b T.length cb] 26) := ⟨_, rfl⟩
    have hB : Below w.heap.size w w1 := by rw [hw1]; exact (Below.refl _ _).alloc (Nat.le_refl _) _
    have hx1 : w1.heap[w.heap.size]? = some (.cells #[.slice a L.length ca, .slice b T.length cb] 26 (0, 0)) := by rw [hw1]; exact heap_alloc_new w _
    have KX := Lib.hid (show ∀ wz, Below w1.heap.size w1 wz → wz.heap[w.heap.size]? = some (.cells #[.slice a L.length ca, .slice b T.length cb] 26 (0, 0)) from fun wz h => (h.block _ (lt_of_block hx1)).trans hx1)
    have KL := Lib.hid (show ∀ wz, Below w1.heap.size w1 wz → Rd wz a L from fun wz h => (hr.below hB).below h)
    have KT := Lib.hid (show ∀ wz, Below w1.heap.size w1 wz → RdT wz b T from fun wz h => (hT.below hB).below h)
    have Kt := Lib.hid (show ∀ wz, Below w1.heap.size w1 wz → Rd wz at_ t from fun wz h => (ht.below hB).below h)
    have z : Below w1.heap.size w1 w1 := Below.refl _ _
    clear hr hT hx1 ht
    obtain ⟨r, hr⟩ : ∃ r, r = (rfI L T t).isSome := ⟨_, rfl⟩
    have HC := Lib.hid (fun (wz : World) (hz : Below w1.heap.size w1 wz) => specRefuteTerm_any a b ca cb L T at_ ct t wz (KL.out _ hz) (KT.out _ hz) (Kt.out _ hz) hmt)
    rw [← hr] at HC HV
    clear hno hr
    go_enter Tryz.func20, Tryz.ntmps20
    go_wp2_with (first | go_skip | (rw [← hw1]; clear hw1) | (refine wpList_load_row_w rfl 26 _ rfl w.heap.size rfl _ _ _ _ (KX.out _ (by assumption)) Tryz.underlying26 rfl (size_Alg _ _) ?_) | (go_at_call 46; refine (ret_toT (validAlgebra_any _ _ _ _ L T _ (KL.out _ z) (KT.out _ z)) (congrArg Value.bool hA)).mono ?_; rintro e w2 ⟨rfl, hb⟩; replace z := z.trans (hb.mono z.size)) | (go_at_call 67; refine (ret_toT2 (specValid_any _ _ _ _ (Kt.out _ z) hmt) hv).mono ?_; rintro e w' ⟨rfl, rfl⟩) | (go_at_call 68; refine (HC.out _ z).mono ?_; rintro e w3 ⟨va, vn, vc, rfl, _, hb⟩; replace z := z.trans (hb.mono z.size)))
    go_ret
    exact ⟨ret_bool (by rw [HV.out]), hB.trans (z.mono hB.size)⟩
/-- a list that can be read, of a capacity -/
def RSc (w : World) (s : Value) (L : List Int) : Prop := ∃ a c, s = .slice a L.length c ∧ Rd w a L ∧ L.length ≤ c
theorem GS.rdc {lo hi : Nat} {w : World} {s : Value} {L : List Int} (h : GS lo hi w s L) : RSc w s L := by
  obtain ⟨⟨a, c, rfl⟩, h1, _⟩ := h
  refine ⟨a, c, rfl, h1.rd, ?_⟩
  rcases h1.2 with ⟨e, hn⟩ | ⟨g, cap, cur, e, _, hg, hc, _⟩
  · omega
  · injection e with _ _ e
    rw [e]; exact hc
end Go.Proofs.YtjcambkjcagcoaaGreat
