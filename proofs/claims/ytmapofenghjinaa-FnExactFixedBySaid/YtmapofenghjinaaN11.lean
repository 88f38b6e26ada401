import Derived.Test.YtmapofenghjinaaN10
namespace Go.Proofs.Ytmapofenghjinaa
open Go.RowKit

theorem clsQ_self {L : List Int} {T : List (List Int)} (h : algB L T = true) {f x : Int} (hf : filB L T f = true) (hx : El L x) : clsQ L T f x x = true := by
  unfold clsQ; rw [nearI_self h hx]
  unfold filB at hf; rw [Bool.and_eq_true] at hf; exact hf.1
/-- the classes, of a filter alone -/
def clsL (L : List Int) (T : List (List Int)) (f : Int) : List Int := if afB L T f then lstTo (clsI L T f) (num L) else []
theorem clsL_t {L : List Int} {T : List (List Int)} {f : Int} (h : afB L T f = true) : clsL L T f = lstTo (clsI L T f) (num L) := if_pos h
theorem clsL_f {L : List Int} {T : List (List Int)} {f : Int} (h : afB L T f = false) : clsL L T f = [] := if_neg (by rw [h]; decide)
theorem clsL_len (L : List Int) (T : List (List Int)) (f : Int) : (clsL L T f).length ≤ 64 := by
  cases h : afB L T f with
  | false => rw [clsL_f h]; simp
  | true =>
    rw [clsL_t h]
    have ha : algB L T = true := by unfold afB at h; rw [Bool.and_eq_true] at h; exact h.1
    have := lat_len (alg_lat ha)
    have := lstTo_len (clsI L T f) (num L) (by omega)
    omega
theorem afB_parts {L : List Int} {T : List (List Int)} {f : Int} (h : afB L T f = true) : algB L T = true ∧ filB L T f = true ∧ 0 ≤ f ∧ f ≤ 63 := by
  rw [afB_as, Bool.and_eq_true] at h
  have h1 := h.1
  unfold asB at h1; rw [Bool.and_eq_true] at h1
  have := setB_63 h1.2 (lat_len (alg_lat h1.1)).2
  exact ⟨h1.1, h.2, this.1, this.2⟩
set_option maxRecDepth 100000 in
set_option maxHeartbeats 4000000 in
/-- spec.classes -/
theorem specClasses_any (a b : Option Addr) (ca cb : Nat) (L : List Int) (T : List (List Int)) (f : Int) (w : World) (hr : Rd w a L) (hT : RdT w b T) (h : afB L T f = true) :
    Calls Try.prog 154 #[.agg #[.slice a L.length ca, .slice b T.length cb], .int .i64 f] w (RetSl w.heap.size (lstTo (clsI L T f) (num L)) w) := by
  obtain ⟨hA, hF, f0, f6⟩ := afB_parts h
  have n1 := (lat_len (alg_lat hA)).1
  have n6 := (lat_len (alg_lat hA)).2
  have hn1 : num L ≤ L.length := Int.le_refl _
  have hn2 : (L.length : Int) ≤ num L := Int.le_refl _
  obtain ⟨w1, hw1⟩ : ∃ w1, w1 = w.alloc (.cells #[.slice a L.length ca, .slice b T.length cb] 28) := ⟨_, rfl⟩
  have hB : Below w.heap.size w w1 := by rw [hw1]; exact (Below.refl _ _).alloc (Nat.le_refl _) _
  have hx : w1.heap[w.heap.size]? = some (.cells #[.slice a L.length ca, .slice b T.length cb] 28 (0, 0)) := by rw [hw1]; exact heap_alloc_new w _
  obtain ⟨c0, c1⟩ := bx_cells hx
  have Kx := Lib.hid (show ∀ wz, Below w1.heap.size w1 wz → wz.heap[w.heap.size]? = some (.cells #[.slice a L.length ca, .slice b T.length cb] 28 (0, 0)) from fun wz h => (h.block _ (lt_of_block hx)).trans hx)
  have KR := Lib.hid (show ∀ wz, Below w1.heap.size w1 wz → Rd wz a L from fun wz h => (hr.below hB).below h)
  have KT := Lib.hid (show ∀ wz, Below w1.heap.size w1 wz → RdT wz b T from fun wz h => (hT.below hB).below h)
  have z1 : Below w1.heap.size w1 w1 := Below.refl _ _
  clear hr hT hx
  have hs1 := hB.size
  obtain ⟨i0, hi, hz0, hz1, hz2⟩ := info_parts info_int
  have HS := Lib.hid (show ∀ x, El L x → clsQ L T f x x = true from fun x hx => clsQ_self hA hF hx)
  have HN := Lib.hid (show ∀ x y, El L (nearI L T x y) from fun x y => nearI_el hA x y)
  have HA := Lib.hid hA
  clear hA hF h
  go_enter Try.func154, Try.ntmps154
  go_wp2_with (first
    | go_skip
    | (rw [← hw1]; clear hw1))
  go_loopw [5, 6, 7, 8] (fun o c _ _ wr => ∃ x : Int, 0 ≤ x ∧ x ≤ num L ∧ c = .int .i64 x ∧ Own w1.heap.size wr o (lstTo (clsI L T f) x) ∧ Below w1.heap.size w1 wr) (fun _ c _ _ _ => (6 - intOf c).toNat)
  case atStart => exact ⟨0, by omega, by omega, rfl, Own.row (L := []) (heap_alloc_new w1 _) (Nat.le_refl _) (Nat.zero_le _), z1.alloc (Nat.le_refl _) _⟩
  case round =>
    clear z1 c0 c1
    obtain ⟨x, x0, x1, rfl, hown, z3⟩ := hrel
    obtain ⟨e0, e1⟩ := bx_cells (Kx.out _ z3)
    by_cases hx : x < num L
    · have hxl : x < L.length := by omega
      have hsl := Lib.hid (HS.out x ⟨x0, hx⟩)
      have hlen := lstTo_len (clsI L T f) x x0
      have hsu := Lib.hid (lstTo_succ (clsI L T f) x x0)
      go_wp2
      clear e0 e1
      obtain ⟨w3, rfl⟩ : ∃ w3 : World, w3 = wr := ⟨_, rfl⟩
      go_loopw [7, 8] (fun t y wr => ∃ y1 at1 : Int, y = .int .i64 y1 ∧ -1 ≤ y1 ∧ y1 < x ∧ t = .int .i64 at1 ∧ y1 < at1 ∧ at1 ≤ x ∧ clsQ L T f x at1 = true ∧ (∀ j, y1 < j → j < at1 → clsQ L T f x j = false) ∧ Below w3.heap.size w3 wr) (fun _ y _ => (intOf y + 1).toNat)
      case atStart => exact ⟨x - 1, x, rfl, by omega, by omega, rfl, by omega, Int.le_refl _, hsl.out, fun j h1 h2 => by omega, Below.refl _ _⟩
      case round =>
        obtain ⟨y, at1, rfl, y0, y1, rfl, a0, a1, hat, hno, z4⟩ := hrel
        have z5 : Below w1.heap.size w1 wr := z3.trans (z4.mono z3.size)
        have HNO := Lib.hid hno
        have HAT := Lib.hid hat
        clear hno hat
        by_cases hy : 0 ≤ y
        · obtain ⟨m0, m1⟩ := HN.out x y
          have hq := Lib.hid (show clsQ L T f x y = ib f (nearI L T x y) from rfl)
          cases hC : ib f (nearI L T x y) with
          | true =>
            rw [hC] at hq
            have HC := Lib.hid (ib_t hC)
            clear hC
            go_wp2_with (first
              | (refine wpList_load_row_w rfl 28 _ rfl w.heap.size rfl _ _ _ _ (Kx.out _ (by assumption)) Try.underlying28 rfl (size_Alg _ _) ?_)
              | (go_at_call 162; refine (near_any _ _ _ _ L T x y _ (KR.out _ z5) (KT.out _ z5) HA.out x0 hx hy (by omega)).mono ?_; rintro e w6 ⟨rfl, h6⟩)
              | (go_at_call 131; refine (bit_is f (nearI L T x y) _ (by omega) (by omega) (by omega) (by omega) HC.out).mono ?_; rintro e w7 ⟨rfl, rfl⟩))
            go_roundw
            case rel => exact ⟨y - 1, y, rfl, by omega, by omega, rfl, by omega, by omega, hq.out, fun j h1 h2 => by omega, z4.trans (h6.mono z4.size)⟩
            case measure => simp [intOf]; omega
          | false =>
            rw [hC] at hq
            have HC := Lib.hid (ib_f hC)
            clear hC
            go_wp2_with (first
              | (refine wpList_load_row_w rfl 28 _ rfl w.heap.size rfl _ _ _ _ (Kx.out _ (by assumption)) Try.underlying28 rfl (size_Alg _ _) ?_)
              | (go_at_call 162; refine (near_any _ _ _ _ L T x y _ (KR.out _ z5) (KT.out _ z5) HA.out x0 hx hy (by omega)).mono ?_; rintro e w6 ⟨rfl, h6⟩)
              | (go_at_call 131; refine (bit_is f (nearI L T x y) _ (by omega) (by omega) (by omega) (by omega) HC.out).mono ?_; rintro e w7 ⟨rfl, rfl⟩))
            go_roundw
            case rel =>
              refine ⟨y - 1, at1, rfl, by omega, by omega, rfl, by omega, a1, HAT.out, fun j h1 h2 => ?_, z4.trans (h6.mono z4.size)⟩
              by_cases e : j = y
              · rw [e]; exact hq.out
              · exact HNO.out j (by omega) h2
            case measure => simp [intOf]; omega
        · have hcl := Lib.hid (show clsI L T f x = at1 from cls_is (by omega) a1 ⟨x0, hx⟩ HAT.out fun j h1 h2 => HNO.out j (by omega) h2)
          have hsu2 := Lib.hid (show lstTo (clsI L T f) (x + 1) = lstTo (clsI L T f) x ++ [at1] by rw [hsu.out, hcl.out])
          have hown5 := hown.below z4
          go_wp2_with (at_builtin; refine wpList_append_own _ rfl _ _ 22 rfl w1.heap.size 3 i0 (.int .i64 0) 1 8 Try.underlying22 hi hz0 hz1 hz2 rfl (by decide) _ _ _ rfl (World.ownsRow.alloc hown5 _) ⟨wr.heap.size, 0, none⟩ 1 1 [.int .i64 (at1)] rfl rfl (cell_one_new _ _ _) (fun x hx => by simp at hx; subst hx; rfl) (by unfold maxLen; omega) (by omega) (by have := z5.size; simp; omega) ?_; intro v9 w8 hown1 hgrow _)
          go_roundw
          case rel => exact ⟨x + 1, by omega, by omega, rfl, by unfold Own; rw [hsu2.out, List.map_append, List.length_append]; exact hown1, (z5.alloc z5.size _).grown hgrow (by have := z5.size; simp; omega) (fun q hq => (World.ownsRow.lt hown5 q hq).1)⟩
          case measure => simp [intOf]; omega
    · have e : x = num L := by omega
      subst e
      go_wp2
      go_ret
      exact RetOwn.sl ⟨_, rfl, hown.from hs1, hB.trans (z3.mono hB.size)⟩
set_option maxRecDepth 100000 in
set_option maxHeartbeats 2000000 in
theorem enters_els : Enters 153 := enters_of Try.func153 (by kernel_rfl) rfl
theorem filtTo_true : ∀ k : Nat, filtTo (fun _ => true) k = lstTo (fun i => i) k
  | 0 => rfl
  | k + 1 => by rw [show ((k + 1 : Nat) : Int) = (k : Int) + 1 by omega, filtTo_nat, lstTo_succ _ _ (by omega), filtTo_true k]; rfl
set_option maxRecDepth 100000 in
theorem elsClo_any (y : Int) (w : World) : Calls Try.prog 153 (#[.int .i64 y] ++ #[]) w fun e w' => e = .returned (.bool true) ∧ Below w.heap.size w w' := by
  go_enter Try.func153, Try.ntmps153
  go_wp2
  go_ret
  exact ⟨rfl, Below.refl _ _⟩
set_option maxRecDepth 100000 in
set_option maxHeartbeats 1000000 in
/-- impl.lattice.elements -/
theorem elements_any (L : List Int) (w : World) (n6 : (L.length : Int) ≤ 6) :
    Calls Try.prog 130 #[.agg (latOf L)] w (RetSl w.heap.size (lstTo (fun i => i) (L.length : Int)) w) := by
  obtain ⟨w1, hw1⟩ : ∃ w1, w1 = w.alloc (.cells (latOf L) 68) := ⟨_, rfl⟩
  have hB : Below w.heap.size w w1 := by rw [hw1]; exact (Below.refl _ _).alloc (Nat.le_refl _) _
  have hL : LatAt w1 w.heap.size L := by rw [hw1]; exact LatAt.new w L
  have c0 := hL.size
  have HT := Lib.hid (filtTo_true L.length)
  go_enter Try.func130, Try.ntmps130
  go_wp2_with (first
    | (rw [← hw1]; clear hw1)
    | (go_at_call 92; refine (elementsThat_any 153 #[] (L.length : Int) (fun _ => true) w1 (by omega) n6 enters_els (fun y wr y0 y1 hb => elsClo_any y wr)).mono ?_; rintro e w3 hret; obtain ⟨a3, c3, rfl, o3, h3⟩ := hret.sl))
  go_ret
  rw [HT.out] at o3 ⊢
  exact ⟨a3, c3, rfl, o3.from hB.size, hB.trans (h3.mono hB.size)⟩
set_option maxRecDepth 100000 in
set_option maxHeartbeats 2000000 in
/-- slices.IndexFunc over the elements in order, at whatever closure -/
theorem indexFunc_any (f : Nat) (env : Array Value) (a : Option Addr) (c : Nat) (E : List Int) (n : Int) (p : Int → Bool) (w : World) (hr : Rd w a E) (hE : E = lstTo (fun i => i) n) (n0 : 0 ≤ n) (n6 : n ≤ 6) (he : Enters f)
    (H : ∀ (y : Int) (wr : World), 0 ≤ y → y < n → Below w.heap.size w wr → Calls Try.prog f (#[.int .i64 y] ++ env) wr fun e w' => e = .returned (.bool (p y)) ∧ Below wr.heap.size wr w') :
    Calls Try.prog 135 #[.slice a E.length c, .func (.func f) #[] env] w fun e w' => e = .returned (.int .i64 (firstI n p)) ∧ Below w.heap.size w w' := by
  have hl : (E.length : Int) = n := by rw [hE]; exact lstTo_len _ _ n0
  have HH := Lib.hid H; clear H
  have HE := Lib.hid (show ∀ (args : Array Value) (w : World), (callFunc f args).run Try.prog w = .ok (.enter f args) w from he); clear he
  have KR := Lib.hid (show ∀ wz, Below w.heap.size w wz → Rd wz a E from fun wz h => hr.below h)
  have HV := Lib.hid (show ∀ i : Int, 0 ≤ i → i < n → nth E i = i from fun i i0 i1 => by rw [hE]; exact lstTo_nth _ i0 i1)
  clear hr hE
  go_enter Try.func135, Try.ntmps135
  go_wp2
  go_loopw [5, 8] (fun _ c wr => ∃ y : Int, 0 ≤ y ∧ y ≤ n ∧ c = .int .i64 y ∧ NoneTo y p ∧ Below w.heap.size w wr) (fun _ c _ => (6 - intOf c).toNat)
  case atStart => exact ⟨0, by omega, by omega, rfl, NoneTo.zero _, Below.refl _ _⟩
  case round =>
    obtain ⟨y, y0, y1, rfl, hno, hbel⟩ := hrel
    by_cases hy : y < n
    · have hyl : y < E.length := by omega
      obtain ⟨eb, eo, rfl, hcl⟩ := (KR.out _ hbel) (by intro e; rw [e] at hyl; simp at hyl; omega)
      have d0 := hcl.at y y0 hyl
      rw [HV.out y y0 hy] at d0
      have hC := HH.out y wr y0 hy hbel
      clear hcl
      cases hq : p y with
      | true =>
        rw [hq] at hC
        have hf := Lib.hid (firstI_some y0 hy hno hq)
        have HC := Lib.hid hC; clear hC hq
        go_wp2_with (rw [HE.out]; refine (HC.out).mono ?_; rintro e w5 ⟨rfl, h5⟩)
        go_ret
        exact ⟨ret_int (by rw [hf.out]), hbel.trans (h5.mono hbel.size)⟩
      | false =>
        rw [hq] at hC
        have HQ := Lib.hid hq
        have HC := Lib.hid hC; clear hC hq
        go_wp2_with (rw [HE.out]; refine (HC.out).mono ?_; rintro e w5 ⟨rfl, h5⟩)
        go_roundw
        case rel => exact ⟨y + 1, by omega, by omega, rfl, hno.succ HQ.out, hbel.trans (h5.mono hbel.size)⟩
        case measure => simp [intOf]; omega
    · have hf := Lib.hid (firstI_none (n := n) fun j h0 h1 => hno j h0 (by omega))
      go_wp2
      go_ret
      exact ⟨ret_int (by rw [hf.out]), hbel⟩
end Go.Proofs.Ytmapofenghjinaa
