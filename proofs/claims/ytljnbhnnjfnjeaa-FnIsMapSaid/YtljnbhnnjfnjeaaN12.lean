import Derived.Test.YtljnbhnnjfnjeaaN7
import Derived.Test.YtljnbhnnjfnjeaaG11
import Derived.Maps.AppendAt
namespace Go.Proofs.Ytljnbhnnjfnjeaa
open Go.RowKit

theorem fls_63 {L : List Int} {T : List (List Int)} (h : latB L = true) {x : Int} (hx : x ∈ fls L T) : 0 ≤ x ∧ x ≤ 63 := by
  have := fls_parts hx
  have := pw_6 (lat_len h).2
  omega
theorem filt_63 {L : List Int} {T : List (List Int)} (h : latB L = true) (p : Int → Bool) : ∀ s ∈ (fls L T).filter p, 0 ≤ s ∧ s ≤ 63 := fun _ hs => fls_63 h (List.mem_filter.1 hs).1
theorem filt_64 {L : List Int} {T : List (List Int)} (h : latB L = true) (p : Int → Bool) : ((fls L T).filter p).length ≤ 64 := by
  have := List.length_filter_le p (fls L T)
  have := fls_len L T (lat_len h).2
  omega
end Go.Proofs.Ytljnbhnnjfnjeaa

namespace Go.Proofs.Ytljnbhnnjfnjeaa
open Go.RowKit

theorem hrt_out {L : List Int} {T : List (List Int)} (h : algB L T = false) : hrtI L T = 0 ∧ hrtB L T = false := by
  have hb : hrtB L T = false := by unfold hrtB; rw [h]; rfl
  exact ⟨by unfold hrtI; rw [hb]; rfl, hb⟩
theorem hrt_no {L : List Int} {T : List (List Int)} (h : (hrtC L T == pw (num L - 1)) = true) : hrtI L T = 0 ∧ hrtB L T = false := by
  have hb : hrtB L T = false := by unfold hrtB; rw [beq_iff_eq] at h; rw [h]; simp
  exact ⟨by unfold hrtI; rw [hb]; rfl, hb⟩
theorem hrt_yes {L : List Int} {T : List (List Int)} (ha : algB L T = true) (h : (hrtC L T == pw (num L - 1)) = false) : hrtI L T = hrtC L T ∧ hrtB L T = true := by
  have hb : hrtB L T = true := by unfold hrtB; rw [ha, Bool.true_and, bne, h]; rfl
  exact ⟨by unfold hrtI; rw [hb]; rfl, hb⟩
end Go.Proofs.Ytljnbhnnjfnjeaa

namespace Go.Proofs.Ytljnbhnnjfnjeaa
open Go.RowKit

theorem apart_new {u v v' : Value} {n : Nat} (h : ∀ q, u.ownBlock = some q → v.ownBlock ≠ some q) (hl : v'.ownBlock = v.ownBlock ∨ v'.ownBlock = some n) (hn : ∀ q, u.ownBlock = some q → q < n) : ∀ q, u.ownBlock = some q → v'.ownBlock ≠ some q := fun q hq e => by
  rcases hl with hl | hl
  · exact h q hq (hl ▸ e)
  · have := hn q hq
    rw [hl] at e
    injection e with e
    omega
theorem apart_kept {u v : Value} (h : ∀ q, u.ownBlock = some q → v.ownBlock ≠ some q) : u.ownBlock = none ∨ u.ownBlock ≠ v.ownBlock := by
  cases hu : u.ownBlock with
  | none => exact .inl rfl
  | some q => exact .inr fun e => h q hu e.symm
end Go.Proofs.Ytljnbhnnjfnjeaa

namespace Go.Proofs.Ytljnbhnnjfnjeaa
open Go.RowKit

theorem clsQ_self {L : List Int} {T : List (List Int)} (h : algB L T = true) {f x : Int} (hf : filB L T f = true) (hx : El L x) : clsQ L T f x x = true := by
  unfold clsQ; rw [nearI_self h hx]
  unfold filB at hf; rw [Bool.and_eq_true] at hf; exact hf.1
/-- the classes, of a filter alone -/
def clsL (L : List Int) (T : List (List Int)) (f : Int) : List Int := if afB L T f then lstTo (clsI L T f) (num L) else []
theorem clsL_t {L : List Int} {T : List (List Int)} {f : Int} (h : afB L T f = true) : clsL L T f = lstTo (clsI L T f) (num L) := if_pos h
theorem clsL_f {L : List Int} {T : List (List Int)} {f : Int} (h : afB L T f = false) : clsL L T f = [] := if_neg (by rw [h]; decide)
theorem clsL_len (L : List Int) (T : List (List Int)) (f : Int) : (clsL L T f).length ≤ 64 := by
  cases h : afB L T f with
  | false => rw [clsL_f h]; simp
  | true =>
    rw [clsL_t h]
    have ha : algB L T = true := by unfold afB at h; rw [Bool.and_eq_true] at h; exact h.1
    have := lat_len (alg_lat ha)
    have := lstTo_len (clsI L T f) (num L) (by omega)
    omega
theorem afB_parts {L : List Int} {T : List (List Int)} {f : Int} (h : afB L T f = true) : algB L T = true ∧ filB L T f = true ∧ 0 ≤ f ∧ f ≤ 63 := by
  rw [afB_as, Bool.and_eq_true] at h
  have h1 := h.1
  unfold asB at h1; rw [Bool.and_eq_true] at h1
  have := setB_63 h1.2 (lat_len (alg_lat h1.1)).2
  exact ⟨h1.1, h.2, this.1, this.2⟩
set_option maxRecDepth 100000 in
set_option maxHeartbeats 4000000 in
/-- spec.classes -/
theorem specClasses_any (a b : Option Addr) (ca cb : Nat) (L : List Int) (T : List (List Int)) (f : Int) (w : World) (hr : Rd w a L) (hT : RdT w b T) (h : afB L T f = true) :
    Calls Try.prog 106 #[.agg #[.slice a L.length ca, .slice b T.length cb], .int .i64 f] w (RetSl w.heap.size (lstTo (clsI L T f) (num L)) w) := by
  obtain ⟨hA, hF, f0, f6⟩ := afB_parts h
  have n1 := (lat_len (alg_lat hA)).1
  have n6 := (lat_len (alg_lat hA)).2
  have hn1 : num L ≤ L.length := Int.le_refl _
  have hn2 : (L.length : Int) ≤ num L := Int.le_refl _
  obtain ⟨w1, hw1⟩ : ∃ w1, w1 = w.alloc (.cells #[.slice a L.length ca, .slice b T.length cb] 26) := ⟨_, rfl⟩
  have hB : Below w.heap.size w w1 := by rw [hw1]; exact (Below.refl _ _).alloc (Nat.le_refl _) _
  have hx : w1.heap[w.heap.size]? = some (.cells #[.slice a L.length ca, .slice b T.length cb] 26 (0, 0)) := by rw [hw1]; exact heap_alloc_new w _
  obtain ⟨c0, c1⟩ := bx_cells hx
  have Kx := Lib.hid (show ∀ wz, Below w1.heap.size w1 wz → wz.heap[w.heap.size]? = some (.cells #[.slice a L.length ca, .slice b T.length cb] 26 (0, 0)) from fun wz h => (h.block _ (lt_of_block hx)).trans hx)
  have KR := Lib.hid (show ∀ wz, Below w1.heap.size w1 wz → Rd wz a L from fun wz h => (hr.below hB).below h)
  have KT := Lib.hid (show ∀ wz, Below w1.heap.size w1 wz → RdT wz b T from fun wz h => (hT.below hB).below h)
  have z1 : Below w1.heap.size w1 w1 := Below.refl _ _
  clear hr hT hx
  have hs1 := hB.size
  obtain ⟨i0, hi, hz0, hz1, hz2⟩ := info_parts info_int
  have HS := Lib.hid (show ∀ x, El L x → clsQ L T f x x = true from fun x hx => clsQ_self hA hF hx)
  have HN := Lib.hid (show ∀ x y, El L (nearI L T x y) from fun x y => nearI_el hA x y)
  have HA := Lib.hid hA
  clear hA hF h
  go_enter Try.func106, Try.ntmps106
  go_wp2_with (first
    | go_skip
    | (rw [← hw1]; clear hw1))
  go_loopw [5, 6, 7, 8] (fun o c _ _ wr => ∃ x : Int, 0 ≤ x ∧ x ≤ num L ∧ c = .int .i64 x ∧ Own w1.heap.size wr o (lstTo (clsI L T f) x) ∧ Below w1.heap.size w1 wr) (fun _ c _ _ _ => (6 - intOf c).toNat)
  case atStart => exact ⟨0, by omega, by omega, rfl, Own.row (L := []) (heap_alloc_new w1 _) (Nat.le_refl _) (Nat.zero_le _), z1.alloc (Nat.le_refl _) _⟩
  case round =>
    clear z1 c0 c1
    obtain ⟨x, x0, x1, rfl, hown, z3⟩ := hrel
    obtain ⟨e0, e1⟩ := bx_cells (Kx.out _ z3)
    by_cases hx : x < num L
    · have hxl : x < L.length := by omega
      have hsl := Lib.hid (HS.out x ⟨x0, hx⟩)
      have hlen := lstTo_len (clsI L T f) x x0
      have hsu := Lib.hid (lstTo_succ (clsI L T f) x x0)
      go_wp2
      clear e0 e1
      obtain ⟨w3, rfl⟩ : ∃ w3 : World, w3 = wr := ⟨_, rfl⟩
      go_loopw [7, 8] (fun t y wr => ∃ y1 at1 : Int, y = .int .i64 y1 ∧ -1 ≤ y1 ∧ y1 < x ∧ t = .int .i64 at1 ∧ y1 < at1 ∧ at1 ≤ x ∧ clsQ L T f x at1 = true ∧ (∀ j, y1 < j → j < at1 → clsQ L T f x j = false) ∧ Below w3.heap.size w3 wr) (fun _ y _ => (intOf y + 1).toNat)
      case atStart => exact ⟨x - 1, x, rfl, by omega, by omega, rfl, by omega, Int.le_refl _, hsl.out, fun j h1 h2 => by omega, Below.refl _ _⟩
      case round =>
        obtain ⟨y, at1, rfl, y0, y1, rfl, a0, a1, hat, hno, z4⟩ := hrel
        have z5 : Below w1.heap.size w1 wr := z3.trans (z4.mono z3.size)
        have HNO := Lib.hid hno
        have HAT := Lib.hid hat
        clear hno hat
        by_cases hy : 0 ≤ y
        · obtain ⟨m0, m1⟩ := HN.out x y
          have hq := Lib.hid (show clsQ L T f x y = ib f (nearI L T x y) from rfl)
          cases hC : ib f (nearI L T x y) with
          | true =>
            rw [hC] at hq
            have HC := Lib.hid (ib_t hC)
            clear hC
            go_wp2_with (first
              | (refine wpList_load_row_w rfl 26 _ rfl w.heap.size rfl _ _ _ _ (Kx.out _ (by assumption)) Try.underlying26 rfl (size_Alg _ _) ?_)
              | (go_at_call 115; refine (near_any _ _ _ _ L T x y _ (KR.out _ z5) (KT.out _ z5) HA.out x0 hx hy (by omega)).mono ?_; rintro e w6 ⟨rfl, h6⟩)
              | (go_at_call 82; refine (bit_is f (nearI L T x y) _ (by omega) (by omega) (by omega) (by omega) HC.out).mono ?_; rintro e w7 ⟨rfl, rfl⟩))
            go_roundw
            case rel => exact ⟨y - 1, y, rfl, by omega, by omega, rfl, by omega, by omega, hq.out, fun j h1 h2 => by omega, z4.trans (h6.mono z4.size)⟩
            case measure => simp [intOf]; omega
          | false =>
            rw [hC] at hq
            have HC := Lib.hid (ib_f hC)
            clear hC
            go_wp2_with (first
              | (refine wpList_load_row_w rfl 26 _ rfl w.heap.size rfl _ _ _ _ (Kx.out _ (by assumption)) Try.underlying26 rfl (size_Alg _ _) ?_)
              | (go_at_call 115; refine (near_any _ _ _ _ L T x y _ (KR.out _ z5) (KT.out _ z5) HA.out x0 hx hy (by omega)).mono ?_; rintro e w6 ⟨rfl, h6⟩)
              | (go_at_call 82; refine (bit_is f (nearI L T x y) _ (by omega) (by omega) (by omega) (by omega) HC.out).mono ?_; rintro e w7 ⟨rfl, rfl⟩))
            go_roundw
            case rel =>
              refine ⟨y - 1, at1, rfl, by omega, by omega, rfl, by omega, a1, HAT.out, fun j h1 h2 => ?_, z4.trans (h6.mono z4.size)⟩
              by_cases e : j = y
              · rw [e]; exact hq.out
              · exact HNO.out j (by omega) h2
            case measure => simp [intOf]; omega
        · have hcl := Lib.hid (show clsI L T f x = at1 from cls_is (by omega) a1 ⟨x0, hx⟩ HAT.out fun j h1 h2 => HNO.out j (by omega) h2)
          have hsu2 := Lib.hid (show lstTo (clsI L T f) (x + 1) = lstTo (clsI L T f) x ++ [at1] by rw [hsu.out, hcl.out])
          have hown5 := hown.below z4
          go_wp2_with (at_builtin; refine wpList_append_own _ rfl _ _ 23 rfl w1.heap.size 3 i0 (.int .i64 0) 1 8 Try.underlying23 hi hz0 hz1 hz2 rfl (by decide) _ _ _ rfl (World.ownsRow.alloc hown5 _) ⟨wr.heap.size, 0, none⟩ 1 1 [.int .i64 (at1)] rfl rfl (cell_one_new _ _ _) (fun x hx => by simp at hx; subst hx; rfl) (by unfold maxLen; omega) (by omega) (by have := z5.size; simp; omega) ?_; intro v9 w8 hown1 hgrow _)
          go_roundw
          case rel => exact ⟨x + 1, by omega, by omega, rfl, by unfold Own; rw [hsu2.out, List.map_append, List.length_append]; exact hown1, (z5.alloc z5.size _).grown hgrow (by have := z5.size; simp; omega) (fun q hq => (World.ownsRow.lt hown5 q hq).1)⟩
          case measure => simp [intOf]; omega
    · have e : x = num L := by omega
      subst e
      go_wp2
      go_ret
      exact RetOwn.sl ⟨_, rfl, hown.from hs1, hB.trans (z3.mono hB.size)⟩
set_option maxRecDepth 100000 in
set_option maxHeartbeats 2000000 in
theorem enters_els : Enters 94 := enters_of Try.func94 (by kernel_rfl) rfl
theorem filtTo_true : ∀ k : Nat, filtTo (fun _ => true) k = lstTo (fun i => i) k
  | 0 => rfl
  | k + 1 => by rw [show ((k + 1 : Nat) : Int) = (k : Int) + 1 by omega, filtTo_nat, lstTo_succ _ _ (by omega), filtTo_true k]; rfl
set_option maxRecDepth 100000 in
theorem elsClo_any (y : Int) (w : World) : Calls Try.prog 94 (#[.int .i64 y] ++ #[]) w fun e w' => e = .returned (.bool true) ∧ Below w.heap.size w w' := by
  go_enter Try.func94, Try.ntmps94
  go_wp2
  go_ret
  exact ⟨rfl, Below.refl _ _⟩
set_option maxRecDepth 100000 in
set_option maxHeartbeats 1000000 in
/-- impl.lattice.elements -/
theorem elements_any (L : List Int) (w : World) (n6 : (L.length : Int) ≤ 6) :
    Calls Try.prog 67 #[.agg (latOf L)] w (RetSl w.heap.size (lstTo (fun i => i) (L.length : Int)) w) := by
  obtain ⟨w1, hw1⟩ : ∃ w1, w1 = w.alloc (.cells (latOf L) 50) := ⟨_, rfl⟩
  have hB : Below w.heap.size w w1 := by rw [hw1]; exact (Below.refl _ _).alloc (Nat.le_refl _) _
  have hL : LatAt w1 w.heap.size L := by rw [hw1]; exact LatAt.new w L
  have c0 := hL.size
  have HT := Lib.hid (filtTo_true L.length)
  go_enter Try.func67, Try.ntmps67
  go_wp2_with (first
    | (rw [← hw1]; clear hw1)
    | (go_at_call 34; refine (elementsThat_any 94 #[] (L.length : Int) (fun _ => true) w1 (by omega) n6 enters_els (fun y wr y0 y1 hb => elsClo_any y wr)).mono ?_; rintro e w3 hret; obtain ⟨a3, c3, rfl, o3, h3⟩ := hret.sl))
  go_ret
  rw [HT.out] at o3 ⊢
  exact ⟨a3, c3, rfl, o3.from hB.size, hB.trans (h3.mono hB.size)⟩
set_option maxRecDepth 100000 in
set_option maxHeartbeats 2000000 in
/-- slices.IndexFunc over the elements in order, at whatever closure -/
theorem indexFunc_any (f : Nat) (env : Array Value) (a : Option Addr) (c : Nat) (E : List Int) (n : Int) (p : Int → Bool) (w : World) (hr : Rd w a E) (hE : E = lstTo (fun i => i) n) (n0 : 0 ≤ n) (n6 : n ≤ 6) (he : Enters f)
    (H : ∀ (y : Int) (wr : World), 0 ≤ y → y < n → Below w.heap.size w wr → Calls Try.prog f (#[.int .i64 y] ++ env) wr fun e w' => e = .returned (.bool (p y)) ∧ Below wr.heap.size wr w') :
    Calls Try.prog 66 #[.slice a E.length c, .func (.func f) #[] env] w fun e w' => e = .returned (.int .i64 (firstI n p)) ∧ Below w.heap.size w w' := by
  have hl : (E.length : Int) = n := by rw [hE]; exact lstTo_len _ _ n0
  have HH := Lib.hid H; clear H
  have HE := Lib.hid (show ∀ (args : Array Value) (w : World), (callFunc f args).run Try.prog w = .ok (.enter f args) w from he); clear he
  have KR := Lib.hid (show ∀ wz, Below w.heap.size w wz → Rd wz a E from fun wz h => hr.below h)
  have HV := Lib.hid (show ∀ i : Int, 0 ≤ i → i < n → nth E i = i from fun i i0 i1 => by rw [hE]; exact lstTo_nth _ i0 i1)
  clear hr hE
  go_enter Try.func66, Try.ntmps66
  go_wp2
  go_loopw [5, 8] (fun _ c wr => ∃ y : Int, 0 ≤ y ∧ y ≤ n ∧ c = .int .i64 y ∧ NoneTo y p ∧ Below w.heap.size w wr) (fun _ c _ => (6 - intOf c).toNat)
  case atStart => exact ⟨0, by omega, by omega, rfl, NoneTo.zero _, Below.refl _ _⟩
  case round =>
    obtain ⟨y, y0, y1, rfl, hno, hbel⟩ := hrel
    by_cases hy : y < n
    · have hyl : y < E.length := by omega
      obtain ⟨eb, eo, rfl, hcl⟩ := (KR.out _ hbel) (by intro e; rw [e] at hyl; simp at hyl; omega)
      have d0 := hcl.at y y0 hyl
      rw [HV.out y y0 hy] at d0
      have hC := HH.out y wr y0 hy hbel
      clear hcl
      cases hq : p y with
      | true =>
        rw [hq] at hC
        have hf := Lib.hid (firstI_some y0 hy hno hq)
        have HC := Lib.hid hC; clear hC hq
        go_wp2_with (rw [HE.out]; refine (HC.out).mono ?_; rintro e w5 ⟨rfl, h5⟩)
        go_ret
        exact ⟨ret_int (by rw [hf.out]), hbel.trans (h5.mono hbel.size)⟩
      | false =>
        rw [hq] at hC
        have HQ := Lib.hid hq
        have HC := Lib.hid hC; clear hC hq
        go_wp2_with (rw [HE.out]; refine (HC.out).mono ?_; rintro e w5 ⟨rfl, h5⟩)
        go_roundw
        case rel => exact ⟨y + 1, by omega, by omega, rfl, hno.succ HQ.out, hbel.trans (h5.mono hbel.size)⟩
        case measure => simp [intOf]; omega
    · have hf := Lib.hid (firstI_none (n := n) fun j h0 h1 => hno j h0 (by omega))
      go_wp2
      go_ret
      exact ⟨ret_int (by rw [hf.out]), hbel⟩
end Go.Proofs.Ytljnbhnnjfnjeaa

namespace Go.Proofs.Ytljnbhnnjfnjeaa
open Go.RowKit

theorem append13 (a b c d : Value) : (#[a] ++ #[b, c, d] : Array Value) = #[a, b, c, d] := rfl
theorem anyC_skip {P : Program} {ops : Array Oper} {md : Region.Mode} {Q : Exit → Act → World → Prop} {C : World → Prop} {i : Nat} {o : Oper} {fuel : Nat} {listed : Array Bool} {a : Act} {w w' : World} (hi : ops[i]? = some o)
    (hr : Region.ready md ops listed = [i]) (hw : Region.wanted o (yielded ops a.tmps) = true) (hx : (execOp a.eval o).run P w = .ok .skip w') (hC : C w)
    (h : wpAnyC P md ops Q C fuel (listed.setIfInBounds i true) (a.put o.dst undef) w') : wpAnyC P md ops Q C (fuel + 1) listed a w := by
  refine ⟨hC, fun h0 => (by rw [hr] at h0; cases h0), fun j hj => ?_⟩
  rw [hr, List.mem_singleton] at hj
  subst hj
  unfold wpOp
  simp only [hi, hw, if_true, Oper.wp, hx, Oper.upon]
  exact .inl h
theorem runs_move {P : Program} {o : Oper} {a : Act} (x : Operand) (ho : o.op = .move x) (v : Value) (hx : a.eval x = v) (w : World) : (execOp a.eval o).run P w = .ok (.value v) w := by
  subst hx
  unfold execOp
  simp [ho]
theorem runs_make3 {P : Program} {o : Oper} {a : Act} (f : FuncId) (x y z : Operand) (ho : o.op = .makeFunc (.func f) #[] #[x, y, z]) (u v t : Value) (hx : a.eval x = u) (hy : a.eval y = v) (hz : a.eval z = t) (w : World) : (execOp a.eval o).run P w = .ok (.value (.func (.func f) #[] #[u, v, t])) w := by
  subst hx hy hz
  unfold execOp
  simp [ho, Instr.makeFunc]
theorem runs_mid {P : Program} {C : World → Prop} {o : Oper} {a : Act} (ty : TypeId) (x : Operand) (ho : o.op = .load ty x) (g f : Nat) (hx : a.eval x = .pointer (some ⟨g, f, none⟩)) (cs : Array Value) (d : TypeDesc)
    (hg : ∀ w, C w → w.rangeAt g f cs.toList) (hu : P.underlying ty = some d) (hd : d.isRow = true) (hi : (P.info? ty).map (·.size) = some cs.size) (w : World) (hC : C w) : (execOp a.eval o).run P w = .ok (.value (.agg cs)) w := by
  unfold execOp
  simp only [ho, hx, Instr.loadAt, Instr.sureAddr, Sem.run_bind, Sem.run_pure, Result.andThen_ok, run_loadVar_mid w g f ty cs.toList d (hg w hC) hu hd (by simpa using hi)]
/-- the classes so far, noughts behind them -/
def mixC (L : List Int) (T : List (List Int)) (f x : Int) : List Int := lstTo (clsI L T f) x ++ List.replicate (L.length - x.toNat) 0
theorem mixC_len {L : List Int} {T : List (List Int)} {f x : Int} (x0 : 0 ≤ x) (x1 : x ≤ num L) : (mixC L T f x).length = L.length := by
  have h := lstTo_len (clsI L T f) x x0
  have : num L = L.length := rfl
  unfold mixC; rw [List.length_append, List.length_replicate]; omega
theorem mixC_set {L : List Int} {T : List (List Int)} {f x : Int} (x0 : 0 ≤ x) (x1 : x < num L) : (mixC L T f x).set x.toNat (clsI L T f x) = mixC L T f (x + 1) := by
  have h := lstTo_len (clsI L T f) x x0
  have hn : num L = L.length := rfl
  unfold mixC
  rw [List.set_append_right (h := by omega), lstTo_succ _ _ x0, List.append_assoc]
  congr 1
  have e1 : x.toNat - (lstTo (clsI L T f) x).length = 0 := by omega
  have e2 : L.length - x.toNat = (L.length - (x + 1).toNat) + 1 := by omega
  rw [e1, e2, List.replicate_succ]
  rfl
theorem mixC_all {L : List Int} {T : List (List Int)} {f : Int} : mixC L T f (num L) = lstTo (clsI L T f) (num L) := by
  have hn : num L = L.length := rfl
  unfold mixC
  rw [show L.length - (num L).toNat = 0 by omega]
  simp
theorem enters_cls : Enters 68 := enters_of Try.func68 (by kernel_rfl) rfl
theorem enters_els1 : Enters 67 := enters_of Try.func67 (by kernel_rfl) rfl
theorem enters_ixf : Enters 66 := enters_of Try.func66 (by kernel_rfl) rfl
/-- what the closure of classesBy reads -/
structure CB (ba bx bf : Nat) (L : List Int) (T : List (List Int)) (f x : Int) (w : World) : Prop where
  alg : AlgAt w ba L T
  x : w.heap[bx]? = some (.cells #[.int .i64 x] 3 (0, 0))
  f : w.heap[bf]? = some (.cells #[.int .i64 f] 3 (0, 0))
theorem CB.below {ba bx bf : Nat} {L : List Int} {T : List (List Int)} {f x : Int} {w w' : World} (h : CB ba bx bf L T f x w) (hb : Below w.heap.size w w') : CB ba bx bf L T f x w' :=
  ⟨h.alg.below hb h.alg.lt, (hb.block _ (lt_of_block h.x)).trans h.x, (hb.block _ (lt_of_block h.f)).trans h.f⟩
set_option maxRecDepth 100000 in
set_option maxHeartbeats 2000000 in
theorem clsClo_any (ba bx bf : Nat) (L : List Int) (T : List (List Int)) (f x y : Int) (w : World) (hC : CB ba bx bf L T f x w) (h : algB L T = true) (f0 : 0 ≤ f) (f6 : f ≤ 63) (x0 : 0 ≤ x) (x1 : x < num L) (y0 : 0 ≤ y) (y1 : y < num L) :
    Calls Try.prog 68 #[.int .i64 y, .pointer (some ⟨ba, 0, none⟩), .pointer (some ⟨bx, 0, none⟩), .pointer (some ⟨bf, 0, none⟩)] w fun e w' => e = .returned (.bool (clsQ L T f x y)) ∧ Below w.heap.size w w' := by
  have n6 := (lat_len (alg_lat h)).2
  obtain ⟨m0, m1⟩ := nearI_el h x y
  have Q := Lib.hid (show ∀ wz, Below w.heap.size w wz → CB ba bx bf L T f x wz from fun wz hz => hC.below hz)
  have hq := Lib.hid (show clsQ L T f x y = ib f (nearI L T x y) from rfl)
  have HA := Lib.hid h
  clear hC h
  go_enter Try.func68, Try.ntmps68
  go_wp2
  refine region_in (Below w.heap.size w) (by kernel_rfl) (by kernel_rfl) (Dr.below ⟨1, rfl⟩ _) fun hne => ?_
  have r1 : ∀ s : In (Below w.heap.size w), s.w.cell? ⟨bx, 0, none⟩ = some (.int .i64 x) := fun s => cell_of_one (Q.out _ s.h).x
  have r2 : ∀ s : In (Below w.heap.size w), s.w.cell? ⟨bf, 0, none⟩ = some (.int .i64 f) := fun s => cell_of_one (Q.out _ s.h).f
  repeat (first
    | (go_big_quiet_want; refine quiet_load_row 52 _ rfl ba rfl _ _ _ _ (fun w' ⟨s, hs⟩ => by rw [hs]; exact (Q.out _ s.h).alg) Try.underlying52 rfl (size_alg _ _ _ _ _ _) ?_; simp only [Act.put, List.setIfInBounds_toArray, List.set_cons_succ, List.set_cons_zero]; go_big_quiet_on)
    | go_big_quiet_step ((first | (go_at_call 30; exact in_below _ (Nat.le_refl _) (nearM_any L T x y _ HA.out x0 x1 y0 y1)) | (go_at_call 42; exact in_below _ (Nat.le_refl _) ((isIn_any (nearI L T x y) f _ m0 (by omega) f0 (by omega)).mono fun _ _ h => ⟨h.1, h.2 ▸ Below.refl _ _⟩)))))
  refine wpQuiet_nil ?_
  intro s
  have hw2 := s.h
  obtain ⟨w2, hw2'⟩ : ∃ w2, w2 = s.w := ⟨_, rfl⟩
  rw [← hw2'] at hw2 ⊢
  clear hw2'
  go_wp2
  go_ret
  exact ⟨ret_bool (by rw [hq.out]), hw2⟩
set_option maxRecDepth 100000 in
set_option maxHeartbeats 4000000 in
theorem classesBy_any (L : List Int) (T : List (List Int)) (f : Int) (w : World) (h : afB L T f = true) :
    Calls Try.prog 37 #[.agg (algOf L T), .int .i64 f] w (RetSl w.heap.size (lstTo (clsI L T f) (num L)) w) := by
  obtain ⟨hA, hF, f0, f6⟩ := afB_parts h
  obtain ⟨n1, n6⟩ := lat_len (alg_lat hA)
  have n6' : (L.length : Int) ≤ 6 := n6
  have hmk := run_make_ints L.length (by omega)
  obtain ⟨w1, hw1⟩ : ∃ w1, w1 = (w.alloc (.cells (algOf L T) 52)).alloc (.cells #[.int .i64 f] 3) := ⟨_, rfl⟩
  have hB : Below w.heap.size w w1 := by rw [hw1]; exact ((Below.refl _ _).alloc (Nat.le_refl _) _).alloc (by simp) _
  have hal : AlgAt w1 w.heap.size L T := by rw [hw1]; exact (AlgAt.new w L T).alloc _
  have hs : w1.heap[w.heap.size + 1]? = some (.cells #[.int .i64 f] 3 (0, 0)) := by rw [hw1]; exact heap_alloc2_new _ _ _
  have c0 := hal.size
  have hz1 : w1.heap.size = w.heap.size + 1 + 1 := by rw [hw1]; simp
  have HA := Lib.hid hA
  clear h hF hA
  go_enter Try.func37, Try.ntmps37
  go_wp2_with (rw [← hw1]; clear hw1)
  clear hmk c0
  go_loopw [6, 13] (fun _ c wr => ∃ x : Int, 0 ≤ x ∧ x ≤ num L ∧ c = .int .i64 x ∧ Row wr (w.heap.size + 1 + 1) (mixC L T f x) ∧ AlgAt wr w.heap.size L T ∧ wr.heap[w.heap.size + 1]? = some (.cells #[.int .i64 f] 3 (0, 0)) ∧ Below w.heap.size w wr) (fun _ c _ => (6 - intOf c).toNat)
  case atStart =>
    refine ⟨0, by omega, by omega, rfl, ?_, hal.alloc _, ?_, hB.alloc hB.size _⟩
    · rw [← hz1]; exact heap_alloc_new w1 _
    · rw [Below.heap_alloc _ _ _ (lt_of_block hs)]; exact hs
  case round =>
    clear hB hal hs hz1 w1
    obtain ⟨x, x0, x1, rfl, hrow, hal, hs, hB⟩ := hrel
    by_cases hx : x < num L
    · have hxl : x < L.length := hx
      go_wp2
      obtain ⟨bx, hbx⟩ : ∃ bx, bx = wr.heap.size := ⟨_, rfl⟩
      obtain ⟨wq, hwq⟩ : ∃ wq, wq = wr.alloc (.cells #[.int .i64 x] 3) := ⟨_, rfl⟩
      rw [← hwq, ← hbx]
      have hC : CB w.heap.size bx (w.heap.size + 1) L T f x wq := by
        rw [hwq, hbx]
        exact ⟨hal.alloc _, heap_alloc_new wr _, by rw [Below.heap_alloc _ _ _ (lt_of_block hs)]; exact hs⟩
      have hrq : Row wq (w.heap.size + 1 + 1) (mixC L T f x) := by rw [hwq]; exact hrow.alloc _
      have hBq : Below w.heap.size w wq := by rw [hwq]; exact hB.alloc hB.size _
      have hlb := hrow.lt
      have hbg : w.heap.size + 1 + 1 < bx := by rw [hbx]; exact hlb
      clear hrow hal hs hB hwq hbx hlb
      refine wp_region_any (by kernel_rfl) ?_
      refine any_of_C (C := CB w.heap.size bx (w.heap.size + 1) L T f x) _ _ _ _ ?_
      refine anyC_take (i := 0) (v := .slice (some ⟨w.heap.size + 1 + 1, 0, none⟩) L.length L.length) rfl (by kernel_rfl) (by kernel_rfl) (by kernel_rfl) (fun _ _ _ h => h) (.inl ⟨rfl, fun wz hz => by apply runs_move <;> rfl⟩) ?_
      refine anyC_take (i := 1) (v := .int .i64 x) rfl (by kernel_rfl) (by kernel_rfl) (by kernel_rfl) (fun _ _ _ h => h) (.inl ⟨rfl, fun wz hz => by have c := cell_of_one hz.x; go_simp⟩) ?_
      refine anyC_take (i := 2) (v := .pointer (some ⟨w.heap.size, 0, none⟩)) rfl (by kernel_rfl) (by kernel_rfl) (by kernel_rfl) (fun _ _ _ h => h) (.inl ⟨rfl, fun wz hz => by go_simp⟩) ?_
      refine anyC_take (i := 3) (v := .agg (latOf L)) rfl (by kernel_rfl) (by kernel_rfl) (by kernel_rfl) (fun _ _ _ h => h) (.inl ⟨rfl, fun wz hz => runs_mid (C := CB w.heap.size bx (w.heap.size + 1) L T f x) 50 _ rfl w.heap.size 0 rfl (latOf L) _ (fun w hw => hw.alg.lat) Try.underlying50 rfl (size_latOf L) wz hz⟩) ?_
      refine anyC_take (i := 5) (v := .func (.func 68) #[] #[.pointer (some ⟨w.heap.size, 0, none⟩), .pointer (some ⟨bx, 0, none⟩), .pointer (some ⟨w.heap.size + 1, 0, none⟩)]) rfl (by kernel_rfl) (by kernel_rfl) (by kernel_rfl) (fun _ _ _ h => h) (.inl ⟨rfl, fun wz hz => by apply runs_make3 <;> rfl⟩) ?_
      have zd : Below wq.heap.size wq (wq.drewN 1) := Dr.below ⟨1, rfl⟩ _
      refine anyC_call (i := 4) (o := _) (f := 67) (args := #[.agg (latOf L)]) rfl (by kernel_rfl) rfl (by apply runs_call1 (he := enters_els1) <;> rfl) (hC.below zd) ?_
      refine (elements_any L (wq.drewN 1) n6').mono ?_
      rintro e w11 ⟨a3, c3, rfl, o3, h3⟩
      have y11 : Below wq.heap.size wq w11 := zd.trans (h3.mono zd.size)
      refine ⟨_, rfl, ?_⟩
      refine anyC_call (i := 6) (o := _) (f := 66) (args := #[.slice a3 (lstTo (fun i => i) (L.length : Int)).length c3, .func (.func 68) #[] #[.pointer (some ⟨w.heap.size, 0, none⟩), .pointer (some ⟨bx, 0, none⟩), .pointer (some ⟨w.heap.size + 1, 0, none⟩)]]) rfl (by kernel_rfl) rfl (by apply runs_call2 (he := enters_ixf) <;> rfl) (hC.below y11) ?_
      refine (indexFunc_any 68 #[.pointer (some ⟨w.heap.size, 0, none⟩), .pointer (some ⟨bx, 0, none⟩), .pointer (some ⟨w.heap.size + 1, 0, none⟩)] a3 c3 _ (L.length : Int) (clsQ L T f x) w11 o3.rd rfl (by omega) n6' enters_cls (fun y wr' y0 y1 hb => by rw [append13]; exact clsClo_any _ _ _ L T f x y wr' ((hC.below y11).below hb) HA.out f0 f6 x0 hx y0 y1)).mono ?_
      rintro e w12 ⟨rfl, h4⟩
      have y12 : Below wq.heap.size wq w12 := y11.trans (h4.mono y11.size)
      refine ⟨_, rfl, ?_⟩
      have hr12 := hrq.below y12 hrq.lt
      have hC12 := hC.below y12
      have hlen := mixC_len (L := L) (T := T) (f := f) x0 (show x ≤ num L by omega)
      have d0 := hr12.cell x0 (by rw [hlen]; exact hxl)
      have fz := hr12.free x.toNat
      have hB12 : Below w.heap.size w w12 := hBq.trans (y12.mono hBq.size)
      have hset := Lib.hid (mixC_set (L := L) (T := T) (f := f) x0 hx)
      have hC13 : CB w.heap.size bx (w.heap.size + 1) L T f x (w12.setCell ⟨w.heap.size + 1 + 1, x.toNat, none⟩ (.int .i64 (clsI L T f x))) :=
        ⟨(heap_setCell_other w12 _ _ _ (by simp <;> omega)).trans hC12.alg, (heap_setCell_other w12 _ _ _ (by simp; omega)).trans hC12.x, (heap_setCell_other w12 _ _ _ (by simp <;> omega)).trans hC12.f⟩
      refine anyC_take (i := 7) (v := .pointer (some ⟨w.heap.size + 1 + 1, x.toNat, none⟩)) rfl (by kernel_rfl) (by kernel_rfl) (by kernel_rfl) (fun _ _ _ h => h) (.inl ⟨rfl, fun wz hz => by go_simp⟩) ?_
      refine anyC_skip (i := 8) (o := _) (w' := w12.setCell ⟨w.heap.size + 1 + 1, x.toNat, none⟩ (.int .i64 (clsI L T f x))) rfl (by kernel_rfl) rfl ?_ hC12 ?_
      · go_simp
        rfl
      refine anyC_done (by kernel_rfl) hC13 ?_ _
      simp only [List.getElem_toArray, List.getElem_cons_zero, List.getElem_cons_succ, Act.put, List.setIfInBounds_toArray, List.set_cons_succ, List.set_cons_zero]
      go_wp2
      go_roundw
      case rel => exact ⟨x + 1, by omega, by omega, rfl, by rw [← hset.out]; exact hr12.set _ _, hC13.alg, hC13.f, hB12.setCell (by simp; omega) _⟩
      case measure => simp [intOf]; omega
    · have e : x = num L := by omega
      subst e
      have hl := lstTo_len (clsI L T f) (num L) (by omega)
      rw [mixC_all] at hrow
      have hlL : (lstTo (clsI L T f) (num L)).length = L.length := by have : num L = L.length := rfl; omega
      have HL := Lib.hid hlL
      clear hl hlL
      go_wp2
      go_ret
      refine ⟨some ⟨w.heap.size + 1 + 1, 0, none⟩, L.length, by rw [HL.out]; rfl, ?_, hB⟩
      have := Own.row (B := w.heap.size) hrow (by omega) (by rw [HL.out]; unfold maxLen; omega)
      rw [HL.out] at this ⊢
      exact this
end Go.Proofs.Ytljnbhnnjfnjeaa
