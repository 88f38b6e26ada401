import Derived.Test.YtpophjloedpcfaaGreatDoorTX15
import Derived.Test.YtpophjloedpcfaaGreatDoorTX14
import Derived.Test.YtpophjloedpcfaaGreatDoorH10
import Derived.Deep.RegionLaw
import Derived.Deep.AppendLies
namespace Go.Proofs.YtpophjloedpcfaaGreatDoor
open Go.RowKit
set_option linter.unusedSimpArgs false

theorem OwnT.at {B : Nat} {w : World} {v : Value} {S : List (List UInt8)} (h : OwnT B w v S) (hne : S ≠ []) : ∃ g cap, v = .slice (some ⟨g, 0, none⟩) S.length cap ∧ B ≤ g ∧ g < w.heap.size ∧ ∀ (wz : World), wz.heap[g]? = w.heap[g]? → ∀ (j : Nat) (p : List UInt8), S[j]? = some p → wz.cell? ⟨g, j, none⟩ = some (.string ⟨p.toArray⟩) := by
  rcases h.2 with ⟨e, hn⟩ | ⟨g, cap, cur, e, hB, hg, _⟩
  · exact absurd (List.eq_nil_of_length_eq_zero hn) hne
  · refine ⟨g, cap, e, hB, lt_of_block hg, fun wz hz j p hp => ?_⟩
    have h2 := h
    unfold OwnT at h2
    rw [e] at h2
    have hj : j < S.length := (List.getElem?_eq_some_iff.1 hp).1
    rw [World.cell?_of_block (w := w) hz, World.ownsRow.cellAt h2 j (by omega), List.getElem?_map, hp]; rfl
theorem Mid.grownX {lo hi : Nat} {a w w' : World} {row : Option Nat} (h : Mid lo hi a w) (hg : w.grownBy w' row) (hr : ∀ q, row = some q → a.heap.size ≤ q) : Mid lo hi a w' :=
  ⟨hg.os.trans h.os, hg.tape.trans h.tape, hg.output.trans h.output, Nat.le_trans h.size hg.size, fun k hk hn => by
    rw [hg.block k (Nat.lt_of_lt_of_le hk h.size) (fun e => by have := hr k (by first | exact e | exact e.symm); omega)]
    exact h.block k hk hn⟩
theorem Mid.allocX {lo hi : Nat} {a w : World} (h : Mid lo hi a w) (o : Obj) : Mid lo hi a (w.alloc o) :=
  h.trans (Mid.of ((Below.refl w.heap.size w).alloc (Nat.le_refl _) o) (Nat.le_refl _))
theorem Mid.drX {lo hi : Nat} {a w w' : World} (h : Mid lo hi a w) (hd : Dr w w') : Mid lo hi a w' :=
  h.trans (Mid.of (hd.below w.heap.size) (Nat.le_refl _))
section
variable {P : Program} {ops : Array Oper} {md : Region.Mode} {Q : Exit → Act → World → Prop} {C : World → Prop}
/-- a store that alone is ready -/
theorem anyC_storeT {i : Nat} {o : Oper} {fuel : Nat} {listed : Array Bool} {a : Act} {w w' : World} (hi : ops[i]? = some o)
    (hr : Region.ready md ops listed = [i]) (hw : Region.wanted o (yielded ops a.tmps) = true) (hx : (execOp a.eval o).run P w = .ok .skip w') (hC : C w)
    (h : wpAnyC P md ops Q C fuel (listed.setIfInBounds i true) (a.put o.dst undef) w') : wpAnyC P md ops Q C (fuel + 1) listed a w := by
  refine ⟨hC, fun h0 => (by rw [hr] at h0; cases h0), fun j hj => ?_⟩
  rw [hr, List.mem_singleton] at hj
  subst hj
  unfold wpOp
  simp only [hi, hw, if_true, Oper.wp, hx, Oper.upon]
  exact .inl h
theorem runs_store_rowT {o : Oper} {a : Act} (ty : TypeId) (x y : Operand) (ho : o.op = .store ty x y) (g : Nat) (cells : Array Value) (hx : a.eval x = .pointer (some ⟨g, 0, none⟩)) (hy : a.eval y = .agg cells)
    (w : World) (t : TypeId) (old : Array Value) (hg : w.heap[g]? = some (.cells old t (0, 0))) (hi : (P.info? ty).map (·.size) = some cells.size) (hold : old.size = cells.size) (h1 : cells.all (·.oneCell') = true) :
    (execOp a.eval o).run P w = .ok .skip (w.setRow g cells) := by
  unfold execOp
  simp [ho, hx, hy, Instr.storeAt, Instr.sureAddr, run_storeVar_row w g t ty old cells hg hi hold h1]
end
theorem ownShapeT {w : World} {B : Nat} {e : TypeId} {s : Nat} {v : Value} {n : Nat} {xs : List Value} (h : w.ownsRow B e s v n xs) : ∃ a n c, v = .slice a n c := by
  rcases h.2 with ⟨rfl, _⟩ | ⟨g, cap, cur, rfl, _⟩
  · exact ⟨_, _, _, rfl⟩
  · exact ⟨_, _, _, rfl⟩
theorem OA.mk' {lo B1 B2 : Nat} {w : World} {a b : Option Addr} {ca cb : Nat} {L : List Int} {T : List (List Int)} (h1 : Own B1 w (.slice a L.length ca) L) (h2 : RowsAt B2 w (.slice b T.length cb) T) (e1 : lo ≤ B1) (e2 : lo ≤ B2) : OA lo w (.slice a L.length ca) (.slice b T.length cb) L T :=
  ⟨a, ca, b, cb, rfl, rfl, h1.from e1, RowsAt.from h2 e2⟩
set_option maxRecDepth 100000 in
set_option maxHeartbeats 4000000 in
/-- spec.parseAlgebra of a text that has not one colon -/
theorem specParse_no (s : ByteArray) (w : World) (hs : s.size ≤ 1048576) (h : (pcs 58 s.data.toList).length ≠ 2) :
    Calls Tryz.prog 42 #[.string s] w (RetNo w) := by
  obtain ⟨w1, hw1⟩ : ∃ w1, w1 = w.alloc (.cells #[.slice none 0 0, .slice none 0 0] 26) := ⟨_, rfl⟩
  have hB : Below w.heap.size w w1 := by rw [hw1]; exact (Below.refl _ _).alloc (Nat.le_refl _) _
  have hz : w1.heap[w.heap.size]? = some (.cells #[.slice none 0 0, .slice none 0 0] 26 (0, 0)) := by rw [hw1]; exact heap_alloc_new w _
  have Kz := Lib.hid (show ∀ wz, Below w1.heap.size w1 wz → wz.heap[w.heap.size]? = some (.cells #[.slice none 0 0, .slice none 0 0] 26 (0, 0)) from fun wz h => (h.block _ (lt_of_block hz)).trans hz)
  have hsz := lt_of_block hz
  have hn2 : ¬ (((pcs 58 s.data.toList).length : Int) = 2) := by omega
  have HS := Lib.hid (splitAt_any s 58 58 rfl w1 hs)
  clear hz h
  go_enter Tryz.func42, Tryz.ntmps42
  go_wp2_with (first
    | (rw [← hw1]; clear hw1)
    | (go_at_call 81; with_reducible refine HS.out.mono ?_; rintro e w2 ⟨v, rfl, ho, h2⟩; obtain ⟨a, cap, rfl, _⟩ := ho.slice; have y2 := Kz.out _ h2)
    | (refine wpList_store_row rfl 26 _ _ rfl w.heap.size #[.slice none 0 0, .slice none 0 0] rfl rfl _ _ y2 (size_Alg _ _) rfl (one_sl2 _ _ _ _ _ _) ?_))
  exact bodyPost_ret (v := .tuple #[.agg #[.slice none 0 0, .slice none 0 0], .bool false]) (results_Alg_tmp rfl _ _ w.heap.size rfl _ _ (setRow_heap _ _ _ _ _ _ y2) rfl) rfl ⟨rfl, below_setRow' (hB.trans (h2.mono hB.size)) (Nat.le_refl _) _⟩
set_option maxRecDepth 100000 in
set_option maxHeartbeats 4000000 in
/-- spec.parseAlgebra of a text with one colon -/
theorem specParse_two (s : ByteArray) (x y : List UInt8) (w : World) (hs : s.size ≤ 1048576) (h : pcs 58 s.data.toList = [x, y]) :
    Calls Tryz.prog 42 #[.string s] w (RetSAb (prxL x) (prxT y) (algB (prxL x) (prxT y)) w) := by
  obtain ⟨i0, hi, hz0, hz1, hz2⟩ := info_parts info_int
  obtain ⟨w1, hw1⟩ : ∃ w1, w1 = w.alloc (.cells #[.slice none 0 0, .slice none 0 0] 26) := ⟨_, rfl⟩
  have hB : Below w.heap.size w w1 := by rw [hw1]; exact (Below.refl _ _).alloc (Nat.le_refl _) _
  have hz : w1.heap[w.heap.size]? = some (.cells #[.slice none 0 0, .slice none 0 0] 26 (0, 0)) := by rw [hw1]; exact heap_alloc_new w _
  have hsz := lt_of_block hz
  have HZ0 := Lib.hid hz
  have hxl : x.length ≤ 1048576 := by have := pcs_size (c := 58) (s := s.data.toList) (p := x) (by rw [h]; simp); rw [← ba_size] at this; omega
  have hyl : y.length ≤ 1048576 := by have := pcs_size (c := 58) (s := s.data.toList) (p := y) (by rw [h]; simp); rw [← ba_size] at this; omega
  have HS := Lib.hid (show Calls Tryz.prog 81 #[.string s, .int .u8 58] w1 fun e w' => ∃ v, e = .returned v ∧ OwnT w1.heap.size w' v [x, y] ∧ Below w1.heap.size w1 w' from h ▸ splitAt_any s 58 58 rfl w1 hs)
  have HX := Lib.hid (fun wz => splitAt_any ⟨x.toArray⟩ 44 44 rfl wz hxl)
  have HY := Lib.hid (fun wz => splitAt_any ⟨y.toArray⟩ 47 47 rfl wz hyl)
  clear h hz
  go_enter Tryz.func42, Tryz.ntmps42
  go_wp2_with (rw [← hw1]; clear hw1)
  refine HS.out.mono ?_
  rintro e w2 ⟨v, rfl, ho, h2⟩
  obtain ⟨gw, cw, rfl, hgw, hgw2, hcw⟩ := ho.at (by simp)
  rw [show [x, y].length = 2 from rfl]
  obtain ⟨ab, hab⟩ : ∃ b, b = w2.heap.size := ⟨_, rfl⟩
  obtain ⟨w3, hw3⟩ : ∃ w3, w3 = w2.alloc (.cells #[.slice none 0 0, .slice none 0 0] 26) := ⟨_, rfl⟩
  have h23 : Below w2.heap.size w2 w3 := by rw [hw3]; exact (Below.refl _ _).alloc (Nat.le_refl _) _
  have hx3 : w3.heap[ab]? = some (.cells #[.slice none 0 0, .slice none 0 0] 26 (0, 0)) := by rw [hw3, hab]; exact heap_alloc_new w2 _
  have z3 : Below w1.heap.size w1 w3 := h2.trans (h23.mono h2.size)
  have e0 := hcw w3 (h23.block _ hgw2) 0 x rfl
  have hgab : gw < ab := by omega
  have hab3 := lt_of_block hx3
  have hab1 : w1.heap.size ≤ ab := by have := h2.size; omega
  have HCW := Lib.hid (show ∀ wz : World, wz.heap[gw]? = w3.heap[gw]? → wz.cell? ⟨gw, 1, none⟩ = some (.string ⟨y.toArray⟩) from fun wz hq => hcw wz (hq.trans (h23.block _ hgw2)) 1 y rfl)
  clear hcw ho h2 h23
  go_wp2_with (first
    | (refine wpList_store_row rfl 26 _ _ rfl w2.heap.size #[.slice none 0 0, .slice none 0 0] rfl rfl _ _ (heap_alloc_new w2 (.cells #[.slice none 0 0, .slice none 0 0] 26)) (size_Alg _ _) rfl (one_sl2 _ _ _ _ _ _) ?_; rw [World.setRow_alloc_new]; rw [← hw3, ← hab]; clear hw3 hab)
    | (go_at_call 81; refine (HX.out _).mono ?_; rintro e w4 ⟨v4, rfl, ho4, h4⟩; obtain ⟨gl, cl, rfl, hgl, hgl2, hcl⟩ := ho4.at (pcs_ne 44 x)))
  have hx4 : w4.heap[ab]? = some (.cells #[.slice none 0 0, .slice none 0 0] 26 (0, 0)) := (h4.block _ hab3).trans hx3
  have hgl3 : ab < gl := by omega
  have s34 := h4.size
  have hab4 := lt_of_block hx4
  have hpl := pcs_len 44 x
  have hpz := Lib.hid (fun p (hp : p ∈ pcs 44 x) => pcs_size hp)
  obtain ⟨P, hP⟩ : ∃ P, P = pcs 44 x := ⟨_, rfl⟩
  rw [← hP] at hpl hcl hpz ⊢
  have HP := Lib.hid hP
  have HCL := Lib.hid hcl
  clear hcl hP hx3 ho4 e0
  go_loopw [7] (fun iv wr => ∃ (n : Nat) (v : Value), n ≤ P.length ∧ iv = .int .i64 (n : Int) ∧ wr.heap[ab]? = some (.cells #[v, .slice none 0 0] 26 (0, 0)) ∧ Own w4.heap.size wr v ((P.take n).map rdN) ∧ Mid ab (ab + 1) w4 wr) (fun iv _ => ((P.length : Int) - intOf iv).toNat)
  case atStart => exact ⟨0, _, by omega, rfl, hx4, Own.nothing _ _, Mid.refl _ _ _⟩
  case round =>
    obtain ⟨n, v, hn, rfl, hbx, hown, hmid⟩ := hrel
    clear hx4
    obtain ⟨q0, q1⟩ := bx_cells hbx
    by_cases hlt : n < P.length
    · have hlti : (n : Int) < P.length := by omega
      have hpn : P[n]? = some P[n] := List.getElem?_eq_getElem hlt
      have hps := hpz.out _ (List.mem_of_getElem? hpn)
      have d0 := HCL.out wr (hmid.block gl hgl2 (.inr (by omega))) n _ hpn
      obtain ⟨p, hp⟩ : ∃ p, p = P[n] := ⟨_, rfl⟩
      rw [← hp] at hpn hps d0
      have HTK := Lib.hid (show (P.take (n + 1)).map rdN = (P.take n).map rdN ++ [rdN p] by rw [List.take_add_one, hpn, List.map_append]; rfl)
      obtain ⟨r, hr⟩ : ∃ r, r = rdN p := ⟨_, rfl⟩
      have HN := Lib.hid (show ∀ wz : World, Calls Tryz.prog 82 #[.string ⟨p.toArray⟩] wz fun e w' => e = .returned (.int .i64 r) ∧ wz = w' from fun wz => by rw [hr]; exact specReadNumber_any ⟨p.toArray⟩ wz (by show p.length ≤ _; omega))
      rw [← hr] at HTK
      have hll : ((P.take n).map rdN).length = n := by rw [List.length_map, List.length_take]; omega
      have hsw : w4.heap.size ≤ wr.heap.size := hmid.size
      obtain ⟨L0, hL0⟩ : ∃ L0, L0 = (P.take n).map rdN := ⟨_, rfl⟩
      rw [← hL0] at hown HTK hll
      have hLb : L0.length ≤ 1048577 := by omega
      clear hp hr hL0 hll hpn
      have hbe := lt_of_block hbx
      go_wp2
      go_region_law (first
        | (refine step_append_lies _ (by rfl) _ _ _ (by rfl) w4.heap.size 3 i0 _ 1 8 Tryz.underlying23 hi hz0 hz1 hz2 rfl (by omega) _ _ _ (by rfl) (World.ownsRow.alloc (ownsRow_below hown (Dr.below ⟨1, rfl⟩ _)) _) ⟨wr.heap.size, 0, none⟩ 1 1 [.int .i64 r] (by rfl) (by rfl) (World.news_of_block (cs := #[.int .i64 r]) (t := 3) (fr := (0, 0)) (heap_alloc_new _ _)) (by simp [Value.oneCell']) (by omega) (by unfold maxLen; omega) (by omega) (by simp; omega) (wr.heap.size + 1) (by simp) ?_; intro v5g v5c w5 hown5 hgrow5 hat5 hlt5; have hb5 := grown_keep hgrow5 (World.ownsRow.alloc (ownsRow_below hown (Dr.below ⟨1, rfl⟩ _)) _) ((Below.heap_alloc _ _ ab hbe).trans hbx) (by decide); obtain ⟨c5, c6⟩ := bx_cells hb5; have f5 := frozen_of_row w5 ab 0 _ _ hb5)
        | (go_simp; go_at_call 82; refine (HN.out _).mono ?_; rintro e w2 ⟨rfl, rfl⟩))
      all_goals
        have K1 := Lib.hid (show (w5.setCell ⟨ab, 0, none⟩ (.slice (some ⟨v5g, 0, none⟩) (L0.length + 1) v5c)).heap[ab]? = some (.cells #[.slice (some ⟨v5g, 0, none⟩) (L0.length + 1) v5c, .slice none 0 0] 26 (0, 0)) by rw [heap_setCell_same w5 ab 0 _ _ _ hb5]; rfl)
        have K2 := Lib.hid (show Own w4.heap.size (w5.setCell ⟨ab, 0, none⟩ (.slice (some ⟨v5g, 0, none⟩) (L0.length + 1) v5c)) (.slice (some ⟨v5g, 0, none⟩) (L0.length + 1) v5c) ((P.take (n + 1)).map rdN) by
          rw [HTK.out]
          unfold Own
          rw [List.map_append, List.length_append]
          exact ownsRow_setCell_below hown5 hab4 _)
        have K3 := Lib.hid (show Mid ab (ab + 1) w4 (w5.setCell ⟨ab, 0, none⟩ (.slice (some ⟨v5g, 0, none⟩) (L0.length + 1) v5c)) from (((hmid.allocX _).drX ⟨1, rfl⟩).grownX hgrow5 (fun q hq => (World.ownsRow.lt hown q hq).1)).setCell (Nat.le_refl _) (Nat.lt_succ_self _) _)
        clear hb5 c5 c6 f5 hown5 hgrow5 hat5 hlt5 q0 q1 hown hbx d0 hmid
        go_wp2
        go_roundw
        case rel => exact ⟨n + 1, _, by omega, rfl, K1.out, K2.out, K3.out⟩
        case measure => simp [intOf]; omega
    · have e : n = P.length := by omega
      rw [e, List.take_of_length_le (Nat.le_refl _)] at hown
      have hge : ¬ (n : Int) < P.length := by omega
      have HOW := Lib.hid (show Own w4.heap.size wr v (prxL x) by unfold prxL; rw [← HP.out]; exact hown)
      have e1 := HCW.out wr ((hmid.block gw (by omega) (.inl hgab)).trans (h4.block gw (by omega)))
      clear hown e
      go_wp2_with fail
      refine (HY.out _).mono ?_
      rintro e w6 ⟨v6, rfl, ho6, h6⟩
      obtain ⟨gr, cr, rfl, hgr, hgr2, hcr⟩ := ho6.at (pcs_ne 47 y)
      have hx6 := (h6.block _ (lt_of_block hbx)).trans hbx
      have s6 := h6.size
      have sw4 := hmid.size
      have hab6 := lt_of_block hx6
      have HV6 := Lib.hid (HOW.out.below h6)
      have z6 : Mid ab (ab + 1) w4 w6 := hmid.trans (Mid.of h6 (Nat.le_refl _))
      have hrl := pcs_len 47 y
      have hrz := Lib.hid (fun p (hp : p ∈ pcs 47 y) => pcs_size hp)
      obtain ⟨R, hR⟩ : ∃ R, R = pcs 47 y := ⟨_, rfl⟩
      rw [← hR] at hrl hcr hrz ⊢
      have HRR := Lib.hid hR
      have HCR := Lib.hid hcr
      obtain ⟨i1, hi1, hy0, hy1, hy2⟩ := info_parts info_ints
      clear hcr hR ho6 e1 hbx q0 q1 h6 hmid hge hlt
      obtain ⟨rf, hrf0⟩ : ∃ rf : List UInt8 → List Int, rf = fun r => r.map fun b => rdN [b] := ⟨_, rfl⟩
      have HRF := Lib.hid hrf0
      clear hrf0
      go_wp2_with fail
      go_loopw [9, 10, 11] (fun iv _ _ wr => ∃ (n : Nat) (t : Value), n ≤ R.length ∧ iv = .int .i64 (n : Int) ∧ wr.heap[ab]? = some (.cells #[v, t] 26 (0, 0)) ∧ RowsAt w6.heap.size wr t ((R.take n).map rf) ∧ Mid ab (ab + 1) w6 wr) (fun iv _ _ _ => ((R.length : Int) - intOf iv).toNat)
      case atStart => exact ⟨0, _, by omega, rfl, hx6, RowsAt.nothing _ _, Mid.refl _ _ _⟩
      case round =>
        obtain ⟨n, t, hn, rfl, hbx, hrows, hmid⟩ := hrel
        clear hx6
        obtain ⟨wq, rfl⟩ : ∃ wq : World, wq = wr := ⟨_, rfl⟩
        by_cases hlt : n < R.length
        · have hlti : (n : Int) < R.length := by omega
          have hrn : R[n]? = some R[n] := List.getElem?_eq_getElem hlt
          have hrs := hrz.out _ (List.mem_of_getElem? hrn)
          have HDR := Lib.hid (fun (wz : World) (hq : wz.heap[gr]? = wq.heap[gr]?) => HCR.out wz (hq.trans (hmid.block gr hgr2 (.inr (by omega)))) n _ hrn)
          obtain ⟨r, hr⟩ : ∃ r, r = R[n] := ⟨_, rfl⟩
          rw [← hr] at hrn hrs HDR
          have HTK := Lib.hid (show (R.take (n + 1)).map rf = (R.take n).map rf ++ [rf r] by rw [List.take_add_one, hrn, List.map_append]; rfl)
          obtain ⟨S, hS⟩ : ∃ S : ByteArray, S = ⟨r.toArray⟩ := ⟨_, rfl⟩
          rw [← hS] at HDR
          have hSz : S.size = r.length := by rw [hS]; rfl
          have hSs : S.size ≤ 1048576 := by omega
          have HSL := Lib.hid (show S.data.toList = r by rw [hS])
          have hgrw : gr < wq.heap.size := Nat.lt_of_lt_of_le hgr2 hmid.size
          have hbe := lt_of_block hbx
          have ssz := hmid.size
          clear hr hS hrn
          go_wp2
          obtain ⟨wo, hwo⟩ : ∃ wo, wo = wq.alloc (.cells #[] 3) := ⟨_, rfl⟩
          have hro : Own wq.heap.size wo (.slice (some ⟨wq.heap.size, 0, none⟩) 0 0) [] := by rw [hwo]; exact Own.row (L := []) (heap_alloc_new wq _) (Nat.le_refl _) (Nat.zero_le _)
          have hrb : Below wq.heap.size wq wo := by rw [hwo]; exact (Below.refl _ _).alloc (Nat.le_refl _) _
          rw [← hwo]
          clear hwo
          go_loopw [10, 11] (fun rv kv wi => ∃ k : Nat, k ≤ S.size ∧ kv = .int .i64 (k : Int) ∧ Own wq.heap.size wi rv ((r.take k).map fun b => rdN [b]) ∧ Below wq.heap.size wq wi) (fun _ kv _ => ((S.size : Int) - intOf kv).toNat)
          case atStart => exact ⟨0, by omega, rfl, hro, hrb⟩
          case round =>
            obtain ⟨k, hk, rfl, hown, hbel⟩ := hrel
            clear hro hrb
            have d0 := HDR.out wr (hbel.block _ hgrw)
            by_cases hkl : k < S.size
            · have hkli : (k : Int) < S.size := by omega
              have HEX := Lib.hid (show S.extract k (k + 1) = ⟨#[S[k]]⟩ by
                rw [extr_mk, take_snoc S hkl, List.drop_append_of_le_length (by rw [List.length_take, ← ba_size]; omega), List.drop_of_length_le (by rw [List.length_take]; omega)]; rfl)
              have hrk : r[k]? = some S[k] := by have := by_at S hkl; rwa [HSL.out] at this
              obtain ⟨b, hb⟩ : ∃ b, b = S[k] := ⟨_, rfl⟩
              rw [← hb] at HEX hrk
              have HTK2 := Lib.hid (show (r.take (k + 1)).map (fun b => rdN [b]) = (r.take k).map (fun b => rdN [b]) ++ [rdN [b]] by rw [List.take_add_one, hrk, List.map_append]; rfl)
              obtain ⟨z, hzz⟩ : ∃ z, z = rdN [b] := ⟨_, rfl⟩
              have HN := Lib.hid (show ∀ wz : World, Calls Tryz.prog 82 #[.string (S.extract k (k + 1))] wz fun e w' => e = .returned (.int .i64 z) ∧ wz = w' from fun wz => by rw [HEX.out, hzz]; exact specReadNumber_any ⟨#[b]⟩ wz (by show 1 ≤ _; omega))
              rw [← hzz] at HTK2
              have hll : ((r.take k).map fun b => rdN [b]).length = k := by rw [List.length_map, List.length_take]; omega
              obtain ⟨L0, hL0⟩ : ∃ L0, L0 = (r.take k).map fun b => rdN [b] := ⟨_, rfl⟩
              rw [← hL0] at hown HTK2 hll
              have hLb : L0.length ≤ 1048577 := by omega
              have hbs := hbel.size
              clear hb hrk hzz hL0 hll
              go_wp2_with (first
                | (go_at_call 82; with_reducible refine (HN.out _).mono ?_; rintro e w' ⟨rfl, rfl⟩)
                | (at_builtin; refine wpList_append_own _ rfl _ _ 23 rfl wq.heap.size 3 i0 (.int .i64 0) 1 8 Tryz.underlying23 hi hz0 hz1 hz2 rfl (by decide) _ _ _ rfl (World.ownsRow.alloc hown _) ⟨wr.heap.size, 0, none⟩ 1 1 [.int .i64 z] rfl rfl (cell_one_new _ _ _) (fun x hx => by simp at hx; subst hx; rfl) (by unfold maxLen; omega) (by omega) (by simp; omega) ?_; intro v' w7 hown1 hgrow _))
              go_roundw
              case rel => exact ⟨k + 1, by omega, rfl, by rw [HTK2.out]; unfold Own; rw [List.map_append, List.length_append]; exact hown1, (hbel.alloc hbel.size _).grown hgrow (by have := hbel.size; simp; omega) (fun q hq => (World.ownsRow.lt hown q hq).1)⟩
              case measure => simp [intOf]; omega
            · have e : k = S.size := by omega
              have hge : ¬ (k : Int) < S.size := by omega
              rw [e, List.take_of_length_le (by omega)] at hown
              have hown2 := hown
              have hrr : (r.map fun b => rdN [b]) = rf r := by rw [HRF.out]
              rw [hrr] at hown2
              clear hrr
              obtain ⟨ra, rc, rfl, _⟩ := hown2.slice
              have HRW := Lib.hid (Own.from (B' := w6.heap.size) hown2 ssz)
              have hbw := (hbel.block ab hbe).trans hbx
              obtain ⟨q0, q1⟩ := bx_cells hbw
              have hbs := hbel.size
              obtain ⟨vs, r1, r2⟩ := hrows.below hbel
              have R2 := Lib.hid r2
              have hbl := lt_of_block hbw
              have hTn : ((R.take n).map rf).length = n := by rw [List.length_map, List.length_take]; omega
              rw [hTn] at r1
              have HTn := Lib.hid hTn
              clear hown hown2 e hrows r2 hTn
              go_wp2_with (at_builtin; go_loud (refine wpList_append_own _ rfl _ _ 24 rfl w6.heap.size 23 i1 (.slice none 0 0) 1 24 Tryz.underlying24 hi1 hy0 hy1 hy2 rfl (by decide) _ _ _ rfl (World.ownsRow.alloc r1 _) ⟨wr.heap.size, 0, none⟩ 1 1 [.slice ra (rf r).length rc] rfl rfl (cell_one_new _ _ _) (fun x hx => by simp at hx; subst hx; rfl) (by unfold maxLen; omega) (by omega) (by simp; omega) ?_); intro v' w7 hown1 hgrow _; have hb7 := grown_keep hgrow (World.ownsRow.alloc r1 _) ((Below.heap_alloc _ _ ab hbl).trans hbw) (by decide); obtain ⟨c5, c6⟩ := bx_cells hb7; have f5 := frozen_of_row w7 ab 1 _ _ hb7; obtain ⟨va, vn, vc, rfl⟩ := ownShapeT hown1)
              have K1 := Lib.hid (show (w7.setCell ⟨ab, 1, none⟩ (.slice va vn vc)).heap[ab]? = some (.cells #[v, .slice va vn vc] 26 (0, 0)) by rw [heap_setCell_same w7 ab 1 _ _ _ hb7]; rfl)
              have K2 := Lib.hid (show RowsAt w6.heap.size (w7.setCell ⟨ab, 1, none⟩ (.slice va vn vc)) (.slice va vn vc) ((R.take (n + 1)).map rf) by
                rw [HTK.out]
                have h7 : RowsAt w6.heap.size w7 (.slice va vn vc) ((R.take n).map rf ++ [rf r]) := RowsAt.push (w := wr.alloc (.cells #[.slice ra (rf r).length rc] 23)) (by rw [HTn.out]; exact World.ownsRow.alloc r1 _) (fun j hj => by obtain ⟨u, hu, ho⟩ := R2.out j hj; exact ⟨u, hu, ho.alloc _⟩) (HRW.out.alloc _) (by rw [HTn.out]; exact hown1) hgrow
                exact RowsAt.other h7 hb7 (by decide) (by decide) fun k hk => heap_setCell_other w7 _ k _ hk)
              have K3 := Lib.hid (show Mid ab (ab + 1) w6 (w7.setCell ⟨ab, 1, none⟩ (.slice va vn vc)) from (((hmid.trans (Mid.of hbel (Nat.le_refl _))).allocX _).grownX hgrow (fun q hq => (World.ownsRow.lt r1 q hq).1)).setCell (Nat.le_refl _) (Nat.lt_succ_self _) _)
              clear hb7 c5 c6 f5 hown1 hgrow q0 q1 r1 hbw hbx hmid hbel d0
              go_wp2
              go_roundw
              case rel => exact ⟨n + 1, _, by omega, rfl, K1.out, K2.out, K3.out⟩
              case measure => simp [intOf]; omega
        · have e : n = R.length := by omega
          have hge : ¬ (n : Int) < R.length := by omega
          rw [e, List.take_of_length_le (Nat.le_refl _), HRR.out] at hrows
          have HRO := Lib.hid (show RowsAt w6.heap.size wq t (prxT y) by unfold prxT; rw [← HRF.out]; exact hrows)
          have hV := Own.mid HV6.out hmid (fun q hq => by
            have := (World.ownsRow.lt HV6.out q hq).1
            exact .inr (by omega))
          obtain ⟨va, vc, rfl, hrv⟩ := hV.slice
          obtain ⟨tb, tc, rfl, hrt⟩ := HRO.out.rd
          have hsz3 := z3.size
          have hr0 : wq.heap[w.heap.size]? = some (.cells #[.slice none 0 0, .slice none 0 0] 26 (0, 0)) := by
            rw [hmid.block _ (by omega) (.inl (by omega)), z6.block _ (by omega) (.inl (by omega)), h4.block _ (by omega), z3.block _ hsz]
            exact HZ0.out
          have hbel : Below w.heap.size w wq := hB.trans ((z3.trans ((h4.mono hsz3).trans ((z6.below (C := w1.heap.size) (by omega) (by omega)).trans (hmid.below (C := w1.heap.size) (by omega) (by omega))))).mono hB.size)
          have HOA := Lib.hid (OA.mk' (lo := w.heap.size) hV HRO.out (by have := hbel.size; omega) (by have := hbel.size; omega))
          have KBX := Lib.hid (show ∀ wz, Below wq.heap.size wq wz → wz.heap[ab]? = some (.cells #[.slice va (prxL x).length vc, .slice tb (prxT y).length tc] 26 (0, 0)) from fun wz h => (h.block _ (lt_of_block hbx)).trans hbx)
          have KR0 := Lib.hid (show ∀ wz, Below wq.heap.size wq wz → wz.heap[w.heap.size]? = some (.cells #[.slice none 0 0, .slice none 0 0] 26 (0, 0)) from fun wz h => (h.block _ (lt_of_block hr0)).trans hr0)
          have HVA := Lib.hid (fun (wz : World) (h : Below wq.heap.size wq wz) => validAlgebra_any va tb vc tc (prxL x) (prxT y) wz (hrv.below h) (hrt.below h))
          obtain ⟨L, hL⟩ : ∃ L, L = prxL x := ⟨_, rfl⟩
          obtain ⟨T, hT⟩ : ∃ T, T = prxT y := ⟨_, rfl⟩
          rw [← hL, ← hT] at HOA KBX HVA
          have HLT := Lib.hid (show L = prxL x ∧ T = prxT y from ⟨hL, hT⟩)
          clear hrows e hV hrv hrt
          go_wp2_with fail
          have z9 : Below wq.heap.size wq wq.drew := (Below.refl _ _).drew
          clear hbx hr0 hmid z6 h4 z3 hL hT
          refine wp_region_any (by kernel_rfl) ?_
          refine any_of_C (C := fun wz => wz.heap[ab]? = some (.cells #[.slice va L.length vc, .slice tb T.length tc] 26 (0, 0))) _ _ _ _ ?_
          refine anyC_take (i := 0) (oi := ⟨_, _, _, _, _, _⟩) (v := .agg #[.slice va L.length vc, .slice tb T.length tc]) rfl (by kernel_rfl) (by kernel_rfl) (by kernel_rfl) (fun _ _ _ h => h) (.inl ⟨by kernel_rfl, fun wz hz => runs_load (C := fun wz => wz.heap[ab]? = some (.cells #[.slice va L.length vc, .slice tb T.length tc] 26 (0, 0))) 26 _ rfl ab rfl _ _ _ _ (fun w hw => hw) Tryz.underlying26 rfl (size_Alg _ _) wz hz⟩) ?_
          (try simp only [Act.put, List.setIfInBounds_toArray, List.set_cons_zero, List.set_cons_succ])
          refine anyC_take (i := 1) (oi := ⟨_, _, _, _, _, _⟩) (v := .agg #[.slice va L.length vc, .slice tb T.length tc]) rfl (by kernel_rfl) (by kernel_rfl) (by kernel_rfl) (fun _ _ _ h => h) (.inl ⟨by kernel_rfl, fun wz hz => runs_load (C := fun wz => wz.heap[ab]? = some (.cells #[.slice va L.length vc, .slice tb T.length tc] 26 (0, 0))) 26 _ rfl ab rfl _ _ _ _ (fun w hw => hw) Tryz.underlying26 rfl (size_Alg _ _) wz hz⟩) ?_
          (try simp only [Act.put, List.setIfInBounds_toArray, List.set_cons_zero, List.set_cons_succ])
          refine anyC_call (i := 2) (o := ⟨_, _, _, _, _, _⟩) (f := 30) (args := #[.agg #[.slice va L.length vc, .slice tb T.length tc]]) rfl (by kernel_rfl) (by kernel_rfl) (by apply runs_call1 (he := enters_of Tryz.func30 (by kernel_rfl) rfl) <;> rfl) (KBX.out _ z9) ?_
          refine (HVA.out _ z9).mono ?_
          rintro e w8 ⟨rfl, h8⟩
          have z8 : Below wq.heap.size wq w8 := z9.trans (h8.mono z9.size)
          have y8 := KR0.out _ z8
          refine ⟨_, rfl, ?_⟩
          (try simp only [Act.put, List.setIfInBounds_toArray, List.set_cons_zero, List.set_cons_succ])
          refine anyC_storeT (i := 3) (o := ⟨_, _, _, _, _, _⟩) (w' := w8.setRow w.heap.size #[.slice va L.length vc, .slice tb T.length tc]) rfl (by kernel_rfl) (by kernel_rfl) (runs_store_rowT 26 _ _ rfl w.heap.size #[.slice va L.length vc, .slice tb T.length tc] rfl rfl _ _ _ y8 (size_Alg _ _) rfl (one_sl2 _ _ _ _ _ _)) (KBX.out _ z8) ?_
          (try simp only [Act.put, List.setIfInBounds_toArray, List.set_cons_zero, List.set_cons_succ])
          have hC9 : (w8.setRow w.heap.size #[.slice va L.length vc, .slice tb T.length tc]).heap[ab]? = some (.cells #[.slice va L.length vc, .slice tb T.length tc] 26 (0, 0)) := by rw [setRow_other w8 w.heap.size ab _ (by omega)]; exact KBX.out _ z8
          refine anyC_take (i := 4) (oi := ⟨_, _, _, _, _, _⟩) (v := .bool (algB L T)) rfl (by kernel_rfl) (by kernel_rfl) (by kernel_rfl) (fun _ _ _ h => h) (.inl ⟨by kernel_rfl, fun wz hz => by apply runs_assign <;> rfl⟩) ?_
          (try simp only [Act.put, List.setIfInBounds_toArray, List.set_cons_zero, List.set_cons_succ])
          refine anyC_done (by kernel_rfl) hC9 ?_ _
          go_wp2_with fail
          refine bodyPost_ret (v := .tuple #[.agg #[.slice va L.length vc, .slice tb T.length tc], .bool (algB L T)]) (results_Alg_tmp rfl _ _ w.heap.size rfl _ _ (setRow_heap _ _ _ _ _ _ y8) rfl) rfl ?_
          rw [← HLT.out.1, ← HLT.out.2]
          exact ⟨_, _, _, _, _, _, rfl, OA.other (HOA.out.below z8) y8 (by decide) (by decide) (fun k hk => setRow_other w8 _ k _ hk), below_setRow' (hbel.trans (z8.mono hbel.size)) (Nat.le_refl _) _⟩
end Go.Proofs.YtpophjloedpcfaaGreatDoor
