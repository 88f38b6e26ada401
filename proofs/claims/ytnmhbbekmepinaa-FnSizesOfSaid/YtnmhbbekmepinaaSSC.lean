import Derived.Test.YtnmhbbekmepinaaSSB
import Derived.Test.YtnmhbbekmepinaaSS5
namespace Go.Proofs.Ytnmhbbekmepinaa
open Go.RowKit
set_option linter.unusedVariables false

def RScz (w : World) (s : Value) (L : List Int) : Prop := ∃ a c, s = .slice a L.length c ∧ Rd w a L ∧ L.length ≤ c
theorem GS.rdcz {lo hi : Nat} {w : World} {s : Value} {L : List Int} (h : GS lo hi w s L) : RScz w s L := by
  obtain ⟨⟨a, c, rfl⟩, h1, _⟩ := h
  refine ⟨a, c, rfl, h1.rd, ?_⟩
  rcases h1.2 with ⟨e, hn⟩ | ⟨g, cap, cur, e, _, hg, hc, _⟩
  · omega
  · injection e with _ _ e
    rw [e]; exact hc
theorem runs_moveZ {P : Program} {o : Oper} {a : Act} (x : Operand) (ho : o.op = .move x) (v : Value) (hx : a.eval x = v) (w : World) : (execOp a.eval o).run P w = .ok (.value v) w := by
  subst hx
  unfold execOp
  simp [ho]
theorem skip_if {c : Prop} [Decidable c] {A B : Prop} (hc : ¬ c) (h : B) : if c then A else B := by rw [if_neg hc]; exact h
set_option maxRecDepth 100000 in
set_option maxHeartbeats 8000000 in
/-- laws.FnSizesOf -/
theorem lawPSizesOf (a0 : Option Addr) (len0 cap0 : Nat) (w : World) (hy : RdY w a0 len0 w.heap.size) (hc : len0 ≤ cap0) (hm : len0 ≤ maxLen) :
    Calls Try.prog 10 #[.slice a0 len0 cap0] w fun e w' => e = .returned (.bool true) ∧ Below w.heap.size w w' := by
  by_cases hbig : 1048576 < len0
  · have hbig2 : (1048576 : Int) < len0 := by omega
    go_enter Try.func10, Try.ntmps10
    go_wp2
    go_ret
    exact ⟨rfl, Below.refl _ _⟩
  · have hs : len0 ≤ 1048576 := by omega
    have hs2 : ¬ (1048576 : Int) < len0 := by omega
    go_enter Try.func10, Try.ntmps10
    go_wp2_with fail
    refine (drawSizesOf_any a0 len0 cap0 w hy hc hs).mono ?_
    rintro e wd ⟨L, T, a, ca, b, cb, rfl, hS, hRa, hTb, hbd⟩
    have zd : Below wd.heap.size wd wd := Below.refl _ _
    have _ := hm
    clear hs hs2 hbig hy hm hc
    obtain ⟨l7, t6, r6⟩ := someS_len hS
    have HAd := Lib.hid (show Rd wd a L ∧ RdT wd b T from ⟨hRa, hTb⟩)
    have hVL : L.length ≤ 1073741824 := by omega
    have hVT : T.length ≤ 1073741824 := by omega
    have HVR := Lib.hid (show ∀ j : Nat, j < T.length → (rowAt T j).length ≤ 1073741824 from fun j hj => by have := r6 j hj; omega)
    obtain ⟨S, hSe⟩ : ∃ S, S = sqL L T := ⟨_, rfl⟩
    obtain ⟨V, hVe⟩ : ∃ V, V = sqB L T := ⟨_, rfl⟩
    have hS6 : S.length ≤ 5 := by rw [hSe]; exact sqL_len L T
    have hS7 : S.length ≤ 1073741824 := by omega
    have HI := Lib.hid (show ∀ (a b : Option Addr) (ca cb : Nat) (w : World), Rd w a L → RdT w b T → Calls Try.prog 45 #[.agg #[.slice a L.length ca, .slice b T.length cb]] w (RetGsb S V w) from fun a b ca cb w h1 h2 => by rw [hSe, hVe]; exact implSizesOf_any a b ca cb L T w h1 h2)
    have HP := Lib.hid (show ∀ (a b : Option Addr) (ca cb : Nat) (w : World), Rd w a L → RdT w b T → Calls Try.prog 44 #[.agg #[.slice a L.length ca, .slice b T.length cb]] w (RetSsb S V w) from fun a b ca cb w h1 h2 => by rw [hSe, hVe]; exact specSizesOf_any a b ca cb L T w h1 h2)
    have C1 := Lib.hid (show ∀ (a b : Option Addr) (ca cb : Nat) (w : World), Rd w a L → RdT w b T → Calls Try.prog 50 #[.agg #[.slice a L.length ca, .slice b T.length cb]] w fun e w' => e = .returned (.bool (algB L T)) ∧ Below w.heap.size w w' from fun a b ca cb w h1 h2 => implValidAlgebra_any _ _ _ _ L T w h1 h2)
    have C2 := Lib.hid (show algB L T = true → ∀ (a b : Option Addr) (ca cb : Nat) (w : World), Rd w a L → RdT w b T → Calls Try.prog 51 #[.string ⟨#[100, 105, 118, 105, 115, 105, 98, 108, 101]⟩, .agg #[.slice a L.length ca, .slice b T.length cb]] w fun e w' => e = .returned (.bool (hasB 1 L T)) ∧ Below w.heap.size w w' from fun ha a b ca cb w h1 h2 => ret_to (implHasProperty_any _ _ _ _ _ L T w h1 h2) (congrArg Value.bool (hp_1 (by decide +kernel) (by decide +kernel) ha)))
    have HSS := Lib.hid (show ∀ (s : Option Addr) (c : Nat) (w : World), Rd w s S → S.length ≤ c → Calls Try.prog 41 #[.slice s S.length c] w (RetR (skL S) (skT S) (szB 5 S) w) from fun s c w h1 hc => (implStackOfSums_any s c S w h1 (by omega) hc).mono fun _ _ h => h.r)
    obtain ⟨CH, hCH⟩ : ∃ C, C = chainTo (L.length : Int) (L.length : Int) := ⟨_, rfl⟩
    have hCHl : CH.length = L.length := by have := chainTo_len (L.length : Int) (L.length : Int) (by omega); rw [← hCH] at this; omega
    have C6 := Lib.hid (show algB L T = true → ∀ (w : World), Calls Try.prog 55 #[.int .i64 (L.length : Int)] w fun e w' => ∃ (a : Option Addr) (c : Nat), e = .returned (.slice a CH.length c) ∧ Rd w' a CH ∧ Below w.heap.size w w' from fun ha w => by
      obtain ⟨l1, l6⟩ := lat_len (alg_lat ha)
      unfold num at l1 l6
      refine (implChainOf_good _ w (by omega) (by omega)).mono ?_
      rintro e w' ⟨rfl, hr, hb⟩
      rw [Int.toNat_natCast, ← hCH] at *
      rw [← hCHl]
      exact ⟨_, _, rfl, hr.rd, hb⟩)
    have C5 := Lib.hid (show ∀ (a b : Option Addr) (ca cb : Nat) (w : World), Rd w a L → Rd w b CH → Calls Try.prog 49 #[.slice a L.length ca, .slice b CH.length cb] w fun e w' => e = .returned (.bool (eqL L CH)) ∧ Below w.heap.size w w' from fun a b ca cb w h1 h2 => dr_toZ (equalInts_any a b ca cb L CH w h1 h2 hVL))
    cases ha : algB L T with
    | false =>
      obtain ⟨q1, q2⟩ := sq_na ha
      rw [q1] at hVe
      rw [ha] at C1
      subst hVe
      clear q1 q2 ha C2 HSS C5 C6 hS hRa hTb hSe hCH hCHl
      go_wp2_with (first
        | go_skip
        | (refine wpList_store_row rfl 27 _ _ rfl wd.heap.size #[.slice a L.length ca, .slice b T.length cb] rfl rfl _ _ (heap_alloc_new wd (.cells #[.slice none 0 0, .slice none 0 0] 27)) (size_Alg _ _) rfl (one_sl2 _ _ _ _ _ _) ?_; rw [World.setRow_alloc_new]; obtain ⟨g3, hg3⟩ : ∃ g : Nat, g = wd.heap.size := ⟨_, rfl⟩; obtain ⟨w1, hw1⟩ : ∃ x : World, x = wd.alloc (.cells #[.slice a L.length ca, .slice b T.length cb] 27) := ⟨_, rfl⟩; rw [← hw1, ← hg3]; have qw1 : Below wd.heap.size wd w1 := (by rw [hw1]; exact (Below.refl _ _).alloc (Nat.le_refl _) _); have hxg3 : w1.heap[g3]? = some (.cells #[.slice a L.length ca, .slice b T.length cb] 27 (0, 0)) := (by rw [hw1, hg3]; exact heap_alloc_new wd _); have K3 := Lib.hid (show ∀ wz, Below w1.heap.size w1 wz → wz.heap[g3]? = some (.cells #[.slice a L.length ca, .slice b T.length cb] 27 (0, 0)) from fun wz h => (h.block _ (lt_of_block hxg3)).trans hxg3); have z1 : Below wd.heap.size wd w1 := zd.trans (qw1.mono zd.size); have HA := Lib.hid (show ∀ wz, Below w1.heap.size w1 wz → Rd wz a L ∧ RdT wz b T from fun wz hz => ⟨(HAd.out.1.below qw1).below hz, (HAd.out.2.below qw1).below hz⟩); have y : Below w1.heap.size w1 w1 := Below.refl _ _; clear qw1 hw1 hg3 hxg3)
        | (go_at_call 45; refine (HI.out _ _ _ _ _ (HA.out _ y).1 (HA.out _ y).2).mono ?_; rintro e w2 ⟨ba, bn, bc, rfl, hgs, hb2⟩; obtain ⟨ba', bc', eb, hbr, hbc⟩ := hgs.rdcz; injection eb with eb1 eb2 eb3; subst eb1; subst eb2; subst eb3; replace y := y.trans (hb2.mono y.size); have KB := Lib.hid (show ∀ wz, Below w2.heap.size w2 wz → Rd wz ba S from fun wz hz => hbr.below hz); have yb : Below w2.heap.size w2 w2 := Below.refl _ _; clear hgs hb2 hbr)
        | (go_at_call 44; refine (HP.out _ _ _ _ _ (HA.out _ y).1 (HA.out _ y).2).mono ?_; rintro e w3 ⟨da, dn, dc, rfl, hds, hb3⟩; obtain ⟨da', dc', ed, hdr⟩ := hds; injection ed with ed1 ed2 ed3; subst ed1; subst ed2; subst ed3; replace y := y.trans (hb3.mono y.size); replace yb := yb.trans (hb3.mono yb.size); have KD := Lib.hid (show ∀ wz, Below w3.heap.size w3 wz → Rd wz da S from fun wz hz => hdr.below hz); have yd : Below w3.heap.size w3 w3 := Below.refl _ _; clear hb3 hdr)
        | (go_at_call 49; refine (dr_toZ (equalInts_same ba da _ _ S _ (KB.out _ yb) (KD.out _ yd) hS7)).mono ?_; rintro e wz ⟨rfl, hb⟩; replace y := y.trans (hb.mono y.size); replace yb := yb.trans (hb.mono yb.size); replace yd := yd.trans (hb.mono yd.size); clear hb)
        | (go_at_call 50; refine (C1.out _ _ _ _ _ (HA.out _ y).1 (HA.out _ y).2).mono ?_; rintro e wz ⟨rfl, hb⟩; replace y := y.trans (hb.mono y.size); replace yb := yb.trans (hb.mono yb.size); replace yd := yd.trans (hb.mono yd.size); clear hb)
        | (refine wpList_load_row_w rfl 27 _ rfl g3 rfl _ _ _ _ (K3.out _ (by first | assumption)) Try.underlying27 rfl (size_Alg _ _) ?_))
      go_ret
      exact ⟨rfl, hbd.trans ((z1.trans (y.mono z1.size)).mono hbd.size)⟩
    | true =>
    replace C2 := Lib.hid (C2.out ha)
    replace C6 := Lib.hid (C6.out ha)
    have hiff := sq_iff hS ha
    rw [← hVe, ← hCH] at hiff
    rw [ha] at C1
    cases hv : V with
    | true =>
      rw [hv] at hiff hVe
      have hq := hiff.symm
      rw [Bool.and_eq_true] at hq
      have hsk : skA (szI L T) = (L, T) := by
        have h := hVe.symm
        unfold sqB at h
        exact of_decide_eq_true (Bool.and_eq_true_iff.1 h).2
      have hz := (szI_ok ha).1
      have hS2 : S = szI L T := hSe.trans (sq_yes ha hsk).2
      have k1 : skL S = L := by rw [hS2, (sk_yes hz).1, hsk]
      have k2 : skT S = T := by rw [hS2, (sk_yes hz).2, hsk]
      have k3 : szB 5 S = true := by rw [hS2]; exact hz
      rw [k1, k2, k3] at HSS
      rw [hq.1] at C5
      rw [hq.2] at C2
      subst hv
      clear hVe hq hiff hsk hz hS2 k1 k2 k3 ha hS hRa hTb hSe hCH hCHl
      go_wp2_with (first
        | go_skip
        | (refine wpList_store_row rfl 27 _ _ rfl wd.heap.size #[.slice a L.length ca, .slice b T.length cb] rfl rfl _ _ (heap_alloc_new wd (.cells #[.slice none 0 0, .slice none 0 0] 27)) (size_Alg _ _) rfl (one_sl2 _ _ _ _ _ _) ?_; rw [World.setRow_alloc_new]; obtain ⟨g3, hg3⟩ : ∃ g : Nat, g = wd.heap.size := ⟨_, rfl⟩; obtain ⟨w1, hw1⟩ : ∃ x : World, x = wd.alloc (.cells #[.slice a L.length ca, .slice b T.length cb] 27) := ⟨_, rfl⟩; rw [← hw1, ← hg3]; have qw1 : Below wd.heap.size wd w1 := (by rw [hw1]; exact (Below.refl _ _).alloc (Nat.le_refl _) _); have hxg3 : w1.heap[g3]? = some (.cells #[.slice a L.length ca, .slice b T.length cb] 27 (0, 0)) := (by rw [hw1, hg3]; exact heap_alloc_new wd _); have K3 := Lib.hid (show ∀ wz, Below w1.heap.size w1 wz → wz.heap[g3]? = some (.cells #[.slice a L.length ca, .slice b T.length cb] 27 (0, 0)) from fun wz h => (h.block _ (lt_of_block hxg3)).trans hxg3); have z1 : Below wd.heap.size wd w1 := zd.trans (qw1.mono zd.size); have HA := Lib.hid (show ∀ wz, Below w1.heap.size w1 wz → Rd wz a L ∧ RdT wz b T from fun wz hz => ⟨(HAd.out.1.below qw1).below hz, (HAd.out.2.below qw1).below hz⟩); have y : Below w1.heap.size w1 w1 := Below.refl _ _; clear qw1 hw1 hg3 hxg3)
        | (go_at_call 45; refine (HI.out _ _ _ _ _ (HA.out _ y).1 (HA.out _ y).2).mono ?_; rintro e w2 ⟨ba, bn, bc, rfl, hgs, hb2⟩; obtain ⟨ba', bc', eb, hbr, hbc⟩ := hgs.rdcz; injection eb with eb1 eb2 eb3; subst eb1; subst eb2; subst eb3; replace y := y.trans (hb2.mono y.size); have KB := Lib.hid (show ∀ wz, Below w2.heap.size w2 wz → Rd wz ba S from fun wz hz => hbr.below hz); have yb : Below w2.heap.size w2 w2 := Below.refl _ _; clear hgs hb2 hbr)
        | (go_at_call 44; refine (HP.out _ _ _ _ _ (HA.out _ y).1 (HA.out _ y).2).mono ?_; rintro e w3 ⟨da, dn, dc, rfl, hds, hb3⟩; obtain ⟨da', dc', ed, hdr⟩ := hds; injection ed with ed1 ed2 ed3; subst ed1; subst ed2; subst ed3; replace y := y.trans (hb3.mono y.size); replace yb := yb.trans (hb3.mono yb.size); have KD := Lib.hid (show ∀ wz, Below w3.heap.size w3 wz → Rd wz da S from fun wz hz => hdr.below hz); have yd : Below w3.heap.size w3 w3 := Below.refl _ _; clear hb3 hdr)
        | (go_at_call 49; refine (dr_toZ (equalInts_same ba da _ _ S _ (KB.out _ yb) (KD.out _ yd) hS7)).mono ?_; rintro e wz ⟨rfl, hb⟩; replace y := y.trans (hb.mono y.size); replace yb := yb.trans (hb.mono yb.size); replace yd := yd.trans (hb.mono yd.size); clear hb)
        | (go_at_call 50; refine (C1.out _ _ _ _ _ (HA.out _ y).1 (HA.out _ y).2).mono ?_; rintro e wz ⟨rfl, hb⟩; replace y := y.trans (hb.mono y.size); replace yb := yb.trans (hb.mono yb.size); replace yd := yd.trans (hb.mono yd.size); clear hb)
        | (refine wpList_load_row_w rfl 27 _ rfl g3 rfl _ _ _ _ (K3.out _ (by first | assumption)) Try.underlying27 rfl (size_Alg _ _) ?_)
        | (go_at_call 41; refine (HSS.out _ _ _ (KB.out _ yb) hbc).mono ?_; rintro e w7 ⟨fa, fca, fb, fcb, rfl, fr, ft, hb7⟩; have y7 := y.trans (hb7.mono y.size); have FR := Lib.hid (show Rd w7 fa L ∧ RdT w7 fb T from ⟨fr, ft⟩); clear hb7 fr ft)
        | (refine wpList_store_row rfl 27 _ _ rfl w7.heap.size #[.slice fa L.length fca, .slice fb T.length fcb] rfl rfl _ _ (heap_alloc_new w7 (.cells #[.slice none 0 0, .slice none 0 0] 27)) (size_Alg _ _) rfl (one_sl2 _ _ _ _ _ _) ?_; rw [World.setRow_alloc_new]; obtain ⟨g8, hg8⟩ : ∃ g : Nat, g = w7.heap.size := ⟨_, rfl⟩; obtain ⟨w8, hw8⟩ : ∃ x : World, x = w7.alloc (.cells #[.slice fa L.length fca, .slice fb T.length fcb] 27) := ⟨_, rfl⟩; rw [← hw8, ← hg8]; have qw8 : Below w7.heap.size w7 w8 := (by rw [hw8]; exact (Below.refl _ _).alloc (Nat.le_refl _) _); have hxg8 : w8.heap[g8]? = some (.cells #[.slice fa L.length fca, .slice fb T.length fcb] 27 (0, 0)) := (by rw [hw8, hg8]; exact heap_alloc_new w7 _); have K8 := Lib.hid (show ∀ wz, Below w8.heap.size w8 wz → wz.heap[g8]? = some (.cells #[.slice fa L.length fca, .slice fb T.length fcb] 27 (0, 0)) from fun wz h => (h.block _ (lt_of_block hxg8)).trans hxg8); have y8 : Below w1.heap.size w1 w8 := y7.trans (qw8.mono y7.size); replace FR := Lib.hid (show Rd w8 fa L ∧ RdT w8 fb T from ⟨FR.out.1.below qw8, FR.out.2.below qw8⟩); clear qw8 hw8 hg8 hxg8))
      have KR := Lib.hid (show ∀ wz, Below w8.heap.size w8 wz → Rd wz a L from fun wz hz => (HA.out _ (y8.trans (hz.mono y8.size))).1)
      have KT := Lib.hid (show ∀ wz, Below w8.heap.size w8 wz → RdT wz b T from fun wz hz => (HA.out _ (y8.trans (hz.mono y8.size))).2)
      have KF := Lib.hid (show ∀ wz, Below w8.heap.size w8 wz → Rd wz fa L ∧ RdT wz fb T from fun wz hz => ⟨FR.out.1.below hz, FR.out.2.below hz⟩)
      have K0 := Lib.hid (show ∀ wz, Below w8.heap.size w8 wz → wz.cell? ⟨g3, 0, none⟩ = some (.slice a L.length ca) from fun wz hz => (bx_cells (K3.out _ (y8.trans (hz.mono y8.size)))).1)
      have K1 := Lib.hid (show ∀ wz, Below w8.heap.size w8 wz → wz.cell? ⟨g3, 1, none⟩ = some (.slice b T.length cb) from fun wz hz => (bx_cells (K3.out _ (y8.trans (hz.mono y8.size)))).2)
      have KX := Lib.hid (show ∀ wz, Below w8.heap.size w8 wz → wz.heap[g3]? = some (.cells #[.slice a L.length ca, .slice b T.length cb] 27 (0, 0)) from fun wz hz => K3.out _ (y8.trans (hz.mono y8.size)))
      have K2 := Lib.hid (show ∀ wz, Below w8.heap.size w8 wz → wz.cell? ⟨g8, 0, none⟩ = some (.slice fa L.length fca) from fun wz hz => (bx_cells (K8.out _ hz)).1)
      have K3c := Lib.hid (show ∀ wz, Below w8.heap.size w8 wz → wz.cell? ⟨g8, 1, none⟩ = some (.slice fb T.length fcb) from fun wz hz => (bx_cells (K8.out _ hz)).2)
      have FIN := Lib.hid (show ∀ wz, Below w8.heap.size w8 wz → Below w.heap.size w wz from fun wz hz => hbd.trans ((z1.trans ((y8.trans (hz.mono y8.size)).mono z1.size)).mono hbd.size))
      have z : Below w8.heap.size w8 w8 := Below.refl _ _
      clear y8 y7 y yb yd z1 hbd hbc
      have e0 := K0.out _ z
      have e1 := K1.out _ z
      have e2 := K2.out _ z
      have e3 := K3c.out _ z
      first
      | (go_region_held3 (fun w' => w'.cell? ⟨g3, 0, none⟩ = some (.slice a L.length ca) ∧ w'.cell? ⟨g3, 1, none⟩ = some (.slice b T.length cb) ∧ w'.cell? ⟨g8, 0, none⟩ = some (.slice fa L.length fca) ∧ w'.cell? ⟨g8, 1, none⟩ = some (.slice fb T.length fcb))
          (first | go_keep | exact ⟨e0, e1, e2, e3⟩)
          (first
            | go_skip
            | (go_simp; go_at_call 55; refine (C6.out _).mono ?_; rintro e wz ⟨cha, chc, rfl, hch, hb⟩; replace z := (show Below w8.heap.size w8 wz from by first | exact z.trans (hb.mono z.size) | exact z.drew.trans (hb.mono z.drew.size) | exact z.drew.drew.trans (hb.mono z.drew.drew.size) | exact z.drew.drew.drew.trans (hb.mono z.drew.drew.drew.size)); have e0 := K0.out _ z; have e1 := K1.out _ z; have e2 := K2.out _ z; have e3 := K3c.out _ z)
            | (go_simp; go_at_call 49; refine (C5.out _ _ _ _ _ (KR.out _ (by first | exact z | exact z.drew | exact z.drew.drew | exact z.drew.drew.drew)) (by first | exact hch | exact hch.below (Below.refl _ _).drew | exact hch.below (Below.refl _ _).drew.drew | exact hch.below (Below.refl _ _).drew.drew.drew)).mono ?_; rintro e wz ⟨rfl, hb⟩; replace z := (show Below w8.heap.size w8 wz from by first | exact z.trans (hb.mono z.size) | exact z.drew.trans (hb.mono z.drew.size) | exact z.drew.drew.trans (hb.mono z.drew.drew.size) | exact z.drew.drew.drew.trans (hb.mono z.drew.drew.drew.size)); have e0 := K0.out _ z; have e1 := K1.out _ z; have e2 := K2.out _ z; have e3 := K3c.out _ z; (try replace hch := (show Rd wz cha CH from by first | exact hch.below hb | exact (hch.below ((Below.refl _ _).drew)).below hb | exact (hch.below (((Below.refl _ _).drew).drew)).below hb | exact (hch.below ((((Below.refl _ _).drew).drew).drew)).below hb)))
            | (go_simp; go_at_call 51; refine (C2.out _ _ _ _ _ (KR.out _ (by first | exact z | exact z.drew | exact z.drew.drew | exact z.drew.drew.drew)) (KT.out _ (by first | exact z | exact z.drew | exact z.drew.drew | exact z.drew.drew.drew))).mono ?_; rintro e wz ⟨rfl, hb⟩; replace z := (show Below w8.heap.size w8 wz from by first | exact z.trans (hb.mono z.size) | exact z.drew.trans (hb.mono z.drew.size) | exact z.drew.drew.trans (hb.mono z.drew.drew.size) | exact z.drew.drew.drew.trans (hb.mono z.drew.drew.drew.size)); have e0 := K0.out _ z; have e1 := K1.out _ z; have e2 := K2.out _ z; have e3 := K3c.out _ z; (try replace hch := (show Rd wz cha CH from by first | exact hch.below hb | exact (hch.below ((Below.refl _ _).drew)).below hb | exact (hch.below (((Below.refl _ _).drew).drew)).below hb | exact (hch.below ((((Below.refl _ _).drew).drew).drew)).below hb)))
            | (go_simp; go_at_call 48; refine ((equalAlgebra_same _ _ _ _ _ _ _ _ L T _ (KF.out _ (by first | exact z | exact z.drew | exact z.drew.drew | exact z.drew.drew.drew)).1 (KR.out _ (by first | exact z | exact z.drew | exact z.drew.drew | exact z.drew.drew.drew)) (KF.out _ (by first | exact z | exact z.drew | exact z.drew.drew | exact z.drew.drew.drew)).2 (KT.out _ (by first | exact z | exact z.drew | exact z.drew.drew | exact z.drew.drew.drew)) hVL HVR.out hVT)).mono ?_; rintro e wz ⟨rfl, hb⟩; replace z := (show Below w8.heap.size w8 wz from by first | exact z.trans (hb.mono z.size) | exact z.drew.trans (hb.mono z.drew.size) | exact z.drew.drew.trans (hb.mono z.drew.drew.size) | exact z.drew.drew.drew.trans (hb.mono z.drew.drew.drew.size)); have e0 := K0.out _ z; have e1 := K1.out _ z; have e2 := K2.out _ z; have e3 := K3c.out _ z; (try replace hch := (show Rd wz cha CH from by first | exact hch.below hb | exact (hch.below ((Below.refl _ _).drew)).below hb | exact (hch.below (((Below.refl _ _).drew).drew)).below hb | exact (hch.below ((((Below.refl _ _).drew).drew).drew)).below hb)))
            | (refine skip_if (by decide) ?_)))
      | fail
      all_goals
        go_wp2
        go_ret
        exact ⟨by first | rfl | exact ret_bool (by simp), FIN.out _ (by first | exact z | exact z.drew | exact z.drew.drew | exact z.drew.drew.drew)⟩
    | false =>
      rw [hv] at hiff
      subst hv
      obtain ⟨BL, hBL⟩ : ∃ x, x = skL S := ⟨_, rfl⟩
      obtain ⟨BT, hBT⟩ : ∃ x, x = skT S := ⟨_, rfl⟩
      obtain ⟨BV, hBV⟩ : ∃ x, x = szB 5 S := ⟨_, rfl⟩
      rw [← hBL, ← hBT, ← hBV] at HSS
      cases hq : eqL L CH with
      | false =>
       rw [hq] at C5
       clear hBL hBT hBV hq hiff ha hS hRa hTb hSe hCH hCHl hVe
       go_wp2_with (first
         | go_skip
         | (refine wpList_store_row rfl 27 _ _ rfl wd.heap.size #[.slice a L.length ca, .slice b T.length cb] rfl rfl _ _ (heap_alloc_new wd (.cells #[.slice none 0 0, .slice none 0 0] 27)) (size_Alg _ _) rfl (one_sl2 _ _ _ _ _ _) ?_; rw [World.setRow_alloc_new]; obtain ⟨g3, hg3⟩ : ∃ g : Nat, g = wd.heap.size := ⟨_, rfl⟩; obtain ⟨w1, hw1⟩ : ∃ x : World, x = wd.alloc (.cells #[.slice a L.length ca, .slice b T.length cb] 27) := ⟨_, rfl⟩; rw [← hw1, ← hg3]; have qw1 : Below wd.heap.size wd w1 := (by rw [hw1]; exact (Below.refl _ _).alloc (Nat.le_refl _) _); have hxg3 : w1.heap[g3]? = some (.cells #[.slice a L.length ca, .slice b T.length cb] 27 (0, 0)) := (by rw [hw1, hg3]; exact heap_alloc_new wd _); have K3 := Lib.hid (show ∀ wz, Below w1.heap.size w1 wz → wz.heap[g3]? = some (.cells #[.slice a L.length ca, .slice b T.length cb] 27 (0, 0)) from fun wz h => (h.block _ (lt_of_block hxg3)).trans hxg3); have z1 : Below wd.heap.size wd w1 := zd.trans (qw1.mono zd.size); have HA := Lib.hid (show ∀ wz, Below w1.heap.size w1 wz → Rd wz a L ∧ RdT wz b T from fun wz hz => ⟨(HAd.out.1.below qw1).below hz, (HAd.out.2.below qw1).below hz⟩); have y : Below w1.heap.size w1 w1 := Below.refl _ _; clear qw1 hw1 hg3 hxg3)
         | (go_at_call 45; refine (HI.out _ _ _ _ _ (HA.out _ y).1 (HA.out _ y).2).mono ?_; rintro e w2 ⟨ba, bn, bc, rfl, hgs, hb2⟩; obtain ⟨ba', bc', eb, hbr, hbc⟩ := hgs.rdcz; injection eb with eb1 eb2 eb3; subst eb1; subst eb2; subst eb3; replace y := y.trans (hb2.mono y.size); have KB := Lib.hid (show ∀ wz, Below w2.heap.size w2 wz → Rd wz ba S from fun wz hz => hbr.below hz); have yb : Below w2.heap.size w2 w2 := Below.refl _ _; clear hgs hb2 hbr)
         | (go_at_call 44; refine (HP.out _ _ _ _ _ (HA.out _ y).1 (HA.out _ y).2).mono ?_; rintro e w3 ⟨da, dn, dc, rfl, hds, hb3⟩; obtain ⟨da', dc', ed, hdr⟩ := hds; injection ed with ed1 ed2 ed3; subst ed1; subst ed2; subst ed3; replace y := y.trans (hb3.mono y.size); replace yb := yb.trans (hb3.mono yb.size); have KD := Lib.hid (show ∀ wz, Below w3.heap.size w3 wz → Rd wz da S from fun wz hz => hdr.below hz); have yd : Below w3.heap.size w3 w3 := Below.refl _ _; clear hb3 hdr)
         | (go_at_call 49; refine (dr_toZ (equalInts_same ba da _ _ S _ (KB.out _ yb) (KD.out _ yd) hS7)).mono ?_; rintro e wz ⟨rfl, hb⟩; replace y := y.trans (hb.mono y.size); replace yb := yb.trans (hb.mono yb.size); replace yd := yd.trans (hb.mono yd.size); clear hb)
         | (go_at_call 50; refine (C1.out _ _ _ _ _ (HA.out _ y).1 (HA.out _ y).2).mono ?_; rintro e wz ⟨rfl, hb⟩; replace y := y.trans (hb.mono y.size); replace yb := yb.trans (hb.mono yb.size); replace yd := yd.trans (hb.mono yd.size); clear hb)
         | (refine wpList_load_row_w rfl 27 _ rfl g3 rfl _ _ _ _ (K3.out _ (by first | assumption)) Try.underlying27 rfl (size_Alg _ _) ?_)
         | (go_at_call 41; refine (HSS.out _ _ _ (KB.out _ yb) hbc).mono ?_; rintro e w7 ⟨fa, fca, fb, fcb, rfl, fr, ft, hb7⟩; have y7 := y.trans (hb7.mono y.size); have FR := Lib.hid (show Rd w7 fa BL ∧ RdT w7 fb BT from ⟨fr, ft⟩); clear hb7 fr ft)
         | (refine wpList_store_row rfl 27 _ _ rfl w7.heap.size #[.slice fa BL.length fca, .slice fb BT.length fcb] rfl rfl _ _ (heap_alloc_new w7 (.cells #[.slice none 0 0, .slice none 0 0] 27)) (size_Alg _ _) rfl (one_sl2 _ _ _ _ _ _) ?_; rw [World.setRow_alloc_new]; obtain ⟨g8, hg8⟩ : ∃ g : Nat, g = w7.heap.size := ⟨_, rfl⟩; obtain ⟨w8, hw8⟩ : ∃ x : World, x = w7.alloc (.cells #[.slice fa BL.length fca, .slice fb BT.length fcb] 27) := ⟨_, rfl⟩; rw [← hw8, ← hg8]; have qw8 : Below w7.heap.size w7 w8 := (by rw [hw8]; exact (Below.refl _ _).alloc (Nat.le_refl _) _); have hxg8 : w8.heap[g8]? = some (.cells #[.slice fa BL.length fca, .slice fb BT.length fcb] 27 (0, 0)) := (by rw [hw8, hg8]; exact heap_alloc_new w7 _); have K8 := Lib.hid (show ∀ wz, Below w8.heap.size w8 wz → wz.heap[g8]? = some (.cells #[.slice fa BL.length fca, .slice fb BT.length fcb] 27 (0, 0)) from fun wz h => (h.block _ (lt_of_block hxg8)).trans hxg8); have y8 : Below w1.heap.size w1 w8 := y7.trans (qw8.mono y7.size); replace FR := Lib.hid (show Rd w8 fa BL ∧ RdT w8 fb BT from ⟨FR.out.1.below qw8, FR.out.2.below qw8⟩); clear qw8 hw8 hg8 hxg8))
       have KR := Lib.hid (show ∀ wz, Below w8.heap.size w8 wz → Rd wz a L from fun wz hz => (HA.out _ (y8.trans (hz.mono y8.size))).1)
       have KT := Lib.hid (show ∀ wz, Below w8.heap.size w8 wz → RdT wz b T from fun wz hz => (HA.out _ (y8.trans (hz.mono y8.size))).2)
       have KF := Lib.hid (show ∀ wz, Below w8.heap.size w8 wz → Rd wz fa BL ∧ RdT wz fb BT from fun wz hz => ⟨FR.out.1.below hz, FR.out.2.below hz⟩)
       have K0 := Lib.hid (show ∀ wz, Below w8.heap.size w8 wz → wz.cell? ⟨g3, 0, none⟩ = some (.slice a L.length ca) from fun wz hz => (bx_cells (K3.out _ (y8.trans (hz.mono y8.size)))).1)
       have K1 := Lib.hid (show ∀ wz, Below w8.heap.size w8 wz → wz.cell? ⟨g3, 1, none⟩ = some (.slice b T.length cb) from fun wz hz => (bx_cells (K3.out _ (y8.trans (hz.mono y8.size)))).2)
       have KX := Lib.hid (show ∀ wz, Below w8.heap.size w8 wz → wz.heap[g3]? = some (.cells #[.slice a L.length ca, .slice b T.length cb] 27 (0, 0)) from fun wz hz => K3.out _ (y8.trans (hz.mono y8.size)))
       have K2 := Lib.hid (show ∀ wz, Below w8.heap.size w8 wz → wz.cell? ⟨g8, 0, none⟩ = some (.slice fa BL.length fca) from fun wz hz => (bx_cells (K8.out _ hz)).1)
       have K3c := Lib.hid (show ∀ wz, Below w8.heap.size w8 wz → wz.cell? ⟨g8, 1, none⟩ = some (.slice fb BT.length fcb) from fun wz hz => (bx_cells (K8.out _ hz)).2)
       have FIN := Lib.hid (show ∀ wz, Below w8.heap.size w8 wz → Below w.heap.size w wz from fun wz hz => hbd.trans ((z1.trans ((y8.trans (hz.mono y8.size)).mono z1.size)).mono hbd.size))
       have z : Below w8.heap.size w8 w8 := Below.refl _ _
       clear y8 y7 y yb yd z1 hbd hbc
       have e0 := K0.out _ z
       have e1 := K1.out _ z
       have e2 := K2.out _ z
       have e3 := K3c.out _ z
       refine wp_region_any (by kernel_rfl) ?_
       refine any_of_C (C := Below w8.heap.size w8) _ _ _ _ ?_
       replace z := z.drew
       refine anyC_take (i := 0) (oi := ⟨_, _, _, _, _, _⟩) (v := .bool false) rfl (by kernel_rfl) (by kernel_rfl) (by kernel_rfl) (fun _ _ _ h => h) (.inl ⟨by kernel_rfl, fun wz hz => by apply runs_moveZ <;> rfl⟩) ?_
       (try simp only [Act.put, List.setIfInBounds_toArray, List.set_cons_zero, List.set_cons_succ])
       refine anyC_take (i := 1) (oi := ⟨_, _, _, _, _, _⟩) (v := .pointer (some ⟨g3, 0, none⟩)) rfl (by kernel_rfl) (by kernel_rfl) (by kernel_rfl) (fun _ _ _ h => h) (.inl ⟨by kernel_rfl, fun wz hz => by go_simp⟩) ?_
       (try simp only [Act.put, List.setIfInBounds_toArray, List.set_cons_zero, List.set_cons_succ])
       refine anyC_take (i := 2) (oi := ⟨_, _, _, _, _, _⟩) (v := .slice a L.length ca) rfl (by kernel_rfl) (by kernel_rfl) (by kernel_rfl) (fun _ _ _ h => h) (.inl ⟨by kernel_rfl, fun wz hz => by have c0 := K0.out _ hz; go_simp⟩) ?_
       (try simp only [Act.put, List.setIfInBounds_toArray, List.set_cons_zero, List.set_cons_succ])
       refine anyC_take (i := 3) (oi := ⟨_, _, _, _, _, _⟩) (v := .pointer (some ⟨g3, 0, none⟩)) rfl (by kernel_rfl) (by kernel_rfl) (by kernel_rfl) (fun _ _ _ h => h) (.inl ⟨by kernel_rfl, fun wz hz => by go_simp⟩) ?_
       (try simp only [Act.put, List.setIfInBounds_toArray, List.set_cons_zero, List.set_cons_succ])
       refine anyC_take (i := 4) (oi := ⟨_, _, _, _, _, _⟩) (v := .slice a L.length ca) rfl (by kernel_rfl) (by kernel_rfl) (by kernel_rfl) (fun _ _ _ h => h) (.inl ⟨by kernel_rfl, fun wz hz => by have c0 := K0.out _ hz; go_simp⟩) ?_
       (try simp only [Act.put, List.setIfInBounds_toArray, List.set_cons_zero, List.set_cons_succ])
       refine anyC_take (i := 5) (oi := ⟨_, _, _, _, _, _⟩) (v := .int .i64 (L.length : Int)) rfl (by kernel_rfl) (by kernel_rfl) (by kernel_rfl) (fun _ _ _ h => h) (.inl ⟨by kernel_rfl, fun wz hz => by go_simp⟩) ?_
       (try simp only [Act.put, List.setIfInBounds_toArray, List.set_cons_zero, List.set_cons_succ])
       refine anyC_call (i := 6) (o := ⟨_, _, _, _, _, _⟩) (f := 55) (args := #[.int .i64 (L.length : Int)]) rfl (by kernel_rfl) (by kernel_rfl) (by apply runs_call1 (he := enters_of Try.func55 (by kernel_rfl) rfl) <;> rfl) z ?_
       refine (C6.out _).mono ?_
       rintro e wz ⟨cha, chc, rfl, hch, hb⟩
       replace z := z.trans (hb.mono z.size)
       refine ⟨_, rfl, ?_⟩
       (try simp only [Act.put, List.setIfInBounds_toArray, List.set_cons_zero, List.set_cons_succ])
       refine anyC_call (i := 7) (o := ⟨_, _, _, _, _, _⟩) (f := 49) (args := #[.slice a L.length ca, .slice cha CH.length chc]) rfl (by kernel_rfl) (by kernel_rfl) (by apply runs_call2 (he := enters_of Try.func49 (by kernel_rfl) rfl) <;> rfl) z ?_
       refine (C5.out _ _ _ _ _ (KR.out _ z) hch).mono ?_
       rintro e wz ⟨rfl, hb⟩
       replace z := z.trans (hb.mono z.size)
       refine ⟨_, rfl, ?_⟩
       (try simp only [Act.put, List.setIfInBounds_toArray, List.set_cons_zero, List.set_cons_succ])
       refine anyC_take (i := 8) (oi := ⟨_, _, _, _, _, _⟩) (v := .bool false) rfl (by kernel_rfl) (by kernel_rfl) (by kernel_rfl) (fun _ _ _ h => h) (.inl ⟨by kernel_rfl, fun wz hz => by apply runs_moveZ <;> rfl⟩) ?_
       (try simp only [Act.put, List.setIfInBounds_toArray, List.set_cons_zero, List.set_cons_succ])
       refine anyC_take (i := 9) (oi := ⟨_, _, _, _, _, _⟩) (v := undef) rfl (by kernel_rfl) (by kernel_rfl) (by kernel_rfl) (fun _ _ _ h => h) (.inr ⟨by kernel_rfl, rfl⟩) ?_
       (try simp only [Act.put, List.setIfInBounds_toArray, List.set_cons_zero, List.set_cons_succ])
       refine anyC_take (i := 10) (oi := ⟨_, _, _, _, _, _⟩) (v := undef) rfl (by kernel_rfl) (by kernel_rfl) (by kernel_rfl) (fun _ _ _ h => h) (.inr ⟨by kernel_rfl, rfl⟩) ?_
       (try simp only [Act.put, List.setIfInBounds_toArray, List.set_cons_zero, List.set_cons_succ])
       refine anyC_take (i := 11) (oi := ⟨_, _, _, _, _, _⟩) (v := .bool false) rfl (by kernel_rfl) (by kernel_rfl) (by kernel_rfl) (fun _ _ _ h => h) (.inl ⟨by kernel_rfl, fun wz hz => by go_simp⟩) ?_
       (try simp only [Act.put, List.setIfInBounds_toArray, List.set_cons_zero, List.set_cons_succ])
       refine anyC_take (i := 12) (oi := ⟨_, _, _, _, _, _⟩) (v := .bool true) rfl (by kernel_rfl) (by kernel_rfl) (by kernel_rfl) (fun _ _ _ h => h) (.inl ⟨by kernel_rfl, fun wz hz => by go_simp⟩) ?_
       (try simp only [Act.put, List.setIfInBounds_toArray, List.set_cons_zero, List.set_cons_succ])
       refine anyC_take (i := 13) (oi := ⟨_, _, _, _, _, _⟩) (v := .bool true) rfl (by kernel_rfl) (by kernel_rfl) (by kernel_rfl) (fun _ _ _ h => h) (.inl ⟨by kernel_rfl, fun wz hz => by apply runs_moveZ <;> rfl⟩) ?_
       (try simp only [Act.put, List.setIfInBounds_toArray, List.set_cons_zero, List.set_cons_succ])
       refine anyC_take (i := 14) (oi := ⟨_, _, _, _, _, _⟩) (v := .bool false) rfl (by kernel_rfl) (by kernel_rfl) (by kernel_rfl) (fun _ _ _ h => h) (.inl ⟨by kernel_rfl, fun wz hz => by apply runs_moveZ <;> rfl⟩) ?_
       (try simp only [Act.put, List.setIfInBounds_toArray, List.set_cons_zero, List.set_cons_succ])
       refine anyC_take (i := 15) (oi := ⟨_, _, _, _, _, _⟩) (v := .bool true) rfl (by kernel_rfl) (by kernel_rfl) (by kernel_rfl) (fun _ _ _ h => h) (.inl ⟨by kernel_rfl, fun wz hz => by go_simp⟩) ?_
       (try simp only [Act.put, List.setIfInBounds_toArray, List.set_cons_zero, List.set_cons_succ])
       refine anyC_take (i := 16) (oi := ⟨_, _, _, _, _, _⟩) (v := .bool true) rfl (by kernel_rfl) (by kernel_rfl) (by kernel_rfl) (fun _ _ _ h => h) (.inl ⟨by kernel_rfl, fun wz hz => by apply runs_moveZ <;> rfl⟩) ?_
       (try simp only [Act.put, List.setIfInBounds_toArray, List.set_cons_zero, List.set_cons_succ])
       refine anyC_take (i := 17) (oi := ⟨_, _, _, _, _, _⟩) (v := undef) rfl (by kernel_rfl) (by kernel_rfl) (by kernel_rfl) (fun _ _ _ h => h) (.inr ⟨by kernel_rfl, rfl⟩) ?_
       (try simp only [Act.put, List.setIfInBounds_toArray, List.set_cons_zero, List.set_cons_succ])
       refine anyC_take (i := 18) (oi := ⟨_, _, _, _, _, _⟩) (v := undef) rfl (by kernel_rfl) (by kernel_rfl) (by kernel_rfl) (fun _ _ _ h => h) (.inr ⟨by kernel_rfl, rfl⟩) ?_
       (try simp only [Act.put, List.setIfInBounds_toArray, List.set_cons_zero, List.set_cons_succ])
       refine anyC_take (i := 19) (oi := ⟨_, _, _, _, _, _⟩) (v := undef) rfl (by kernel_rfl) (by kernel_rfl) (by kernel_rfl) (fun _ _ _ h => h) (.inr ⟨by kernel_rfl, rfl⟩) ?_
       (try simp only [Act.put, List.setIfInBounds_toArray, List.set_cons_zero, List.set_cons_succ])
       refine anyC_take (i := 20) (oi := ⟨_, _, _, _, _, _⟩) (v := undef) rfl (by kernel_rfl) (by kernel_rfl) (by kernel_rfl) (fun _ _ _ h => h) (.inr ⟨by kernel_rfl, rfl⟩) ?_
       (try simp only [Act.put, List.setIfInBounds_toArray, List.set_cons_zero, List.set_cons_succ])
       refine anyC_take (i := 21) (oi := ⟨_, _, _, _, _, _⟩) (v := undef) rfl (by kernel_rfl) (by kernel_rfl) (by kernel_rfl) (fun _ _ _ h => h) (.inr ⟨by kernel_rfl, rfl⟩) ?_
       (try simp only [Act.put, List.setIfInBounds_toArray, List.set_cons_zero, List.set_cons_succ])
       refine anyC_take (i := 22) (oi := ⟨_, _, _, _, _, _⟩) (v := undef) rfl (by kernel_rfl) (by kernel_rfl) (by kernel_rfl) (fun _ _ _ h => h) (.inr ⟨by kernel_rfl, rfl⟩) ?_
       (try simp only [Act.put, List.setIfInBounds_toArray, List.set_cons_zero, List.set_cons_succ])
       refine anyC_take (i := 23) (oi := ⟨_, _, _, _, _, _⟩) (v := .bool true) rfl (by kernel_rfl) (by kernel_rfl) (by kernel_rfl) (fun _ _ _ h => h) (.inl ⟨by kernel_rfl, fun wz hz => by go_simp⟩) ?_
       (try simp only [Act.put, List.setIfInBounds_toArray, List.set_cons_zero, List.set_cons_succ])
       refine anyC_take (i := 24) (oi := ⟨_, _, _, _, _, _⟩) (v := .bool true) rfl (by kernel_rfl) (by kernel_rfl) (by kernel_rfl) (fun _ _ _ h => h) (.inl ⟨by kernel_rfl, fun wz hz => by go_simp⟩) ?_
       (try simp only [Act.put, List.setIfInBounds_toArray, List.set_cons_zero, List.set_cons_succ])
       refine anyC_take (i := 25) (oi := ⟨_, _, _, _, _, _⟩) (v := .bool true) rfl (by kernel_rfl) (by kernel_rfl) (by kernel_rfl) (fun _ _ _ h => h) (.inl ⟨by kernel_rfl, fun wz hz => by apply runs_assign <;> rfl⟩) ?_
       (try simp only [Act.put, List.setIfInBounds_toArray, List.set_cons_zero, List.set_cons_succ])
       refine anyC_done (by kernel_rfl) z ?_ _
       all_goals
         go_wp2
         go_ret
         exact ⟨by first | rfl | exact ret_bool (by simp), FIN.out _ (by first | exact z | exact z.drew | exact z.drew.drew | exact z.drew.drew.drew)⟩
 
      | true =>
       rw [hq] at C5
       have hh : hasB 1 L T = false := by rw [hq, Bool.true_and] at hiff; exact hiff.symm
       rw [hh] at C2
       clear hBL hBT hBV hq hh hiff ha hS hRa hTb hSe hCH hCHl hVe
       go_wp2_with (first
         | go_skip
         | (refine wpList_store_row rfl 27 _ _ rfl wd.heap.size #[.slice a L.length ca, .slice b T.length cb] rfl rfl _ _ (heap_alloc_new wd (.cells #[.slice none 0 0, .slice none 0 0] 27)) (size_Alg _ _) rfl (one_sl2 _ _ _ _ _ _) ?_; rw [World.setRow_alloc_new]; obtain ⟨g3, hg3⟩ : ∃ g : Nat, g = wd.heap.size := ⟨_, rfl⟩; obtain ⟨w1, hw1⟩ : ∃ x : World, x = wd.alloc (.cells #[.slice a L.length ca, .slice b T.length cb] 27) := ⟨_, rfl⟩; rw [← hw1, ← hg3]; have qw1 : Below wd.heap.size wd w1 := (by rw [hw1]; exact (Below.refl _ _).alloc (Nat.le_refl _) _); have hxg3 : w1.heap[g3]? = some (.cells #[.slice a L.length ca, .slice b T.length cb] 27 (0, 0)) := (by rw [hw1, hg3]; exact heap_alloc_new wd _); have K3 := Lib.hid (show ∀ wz, Below w1.heap.size w1 wz → wz.heap[g3]? = some (.cells #[.slice a L.length ca, .slice b T.length cb] 27 (0, 0)) from fun wz h => (h.block _ (lt_of_block hxg3)).trans hxg3); have z1 : Below wd.heap.size wd w1 := zd.trans (qw1.mono zd.size); have HA := Lib.hid (show ∀ wz, Below w1.heap.size w1 wz → Rd wz a L ∧ RdT wz b T from fun wz hz => ⟨(HAd.out.1.below qw1).below hz, (HAd.out.2.below qw1).below hz⟩); have y : Below w1.heap.size w1 w1 := Below.refl _ _; clear qw1 hw1 hg3 hxg3)
         | (go_at_call 45; refine (HI.out _ _ _ _ _ (HA.out _ y).1 (HA.out _ y).2).mono ?_; rintro e w2 ⟨ba, bn, bc, rfl, hgs, hb2⟩; obtain ⟨ba', bc', eb, hbr, hbc⟩ := hgs.rdcz; injection eb with eb1 eb2 eb3; subst eb1; subst eb2; subst eb3; replace y := y.trans (hb2.mono y.size); have KB := Lib.hid (show ∀ wz, Below w2.heap.size w2 wz → Rd wz ba S from fun wz hz => hbr.below hz); have yb : Below w2.heap.size w2 w2 := Below.refl _ _; clear hgs hb2 hbr)
         | (go_at_call 44; refine (HP.out _ _ _ _ _ (HA.out _ y).1 (HA.out _ y).2).mono ?_; rintro e w3 ⟨da, dn, dc, rfl, hds, hb3⟩; obtain ⟨da', dc', ed, hdr⟩ := hds; injection ed with ed1 ed2 ed3; subst ed1; subst ed2; subst ed3; replace y := y.trans (hb3.mono y.size); replace yb := yb.trans (hb3.mono yb.size); have KD := Lib.hid (show ∀ wz, Below w3.heap.size w3 wz → Rd wz da S from fun wz hz => hdr.below hz); have yd : Below w3.heap.size w3 w3 := Below.refl _ _; clear hb3 hdr)
         | (go_at_call 49; refine (dr_toZ (equalInts_same ba da _ _ S _ (KB.out _ yb) (KD.out _ yd) hS7)).mono ?_; rintro e wz ⟨rfl, hb⟩; replace y := y.trans (hb.mono y.size); replace yb := yb.trans (hb.mono yb.size); replace yd := yd.trans (hb.mono yd.size); clear hb)
         | (go_at_call 50; refine (C1.out _ _ _ _ _ (HA.out _ y).1 (HA.out _ y).2).mono ?_; rintro e wz ⟨rfl, hb⟩; replace y := y.trans (hb.mono y.size); replace yb := yb.trans (hb.mono yb.size); replace yd := yd.trans (hb.mono yd.size); clear hb)
         | (refine wpList_load_row_w rfl 27 _ rfl g3 rfl _ _ _ _ (K3.out _ (by first | assumption)) Try.underlying27 rfl (size_Alg _ _) ?_)
         | (go_at_call 41; refine (HSS.out _ _ _ (KB.out _ yb) hbc).mono ?_; rintro e w7 ⟨fa, fca, fb, fcb, rfl, fr, ft, hb7⟩; have y7 := y.trans (hb7.mono y.size); have FR := Lib.hid (show Rd w7 fa BL ∧ RdT w7 fb BT from ⟨fr, ft⟩); clear hb7 fr ft)
         | (refine wpList_store_row rfl 27 _ _ rfl w7.heap.size #[.slice fa BL.length fca, .slice fb BT.length fcb] rfl rfl _ _ (heap_alloc_new w7 (.cells #[.slice none 0 0, .slice none 0 0] 27)) (size_Alg _ _) rfl (one_sl2 _ _ _ _ _ _) ?_; rw [World.setRow_alloc_new]; obtain ⟨g8, hg8⟩ : ∃ g : Nat, g = w7.heap.size := ⟨_, rfl⟩; obtain ⟨w8, hw8⟩ : ∃ x : World, x = w7.alloc (.cells #[.slice fa BL.length fca, .slice fb BT.length fcb] 27) := ⟨_, rfl⟩; rw [← hw8, ← hg8]; have qw8 : Below w7.heap.size w7 w8 := (by rw [hw8]; exact (Below.refl _ _).alloc (Nat.le_refl _) _); have hxg8 : w8.heap[g8]? = some (.cells #[.slice fa BL.length fca, .slice fb BT.length fcb] 27 (0, 0)) := (by rw [hw8, hg8]; exact heap_alloc_new w7 _); have K8 := Lib.hid (show ∀ wz, Below w8.heap.size w8 wz → wz.heap[g8]? = some (.cells #[.slice fa BL.length fca, .slice fb BT.length fcb] 27 (0, 0)) from fun wz h => (h.block _ (lt_of_block hxg8)).trans hxg8); have y8 : Below w1.heap.size w1 w8 := y7.trans (qw8.mono y7.size); replace FR := Lib.hid (show Rd w8 fa BL ∧ RdT w8 fb BT from ⟨FR.out.1.below qw8, FR.out.2.below qw8⟩); clear qw8 hw8 hg8 hxg8))
       have KR := Lib.hid (show ∀ wz, Below w8.heap.size w8 wz → Rd wz a L from fun wz hz => (HA.out _ (y8.trans (hz.mono y8.size))).1)
       have KT := Lib.hid (show ∀ wz, Below w8.heap.size w8 wz → RdT wz b T from fun wz hz => (HA.out _ (y8.trans (hz.mono y8.size))).2)
       have KF := Lib.hid (show ∀ wz, Below w8.heap.size w8 wz → Rd wz fa BL ∧ RdT wz fb BT from fun wz hz => ⟨FR.out.1.below hz, FR.out.2.below hz⟩)
       have K0 := Lib.hid (show ∀ wz, Below w8.heap.size w8 wz → wz.cell? ⟨g3, 0, none⟩ = some (.slice a L.length ca) from fun wz hz => (bx_cells (K3.out _ (y8.trans (hz.mono y8.size)))).1)
       have K1 := Lib.hid (show ∀ wz, Below w8.heap.size w8 wz → wz.cell? ⟨g3, 1, none⟩ = some (.slice b T.length cb) from fun wz hz => (bx_cells (K3.out _ (y8.trans (hz.mono y8.size)))).2)
       have KX := Lib.hid (show ∀ wz, Below w8.heap.size w8 wz → wz.heap[g3]? = some (.cells #[.slice a L.length ca, .slice b T.length cb] 27 (0, 0)) from fun wz hz => K3.out _ (y8.trans (hz.mono y8.size)))
       have K2 := Lib.hid (show ∀ wz, Below w8.heap.size w8 wz → wz.cell? ⟨g8, 0, none⟩ = some (.slice fa BL.length fca) from fun wz hz => (bx_cells (K8.out _ hz)).1)
       have K3c := Lib.hid (show ∀ wz, Below w8.heap.size w8 wz → wz.cell? ⟨g8, 1, none⟩ = some (.slice fb BT.length fcb) from fun wz hz => (bx_cells (K8.out _ hz)).2)
       have FIN := Lib.hid (show ∀ wz, Below w8.heap.size w8 wz → Below w.heap.size w wz from fun wz hz => hbd.trans ((z1.trans ((y8.trans (hz.mono y8.size)).mono z1.size)).mono hbd.size))
       have z : Below w8.heap.size w8 w8 := Below.refl _ _
       clear y8 y7 y yb yd z1 hbd hbc
       have e0 := K0.out _ z
       have e1 := K1.out _ z
       have e2 := K2.out _ z
       have e3 := K3c.out _ z
       refine wp_region_any (by kernel_rfl) ?_
       refine any_of_C (C := Below w8.heap.size w8) _ _ _ _ ?_
       replace z := z.drew
       refine anyC_take (i := 0) (oi := ⟨_, _, _, _, _, _⟩) (v := .bool false) rfl (by kernel_rfl) (by kernel_rfl) (by kernel_rfl) (fun _ _ _ h => h) (.inl ⟨by kernel_rfl, fun wz hz => by apply runs_moveZ <;> rfl⟩) ?_
       (try simp only [Act.put, List.setIfInBounds_toArray, List.set_cons_zero, List.set_cons_succ])
       refine anyC_take (i := 1) (oi := ⟨_, _, _, _, _, _⟩) (v := .pointer (some ⟨g3, 0, none⟩)) rfl (by kernel_rfl) (by kernel_rfl) (by kernel_rfl) (fun _ _ _ h => h) (.inl ⟨by kernel_rfl, fun wz hz => by go_simp⟩) ?_
       (try simp only [Act.put, List.setIfInBounds_toArray, List.set_cons_zero, List.set_cons_succ])
       refine anyC_take (i := 2) (oi := ⟨_, _, _, _, _, _⟩) (v := .slice a L.length ca) rfl (by kernel_rfl) (by kernel_rfl) (by kernel_rfl) (fun _ _ _ h => h) (.inl ⟨by kernel_rfl, fun wz hz => by have c0 := K0.out _ hz; go_simp⟩) ?_
       (try simp only [Act.put, List.setIfInBounds_toArray, List.set_cons_zero, List.set_cons_succ])
       refine anyC_take (i := 3) (oi := ⟨_, _, _, _, _, _⟩) (v := .pointer (some ⟨g3, 0, none⟩)) rfl (by kernel_rfl) (by kernel_rfl) (by kernel_rfl) (fun _ _ _ h => h) (.inl ⟨by kernel_rfl, fun wz hz => by go_simp⟩) ?_
       (try simp only [Act.put, List.setIfInBounds_toArray, List.set_cons_zero, List.set_cons_succ])
       refine anyC_take (i := 4) (oi := ⟨_, _, _, _, _, _⟩) (v := .slice a L.length ca) rfl (by kernel_rfl) (by kernel_rfl) (by kernel_rfl) (fun _ _ _ h => h) (.inl ⟨by kernel_rfl, fun wz hz => by have c0 := K0.out _ hz; go_simp⟩) ?_
       (try simp only [Act.put, List.setIfInBounds_toArray, List.set_cons_zero, List.set_cons_succ])
       refine anyC_take (i := 5) (oi := ⟨_, _, _, _, _, _⟩) (v := .int .i64 (L.length : Int)) rfl (by kernel_rfl) (by kernel_rfl) (by kernel_rfl) (fun _ _ _ h => h) (.inl ⟨by kernel_rfl, fun wz hz => by go_simp⟩) ?_
       (try simp only [Act.put, List.setIfInBounds_toArray, List.set_cons_zero, List.set_cons_succ])
       refine anyC_call (i := 6) (o := ⟨_, _, _, _, _, _⟩) (f := 55) (args := #[.int .i64 (L.length : Int)]) rfl (by kernel_rfl) (by kernel_rfl) (by apply runs_call1 (he := enters_of Try.func55 (by kernel_rfl) rfl) <;> rfl) z ?_
       refine (C6.out _).mono ?_
       rintro e wz ⟨cha, chc, rfl, hch, hb⟩
       replace z := z.trans (hb.mono z.size)
       refine ⟨_, rfl, ?_⟩
       (try simp only [Act.put, List.setIfInBounds_toArray, List.set_cons_zero, List.set_cons_succ])
       refine anyC_call (i := 7) (o := ⟨_, _, _, _, _, _⟩) (f := 49) (args := #[.slice a L.length ca, .slice cha CH.length chc]) rfl (by kernel_rfl) (by kernel_rfl) (by apply runs_call2 (he := enters_of Try.func49 (by kernel_rfl) rfl) <;> rfl) z ?_
       refine (C5.out _ _ _ _ _ (KR.out _ z) hch).mono ?_
       rintro e wz ⟨rfl, hb⟩
       replace z := z.trans (hb.mono z.size)
       refine ⟨_, rfl, ?_⟩
       (try simp only [Act.put, List.setIfInBounds_toArray, List.set_cons_zero, List.set_cons_succ])
       refine anyC_take (i := 8) (oi := ⟨_, _, _, _, _, _⟩) (v := .bool true) rfl (by kernel_rfl) (by kernel_rfl) (by kernel_rfl) (fun _ _ _ h => h) (.inl ⟨by kernel_rfl, fun wz hz => by apply runs_moveZ <;> rfl⟩) ?_
       (try simp only [Act.put, List.setIfInBounds_toArray, List.set_cons_zero, List.set_cons_succ])
       refine anyC_take (i := 9) (oi := ⟨_, _, _, _, _, _⟩) (v := .agg #[.slice a L.length ca, .slice b T.length cb]) rfl (by kernel_rfl) (by kernel_rfl) (by kernel_rfl) (fun _ _ _ h => h) (.inl ⟨by kernel_rfl, fun wz hz => runs_load (C := Below w8.heap.size w8) 27 _ rfl g3 rfl _ _ _ _ (fun w hw => KX.out _ hw) Try.underlying27 rfl (size_Alg _ _) wz hz⟩) ?_
       (try simp only [Act.put, List.setIfInBounds_toArray, List.set_cons_zero, List.set_cons_succ])
       refine anyC_call (i := 10) (o := ⟨_, _, _, _, _, _⟩) (f := 51) (args := #[.string ⟨#[100, 105, 118, 105, 115, 105, 98, 108, 101]⟩, .agg #[.slice a L.length ca, .slice b T.length cb]]) rfl (by kernel_rfl) (by kernel_rfl) (by apply runs_call2 (he := enters_of Try.func51 (by kernel_rfl) rfl) <;> rfl) z ?_
       refine (C2.out _ _ _ _ _ (KR.out _ z) (KT.out _ z)).mono ?_
       rintro e wz ⟨rfl, hb⟩
       replace z := z.trans (hb.mono z.size)
       refine ⟨_, rfl, ?_⟩
       (try simp only [Act.put, List.setIfInBounds_toArray, List.set_cons_zero, List.set_cons_succ])
       refine anyC_take (i := 11) (oi := ⟨_, _, _, _, _, _⟩) (v := .bool false) rfl (by kernel_rfl) (by kernel_rfl) (by kernel_rfl) (fun _ _ _ h => h) (.inl ⟨by kernel_rfl, fun wz hz => by go_simp⟩) ?_
       (try simp only [Act.put, List.setIfInBounds_toArray, List.set_cons_zero, List.set_cons_succ])
       refine anyC_take (i := 12) (oi := ⟨_, _, _, _, _, _⟩) (v := .bool true) rfl (by kernel_rfl) (by kernel_rfl) (by kernel_rfl) (fun _ _ _ h => h) (.inl ⟨by kernel_rfl, fun wz hz => by go_simp⟩) ?_
       (try simp only [Act.put, List.setIfInBounds_toArray, List.set_cons_zero, List.set_cons_succ])
       refine anyC_take (i := 13) (oi := ⟨_, _, _, _, _, _⟩) (v := .bool true) rfl (by kernel_rfl) (by kernel_rfl) (by kernel_rfl) (fun _ _ _ h => h) (.inl ⟨by kernel_rfl, fun wz hz => by apply runs_moveZ <;> rfl⟩) ?_
       (try simp only [Act.put, List.setIfInBounds_toArray, List.set_cons_zero, List.set_cons_succ])
       refine anyC_take (i := 14) (oi := ⟨_, _, _, _, _, _⟩) (v := .bool false) rfl (by kernel_rfl) (by kernel_rfl) (by kernel_rfl) (fun _ _ _ h => h) (.inl ⟨by kernel_rfl, fun wz hz => by apply runs_moveZ <;> rfl⟩) ?_
       (try simp only [Act.put, List.setIfInBounds_toArray, List.set_cons_zero, List.set_cons_succ])
       refine anyC_take (i := 15) (oi := ⟨_, _, _, _, _, _⟩) (v := .bool true) rfl (by kernel_rfl) (by kernel_rfl) (by kernel_rfl) (fun _ _ _ h => h) (.inl ⟨by kernel_rfl, fun wz hz => by go_simp⟩) ?_
       (try simp only [Act.put, List.setIfInBounds_toArray, List.set_cons_zero, List.set_cons_succ])
       refine anyC_take (i := 16) (oi := ⟨_, _, _, _, _, _⟩) (v := .bool true) rfl (by kernel_rfl) (by kernel_rfl) (by kernel_rfl) (fun _ _ _ h => h) (.inl ⟨by kernel_rfl, fun wz hz => by apply runs_moveZ <;> rfl⟩) ?_
       (try simp only [Act.put, List.setIfInBounds_toArray, List.set_cons_zero, List.set_cons_succ])
       refine anyC_take (i := 17) (oi := ⟨_, _, _, _, _, _⟩) (v := undef) rfl (by kernel_rfl) (by kernel_rfl) (by kernel_rfl) (fun _ _ _ h => h) (.inr ⟨by kernel_rfl, rfl⟩) ?_
       (try simp only [Act.put, List.setIfInBounds_toArray, List.set_cons_zero, List.set_cons_succ])
       refine anyC_take (i := 18) (oi := ⟨_, _, _, _, _, _⟩) (v := undef) rfl (by kernel_rfl) (by kernel_rfl) (by kernel_rfl) (fun _ _ _ h => h) (.inr ⟨by kernel_rfl, rfl⟩) ?_
       (try simp only [Act.put, List.setIfInBounds_toArray, List.set_cons_zero, List.set_cons_succ])
       refine anyC_take (i := 19) (oi := ⟨_, _, _, _, _, _⟩) (v := undef) rfl (by kernel_rfl) (by kernel_rfl) (by kernel_rfl) (fun _ _ _ h => h) (.inr ⟨by kernel_rfl, rfl⟩) ?_
       (try simp only [Act.put, List.setIfInBounds_toArray, List.set_cons_zero, List.set_cons_succ])
       refine anyC_take (i := 20) (oi := ⟨_, _, _, _, _, _⟩) (v := undef) rfl (by kernel_rfl) (by kernel_rfl) (by kernel_rfl) (fun _ _ _ h => h) (.inr ⟨by kernel_rfl, rfl⟩) ?_
       (try simp only [Act.put, List.setIfInBounds_toArray, List.set_cons_zero, List.set_cons_succ])
       refine anyC_take (i := 21) (oi := ⟨_, _, _, _, _, _⟩) (v := undef) rfl (by kernel_rfl) (by kernel_rfl) (by kernel_rfl) (fun _ _ _ h => h) (.inr ⟨by kernel_rfl, rfl⟩) ?_
       (try simp only [Act.put, List.setIfInBounds_toArray, List.set_cons_zero, List.set_cons_succ])
       refine anyC_take (i := 22) (oi := ⟨_, _, _, _, _, _⟩) (v := undef) rfl (by kernel_rfl) (by kernel_rfl) (by kernel_rfl) (fun _ _ _ h => h) (.inr ⟨by kernel_rfl, rfl⟩) ?_
       (try simp only [Act.put, List.setIfInBounds_toArray, List.set_cons_zero, List.set_cons_succ])
       refine anyC_take (i := 23) (oi := ⟨_, _, _, _, _, _⟩) (v := .bool true) rfl (by kernel_rfl) (by kernel_rfl) (by kernel_rfl) (fun _ _ _ h => h) (.inl ⟨by kernel_rfl, fun wz hz => by go_simp⟩) ?_
       (try simp only [Act.put, List.setIfInBounds_toArray, List.set_cons_zero, List.set_cons_succ])
       refine anyC_take (i := 24) (oi := ⟨_, _, _, _, _, _⟩) (v := .bool true) rfl (by kernel_rfl) (by kernel_rfl) (by kernel_rfl) (fun _ _ _ h => h) (.inl ⟨by kernel_rfl, fun wz hz => by go_simp⟩) ?_
       (try simp only [Act.put, List.setIfInBounds_toArray, List.set_cons_zero, List.set_cons_succ])
       refine anyC_take (i := 25) (oi := ⟨_, _, _, _, _, _⟩) (v := .bool true) rfl (by kernel_rfl) (by kernel_rfl) (by kernel_rfl) (fun _ _ _ h => h) (.inl ⟨by kernel_rfl, fun wz hz => by apply runs_assign <;> rfl⟩) ?_
       (try simp only [Act.put, List.setIfInBounds_toArray, List.set_cons_zero, List.set_cons_succ])
       refine anyC_done (by kernel_rfl) z ?_ _
       all_goals
         go_wp2
         go_ret
         exact ⟨by first | rfl | exact ret_bool (by simp), FIN.out _ (by first | exact z | exact z.drew | exact z.drew.drew | exact z.drew.drew.drew)⟩
 
end Go.Proofs.Ytnmhbbekmepinaa
