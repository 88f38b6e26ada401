import Derived.Test.YtmlbdlobdnhimaaAL5
import Derived.Test.YtmlbdlobdnhimaaFN8
import Derived.BigQuiet
namespace Go.Proofs.Ytmlbdlobdnhimaa
open Go.RowKit

set_option maxRecDepth 100000 in
set_option maxHeartbeats 1000000 in
/-- laws.equalLists, of two that read the same -/
theorem equalLists_same (b1 b2 : Option Addr) (c1 c2 : Nat) (T : List (List Int)) (w : World) (h1 : RdT w b1 T) (h2 : RdT w b2 T) (hm : ∀ j : Nat, j < T.length → (rowAt T j).length ≤ 1073741824) (hn : T.length ≤ 1073741824) :
    Calls Try.prog 51 #[.slice b1 T.length c1, .slice b2 T.length c2] w fun e w' => e = .returned (.bool true) ∧ Dr w w' := by
  have hne : ((T.length : Int) != (T.length : Int)) = false := by simp
  have HM := Lib.hid hm
  have H1 := Lib.hid h1
  have H2 := Lib.hid h2
  clear hm h1 h2
  go_enter Try.func51, Try.ntmps51
  go_wp2
  go_loopw [5] (fun i wr => ∃ k : Int, 0 ≤ k ∧ k ≤ T.length ∧ i = .int .i64 k ∧ Dr w wr) (fun i _ => ((T.length : Int) - intOf i).toNat)
  case atStart => exact ⟨0, by omega, by omega, rfl, Dr.refl _⟩
  case round =>
    obtain ⟨k, k0, k1, rfl, hd⟩ := hrel
    by_cases hk : k < T.length
    · have hne2 : T ≠ [] := by intro e; rw [e] at hk; simp at hk; omega
      obtain ⟨B1, o1, rfl, q1⟩ := (H1.out.dr hd) hne2
      obtain ⟨B2, o2, rfl, q2⟩ := (H2.out.dr hd) hne2
      obtain ⟨ra1, rc1, d1, r1⟩ := RdT.row q1 k0 hk
      obtain ⟨ra2, rc2, d2, r2⟩ := RdT.row q2 k0 hk
      have hm2 := HM.out k.toNat (by omega)
      rw [Int.toNat_of_nonneg k0] at hm2
      have R1 := Lib.hid r1
      have R2 := Lib.hid r2
      have HM2 := Lib.hid hm2
      clear q1 q2 hne2 r1 r2 hm2
      go_wp2
      go_quiet (first | (go_at_call 30; exact q_dr (equalInts_same _ _ _ _ _ _ (Dr.rd ⟨_, rfl⟩ R1.out) (Dr.rd ⟨_, rfl⟩ R2.out) HM2.out)))
      go_wp2
      go_roundw
      case rel => exact ⟨k + 1, by omega, by omega, rfl, hd.more _⟩
      case measure => simp [intOf]; omega
    · go_wp2
      go_ret
      exact ⟨rfl, hd⟩

/-! what latticesFrom lists -/
theorem latF_q {n : Int} {L : List Int} : ∀ {k : Nat} {H : List Int}, L ∈ latF n k H → ∀ i : Int, (H.length : Int) ≤ i → i < L.length → lfQ i (nth L i) = true
  | 0, H, h, i, i0, i1 => by
    have := (latF_lat h).2
    omega
  | k + 1, H, h, i, i0, i1 => by
    obtain ⟨j, hj, h⟩ := catTo_mem.1 h
    split at h
    · rename_i hq
      by_cases e : i = H.length
      · subst e
        have := latF_pre h (H.length : Int) (by omega) (by rw [List.length_append, List.length_singleton]; omega)
        rw [this]
        have e2 : nth (H ++ [pw H.length + (j : Int)]) H.length = pw H.length + (j : Int) := by unfold nth; simp [List.getD_eq_getElem?_getD]
        rw [e2]; exact hq
      · exact latF_q h i (by rw [List.length_append, List.length_singleton]; omega) i1
    · cases h
theorem low_bit {v x y : Int} (y0 : 0 ≤ y) (hy : y < x) (h : v % pw x = 0) : bt v y = 0 := by
  obtain ⟨q, hq⟩ := Int.dvd_of_emod_eq_zero h
  have e1 : pw x = pw y * pw (x - y) := by rw [← pw_add y (x - y) y0 (by omega)]; congr 1; omega
  have e2 : pw (x - y) = 2 * pw (x - y - 1) := by rw [← pw_succ _ (by omega)]; congr 1; omega
  have p := pw_pos y
  unfold bt
  rw [hq, e1, e2, Int.mul_assoc, Int.mul_ediv_cancel_left _ (by omega), Int.mul_assoc]
  exact Int.mul_emod_right 2 _
theorem latF_up {n : Int} {k : Nat} {L : List Int} (h : L ∈ latF n k []) {x y : Int} (y0 : 0 ≤ y) (hy : y < x) (hx : x < L.length) : bl L x y = false := by
  have hq := latF_q h x (by simp; omega) hx
  unfold lfQ at hq
  rw [Bool.and_eq_true, beq_iff_eq] at hq
  unfold bl
  rw [low_bit y0 hy hq.1]; rfl
theorem catTo_nodup {f : Int → List (List Int)} {a : Int} (hf : ∀ i, (f i).Nodup) (hd : ∀ i j L, L ∈ f i → L ∈ f j → i = j) : ∀ j, (catTo f a j).Nodup
  | 0 => List.nodup_nil
  | j + 1 => by
    show (catTo f a j ++ f (a + j)).Nodup
    rw [List.nodup_append]
    refine ⟨catTo_nodup hf hd j, hf _, fun L hL M hM e => ?_⟩
    subst e
    obtain ⟨i, hi, h⟩ := catTo_mem.1 hL
    have := hd _ _ _ h hM
    omega
theorem latF_nodup {n : Int} : ∀ (k : Nat) (H : List Int), (latF n k H).Nodup
  | 0, H => by
    show (if latB H then [H] else []).Nodup
    split
    · exact List.nodup_cons.2 ⟨by simp, List.nodup_nil⟩
    · exact List.nodup_nil
  | k + 1, H => by
    refine catTo_nodup (fun i => ?_) (fun i j L hi hj => ?_) _
    · split
      · exact latF_nodup k _
      · exact List.nodup_nil
    · split at hi
      · split at hj
        · have e : ∀ r : Int, nth (H ++ [r]) H.length = r := fun r => by unfold nth; simp [List.getD_eq_getElem?_getD]
          have a := latF_pre hi (H.length : Int) (by omega) (by rw [List.length_append, List.length_singleton]; omega)
          have b := latF_pre hj (H.length : Int) (by omega) (by rw [List.length_append, List.length_singleton]; omega)
          rw [e] at a b
          rw [← a, ← b]
        · cases hj
      · cases hi
theorem nodup_next {T : List (List Int)} (h : T.Nodup) {i : Int} (i0 : 1 ≤ i) (i1 : i < T.length) : eqL (rowAt T (i - 1)) (rowAt T i) = false := by
  refine decide_eq_false fun e => ?_
  rw [rowAt_nat T (i - 1) (by omega) (by omega), rowAt_nat T i (by omega) i1] at e
  exact List.pairwise_iff_getElem.1 h (i - 1).toNat i.toNat (by omega) (by omega) (by omega) e
set_option maxRecDepth 100000 in
set_option maxHeartbeats 1000000 in
/-- laws.holdsList, of a list that is there -/
theorem holdsList_in (b a : Option Addr) (c d : Nat) (T : List (List Int)) (L : List Int) (w : World) (h1 : RdT w b T) (h2 : Rd w a L) (hm : ∀ j : Nat, j < T.length → (rowAt T j).length ≤ 1073741824) (hn : T.length ≤ 1073741824) (hin : L ∈ T) :
    Calls Try.prog 53 #[.slice b T.length c, .slice a L.length d] w fun e w' => e = .returned (.bool true) ∧ Dr w w' := by
  have HM := Lib.hid hm
  have H1 := Lib.hid h1
  have H2 := Lib.hid h2
  have HI := Lib.hid hin
  clear hm h1 h2 hin
  go_enter Try.func53, Try.ntmps53
  go_wp2
  go_loopw [5] (fun i wr => ∃ k : Int, 0 ≤ k ∧ k ≤ T.length ∧ i = .int .i64 k ∧ NoneTo k (fun j => eqL (rowAt T j) L) ∧ Dr w wr) (fun i _ => ((T.length : Int) - intOf i).toNat)
  case atStart => exact ⟨0, by omega, by omega, rfl, NoneTo.zero _, Dr.refl _⟩
  case round =>
    obtain ⟨k, k0, k1, rfl, hno, hd⟩ := hrel
    by_cases hk : k < T.length
    · have hne2 : T ≠ [] := by intro e; rw [e] at hk; simp at hk; omega
      obtain ⟨B1, o1, rfl, q1⟩ := (H1.out.dr hd) hne2
      obtain ⟨ra1, rc1, d1, r1⟩ := RdT.row q1 k0 hk
      have hm2 := HM.out k.toNat (by omega)
      rw [Int.toNat_of_nonneg k0] at hm2
      have R1 := Lib.hid r1
      have HM2 := Lib.hid hm2
      clear q1 hne2 r1 hm2
      cases hq : eqL (rowAt T k) L with
      | false =>
        have HQ := Lib.hid (show (fun j => eqL (rowAt T j) L) k = false from hq)
        go_wp2_with (go_at_call 30; refine (equalInts_any _ _ _ _ (rowAt T k) L _ R1.out (hd.rd H2.out) HM2.out).mono ?_; rw [hq]; rintro e w2 ⟨rfl, hd2⟩)
        go_roundw
        case rel => exact ⟨k + 1, by omega, by omega, rfl, hno.succ HQ.out, hd.trans hd2⟩
        case measure => simp [intOf]; omega
      | true =>
        go_wp2_with (go_at_call 30; refine (equalInts_any _ _ _ _ (rowAt T k) L _ R1.out (hd.rd H2.out) HM2.out).mono ?_; rw [hq]; rintro e w2 ⟨rfl, hd2⟩)
        go_ret
        exact ⟨rfl, hd.trans hd2⟩
    · exfalso
      obtain ⟨i, hi, e⟩ := List.getElem_of_mem HI.out
      have : eqL (rowAt T (i : Int)) L = false := hno (i : Int) (by omega) (by omega)
      rw [show eqL (rowAt T (i : Int)) L = true from decide_eq_true (by rw [rowAt_get T i hi]; exact e)] at this
      cases this
theorem in_transZ {w1 wr : World} (z : Below w1.heap.size w1 wr) (s : In (Below wr.heap.size wr)) : Below w1.heap.size w1 s.w := z.trans (s.h.mono z.size)
/-- where a walk over a table stands -/
def StT (w : World) (b : Option Addr) (T : List (List Int)) (wc : World) : Prop := Below w.heap.size w wc ∧ RdT wc b T
theorem StT.next {w wc w' : World} {b : Option Addr} {T : List (List Int)} (h : StT w b T wc) (hb : Below wc.heap.size wc w') : StT w b T w' := ⟨h.1.trans (hb.mono h.1.size), h.2.below hb⟩
theorem StT.dr {w wc w' : World} {b : Option Addr} {T : List (List Int)} (h : StT w b T wc) (hd : Dr wc w') : StT w b T w' := h.next (hd.below _)
theorem equalInts_is (a1 a2 : Option Addr) (c1 c2 : Nat) (A B : List Int) (w : World) (h1 : Rd w a1 A) (h2 : Rd w a2 B) (hm : A.length ≤ 1073741824) {r : Bool} (hr : eqL A B = r) :
    Calls Try.prog 30 #[.slice a1 A.length c1, .slice a2 B.length c2] w fun e w' => e = .returned (.bool r) ∧ Below w.heap.size w w' := by
  refine (equalInts_any a1 a2 c1 c2 A B w h1 h2 hm).mono ?_
  rw [hr]
  rintro e w' ⟨rfl, hd⟩
  exact ⟨rfl, hd.below _⟩
theorem implValid_is (a : Option Addr) (cap : Nat) (L : List Int) (w : World) (hr : Rd w a L) {r : Bool} (h : latB L = r) :
    Calls Try.prog 16 #[.slice a L.length cap] w fun e w' => e = .returned (.bool r) ∧ Below w.heap.size w w' := by
  have := implValidLattice_any a cap L w hr
  rwa [h] at this
set_option maxRecDepth 100000 in
set_option maxHeartbeats 2000000 in
/-- laws.FnAllLattices -/
theorem lawPAllLattices (a0 : Option Addr) (len0 cap0 : Nat) (w : World) (hy : RdY w a0 len0 w.heap.size) (hc : len0 ≤ cap0) (hm : len0 ≤ maxLen) :
    Calls Try.prog 13 #[.slice a0 len0 cap0] w fun e w' => e = .returned (.bool true) ∧ Below w.heap.size w w' := by
  by_cases hbig : 1048576 < len0
  · have hbig2 : (1048576 : Int) < len0 := by omega
    go_enter Try.func13, Try.ntmps13
    go_wp2
    go_ret
    exact ⟨rfl, Below.refl _ _⟩
  · have hs : len0 ≤ 1048576 := by omega
    have hs2 : ¬ (1048576 : Int) < len0 := by omega
    go_enter Try.func13, Try.ntmps13
    go_wp2_with fail
    refine (drawAllLattices_any a0 len0 cap0 w hy hc hs).mono ?_
    rintro e w1 ⟨n, rfl, nl, nh, hb⟩
    have _ := hm
    clear hs hs2 hbig hy hm hc
    obtain ⟨T, hTe⟩ : ∃ T, T = allI4 n := ⟨_, rfl⟩
    have HI := Lib.hid (show ∀ (w : World), Calls Try.prog 50 #[.int .i64 n] w (RetTab w.heap.size T w) from fun w => by rw [hTe]; exact implAllLattices_any n w)
    have HP := Lib.hid (show ∀ (w : World), Calls Try.prog 52 #[.int .i64 n] w (RetTab w.heap.size T w) from fun w => by rw [hTe]; exact specAllLattices_any n w)
    have HTE := Lib.hid hTe
    clear hTe
    by_cases hn : 1 ≤ n ∧ n ≤ 5
    · obtain ⟨n1, n5⟩ := hn
      have hTf : T = latF n n.toNat [] := by rw [HTE.out]; exact allI4_in ⟨n1, n5⟩
      have hT6 : T.length ≤ 1073741824 := by
        rw [hTf]
        have h1 := latF_bound n5 n.toNat []
        have h2 : 32 ^ n.toNat ≤ 32 ^ 5 := Nat.pow_le_pow_right (by decide) (by omega)
        have h3 : 32 ^ 5 = 33554432 := by decide
        omega
      have hTn : T ≠ [] := by rw [hTf]; exact latF_some n1 (by omega)
      have hT1 : 1 ≤ T.length := List.length_pos_iff.2 hTn
      have hTz : ((T.length : Int) == 0) = false := by rw [beq_eq_false_iff_ne]; omega
      have hrow : ∀ k : Int, 0 ≤ k → k < T.length → latB (rowAt T k) = true ∧ ((rowAt T k).length : Int) = n := fun k k0 k1 => by
        rw [hTf] at k1 ⊢; exact latF_row (by omega) k0 k1
      have hR6 : ∀ j : Nat, j < T.length → (rowAt T j).length ≤ 1073741824 := fun j hj => by
        have := (hrow (j : Int) (by omega) (by omega)).2
        omega
      have hup : ∀ k x y : Int, 0 ≤ k → k < T.length → 0 ≤ y → y < x → x < n → isBelowB (rowAt T k) x y = false := fun k x y k0 k1 y0 hy hx => by
        have hm := rowAt_mem k0 k1
        rw [hTf] at hm
        have := latF_up hm y0 hy (by rw [← hTf, (hrow k k0 k1).2]; exact hx)
        unfold isBelowB
        rw [← hTf] at this
        rw [this, Bool.and_false]
      have hnd : ∀ k : Int, 1 ≤ k → k < T.length → eqL (rowAt T (k - 1)) (rowAt T k) = false := fun k k0 k1 => nodup_next (by rw [hTf]; exact latF_nodup _ _) k0 k1
      have hch : chainI n ∈ T := by
        rw [hTf, chainI_in ⟨n1, by omega⟩]
        exact latF_chain (by omega) n1 n.toNat [] (by simp; omega) rfl
      have HROW := Lib.hid hrow
      have HUP := Lib.hid hup
      have HND := Lib.hid hnd
      have HCH := Lib.hid hch
      have HTN := Lib.hid hTn
      have HR6 := Lib.hid hR6
      clear hTf hrow hup hnd hch hTn
      go_wp2_with (first
        | go_skip
        | (go_at_call 50; refine (HI.out _).mono ?_; rintro e wz ⟨bhT, chT, rfl, ohT, hbz⟩; have hT : StT w bhT T wz := ⟨hb.trans (hbz.mono hb.size), by obtain ⟨_, _, e', r⟩ := ohT.rd; injection e' with e1 _ _; rw [e1]; exact r⟩; (try replace hT := hT.next hbz); replace hb := hT.1; clear ohT hbz)
        | (go_at_call 52; refine (HP.out _).mono ?_; rintro e wz ⟨bhU, chU, rfl, ohU, hbz⟩; have hU : StT w bhU T wz := ⟨hb.trans (hbz.mono hb.size), by obtain ⟨_, _, e', r⟩ := ohU.rd; injection e' with e1 _ _; rw [e1]; exact r⟩; (try replace hT := hT.next hbz); replace hb := hU.1; clear ohU hbz)
        | (go_at_call 51; refine (equalLists_same _ _ _ _ T _ hT.2 hU.2 hR6 hT6).mono ?_; rintro e wz ⟨rfl, hd⟩; replace hT := hT.dr hd; replace hb := hT.1; clear hd))
      clear hU
      go_loopw [5, 6, 7] (fun iv _ _ wr => ∃ i : Int, 0 ≤ i ∧ i ≤ T.length ∧ iv = .int .i64 i ∧ StT w bhT T wr) (fun iv _ _ _ => ((T.length : Int) - intOf iv).toNat)
      case atStart => exact ⟨0, by omega, by omega, rfl, hT⟩
      case round =>
        clear hb
        obtain ⟨i, i0, i1, rfl, hT⟩ := hrel
        by_cases hi : i < T.length
        · obtain ⟨hlat, hlen⟩ := HROW.out i i0 hi
          have HLEN := Lib.hid hlen
          go_wp2
          go_loopw [6, 7] (fun xv _ wr => ∃ x : Int, 0 ≤ x ∧ x ≤ n ∧ xv = .int .i64 x ∧ StT w bhT T wr) (fun xv _ _ => (6 - intOf xv).toNat)
          case atStart => exact ⟨0, by omega, by omega, rfl, hT⟩
          case round =>
            obtain ⟨x, x0, x1, rfl, hT⟩ := hrel
            by_cases hx : x < n
            · go_wp2
              go_loopw [7] (fun yv wr => ∃ y : Int, 0 ≤ y ∧ y ≤ x ∧ yv = .int .i64 y ∧ StT w bhT T wr) (fun yv _ => (6 - intOf yv).toNat)
              case atStart => exact ⟨0, by omega, by omega, rfl, hT⟩
              case round =>
                obtain ⟨y, y0, y1, rfl, hT⟩ := hrel
                by_cases hy : y < x
                · obtain ⟨B1, o1, rfl, q1⟩ := hT.2 HTN.out
                  obtain ⟨ra1, rc1, d1, r1⟩ := RdT.row q1 i0 hi
                  have g1 := HUP.out i x y i0 hi y0 hy hx
                  obtain ⟨R, hR⟩ : ∃ R, R = rowAt T i := ⟨_, rfl⟩
                  rw [← hR] at d1 r1 g1
                  clear hR q1 hlen hlat
                  go_wp2_with (go_at_call 18; refine (implIsBelow_any _ _ R x y _ r1).mono ?_; rw [g1]; rintro e wz ⟨rfl, hbz⟩; replace hT := hT.next hbz)
                  go_roundw
                  case rel => exact ⟨y + 1, by omega, by omega, rfl, hT⟩
                  case measure => simp [intOf]; omega
                · go_wp2
                  go_roundw
                  case rel => exact ⟨x + 1, by omega, by omega, rfl, hT⟩
                  case measure => simp [intOf]; omega
            · obtain ⟨B1, o1, rfl, q1⟩ := hT.2 HTN.out
              obtain ⟨ra1, rc1, d1, r1⟩ := RdT.row q1 i0 hi
              have hz := hT.1.size
              have D1 := Lib.hid (show ∀ wz, Below wr.heap.size wr wz → wz.cell? ⟨B1, o1 + i.toNat, none⟩ = some (.slice ra1 (rowAt T i).length rc1) from fun wz hz => (hz.cell (by exact block_lt_of_cell d1)).trans d1)
              have R1 := Lib.hid (show ∀ wz, Below wr.heap.size wr wz → Rd wz ra1 (rowAt T i) from fun wz hz => r1.below hz)
              have hM := HR6.out i.toNat (by omega)
              rw [Int.toNat_of_nonneg i0] at hM
              by_cases hi0 : 0 < i
              · obtain ⟨ra0, rc0, d0, r0⟩ := RdT.row q1 (show 0 ≤ i - 1 by omega) (by omega)
                have eN : (i - 1).toNat = i.toNat - 1 := by omega
                rw [eN] at d0
                have D0 := Lib.hid (show ∀ wz, Below wr.heap.size wr wz → wz.cell? ⟨B1, o1 + (i.toNat - 1), none⟩ = some (.slice ra0 (rowAt T (i - 1)).length rc0) from fun wz hz => (hz.cell (by exact block_lt_of_cell d0)).trans d0)
                have R0 := Lib.hid (show ∀ wz, Below wr.heap.size wr wz → Rd wz ra0 (rowAt T (i - 1)) from fun wz hz => r0.below hz)
                have hM0 := HR6.out (i - 1).toNat (by omega)
                rw [Int.toNat_of_nonneg (show 0 ≤ i - 1 by omega)] at hM0
                have hnd := HND.out i (by omega) hi
                obtain ⟨P, hP⟩ : ∃ P, P = rowAt T (i - 1) := ⟨_, rfl⟩
                obtain ⟨R, hR⟩ : ∃ R, R = rowAt T i := ⟨_, rfl⟩
                rw [← hP] at hM0 hnd D0 R0
                rw [← hR] at hM hnd D1 R1 hlat
                have k1 : IntKind.i64.wrap (i - 1) = i - 1 := IntWalk.i64_in _ (by omega)
                have k2 : (0 : Int) ≤ i - 1 := by omega
                have k3 : i - 1 < T.length := by omega
                have hdd : decide (0 < i) = true := decide_eq_true hi0
                clear hP hR d0 d1 r0 r1 q1 hlen
                go_wp2
                refine region_in (Below wr.heap.size wr) (by kernel_rfl) (by kernel_rfl) (Dr.below ⟨1, rfl⟩ _) fun hne => ?_
                have c1 : ∀ s : In (Below wr.heap.size wr), s.w.cell? ⟨B1, o1 + i.toNat, none⟩ = some (.slice ra1 R.length rc1) := fun s => D1.out _ s.h
                have c2 : ∀ s : In (Below wr.heap.size wr), s.w.cell? ⟨B1, o1 + (i.toNat - 1), none⟩ = some (.slice ra0 P.length rc0) := fun s => D0.out _ s.h
                repeat (first
                  | go_big_quiet_step ((first | (go_at_call 16; exact in_below _ (Nat.le_refl _) (implValid_is _ _ R _ (R1.out _ (in_transZ (Below.refl _ _) _)) hlat)) | (go_at_call 30; exact in_below _ (Nat.le_refl _) (equalInts_is _ _ _ _ P R _ (R0.out _ (in_transZ (Below.refl _ _) _)) (R1.out _ (in_transZ (Below.refl _ _) _)) hM0 hnd)))))
                refine wpQuiet_nil ?_
                intro s
                have hw2 := s.h
                obtain ⟨w7, hw2'⟩ : ∃ w7, w7 = s.w := ⟨_, rfl⟩
                rw [← hw2'] at hw2 ⊢
                clear hw2'
                go_wp2
                go_roundw
                case rel => exact ⟨i + 1, by omega, by omega, rfl, hT.next hw2⟩
                case measure => simp [intOf]; omega
              · have e0 : i = 0 := by omega
                subst e0
                obtain ⟨R, hR⟩ : ∃ R, R = rowAt T 0 := ⟨_, rfl⟩
                rw [← hR] at hM D1 R1 hlat
                have D2 := D1.out
                simp only [Int.toNat_zero, Nat.add_zero] at D2
                have D3 := Lib.hid D2
                clear hR d1 r1 q1 hlen D2
                go_wp2
                refine region_in (Below wr.heap.size wr) (by kernel_rfl) (by kernel_rfl) (Dr.below ⟨1, rfl⟩ _) fun hne => ?_
                have c1 : ∀ s : In (Below wr.heap.size wr), s.w.cell? ⟨B1, o1, none⟩ = some (.slice ra1 R.length rc1) := fun s => D3.out _ s.h
                repeat (first
                  | go_big_quiet_step ((first | (go_at_call 16; exact in_below _ (Nat.le_refl _) (implValid_is _ _ R _ (R1.out _ (in_transZ (Below.refl _ _) _)) hlat)))))
                refine wpQuiet_nil ?_
                intro s
                have hw2 := s.h
                obtain ⟨w7, hw2'⟩ : ∃ w7, w7 = s.w := ⟨_, rfl⟩
                rw [← hw2'] at hw2 ⊢
                clear hw2'
                go_wp2
                go_roundw
                case rel => exact ⟨0 + 1, by omega, by omega, rfl, hT.next hw2⟩
                case measure => simp [intOf]; omega
        · obtain ⟨ch, hch⟩ : ∃ c, c = chainI n := ⟨_, rfl⟩
          have HC := Lib.hid (show ∀ w : World, Calls Try.prog 44 #[.int .i64 n] w (RetSl w.heap.size ch w) from fun w => by rw [hch]; exact implChainOf_any n w)
          have hci := HCH.out
          rw [← hch] at hci
          have HCI := Lib.hid hci
          clear hci hch
          go_wp2_with (first
            | (go_at_call 44; refine (HC.out _).mono ?_; rintro e wz ⟨ac, cc, rfl, oc, hbz⟩; replace hT := hT.next hbz)
            | (go_at_call 53; refine (holdsList_in _ _ _ _ T ch _ hT.2 oc.rd HR6.out hT6 HCI.out).mono ?_; rintro e wz ⟨rfl, hd⟩; replace hT := hT.dr hd))
          go_ret
          exact ⟨rfl, hT.1⟩
    · have hTe : T = [] := by rw [HTE.out]; exact allI4_out hn
      subst hTe
      have hR6 : ∀ j : Nat, j < ([] : List (List Int)).length → (rowAt [] j).length ≤ 1073741824 := fun j hj => absurd hj (by simp)
      have hT6 : ([] : List (List Int)).length ≤ 1073741824 := by simp
      go_wp2_with (first
        | go_skip
        | (go_at_call 50; refine (HI.out _).mono ?_; rintro e wz ⟨bhT, chT, rfl, ohT, hbz⟩; have hT : StT w bhT [] wz := ⟨hb.trans (hbz.mono hb.size), by obtain ⟨_, _, e', r⟩ := ohT.rd; injection e' with e1 _ _; rw [e1]; exact r⟩; (try replace hT := hT.next hbz); replace hb := hT.1; clear ohT hbz)
        | (go_at_call 52; refine (HP.out _).mono ?_; rintro e wz ⟨bhU, chU, rfl, ohU, hbz⟩; have hU : StT w bhU [] wz := ⟨hb.trans (hbz.mono hb.size), by obtain ⟨_, _, e', r⟩ := ohU.rd; injection e' with e1 _ _; rw [e1]; exact r⟩; (try replace hT := hT.next hbz); replace hb := hU.1; clear ohU hbz)
        | (go_at_call 51; refine (equalLists_same _ _ _ _ [] _ hT.2 hU.2 hR6 hT6).mono ?_; rintro e wz ⟨rfl, hd⟩; replace hT := hT.dr hd; replace hb := hT.1; clear hd))
      go_ret
      exact ⟨rfl, hb⟩
end Go.Proofs.Ytmlbdlobdnhimaa
