import Derived.Test.YtidbilgnclfplaaTP4
import Derived.Test.YtidbilgnclfplaaTM16
import Derived.Test.YtidbilgnclfplaaTM15
import Derived.Lib.AppendZeros
import Derived.Deep.RegionHeld3
namespace Go.Proofs.Ytidbilgnclfplaa
open Go.RowKit
set_option linter.unusedVariables false

set_option maxRecDepth 100000 in
set_option maxHeartbeats 2000000 in
/-- slices.Grow of nothing -/
theorem grow_any (n : Nat) (w : World) (n1 : 1 ≤ n) (n2 : n ≤ 1000) :
    Calls Try.prog 142 #[.slice none 0 0, .int .i64 n] w fun e w' => ∃ g c, e = .returned (.slice (some ⟨g, 0, none⟩) 0 c) ∧ Own w.heap.size w' (.slice (some ⟨g, 0, none⟩) 0 c) [] ∧ Below w.heap.size w w' := by
  obtain ⟨i0, hi, hz0, hz1, hz2⟩ := info_parts info_int
  have hrz := fun ty => Lib.run_append_nil_zeros (P := Try.prog) w 22 3 ty 3 i0 (.int .i64 0) .i64 .i64 Try.underlying22 Try.underlying3 hi hz0 n (by omega) (by omega) (by omega) (by rw [hz2]; omega)
  have hge := grownCap_ge w n 0 3
  have hle := grownCap_le_maxLen w n 0 3 (by unfold maxLen; omega)
  obtain ⟨G, hG⟩ : ∃ G, G = grownCap w n 0 3 := ⟨_, rfl⟩
  rw [← hG] at hrz hge hle
  obtain ⟨cs, hcs⟩ : ∃ cs, cs = Builtin.zeroCells (Value.int .i64 0).cells n ++ Builtin.zeroCells (Value.int .i64 0).cells (G - n) := ⟨_, rfl⟩
  have hsz : cs.size = G := by
    rw [hcs, Array.size_append, size_zeroCells, size_zeroCells]
    show n * 1 + (G - n) * 1 = G
    omega
  rw [← hcs] at hrz
  have hle2 : G ≤ 9223372036854775807 := by unfold maxLen at hle; omega
  have h1 : ¬ (n : Int) < 0 := by omega
  have h2 : (n : Int) > 0 := by omega
  have HS := Lib.hid hsz
  have HLE := Lib.hid hle
  clear hG hcs hsz hle
  go_enter Try.func142, Try.ntmps142
  go_wp2_with (at_builtin; refine Lib.wpList_append_run _ rfl _ _ _ _ rfl _ _ rfl rfl _ _ (hrz _) ?_)
  go_ret
  have hb : Below w.heap.size w (w.drew.alloc (.cells cs 3)) := (Below.refl w.heap.size w).drew.alloc (Nat.le_refl _) _
  exact ⟨w.heap.size, G, rfl, ⟨rfl, .inr ⟨w.heap.size, G, cs, rfl, Nat.le_refl _, heap_alloc_new w.drew _, Nat.zero_le _, HLE.out, by rw [HS.out]; omega, by simp⟩⟩, hb⟩
/-- the first lists, one behind the other -/
def ccL (Rs : List (List Int)) (k : Nat) : List Int := (Rs.take k).flatten
theorem ccL_succ (Rs : List (List Int)) {k : Nat} (h : k < Rs.length) : ccL Rs (k + 1) = ccL Rs k ++ rowAt Rs (k : Int) := by
  unfold ccL rowAt
  rw [List.take_add_one, List.flatten_append, List.getElem?_eq_getElem h, Int.toNat_natCast, List.getD_eq_getElem?_getD, List.getElem?_eq_getElem h]
  simp
theorem ccL_all (Rs : List (List Int)) : ccL Rs Rs.length = Rs.flatten := by unfold ccL; rw [List.take_length]
theorem ccL_le (Rs : List (List Int)) (k : Nat) : (ccL Rs k).length ≤ Rs.flatten.length := by
  conv => rhs; rw [← List.take_append_drop k Rs, List.flatten_append, List.length_append]
  exact Nat.le_add_right _ _
set_option maxRecDepth 100000 in
set_option maxHeartbeats 4000000 in
/-- slices.Concat -/
theorem concat_any (tb tc : Nat) (Rs : List (List Int)) (w : World) (hT : TabS w tb Rs) (h1 : 1 ≤ Rs.flatten.length) (h2 : Rs.flatten.length ≤ 1000) (h3 : Rs.length ≤ 10) :
    Calls Try.prog 119 #[.slice (some ⟨tb, 0, none⟩) Rs.length tc] w (RetSl w.heap.size Rs.flatten w) := by
  obtain ⟨i0, hi, hz0, hz1, hz2⟩ := info_parts info_int
  have KT := Lib.hid (show ∀ wz, Below w.heap.size w wz → TabS wz tb Rs from fun wz hz => hT.below hz)
  have HLE := Lib.hid (fun k => ccL_le Rs k)
  obtain ⟨n, hn⟩ : ∃ n, n = Rs.length := ⟨_, rfl⟩
  have HN := Lib.hid hn
  rw [← hn] at h3 ⊢
  have H2 := Lib.hid h2
  have H1 := Lib.hid h1
  clear hT hn h1 h2
  go_enter Try.func119, Try.ntmps119
  go_wp2
  go_loopw [3, 5, 11] (fun sv _ c wr => ∃ k : Nat, k ≤ n ∧ c = .int .i64 k ∧ sv = .int .i64 (ccL Rs k).length ∧ w = wr) (fun _ _ c _ => ((n : Int) - intOf c).toNat)
  case atStart => exact ⟨0, by omega, rfl, rfl, rfl⟩
  case round =>
    obtain ⟨k, kn, rfl, rfl, rfl⟩ := hrel
    by_cases hk : k < n
    · have hkI : (k : Int) < n := by omega
      obtain ⟨ra, rc, c0, r0⟩ := (KT.out _ (Below.refl _ _)) (k : Int) (by omega) (by have := HN.out; omega)
      rw [Int.toNat_natCast] at c0
      have hs := ccL_succ Rs (k := k) (by have := HN.out; omega)
      have hl : (ccL Rs (k + 1)).length = (ccL Rs k).length + (rowAt Rs (k : Int)).length := by rw [hs, List.length_append]
      have hb := HLE.out (k + 1)
      have hb2 := H2.out
      have HL := Lib.hid hl
      obtain ⟨A, hA⟩ : ∃ A, A = (ccL Rs k).length := ⟨_, rfl⟩
      obtain ⟨B, hB⟩ : ∃ B, B = (rowAt Rs (k : Int)).length := ⟨_, rfl⟩
      rw [← hA, ← hB] at hl
      rw [← hA] at ⊢
      rw [← hB] at c0
      have hAB : A + B ≤ 1000 := by omega
      have hneg : ¬ ((A : Int) + B) < 0 := by omega
      have HAB := Lib.hid hl
      clear hs hl hb hb2 r0 hA hB
      go_wp2
      go_roundw
      case rel => exact ⟨k + 1, by omega, by simp, by rw [HAB.out]; simp, by trivial⟩
      case measure => simp [intOf]; omega
    · have e : k = Rs.length := by have := HN.out; omega
      subst e
      rw [ccL_all]
      have g1 := H1.out
      have g2 := H2.out
      obtain ⟨F, hF⟩ : ∃ F, F = Rs.flatten.length := ⟨_, rfl⟩
      rw [← hF] at g1 g2 ⊢
      have HF := Lib.hid hF
      clear hF
      go_wp2_with fail
      refine (grow_any F w g1 g2).mono ?_
      rintro e w2 ⟨g0, gc, rfl, ho, hb⟩
      go_wp2
      go_loopw [6, 8, 27] (fun v _ c wr => ∃ k : Nat, k ≤ Rs.length ∧ c = .int .i64 k ∧ Own w.heap.size wr v (ccL Rs k) ∧ Below w.heap.size w wr) (fun _ _ c _ => ((Rs.length : Int) - intOf c).toNat)
      case atStart => exact ⟨0, by omega, rfl, ho, hb⟩
      case round =>
        clear ho hb
        obtain ⟨k, kn, rfl, ho, z⟩ := hrel
        by_cases hk : k < Rs.length
        · have hkI : (k : Int) < Rs.length := by omega
          obtain ⟨ra, rc, c0, r0⟩ := (KT.out _ z) (k : Int) (by omega) hkI
          rw [Int.toNat_natCast] at c0
          have HS := Lib.hid (ccL_succ Rs (k := k) hk)
          have hl : (ccL Rs (k + 1)).length = (ccL Rs k).length + (rowAt Rs (k : Int)).length := by rw [HS.out, List.length_append]
          have hb1 := HLE.out (k + 1)
          have hb2 := H2.out
          obtain ⟨R, hR⟩ : ∃ R, R = rowAt Rs (k : Int) := ⟨_, rfl⟩
          obtain ⟨P, hP⟩ : ∃ P, P = ccL Rs k := ⟨_, rfl⟩
          rw [← hR, ← hP] at hl
          rw [← hR, ← hP] at HS
          rw [← hR] at c0 r0
          rw [← hP] at ho
          have hPR : P.length + R.length ≤ 1000 := by omega
          have HN := Lib.hid (rd_cells r0)
          have hs := z.size
          clear hl hb1 hb2 r0 hR hP
          go_wp2_with (at_builtin; refine wpList_append_own _ rfl _ _ 22 rfl w.heap.size 3 i0 (.int .i64 0) 1 8 Try.underlying22 hi hz0 hz1 hz2 rfl (by decide) _ _ _ rfl ho ⟨ra, 0, none⟩ R.length rc (R.map fun x => Value.int .i64 x) rfl (by simp) HN.out (fun x hx => by simp at hx; obtain ⟨y, _, rfl⟩ := hx; rfl) (by unfold maxLen; first | omega | (simp; omega)) (by first | omega | (simp; omega)) hs ?_; intro v5 w5 hown hgrow _; have ho5 : Own w.heap.size w5 v5 (P ++ R) := (by unfold Own; rw [List.map_append, List.length_append]; exact hown); have z5 : Below w.heap.size w w5 := z.grown hgrow hs (fun q hq => (World.ownsRow.lt ho q hq).1))
          go_roundw
          case rel => exact ⟨k + 1, by omega, by simp, by rw [HS.out]; exact ho5, z5⟩
          case measure => simp [intOf]; omega
        · have e : k = Rs.length := by omega
          rw [e, ccL_all] at ho
          obtain ⟨va, vc, rfl, _⟩ := ho.slice
          clear e
          go_wp2
          go_ret
          exact ⟨va, vc, rfl, ho, z⟩
/-- the numbers of a node -/
theorem take_one {x : Int} {t : List Int} : (x :: t).take ((x :: t).length - t.length) = [x] := by
  rw [List.length_cons, show t.length + 1 - t.length = 1 by omega]; rfl
theorem take_not {x : Int} {t r : List Int} (h : r.length ≤ t.length) : (x :: t).take ((x :: t).length - r.length) = [x] ++ t.take (t.length - r.length) := by
  rw [List.length_cons, show t.length + 1 - r.length = (t.length - r.length) + 1 by omega, List.take_succ_cons]; rfl
theorem take_com {x : Int} {k : Nat} {t q r : List Int} (h : tmR k t = some q) (h2 : tmR k q = some r) : (x :: t).take ((x :: t).length - r.length) = [x] ++ t.take (t.length - q.length) ++ q.take (q.length - r.length) := by
  have l1 := tmR_len h
  have l2 := tmR_len h2
  have hd := (tmR_drop k t q h).2
  rw [List.length_cons, show t.length + 1 - r.length = ((t.length - q.length) + (q.length - r.length)) + 1 by omega, List.take_succ_cons, List.take_add, ← hd]
  rfl
theorem tabS_two {B : Nat} {w : World} {g ra rb na nb ca cb : Nat} {L R : List Int} {fr : TypeId} (hg : w.heap[g]? = some (.cells #[.slice (some ⟨ra, 0, none⟩) na ca, .slice (some ⟨rb, 0, none⟩) nb cb] fr (0, 0))) (e1 : na = L.length) (e2 : nb = R.length) (h1 : Rd w (some ⟨ra, 0, none⟩) L) (h2 : Rd w (some ⟨rb, 0, none⟩) R) : TabS w g [L, R] := fun j j0 j1 => by
  have : j = 0 ∨ j = 1 := by simp at j1; omega
  subst e1 e2
  rcases this with rfl | rfl
  · exact ⟨ra, ca, by rw [cell_of_row w g _ _ _ _ hg]; rfl, h1⟩
  · exact ⟨rb, cb, by rw [cell_of_row w g _ _ _ _ hg]; rfl, h2⟩
theorem tabS_three {w : World} {g ra rb rc na nb nc ca cb cc : Nat} {L R S : List Int} {fr : TypeId} (hg : w.heap[g]? = some (.cells #[.slice (some ⟨ra, 0, none⟩) na ca, .slice (some ⟨rb, 0, none⟩) nb cb, .slice (some ⟨rc, 0, none⟩) nc cc] fr (0, 0))) (e1 : na = L.length) (e2 : nb = R.length) (e3 : nc = S.length) (h1 : Rd w (some ⟨ra, 0, none⟩) L) (h2 : Rd w (some ⟨rb, 0, none⟩) R) (h3 : Rd w (some ⟨rc, 0, none⟩) S) : TabS w g [L, R, S] := fun j j0 j1 => by
  have : j = 0 ∨ j = 1 ∨ j = 2 := by simp at j1; omega
  subst e1 e2 e3
  rcases this with rfl | rfl | rfl
  · exact ⟨ra, ca, by rw [cell_of_row w g _ _ _ _ hg]; rfl, h1⟩
  · exact ⟨rb, cb, by rw [cell_of_row w g _ _ _ _ hg]; rfl, h2⟩
  · exact ⟨rc, cc, by rw [cell_of_row w g _ _ _ _ hg]; rfl, h3⟩
/-- a list of the call's own that is not empty -/
theorem own_some {B : Nat} {w : World} {a : Option Addr} {n c : Nat} {L : List Int} (h : Own B w (.slice a n c) L) (hl : 1 ≤ L.length) : ∃ g, a = some ⟨g, 0, none⟩ ∧ n = L.length ∧ B ≤ g := by
  obtain ⟨g, cap, e, h2, _⟩ := h.shape.resolve_left (fun e => by have := e.2; rw [this] at hl; exact absurd hl (by simp))
  injection e with e1 e2 e3
  exact ⟨g, e1, e2, h2⟩
set_option maxRecDepth 100000 in
set_option maxHeartbeats 4000000 in
/-- impl.numbersOf -/
theorem numbersOf_any : ∀ (k : Nat) (t r : List Int) (w : World), tmR k t = some r → t.length ≤ 15 → Calls Try.prog 92 #[tmV k t] w (RetSl w.heap.size (t.take (t.length - r.length)) w) := by
  intro k
  induction k with
  | zero => intro t r w h; cases h
  | succ k ih =>
    intro t r w h hl
    cases t with
    | nil => cases h
    | cons x t =>
      rw [List.length_cons] at hl
      have HI := Lib.hid ih
      clear ih
      cases h1 : isLf x with
      | true =>
        rw [tmR_leaf h1] at h
        injection h with h
        subst h
        rw [tmV_leaf h1, take_one]
        clear h1
        go_enter Try.func92, Try.ntmps92
        go_wp2_with fail
        refine upon_of (r' := .ok (.enter 177 #[.agg #[.int .i64 x]]) w) (by kernel_rfl) ?_
        go_wp2_with fail
        refine (leafHead_any x _).mono ?_
        rintro e w2 ⟨rfl, h2⟩
        have hrow : Row (w2.alloc (.cells #[.int .i64 x] 3)) w2.heap.size [x] := heap_alloc_new w2 _
        have z : Below w.heap.size w (w2.alloc (.cells #[.int .i64 x] 3)) := h2.alloc h2.size _
        obtain ⟨w3, hw3⟩ : ∃ w3, w3 = w2.alloc (.cells #[.int .i64 x] 3) := ⟨_, rfl⟩
        obtain ⟨gx, hgx⟩ : ∃ g, g = w2.heap.size := ⟨_, rfl⟩
        have lo : w.heap.size ≤ gx := by rw [hgx]; exact h2.size
        rw [← hw3, ← hgx] at hrow
        rw [← hw3] at z
        go_wp2_with (rw [← hw3, ← hgx]; clear hw3 hgx)
        refine upon_of (r' := .ok (.value (.tuple #[.agg #[.nilIface], .bool false])) w3) (by kernel_rfl) ?_
        go_wp2_with fail
        refine upon_of (r' := .ok (.value (.tuple #[.agg #[.int .i64 0, .nilIface, .nilIface], .bool false])) w3) (by kernel_rfl) ?_
        go_wp2
        go_ret
        exact ⟨some ⟨gx, 0, none⟩, 1, rfl, Own.row hrow lo (by unfold maxLen; simp), z⟩
      | false =>
        by_cases h2 : x = 12
        · subst h2
          rw [tmR_opp h1 rfl] at h
          rw [tmV_opp h1 rfl, take_not (by have := tmR_len h; omega)]
          have hlr := tmR_len h
          have HH := Lib.hid h
          obtain ⟨Q, hQ⟩ : ∃ Q, Q = t.take (t.length - r.length) := ⟨_, rfl⟩
          have hQl : Q.length = t.length - r.length := by rw [hQ, List.length_take]; omega
          have hq1 : 1 ≤ Q.length := by omega
          have hq2 : Q.length ≤ 15 := by omega
          obtain ⟨T1, y1, e1⟩ := tmV_if h
          have HT := Lib.hid (show ∀ w : World, Calls Try.prog 92 #[.iface T1 y1] w (RetSl w.heap.size Q w) from fun w => by rw [← e1, hQ]; exact HI.out t r w HH.out (by omega))
          rw [← hQ, e1]
          clear h h1 e1 hQ hQl hlr
          go_enter Try.func92, Try.ntmps92
          go_wp2_with fail
          refine upon_of (r' := .ok (.enter 175 #[.agg #[.iface T1 y1]]) w) (by kernel_rfl) ?_
          go_wp2_with fail
          refine (oppHead_any _ _).mono ?_
          rintro e w2 ⟨rfl, h2⟩
          have hrow : Row (w2.alloc (.cells #[.int .i64 12] 3)) w2.heap.size [12] := heap_alloc_new w2 _
          have z : Below w.heap.size w (w2.alloc (.cells #[.int .i64 12] 3)) := h2.alloc h2.size _
          obtain ⟨w3, hw3⟩ : ∃ w3, w3 = w2.alloc (.cells #[.int .i64 12] 3) := ⟨_, rfl⟩
          obtain ⟨gx, hgx⟩ : ∃ g, g = w2.heap.size := ⟨_, rfl⟩
          rw [← hw3, ← hgx] at hrow
          rw [← hw3] at z
          go_wp2_with (rw [← hw3, ← hgx]; clear hw3 hgx)
          refine upon_of (r' := .ok (.value (.tuple #[.agg #[.iface T1 y1], .bool true])) w3) (by kernel_rfl) ?_
          obtain ⟨wb, hwb⟩ : ∃ wb, wb = w3.alloc (.cells #[.iface T1 y1] 118) := ⟨_, rfl⟩
          have hbx : wb.heap[w3.heap.size]? = some (.cells #[.iface T1 y1] 118 (0, 0)) := by rw [hwb]; exact heap_alloc_new w3 _
          have hrowb := hrow.alloc (.cells #[.iface T1 y1] 118)
          have zb := z.alloc z.size (.cells #[.iface T1 y1] 118)
          rw [← hwb] at hrowb zb
          obtain ⟨gb, hgb⟩ : ∃ g, g = w3.heap.size := ⟨_, rfl⟩
          rw [← hgb] at hbx
          have cb := cell_of_one hbx
          go_wp2_with (rw [← hwb, ← hgb]; clear hwb hgb)
          refine (HT.out _).mono ?_
          rintro e w5 ⟨qa, qc, rfl, ho5, hb5⟩
          obtain ⟨gq, rfl, _, _⟩ := own_some ho5 hq1
          have z5 := zb.trans (hb5.mono zb.size)
          have hrow5 := hrowb.below hb5 hrowb.lt
          obtain ⟨w6, hw6⟩ : ∃ w6, w6 = w5.alloc (.cells #[.slice (some ⟨gx, 0, none⟩) 1 1, .slice (some ⟨gq, 0, none⟩) Q.length qc] 22) := ⟨_, rfl⟩
          have hx6 : w6.heap[w5.heap.size]? = some (.cells #[.slice (some ⟨gx, 0, none⟩) 1 1, .slice (some ⟨gq, 0, none⟩) Q.length qc] 22 (0, 0)) := by rw [hw6]; exact heap_alloc_new w5 _
          have z6 : Below w.heap.size w w6 := by rw [hw6]; exact z5.alloc z5.size _
          have hrow6 : Row w6 gx [12] := by rw [hw6]; exact hrow5.alloc _
          have ho6 := ho5.alloc (.cells #[.slice (some ⟨gx, 0, none⟩) 1 1, .slice (some ⟨gq, 0, none⟩) Q.length qc] 22)
          rw [← hw6] at ho6
          obtain ⟨g6, hg6⟩ : ∃ g, g = w5.heap.size := ⟨_, rfl⟩
          rw [← hg6] at hx6
          have HC := Lib.hid (concat_any g6 2 [[12], Q] w6 (tabS_two (B := 0) hx6 rfl rfl hrow6.rd ho6.rd) (by simp) (by simp; omega) (by simp))
          clear hrow hrowb hrow5 hrow6 ho5 ho6 hx6 hbx
          go_wp2_with (rw [← hw6, ← hg6]; clear hw6 hg6)
          refine HC.out.mono ?_
          rintro e w7 ⟨fa, fc, rfl, ho7, hb7⟩
          have hfl : [[12], Q].flatten = [12] ++ Q := by simp
          rw [hfl] at ho7
          go_wp2
          go_ret
          exact ⟨fa, fc, rfl, ho7.from z6.size, z6.trans (hb7.mono z6.size)⟩
        · cases h3 : isSg x with
          | false => rw [tmR_no h1 h2 h3] at h; cases h
          | true =>
            rw [tmR_sign h1 h2 h3] at h
            cases h4 : tmR k t with
            | none => rw [h4] at h; cases h
            | some q =>
              rw [h4] at h
              have h' : tmR k q = some r := h
              have hl1 := tmR_len h4
              have hl2 := tmR_len h'
              have HH := Lib.hid h4
              have HH2 := Lib.hid h'
              rw [tmV_sign h1 h2, h4, take_com h4 h']
              show Calls Try.prog 92 #[.iface 120 (.agg #[.int .i64 x, tmV k t, tmV k q])] w _
              obtain ⟨Q, hQ⟩ : ∃ Q, Q = t.take (t.length - q.length) := ⟨_, rfl⟩
              obtain ⟨P, hP⟩ : ∃ P, P = q.take (q.length - r.length) := ⟨_, rfl⟩
              have hQl : Q.length = t.length - q.length := by rw [hQ, List.length_take]; omega
              have hPl : P.length = q.length - r.length := by rw [hP, List.length_take]; omega
              have hq1 : 1 ≤ Q.length := by omega
              have hq2 : Q.length ≤ 15 := by omega
              have hp1 : 1 ≤ P.length := by omega
              have hp2 : P.length ≤ 15 := by omega
              obtain ⟨T1, y1, e1⟩ := tmV_if h4
              obtain ⟨T2, y2, e2⟩ := tmV_if h'
              have HT1 := Lib.hid (show ∀ w : World, Calls Try.prog 92 #[.iface T1 y1] w (RetSl w.heap.size Q w) from fun w => by rw [← e1, hQ]; exact HI.out t q w HH.out (by omega))
              have HT2 := Lib.hid (show ∀ w : World, Calls Try.prog 92 #[.iface T2 y2] w (RetSl w.heap.size P w) from fun w => by rw [← e2, hP]; exact HI.out q r w HH2.out (by omega))
              rw [← hQ, ← hP, e1, e2]
              clear h h' h1 h2 h3 h4 e1 e2 hQ hP hQl hPl hl1 hl2
              go_enter Try.func92, Try.ntmps92
              go_wp2_with fail
              refine upon_of (r' := .ok (.enter 176 #[.agg #[.int .i64 x, .iface T1 y1, .iface T2 y2]]) w) (by kernel_rfl) ?_
              go_wp2_with fail
              refine (comHead_any _ _ _ _).mono ?_
              rintro e w2 ⟨rfl, h2⟩
              have hrow : Row (w2.alloc (.cells #[.int .i64 x] 3)) w2.heap.size [x] := heap_alloc_new w2 _
              have z : Below w.heap.size w (w2.alloc (.cells #[.int .i64 x] 3)) := h2.alloc h2.size _
              obtain ⟨w3, hw3⟩ : ∃ w3, w3 = w2.alloc (.cells #[.int .i64 x] 3) := ⟨_, rfl⟩
              obtain ⟨gx, hgx⟩ : ∃ g, g = w2.heap.size := ⟨_, rfl⟩
              rw [← hw3, ← hgx] at hrow
              rw [← hw3] at z
              go_wp2_with (rw [← hw3, ← hgx]; clear hw3 hgx)
              refine upon_of (r' := .ok (.value (.tuple #[.agg #[.nilIface], .bool false])) w3) (by kernel_rfl) ?_
              go_wp2_with fail
              refine upon_of (r' := .ok (.value (.tuple #[.agg #[.int .i64 x, .iface T1 y1, .iface T2 y2], .bool true])) w3) (by kernel_rfl) ?_
              obtain ⟨wb, hwb⟩ : ∃ wb, wb = w3.alloc (.cells #[.int .i64 x, .iface T1 y1, .iface T2 y2] 120) := ⟨_, rfl⟩
              have hbx : wb.heap[w3.heap.size]? = some (.cells #[.int .i64 x, .iface T1 y1, .iface T2 y2] 120 (0, 0)) := by rw [hwb]; exact heap_alloc_new w3 _
              have hrowb := hrow.alloc (.cells #[.int .i64 x, .iface T1 y1, .iface T2 y2] 120)
              have zb := z.alloc z.size (.cells #[.int .i64 x, .iface T1 y1, .iface T2 y2] 120)
              rw [← hwb] at hrowb zb
              obtain ⟨gb, hgb⟩ : ∃ g, g = w3.heap.size := ⟨_, rfl⟩
              rw [← hgb] at hbx
              have KB := Lib.hid (show ∀ wz, Below wb.heap.size wb wz → wz.cell? ⟨gb, 1, none⟩ = some (.iface T1 y1) ∧ wz.cell? ⟨gb, 2, none⟩ = some (.iface T2 y2) ∧ Row wz gx [x] from fun wz hz => by
                have hx := (hz.block _ (lt_of_block hbx)).trans hbx
                exact ⟨by rw [cell_of_row wz gb 1 _ _ _ hx]; rfl, by rw [cell_of_row wz gb 2 _ _ _ hx]; rfl, hrowb.below hz hrowb.lt⟩)
              obtain ⟨c0, c1, _⟩ := KB.out _ (Below.refl _ _)
              clear hrow hrowb hbx
              go_wp2_with (rw [← hwb, ← hgb]; clear hwb hgb)
              have hCC := Lib.hid (show ∀ (g6 : Nat) (w6 : World), TabS w6 g6 [[x], Q, P] → Calls Try.prog 119 #[.slice (some ⟨g6, 0, none⟩) 3 3] w6 (RetSl w6.heap.size ([x] ++ Q ++ P) w6) from fun g6 w6 h => by
                have := concat_any g6 3 [[x], Q, P] w6 h (by simp) (by simp; omega) (by simp)
                rwa [show [[x], Q, P].flatten = [x] ++ Q ++ P by simp] at this)
              go_region_held3 (fun w' => w'.cell? ⟨gb, 1, none⟩ = some (.iface T1 y1) ∧ w'.cell? ⟨gb, 2, none⟩ = some (.iface T2 y2))
                (first | go_keep | exact ⟨e0, e1⟩ | exact ⟨f0, f1⟩ | exact ⟨h0, h1⟩)
                (first
                  | (go_simp; go_at_call_of 92 (Value.iface T1 y1); (with_reducible refine (HT1.out wb).mono ?_); rintro e w5 ⟨qa, qc, rfl, ho5, hb5⟩; obtain ⟨gq, rfl, _, _⟩ := own_some ho5 hq1; obtain ⟨e0, e1, _⟩ := KB.out _ hb5)
                  | (go_simp; go_at_call_of 92 (Value.iface T1 y1); (with_reducible refine (HT1.out wb.drew).mono ?_); rintro e w5 ⟨qa, qc, rfl, ho5, hb5'⟩; have hb5 : Below wb.heap.size wb w5 := ((Below.refl wb.heap.size wb).drew).trans hb5'; obtain ⟨gq, rfl, _, _⟩ := own_some ho5 hq1; obtain ⟨e0, e1, _⟩ := KB.out _ hb5)
                  | (go_simp; go_at_call_of 92 (Value.iface T2 y2); (with_reducible refine (HT2.out w5).mono ?_); rintro e w6 ⟨pa, pc, rfl, ho6, hb6⟩; obtain ⟨gp, rfl, _, _⟩ := own_some ho6 hp1; have ho56 := ho5.below hb6; have hb46 := hb5.trans (hb6.mono hb5.size); obtain ⟨f0, f1, hr6⟩ := KB.out _ hb46)
                  | (go_simp; go_at_call_of 92 (Value.iface T2 y2); (with_reducible refine (HT2.out w5.drew).mono ?_); rintro e w6 ⟨pa, pc, rfl, ho6, hb6'⟩; have hb6 : Below w5.heap.size w5 w6 := ((Below.refl w5.heap.size w5).drew).trans hb6'; obtain ⟨gp, rfl, _, _⟩ := own_some ho6 hp1; have ho56 := ho5.below hb6; have hb46 := hb5.trans (hb6.mono hb5.size); obtain ⟨f0, f1, hr6⟩ := KB.out _ hb46)
                  | (go_simp; go_at_call 119; (with_reducible refine (hCC.out w6.heap.size (w6.alloc (.cells #[.slice (some ⟨gx, 0, none⟩) 1 1, .slice (some ⟨gq, 0, none⟩) Q.length qc, .slice (some ⟨gp, 0, none⟩) P.length pc] 22)) (tabS_three (heap_alloc_new w6 _) rfl rfl rfl (hr6.alloc _).rd (ho56.alloc _).rd (ho6.alloc _).rd)).mono ?_); rintro e w8 ⟨fa, fc, rfl, ho8, hb8⟩; have hb48 : Below wb.heap.size wb w8 := (hb46.alloc hb46.size _).trans (hb8.mono (by have := hb46.size; simp; omega)); obtain ⟨h0, h1, _⟩ := KB.out _ hb48))
              have hsz : w.heap.size ≤ (w6.alloc (.cells #[.slice (some ⟨gx, 0, none⟩) 1 1, .slice (some ⟨gq, 0, none⟩) Q.length qc, .slice (some ⟨gp, 0, none⟩) P.length pc] 22)).heap.size := by have := zb.size; have := hb46.size; simp; omega
              go_wp2
              go_ret
              refine ⟨fa, fc, ?_, ho8.from hsz, zb.trans (hb48.mono zb.size)⟩
              show Ending.returned (Value.slice fa (Q.length + P.length + 1) fc) = _
              rw [List.length_cons, List.length_append]
/-- the program's parseTerm hands back a list, or an error -/
def RetPT (o : Option (List Int)) (w : World) (e : Ending) (w' : World) : Prop :=
  (∃ t a c, o = some t ∧ e = .returned (.tuple #[.slice a t.length c, .nilIface]) ∧ Own w.heap.size w' (.slice a t.length c) t ∧ Below w.heap.size w w') ∨
  (o = none ∧ ∃ T y, e = .returned (.tuple #[.slice none 0 0, .iface T y]) ∧ Below w.heap.size w w')
set_option maxRecDepth 100000 in
set_option maxHeartbeats 2000000 in
/-- impl.parseTerm -/
theorem implparse_any (s : ByteArray) (w : World) (hs : s.size ≤ 9223372036854775807) : Calls Try.prog 51 #[.string s] w (RetPT (ptI s) w) := by
  obtain ⟨w1, hw1⟩ : ∃ w1, w1 = w.alloc (.cells #[.string s, .int .i64 0] 108) := ⟨_, rfl⟩
  have hB : Below w.heap.size w w1 := by rw [hw1]; exact (Below.refl _ _).alloc (Nat.le_refl _) _
  have hR : RdP w1 w.heap.size s 0 := by rw [hw1]; exact heap_alloc_new w _
  have HT := Lib.hid (term_any w.heap.size 15 s 0 w1 hR hs (by omega) (by omega))
  clear hR
  go_enter Try.func51, Try.ntmps51
  go_wp2_with (rw [← hw1]; clear hw1)
  refine HT.out.mono ?_
  rintro e w2 ⟨s', b', hR, hsz, hg, (⟨t, r, hrt, hlt, rfl, hr, rfl⟩ | ⟨hno, T, y, rfl⟩)⟩
  · have z : Below w.heap.size w w2 := hB.trans (grown_below hg (Nat.le_refl _) hB.size)
    obtain ⟨c0, _, _, _⟩ := rdP_cells hR
    obtain ⟨T1, y1, e1⟩ := rd_iface hrt
    cases r with
    | nil =>
      have hpt := Lib.hid (show ptI s = some t by
        unfold ptI
        rw [hrt]
        dsimp only
        rw [if_pos (by omega)])
      have q1 : (s'.toList == []) = true := by rw [ByteArray.toList_eq, hr]; rfl
      have q2 : (s'.toList != []) = false := by rw [bne, q1]; rfl
      have hte := (rdT_term _ _ _ _ hrt).1
      have HN := Lib.hid (show ∀ wz : World, Calls Try.prog 92 #[.iface T1 y1] wz (RetSl wz.heap.size t wz) from fun wz => by
        have := numbersOf_any t.length t [] wz hte (by omega)
        rwa [e1, List.length_nil, Nat.sub_zero, List.take_length] at this)
      rw [e1]
      clear hrt e1 hte hr
      go_wp2_with fail
      refine (HN.out _).mono ?_
      rintro e w3 ⟨a, c, rfl, ho, hb⟩
      go_wp2
      go_ret2
      exact .inl ⟨t, a, c, hpt.out, rfl, ho.from z.size, z.trans (hb.mono z.size)⟩
    | cons d r =>
      have hpt := Lib.hid (show ptI s = none by unfold ptI; rw [hrt])
      have q1 : (s'.toList == []) = false := by rw [ByteArray.toList_eq, hr]; rfl
      have q2 : (s'.toList != []) = true := by rw [bne, q1]; rfl
      rw [e1]
      clear hrt e1 hr
      go_wp2
      go_ret2
      exact .inr ⟨hpt.out, _, _, rfl, z⟩
  · have z : Below w.heap.size w w2 := hB.trans (grown_below hg (Nat.le_refl _) hB.size)
    have hpt := Lib.hid (show ptI s = none by
      unfold ptI
      split
      · rename_i t e
        rw [if_neg (by have := hno t [] e; omega)]
      · rfl)
    clear hno
    go_wp2
    go_ret2
    exact .inr ⟨hpt.out, _, _, rfl, z⟩
set_option maxRecDepth 100000 in
set_option maxHeartbeats 2000000 in
/-- impl.ParseTerm -/
theorem implParseTerm_any (s : ByteArray) (w : World) (hs : s.size ≤ 1048576) : Calls Try.prog 17 #[.string s] w (RetGsb ((ptI s).getD []) (ptI s).isSome w) := by
  have HC := Lib.hid (implparse_any s w (by omega))
  obtain ⟨o, ho⟩ : ∃ o, o = ptI s := ⟨_, rfl⟩
  rw [← ho] at HC ⊢
  clear ho
  go_enter Try.func17, Try.ntmps17
  go_wp2_with fail
  refine HC.out.mono ?_
  rintro e w2 (⟨t, a, c, rfl, rfl, ho, hb⟩ | ⟨rfl, T, y, rfl, hb⟩)
  · go_wp2
    go_quiet (fail)
    go_wp2
    go_ret2
    refine ⟨a, t.length, c, rfl, ?_, hb.trans (by first | exact Below.refl _ _ | exact Dr.below ⟨_, rfl⟩ _)⟩
    have := GS.of ho
    first | exact this | exact this.below (Dr.below ⟨_, rfl⟩ _)
  · go_wp2
    go_quiet (fail)
    go_wp2
    go_ret2
    exact ⟨none, 0, 0, rfl, GS.zero _ _ _, hb.trans (by first | exact Below.refl _ _ | exact Dr.below ⟨_, rfl⟩ _)⟩
end Go.Proofs.Ytidbilgnclfplaa
