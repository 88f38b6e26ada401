import Derived.Test.YtpophjloedpcfaaGreatDoorP2
import Derived.Test.YtpophjloedpcfaaGreatDoorM10
import Derived.Test.YtpophjloedpcfaaGreatDoorU3
import Derived.Test.YtpophjloedpcfaaGreatDoorG6
import Derived.Test.YtpophjloedpcfaaGreatDoorG9
import Derived.Test.YtpophjloedpcfaaGreatDoorA5
import Derived.Maps.AppendAt
import Derived.Test.YtpophjloedpcfaaGreatDoorG3
namespace Go.Proofs.YtpophjloedpcfaaGreatDoor
open Go.RowKit
set_option linter.unusedVariables false

/-- the order of a stack, and its products -/
def stG (L M : List Int) (m x y : Int) : Bool := if x < m ∧ y < m then bl L x y else if m ≤ x ∧ m ≤ y then bl M (x - m) (y - m) else decide (x < y)
def stP (T U : List (List Int)) (m x y : Int) : Int := if x < m ∧ y < m then tv T x y else if m ≤ x ∧ m ≤ y then m + tv U (x - m) (y - m) else if x < y then x else y
def stOk (L : List Int) (T : List (List Int)) (M : List Int) (U : List (List Int)) : Bool := algB L T && (algB M U && decide ((L.length : Int) - 1 + M.length ≤ 6))
def stL (L : List Int) (T : List (List Int)) (M : List Int) (U : List (List Int)) : List Int := if stOk L T M U then upL (stG L M ((L.length : Int) - 1)) ((L.length : Int) - 1 + M.length) else []
def stT (L : List Int) (T : List (List Int)) (M : List Int) (U : List (List Int)) : List (List Int) := if stOk L T M U then tabL (stP T U ((L.length : Int) - 1)) ((L.length : Int) - 1 + M.length) else []
section
variable {L M : List Int} {T U : List (List Int)}
theorem st_yes (h1 : algB L T = true) (h2 : algB M U = true) (h3 : (L.length : Int) - 1 + M.length ≤ 6) : stOk L T M U = true ∧ stL L T M U = upL (stG L M ((L.length : Int) - 1)) ((L.length : Int) - 1 + M.length) ∧ stT L T M U = tabL (stP T U ((L.length : Int) - 1)) ((L.length : Int) - 1 + M.length) := by
  have h : stOk L T M U = true := by unfold stOk; rw [h1, h2, decide_eq_true h3]; rfl
  exact ⟨h, by unfold stL; rw [h]; rfl, by unfold stT; rw [h]; rfl⟩
theorem st_no (h : stOk L T M U = false) : stL L T M U = [] ∧ stT L T M U = [] := ⟨by unfold stL; rw [h]; rfl, by unfold stT; rw [h]; rfl⟩
theorem st_ti (L : List Int) (T : List (List Int)) (M : List Int) (U : List (List Int)) : Ti (stL L T M U) (stT L T M U) := by
  cases h : stOk L T M U with
  | false => rw [(st_no h).1, (st_no h).2]; exact Ti.zero
  | true =>
    have h3 : (L.length : Int) - 1 + M.length ≤ 6 := by
      unfold stOk at h
      exact of_decide_eq_true (Bool.and_eq_true_iff.1 (Bool.and_eq_true_iff.1 h).2).2
    unfold stL stT
    rw [h, if_pos rfl, if_pos rfl]
    refine ⟨by rw [stU_len]; omega, by rw [tabL_len]; omega, fun j hj => ?_⟩
    rw [tabL_len] at hj
    rw [tabL_rlen _ hj]; omega
theorem stG_a {m x y : Int} (h1 : x < m) (h2 : y < m) : stG L M m x y = bl L x y := if_pos ⟨h1, h2⟩
theorem stG_b {m x y : Int} (h1 : m ≤ x) (h2 : m ≤ y) : stG L M m x y = bl M (x - m) (y - m) := by unfold stG; rw [if_neg (by omega), if_pos ⟨h1, h2⟩]
theorem stG_c {m x y : Int} (h1 : ¬ (x < m ∧ y < m)) (h2 : ¬ (m ≤ x ∧ m ≤ y)) : stG L M m x y = decide (x < y) := by unfold stG; rw [if_neg h1, if_neg h2]
theorem stP_a {m x y : Int} (h1 : x < m) (h2 : y < m) : stP T U m x y = tv T x y := if_pos ⟨h1, h2⟩
theorem stP_b {m x y : Int} (h1 : m ≤ x) (h2 : m ≤ y) : stP T U m x y = m + tv U (x - m) (y - m) := by unfold stP; rw [if_neg (by omega), if_pos ⟨h1, h2⟩]
theorem stP_c {m x y : Int} (h1 : x < m) (h2 : m ≤ y) : stP T U m x y = x := by unfold stP; rw [if_neg (by omega), if_neg (by omega), if_pos (by omega)]
theorem stP_d {m x y : Int} (h1 : m ≤ x) (h2 : y < m) : stP T U m x y = y := by unfold stP; rw [if_neg (by omega), if_neg (by omega), if_neg (by omega)]
end
end Go.Proofs.YtpophjloedpcfaaGreatDoor

namespace Go.Proofs.YtpophjloedpcfaaGreatDoor
open Go.RowKit
set_option linter.unusedVariables false

theorem alg_tlen {L : List Int} {T : List (List Int)} (h : algB L T = true) : (T.length : Int) = L.length := shape_len (alg_shape h)
set_option maxRecDepth 100000 in
set_option maxHeartbeats 8000000 in
/-- spec.stack -/
theorem specStackS_any (a b : Option Addr) (ca cb : Nat) (L : List Int) (T : List (List Int)) (a2 b2 : Option Addr) (ca2 cb2 : Nat) (M : List Int) (U : List (List Int)) (w : World) (hr : Rd w a L) (hT : RdT w b T) (hr2 : Rd w a2 M) (hT2 : RdT w b2 U) (h : algB L T = true) (h2 : algB M U = true) (h3 : ((L.length : Int) - 1 + M.length) ≤ 6) : Calls Tryz.prog 84 #[.agg #[.slice a L.length ca, .slice b T.length cb], .agg #[.slice a2 M.length ca2, .slice b2 U.length cb2]] w (RetRd (upL (stG L M ((L.length : Int) - 1)) ((L.length : Int) - 1 + M.length)) (tabL (stP T U ((L.length : Int) - 1)) ((L.length : Int) - 1 + M.length)) w) := by
  obtain ⟨i0, hi, hz0, hz1, hz2⟩ := info_parts info_int
  obtain ⟨i1, hi1, hy0, hy1, hy2⟩ := info_parts info_ints
  obtain ⟨l1, l6, hsA⟩ := latB_parts (alg_lat h)
  obtain ⟨k1, k6, hsB⟩ := latB_parts (alg_lat h2)
  obtain ⟨ab, ao, rfl, _⟩ := hr (lat_ne l1)
  obtain ⟨mb, mo, rfl, _⟩ := hr2 (lat_ne k1)
  obtain ⟨tb, to, rfl, _⟩ := tab_of hT (alg_shape h) l1
  obtain ⟨ub, uo, rfl, _⟩ := tab_of hT2 (alg_shape h2) k1
  obtain ⟨w1, hw1⟩ : ∃ w1, w1 = ((w.alloc (.cells #[.slice (some ⟨ab, ao, none⟩) L.length ca, .slice (some ⟨tb, to, none⟩) T.length cb] 26)).alloc (.cells #[.slice (some ⟨mb, mo, none⟩) M.length ca2, .slice (some ⟨ub, uo, none⟩) U.length cb2] 26)).alloc (.cells #[.slice none 0 0, .slice none 0 0] 26) := ⟨_, rfl⟩
  have hB : Below w.heap.size w w1 := by rw [hw1]; exact (((Below.refl _ _).alloc (Nat.le_refl _) _).alloc (by simp) _).alloc (by simp; omega) _
  have hx : w1.heap[w.heap.size]? = some (.cells #[.slice (some ⟨ab, ao, none⟩) L.length ca, .slice (some ⟨tb, to, none⟩) T.length cb] 26 (0, 0)) := by
    rw [hw1, Below.heap_alloc _ _ _ (by simp; omega), Below.heap_alloc _ _ _ (by simp)]; exact heap_alloc_new w _
  have hx2 : w1.heap[w.heap.size + 1]? = some (.cells #[.slice (some ⟨mb, mo, none⟩) M.length ca2, .slice (some ⟨ub, uo, none⟩) U.length cb2] 26 (0, 0)) := by
    rw [hw1, Below.heap_alloc _ _ _ (by simp)]; exact heap_alloc2_new _ _ _
  have hz : w1.heap[w.heap.size + 1 + 1]? = some (.cells #[.slice none 0 0, .slice none 0 0] 26 (0, 0)) := by
    have := heap_alloc_new ((w.alloc (.cells #[.slice (some ⟨ab, ao, none⟩) L.length ca, .slice (some ⟨tb, to, none⟩) T.length cb] 26)).alloc (.cells #[.slice (some ⟨mb, mo, none⟩) M.length ca2, .slice (some ⟨ub, uo, none⟩) U.length cb2] 26)) (.cells #[.slice none 0 0, .slice none 0 0] 26)
    rw [hw1]; simpa using this
  have Kx := Lib.hid (show ∀ wz, Below w1.heap.size w1 wz → wz.heap[w.heap.size]? = some (.cells #[.slice (some ⟨ab, ao, none⟩) L.length ca, .slice (some ⟨tb, to, none⟩) T.length cb] 26 (0, 0)) from fun wz h => (h.block _ (lt_of_block hx)).trans hx)
  have Kx2 := Lib.hid (show ∀ wz, Below w1.heap.size w1 wz → wz.heap[w.heap.size + 1]? = some (.cells #[.slice (some ⟨mb, mo, none⟩) M.length ca2, .slice (some ⟨ub, uo, none⟩) U.length cb2] 26 (0, 0)) from fun wz h => (h.block _ (lt_of_block hx2)).trans hx2)
  have Kz := Lib.hid (show ∀ wz, Below w1.heap.size w1 wz → wz.heap[w.heap.size + 1 + 1]? = some (.cells #[.slice none 0 0, .slice none 0 0] 26 (0, 0)) from fun wz h => (h.block _ (lt_of_block hz)).trans hz)
  have KR := Lib.hid (show ∀ wz, Below w1.heap.size w1 wz → Rd wz (some ⟨ab, ao, none⟩) L from fun wz h => (hr.below hB).below h)
  have KT := Lib.hid (show ∀ wz, Below w1.heap.size w1 wz → RdT wz (some ⟨tb, to, none⟩) T from fun wz h => (hT.below hB).below h)
  have KR2 := Lib.hid (show ∀ wz, Below w1.heap.size w1 wz → Rd wz (some ⟨mb, mo, none⟩) M from fun wz h => (hr2.below hB).below h)
  have KT2 := Lib.hid (show ∀ wz, Below w1.heap.size w1 wz → RdT wz (some ⟨ub, uo, none⟩) U from fun wz h => (hT2.below hB).below h)
  have hsz : w.heap.size + 1 + 1 < w1.heap.size := lt_of_block hz
  have z1 : Below w1.heap.size w1 w1 := Below.refl _ _
  clear hx hx2 hz hr hT hr2 hT2
  have KC := Lib.hid (show ∀ wz, Below w1.heap.size w1 wz → Cells wz ab ao L from fun wz hb => by
    obtain ⟨b', off', e, hc⟩ := (KR.out wz hb) (lat_ne l1)
    simp only [Option.some.injEq, Addr.mk.injEq] at e
    rw [e.1, e.2.1]; exact hc)
  have KC2 := Lib.hid (show ∀ wz, Below w1.heap.size w1 wz → Cells wz mb mo M from fun wz hb => by
    obtain ⟨b', off', e, hc⟩ := (KR2.out wz hb) (lat_ne k1)
    simp only [Option.some.injEq, Addr.mk.injEq] at e
    rw [e.1, e.2.1]; exact hc)
  obtain ⟨tb', to', e1, rb, ro, rc, hTA⟩ := tab_of (KT.out _ z1) (alg_shape h) l1
  obtain ⟨ub', uo', e2, sb, so, sc, hTB⟩ := tab_of (KT2.out _ z1) (alg_shape h2) k1
  simp only [Option.some.injEq, Addr.mk.injEq] at e1 e2
  obtain ⟨rfl, rfl, _⟩ := e1
  obtain ⟨rfl, rfl, _⟩ := e2
  have KA := Lib.hid (show ∀ wz, Below w1.heap.size w1 wz → TabAt wz tb to (num L) L.length rb ro rc T from fun wz hb => hTA.below hb)
  have KB := Lib.hid (show ∀ wz, Below w1.heap.size w1 wz → TabAt wz ub uo (num M) M.length sb so sc U from fun wz hb => hTB.below hb)
  have HA := Lib.hid h
  have HA2 := Lib.hid h2
  have n6 : (L.length : Int) ≤ 6 := l6
  have n1 : 1 ≤ (L.length : Int) := l1
  have m6 : (M.length : Int) ≤ 6 := k6
  have m1 : 1 ≤ (M.length : Int) := k1
  have kw : IntKind.i64.wrap ((L.length : Int) - 1 + M.length) = ((L.length : Int) - 1 + M.length) := IntWalk.i64_in _ (by omega)
  obtain ⟨c0, c1⟩ := bx_cells (Kx.out _ z1)
  obtain ⟨d0, d1⟩ := bx_cells (Kx2.out _ z1)
  clear h h2 hTA hTB l1 l6 k1 k6
  go_enter Tryz.func84, Tryz.ntmps84
  go_wp2_with (first
    | (rw [← hw1]; clear hw1)
    | (refine wpList_store_row rfl 26 _ _ rfl w1.heap.size #[.slice none 0 0, .slice none 0 0] rfl rfl _ _ (heap_alloc_new w1 (.cells #[.slice none 0 0, .slice none 0 0] 26)) (size_Alg _ _) rfl (one_sl2 _ _ _ _ _ _) ?_; rw [World.setRow_alloc_new]; obtain ⟨g, hg⟩ : ∃ g, g = w1.heap.size := ⟨_, rfl⟩; obtain ⟨w3, hw3⟩ : ∃ w3, w3 = w1.alloc (.cells #[.slice none 0 0, .slice none 0 0] 26) := ⟨_, rfl⟩; rw [← hw3, ← hg]; have hx3 : w3.heap[g]? = some (.cells #[.slice none 0 0, .slice none 0 0] 26 (0, 0)) := (by rw [hw3, hg]; exact heap_alloc_new w1 _); have z3 : Below w1.heap.size w1 w3 := (by rw [hw3]; exact (Below.refl _ _).alloc (Nat.le_refl _) _); have hgl : w1.heap.size ≤ g := Nat.le_of_eq hg.symm; clear hw3 hg))
  clear c0 c1 d0 d1
  go_loopw [8, 9, 10, 11, 12] (fun xv _ _ _ _ wr => ∃ x : Int, 0 ≤ x ∧ x ≤ ((L.length : Int) - 1 + M.length) ∧ xv = .int .i64 x ∧ (∃ u v, wr.heap[g]? = some (.cells #[u, v] 26 (0, 0)) ∧ Own w1.heap.size wr u (upQ (stG L M ((L.length : Int) - 1)) ((L.length : Int) - 1 + M.length) x) ∧ RowsX w1.heap.size wr v (tabK (stP T U ((L.length : Int) - 1)) ((L.length : Int) - 1 + M.length) x) u.ownBlock) ∧ Below w1.heap.size w1 wr) (fun xv _ _ _ _ _ => (6 - intOf xv).toNat)
  case atStart => exact ⟨0, by omega, by omega, rfl, ⟨_, _, hx3, Own.nothing _ _, RowsX.nothing _ _ _⟩, z3⟩
  case round =>
    obtain ⟨x, x0, x1, rfl, ⟨uv, v, hxg, hup, hrows⟩, hbel⟩ := hrel
    obtain ⟨tb2, tc2, rfl, _⟩ := hrows.at.rd
    obtain ⟨ua, uc, rfl, _⟩ := hup.slice
    by_cases hx : x < ((L.length : Int) - 1 + M.length)
    · obtain ⟨wo, rfl⟩ : ∃ wo : World, wo = wr := ⟨_, rfl⟩
      have hlo := hbel.size
      go_wp2
      go_loopw [9, 10, 11, 12] (fun rv pv yv _ wr => ∃ y : Int, 0 ≤ y ∧ y ≤ ((L.length : Int) - 1 + M.length) ∧ yv = .int .i64 y ∧ pv = .int .i64 (rowTo ((stG L M ((L.length : Int) - 1)) x) y) ∧ Own wo.heap.size wr rv (lstTo ((stP T U ((L.length : Int) - 1)) x) y) ∧ Below wo.heap.size wo wr) (fun _ _ yv _ _ => (6 - intOf yv).toNat)
      case atStart => exact ⟨0, by omega, by omega, rfl, rfl, Own.row (L := []) (heap_alloc_new wo _) (Nat.le_refl _) (Nat.zero_le _), (Below.refl _ _).alloc (Nat.le_refl _) _⟩
      case round =>
        obtain ⟨y, y0, y1, rfl, rfl, hown, hbi⟩ := hrel
        by_cases hy : y < ((L.length : Int) - 1 + M.length)
        · have hlen := lstTo_len ((stP T U ((L.length : Int) - 1)) x) y y0
          have hsucc := Lib.hid (lstTo_succ ((stP T U ((L.length : Int) - 1)) x) y y0)
          have hrs := Lib.hid (rowTo_succ ((stG L M ((L.length : Int) - 1)) x) y y0)
          obtain ⟨rb0, rb1⟩ := rowTo_bound ((stG L M ((L.length : Int) - 1)) x) y0
          have pq := pw_30 y (by omega)
          have pq0 := pw_pos y
          have kadd : IntKind.i64.wrap (rowTo ((stG L M ((L.length : Int) - 1)) x) y + pw y) = rowTo ((stG L M ((L.length : Int) - 1)) x) y + pw y := IntWalk.i64_in _ (by omega)
          have hbr : Below w1.heap.size w1 wr := hbel.trans (hbi.mono hlo)
          by_cases hxm : x < ((L.length : Int) - 1) <;> by_cases hym : y < ((L.length : Int) - 1)
          · have e0 := (KA.out _ hbr).row x0 (by show x < (L.length : Int); omega)
            have e1 := (KA.out _ hbr).cell x0 (by show x < (L.length : Int); omega) y0 (by show y < (L.length : Int); omega)
            obtain ⟨f0, f1⟩ := bx_cells (Kx.out _ hbr)
            have xl : x < (L.length : Int) := by omega
            have yl : y < (L.length : Int) := by omega
            have xt : x < (T.length : Int) := by have := (alg_tlen HA.out); omega
            cases hbl : bl L x y
            all_goals have HBL := Lib.hid hbl
            all_goals clear hbl
            · skip
              have hpv := Lib.hid (show (stP T U ((L.length : Int) - 1)) x y = tv T x y from stP_a hxm hym)
              have hst := Lib.hid (show rowTo ((stG L M ((L.length : Int) - 1)) x) (y + 1) = rowTo ((stG L M ((L.length : Int) - 1)) x) y by rw [hrs.out, stG_a hxm hym, HBL.out]; rfl)
              clear hlen hbr
              go_wp2_with (first
                | go_skip
                | (at_builtin; refine wpList_append_own _ rfl _ _ 23 rfl wo.heap.size 3 i0 (.int .i64 0) 1 8 Tryz.underlying23 hi hz0 hz1 hz2 rfl (by decide) _ _ _ rfl (World.ownsRow.alloc hown _) ⟨wr.heap.size, 0, none⟩ 1 1 [.int .i64 (tv T x y)] rfl rfl (cell_one_new _ _ _) (fun x hx => by simp at hx; subst hx; rfl) (by have := lstTo_len ((stP T U ((L.length : Int) - 1)) x) y y0; unfold maxLen; omega) (by have := lstTo_len ((stP T U ((L.length : Int) - 1)) x) y y0; omega) (by have := hbi.size; simp; omega) ?_; intro v' w5 hown1 hgrow _; have hb5 : Below wo.heap.size wo w5 := (hbi.alloc hbi.size _).grown hgrow (by have := hbi.size; simp; omega) (fun q hq => (World.ownsRow.lt hown q hq).1); obtain ⟨va, vn, vc, rfl⟩ := own_shape hown1; have hb15 : Below w1.heap.size w1 w5 := hbel.trans (hb5.mono hlo); obtain ⟨c0, c1⟩ := bx_cells (Kx.out _ hb15); obtain ⟨d0, d1⟩ := bx_cells (Kx2.out _ hb15); clear hgrow)
                | (go_at_call 98; refine (below_is ab ao ca L x y _ (KC.out _ hb15) hsA x0 (by show x < (L.length : Int); omega) y0 (by omega) HBL.out).mono ?_; rintro e w6 ⟨rfl, rfl⟩)
                | (go_at_call 49; refine (power_any _ _ (by omega) (by omega)).mono ?_; rintro e w' ⟨rfl, rfl⟩))
              all_goals exact ⟨⟨y + 1, by omega, by omega, rfl, by rw [hst.out], by unfold Own; rw [hsucc.out, hpv.out, List.map_append, List.length_append]; exact hown1, hb5⟩, by simp [intOf]; omega⟩
            · skip
              have hpv := Lib.hid (show (stP T U ((L.length : Int) - 1)) x y = tv T x y from stP_a hxm hym)
              have hst := Lib.hid (show rowTo ((stG L M ((L.length : Int) - 1)) x) (y + 1) = rowTo ((stG L M ((L.length : Int) - 1)) x) y + pw y by rw [hrs.out, stG_a hxm hym, HBL.out]; rfl)
              clear hlen hbr
              go_wp2_with (first
                | go_skip
                | (at_builtin; refine wpList_append_own _ rfl _ _ 23 rfl wo.heap.size 3 i0 (.int .i64 0) 1 8 Tryz.underlying23 hi hz0 hz1 hz2 rfl (by decide) _ _ _ rfl (World.ownsRow.alloc hown _) ⟨wr.heap.size, 0, none⟩ 1 1 [.int .i64 (tv T x y)] rfl rfl (cell_one_new _ _ _) (fun x hx => by simp at hx; subst hx; rfl) (by have := lstTo_len ((stP T U ((L.length : Int) - 1)) x) y y0; unfold maxLen; omega) (by have := lstTo_len ((stP T U ((L.length : Int) - 1)) x) y y0; omega) (by have := hbi.size; simp; omega) ?_; intro v' w5 hown1 hgrow _; have hb5 : Below wo.heap.size wo w5 := (hbi.alloc hbi.size _).grown hgrow (by have := hbi.size; simp; omega) (fun q hq => (World.ownsRow.lt hown q hq).1); obtain ⟨va, vn, vc, rfl⟩ := own_shape hown1; have hb15 : Below w1.heap.size w1 w5 := hbel.trans (hb5.mono hlo); obtain ⟨c0, c1⟩ := bx_cells (Kx.out _ hb15); obtain ⟨d0, d1⟩ := bx_cells (Kx2.out _ hb15); clear hgrow)
                | (go_at_call 98; refine (below_is ab ao ca L x y _ (KC.out _ hb15) hsA x0 (by show x < (L.length : Int); omega) y0 (by omega) HBL.out).mono ?_; rintro e w6 ⟨rfl, rfl⟩)
                | (go_at_call 49; refine (power_any _ _ (by omega) (by omega)).mono ?_; rintro e w' ⟨rfl, rfl⟩))
              all_goals exact ⟨⟨y + 1, by omega, by omega, rfl, by rw [hst.out], by unfold Own; rw [hsucc.out, hpv.out, List.map_append, List.length_append]; exact hown1, hb5⟩, by simp [intOf]; omega⟩
          · skip
            have hpv := Lib.hid (show (stP T U ((L.length : Int) - 1)) x y = x from stP_c hxm (by omega))
            have hst := Lib.hid (show rowTo ((stG L M ((L.length : Int) - 1)) x) (y + 1) = rowTo ((stG L M ((L.length : Int) - 1)) x) y + pw y by rw [hrs.out, stG_c (by omega) (by omega), decide_eq_true (show x < y by omega)]; rfl)
            clear hlen hbr
            go_wp2_with (first
              | go_skip
              | (at_builtin; refine wpList_append_own _ rfl _ _ 23 rfl wo.heap.size 3 i0 (.int .i64 0) 1 8 Tryz.underlying23 hi hz0 hz1 hz2 rfl (by decide) _ _ _ rfl (World.ownsRow.alloc hown _) ⟨wr.heap.size, 0, none⟩ 1 1 [.int .i64 (x)] rfl rfl (cell_one_new _ _ _) (fun x hx => by simp at hx; subst hx; rfl) (by have := lstTo_len ((stP T U ((L.length : Int) - 1)) x) y y0; unfold maxLen; omega) (by have := lstTo_len ((stP T U ((L.length : Int) - 1)) x) y y0; omega) (by have := hbi.size; simp; omega) ?_; intro v' w5 hown1 hgrow _; have hb5 : Below wo.heap.size wo w5 := (hbi.alloc hbi.size _).grown hgrow (by have := hbi.size; simp; omega) (fun q hq => (World.ownsRow.lt hown q hq).1); obtain ⟨va, vn, vc, rfl⟩ := own_shape hown1; have hb15 : Below w1.heap.size w1 w5 := hbel.trans (hb5.mono hlo); obtain ⟨c0, c1⟩ := bx_cells (Kx.out _ hb15); obtain ⟨d0, d1⟩ := bx_cells (Kx2.out _ hb15); clear hgrow)
              | (go_at_call 49; refine (power_any _ _ (by omega) (by omega)).mono ?_; rintro e w' ⟨rfl, rfl⟩))
            all_goals exact ⟨⟨y + 1, by omega, by omega, rfl, by rw [hst.out], by unfold Own; rw [hsucc.out, hpv.out, List.map_append, List.length_append]; exact hown1, hb5⟩, by simp [intOf]; omega⟩
          · skip
            have hpv := Lib.hid (show (stP T U ((L.length : Int) - 1)) x y = y from stP_d (by omega) hym)
            have hst := Lib.hid (show rowTo ((stG L M ((L.length : Int) - 1)) x) (y + 1) = rowTo ((stG L M ((L.length : Int) - 1)) x) y by rw [hrs.out, stG_c (by omega) (by omega), decide_eq_false (show ¬ x < y by omega)]; rfl)
            clear hlen hbr
            go_wp2_with (first
              | go_skip
              | (at_builtin; refine wpList_append_own _ rfl _ _ 23 rfl wo.heap.size 3 i0 (.int .i64 0) 1 8 Tryz.underlying23 hi hz0 hz1 hz2 rfl (by decide) _ _ _ rfl (World.ownsRow.alloc hown _) ⟨wr.heap.size, 0, none⟩ 1 1 [.int .i64 (y)] rfl rfl (cell_one_new _ _ _) (fun x hx => by simp at hx; subst hx; rfl) (by have := lstTo_len ((stP T U ((L.length : Int) - 1)) x) y y0; unfold maxLen; omega) (by have := lstTo_len ((stP T U ((L.length : Int) - 1)) x) y y0; omega) (by have := hbi.size; simp; omega) ?_; intro v' w5 hown1 hgrow _; have hb5 : Below wo.heap.size wo w5 := (hbi.alloc hbi.size _).grown hgrow (by have := hbi.size; simp; omega) (fun q hq => (World.ownsRow.lt hown q hq).1); obtain ⟨va, vn, vc, rfl⟩ := own_shape hown1; have hb15 : Below w1.heap.size w1 w5 := hbel.trans (hb5.mono hlo); obtain ⟨c0, c1⟩ := bx_cells (Kx.out _ hb15); obtain ⟨d0, d1⟩ := bx_cells (Kx2.out _ hb15); clear hgrow)
              | (go_at_call 49; refine (power_any _ _ (by omega) (by omega)).mono ?_; rintro e w' ⟨rfl, rfl⟩))
            all_goals exact ⟨⟨y + 1, by omega, by omega, rfl, by rw [hst.out], by unfold Own; rw [hsucc.out, hpv.out, List.map_append, List.length_append]; exact hown1, hb5⟩, by simp [intOf]; omega⟩
          · have u0 : 0 ≤ x - ((L.length : Int) - 1) := by omega
            have v0 : 0 ≤ y - ((L.length : Int) - 1) := by omega
            have e0 := (KB.out _ hbr).row u0 (by show x - ((L.length : Int) - 1) < (M.length : Int); omega)
            have e1 := (KB.out _ hbr).cell u0 (by show x - ((L.length : Int) - 1) < (M.length : Int); omega) v0 (by show y - ((L.length : Int) - 1) < (M.length : Int); omega)
            obtain ⟨f0, f1⟩ := bx_cells (Kx2.out _ hbr)
            have xl : x - ((L.length : Int) - 1) < (M.length : Int) := by omega
            have yl : y - ((L.length : Int) - 1) < (M.length : Int) := by omega
            have xt : x - ((L.length : Int) - 1) < (U.length : Int) := by have := (alg_tlen HA2.out); omega
            have tt := tv_el HA2.out (show El M (x - ((L.length : Int) - 1)) from ⟨u0, xl⟩) (show El M (y - ((L.length : Int) - 1)) from ⟨v0, yl⟩)
            have t1 : tv U (x - ((L.length : Int) - 1)) (y - ((L.length : Int) - 1)) < (M.length : Int) := tt.2
            have t0 := tt.1
            clear tt
            have kz : IntKind.i64.wrap (((L.length : Int) - 1) + tv U (x - ((L.length : Int) - 1)) (y - ((L.length : Int) - 1))) = ((L.length : Int) - 1) + tv U (x - ((L.length : Int) - 1)) (y - ((L.length : Int) - 1)) := IntWalk.i64_in _ (by omega)
            have kx : IntKind.i64.wrap (x - ((L.length : Int) - 1)) = x - ((L.length : Int) - 1) := IntWalk.i64_in _ (by omega)
            have ky : IntKind.i64.wrap (y - ((L.length : Int) - 1)) = y - ((L.length : Int) - 1) := IntWalk.i64_in _ (by omega)
            cases hbl : bl M (x - ((L.length : Int) - 1)) (y - ((L.length : Int) - 1))
            all_goals have HBL := Lib.hid hbl
            all_goals clear hbl
            · skip
              have hpv := Lib.hid (show (stP T U ((L.length : Int) - 1)) x y = ((L.length : Int) - 1) + tv U (x - ((L.length : Int) - 1)) (y - ((L.length : Int) - 1)) from stP_b (by omega) (by omega))
              have hst := Lib.hid (show rowTo ((stG L M ((L.length : Int) - 1)) x) (y + 1) = rowTo ((stG L M ((L.length : Int) - 1)) x) y by rw [hrs.out, stG_b (by omega) (by omega), HBL.out]; rfl)
              clear hlen hbr
              go_wp2_with (first
                | go_skip
                | (at_builtin; refine wpList_append_own _ rfl _ _ 23 rfl wo.heap.size 3 i0 (.int .i64 0) 1 8 Tryz.underlying23 hi hz0 hz1 hz2 rfl (by decide) _ _ _ rfl (World.ownsRow.alloc hown _) ⟨wr.heap.size, 0, none⟩ 1 1 [.int .i64 (((L.length : Int) - 1) + tv U (x - ((L.length : Int) - 1)) (y - ((L.length : Int) - 1)))] rfl rfl (cell_one_new _ _ _) (fun x hx => by simp at hx; subst hx; rfl) (by have := lstTo_len ((stP T U ((L.length : Int) - 1)) x) y y0; unfold maxLen; omega) (by have := lstTo_len ((stP T U ((L.length : Int) - 1)) x) y y0; omega) (by have := hbi.size; simp; omega) ?_; intro v' w5 hown1 hgrow _; have hb5 : Below wo.heap.size wo w5 := (hbi.alloc hbi.size _).grown hgrow (by have := hbi.size; simp; omega) (fun q hq => (World.ownsRow.lt hown q hq).1); obtain ⟨va, vn, vc, rfl⟩ := own_shape hown1; have hb15 : Below w1.heap.size w1 w5 := hbel.trans (hb5.mono hlo); obtain ⟨c0, c1⟩ := bx_cells (Kx.out _ hb15); obtain ⟨d0, d1⟩ := bx_cells (Kx2.out _ hb15); clear hgrow)
                | (go_at_call 98; refine (below_is mb mo ca2 M (x - ((L.length : Int) - 1)) (y - ((L.length : Int) - 1)) _ (KC2.out _ hb15) hsB u0 (by show x - ((L.length : Int) - 1) < (M.length : Int); omega) v0 (by omega) HBL.out).mono ?_; rintro e w6 ⟨rfl, rfl⟩)
                | (go_at_call 49; refine (power_any _ _ (by omega) (by omega)).mono ?_; rintro e w' ⟨rfl, rfl⟩))
              all_goals exact ⟨⟨y + 1, by omega, by omega, rfl, by rw [hst.out], by unfold Own; rw [hsucc.out, hpv.out, List.map_append, List.length_append]; exact hown1, hb5⟩, by simp [intOf]; omega⟩
            · skip
              have hpv := Lib.hid (show (stP T U ((L.length : Int) - 1)) x y = ((L.length : Int) - 1) + tv U (x - ((L.length : Int) - 1)) (y - ((L.length : Int) - 1)) from stP_b (by omega) (by omega))
              have hst := Lib.hid (show rowTo ((stG L M ((L.length : Int) - 1)) x) (y + 1) = rowTo ((stG L M ((L.length : Int) - 1)) x) y + pw y by rw [hrs.out, stG_b (by omega) (by omega), HBL.out]; rfl)
              clear hlen hbr
              go_wp2_with (first
                | go_skip
                | (at_builtin; refine wpList_append_own _ rfl _ _ 23 rfl wo.heap.size 3 i0 (.int .i64 0) 1 8 Tryz.underlying23 hi hz0 hz1 hz2 rfl (by decide) _ _ _ rfl (World.ownsRow.alloc hown _) ⟨wr.heap.size, 0, none⟩ 1 1 [.int .i64 (((L.length : Int) - 1) + tv U (x - ((L.length : Int) - 1)) (y - ((L.length : Int) - 1)))] rfl rfl (cell_one_new _ _ _) (fun x hx => by simp at hx; subst hx; rfl) (by have := lstTo_len ((stP T U ((L.length : Int) - 1)) x) y y0; unfold maxLen; omega) (by have := lstTo_len ((stP T U ((L.length : Int) - 1)) x) y y0; omega) (by have := hbi.size; simp; omega) ?_; intro v' w5 hown1 hgrow _; have hb5 : Below wo.heap.size wo w5 := (hbi.alloc hbi.size _).grown hgrow (by have := hbi.size; simp; omega) (fun q hq => (World.ownsRow.lt hown q hq).1); obtain ⟨va, vn, vc, rfl⟩ := own_shape hown1; have hb15 : Below w1.heap.size w1 w5 := hbel.trans (hb5.mono hlo); obtain ⟨c0, c1⟩ := bx_cells (Kx.out _ hb15); obtain ⟨d0, d1⟩ := bx_cells (Kx2.out _ hb15); clear hgrow)
                | (go_at_call 98; refine (below_is mb mo ca2 M (x - ((L.length : Int) - 1)) (y - ((L.length : Int) - 1)) _ (KC2.out _ hb15) hsB u0 (by show x - ((L.length : Int) - 1) < (M.length : Int); omega) v0 (by omega) HBL.out).mono ?_; rintro e w6 ⟨rfl, rfl⟩)
                | (go_at_call 49; refine (power_any _ _ (by omega) (by omega)).mono ?_; rintro e w' ⟨rfl, rfl⟩))
              all_goals exact ⟨⟨y + 1, by omega, by omega, rfl, by rw [hst.out], by unfold Own; rw [hsucc.out, hpv.out, List.map_append, List.length_append]; exact hown1, hb5⟩, by simp [intOf]; omega⟩
        · have e : y = ((L.length : Int) - 1 + M.length) := by omega
          rw [e] at hown ⊢
          obtain ⟨ra, rc2, rfl, _⟩ := hown.slice
          have hg1 := (hbi.block g (lt_of_block hxg)).trans hxg
          obtain ⟨d0, d1⟩ := bx_cells hg1
          obtain ⟨vs, h1v, h2v⟩ := hrows.below hbi
          obtain ⟨o4, ho4⟩ : ∃ o4, o4 = Obj.cells #[.slice ra (lstTo ((stP T U ((L.length : Int) - 1)) x) ((L.length : Int) - 1 + M.length)).length rc2] 23 := ⟨_, rfl⟩
          have h1a := World.ownsRow.alloc h1v o4
          have h2a := Lib.hid (show ∀ j : Nat, j < (tabK (stP T U ((L.length : Int) - 1)) ((L.length : Int) - 1 + M.length) x).length → ∃ u, vs[j]? = some u ∧ Own w1.heap.size (wr.alloc o4) u (rowAt (tabK (stP T U ((L.length : Int) - 1)) ((L.length : Int) - 1 + M.length) x) j) ∧ (u.ownBlock = none ∨ u.ownBlock ≠ (Value.slice ua (upQ (stG L M ((L.length : Int) - 1)) ((L.length : Int) - 1 + M.length) x).length uc).ownBlock) from fun j hj => by obtain ⟨u, hu, ho, hn⟩ := h2v j hj; exact ⟨u, hu, ho.alloc _, hn⟩)
          have hrx := own_new hown hup (Nat.le_refl _)
          have hra := (hown.from hlo).alloc o4
          have hupa := (hup.below hbi).alloc o4
          have hga := (heap_alloc_old wr o4 (lt_of_block hg1)).trans hg1
          have hsz2 := hbi.size
          have hbb : Below w1.heap.size w1 (wr.alloc o4) := (hbel.trans (hbi.mono hlo)).alloc (by omega) _
          have tl := Lib.hid (tabK_len (stP T U ((L.length : Int) - 1)) ((L.length : Int) - 1 + M.length) x)
          have ul := Lib.hid (upQ_len (stG L M ((L.length : Int) - 1)) ((L.length : Int) - 1 + M.length) x)
          have hsu := Lib.hid (upQ_succ (stG L M ((L.length : Int) - 1)) ((L.length : Int) - 1 + M.length) x x0)
          have hst := Lib.hid (tabK_succ (stP T U ((L.length : Int) - 1)) ((L.length : Int) - 1 + M.length) x x0)
          rw [ho4] at h1a hra hupa hga hbb
          rw [ho4] at h2a
          clear h2v hup hrows ho4 hown
          go_wp2_with (first
            | (at_builtin; refine wpList_append_own _ rfl _ _ 24 rfl w1.heap.size 23 i1 (.slice none 0 0) 1 24 Tryz.underlying24 hi1 hy0 hy1 hy2 rfl (by decide) _ _ _ rfl h1a ⟨wr.heap.size, 0, none⟩ 1 1 [.slice ra (lstTo ((stP T U ((L.length : Int) - 1)) x) ((L.length : Int) - 1 + M.length)).length rc2] rfl rfl (cell_one_new _ _ _) (fun x hx => by simp at hx; subst hx; rfl) (by have := tl.out; unfold maxLen; omega) (by have := tl.out; omega) (by simp; omega) ?_; intro v' w5 hown1 hgrow _; have hg5 := grown_keep hgrow h1a hga (by decide); have hr5 := RowsX.push h1a h2a.out hra hrx hown1 hgrow; obtain ⟨e0, e1⟩ := bx_cells hg5; have ff := frozen_of_row w5 _ 1 _ _ hg5; obtain ⟨nb, nc, rfl, _⟩ := hr5.at.rd; rw [show (tabK (stP T U ((L.length : Int) - 1)) ((L.length : Int) - 1 + M.length) x ++ [lstTo ((stP T U ((L.length : Int) - 1)) x) ((L.length : Int) - 1 + M.length)]).length = (tabK (stP T U ((L.length : Int) - 1)) ((L.length : Int) - 1 + M.length) x).length + 1 by simp, ← hst.out] at hr5; have hup5 := World.ownsRow.kept hupa hgrow (own_types hupa h1a (by decide)); have hb5 : Below w1.heap.size w1 w5 := hbb.grown hgrow (by simp; omega) (fun q hq => (World.ownsRow.lt h1a q hq).1); clear hgrow h1a h2a hra hupa hga hbb hown1)
            | (obtain ⟨w6, hw6⟩ : ∃ wq : World, wq = w5.setCell ⟨g, 1, none⟩ (.slice nb ((tabK (stP T U ((L.length : Int) - 1)) ((L.length : Int) - 1 + M.length) x).length + 1) nc) := ⟨_, rfl⟩; rw [← hw6]; have hg6 : w6.heap[g]? = some (.cells #[.slice ua (upQ (stG L M ((L.length : Int) - 1)) ((L.length : Int) - 1 + M.length) x).length uc, .slice nb ((tabK (stP T U ((L.length : Int) - 1)) ((L.length : Int) - 1 + M.length) x).length + 1) nc] 26 (0, 0)) := (by rw [hw6, setCell_eq_setRow w5 _ _ _ _ _ _ hg5, setRow_heap w5 _ _ _ _ _ hg5]; rfl); have ho6 : ∀ k, k ≠ g → w6.heap[k]? = w5.heap[k]? := (fun k hk => by rw [hw6]; exact heap_setCell_other w5 _ k _ hk); have hr6 := RowsX.other hr5 hg5 (by decide) (by decide) ho6; have hup6 := ownsRow_other hup5 hg5 (by decide) ho6; have hb6 : Below w1.heap.size w1 w6 := (by rw [hw6]; exact hb5.setCell (by simp; omega) _); have s6 := hb6.size; obtain ⟨e2, e3⟩ := bx_cells hg6; have hup7 := World.ownsRow.alloc hup6 (Obj.cells #[.int .i64 (rowTo ((stG L M ((L.length : Int) - 1)) x) ((L.length : Int) - 1 + M.length))] 3); clear hw6 e0 e1 ff hr5 hup5 hb5)
            | (at_builtin; refine wpList_append_own_at _ rfl _ _ 23 rfl w1.heap.size 3 i0 (.int .i64 0) 1 8 Tryz.underlying23 hi hz0 hz1 hz2 rfl (by decide) _ _ _ rfl hup7 ⟨w6.heap.size, 0, none⟩ 1 1 [.int .i64 (rowTo ((stG L M ((L.length : Int) - 1)) x) ((L.length : Int) - 1 + M.length))] rfl rfl (cell_one_new _ _ _) (fun x hx => by simp at hx; subst hx; rfl) (by have := ul.out; unfold maxLen; omega) (by have := ul.out; omega) (by simp; omega) ?_; intro v2 w8 hown8 hgrow8 _ hat8; have hg7 := (heap_alloc_old w6 (Obj.cells #[.int .i64 (rowTo ((stG L M ((L.length : Int) - 1)) x) ((L.length : Int) - 1 + M.length))] 3) (lt_of_block hg6)).trans hg6; have hg8 := grown_keep hgrow8 hup7 hg7 (by decide); obtain ⟨e4, e5⟩ := bx_cells hg8; have f8 := frozen_of_row w8 _ 0 _ _ hg8; obtain ⟨va, vn, vc, rfl⟩ := own_shape hown8))
          have ho9 : ∀ k, k ≠ g → (w8.setCell ⟨g, 0, none⟩ (.slice va vn vc)).heap[k]? = w8.heap[k]? := fun k hk => heap_setCell_other w8 _ k _ hk
          have hr9 := RowsX.other (RowsX.grown (hr6.below ((Below.refl _ _).alloc (Nat.le_refl _) (Obj.cells #[.int .i64 (rowTo ((stG L M ((L.length : Int) - 1)) x) ((L.length : Int) - 1 + M.length))] 3))) hgrow8 hup7 hat8) hg8 (by decide) (by decide) ho9
          have hu9 : Own w1.heap.size (w8.setCell ⟨g, 0, none⟩ (.slice va vn vc)) (.slice va vn vc) (upQ (stG L M ((L.length : Int) - 1)) ((L.length : Int) - 1 + M.length) (x + 1)) := by
            rw [hsu.out]
            refine ownsRow_other ?_ hg8 (by decide) ho9
            rw [List.map_append, List.length_append]; exact hown8
          have hb8 : Below w1.heap.size w1 w8 := (hb6.alloc s6 _).grown hgrow8 (by simp; omega) (fun q hq => (World.ownsRow.lt hup7 q hq).1)
          refine ⟨⟨x + 1, by omega, by omega, rfl, ⟨_, _, ?_, hu9, hr9⟩, hb8.setCell (by simp; omega) _⟩, by simp [intOf]; omega⟩
          rw [setCell_eq_setRow w8 _ _ _ _ _ _ hg8, setRow_heap w8 _ _ _ _ _ hg8]
          rfl
    · have e : x = ((L.length : Int) - 1 + M.length) := by omega
      rw [e] at hrows hxg hup
      have hz := Kz.out _ hbel
      go_wp2_with (first
        | (refine wpList_load_row_w rfl 26 _ rfl g rfl _ _ _ _ hxg Tryz.underlying26 rfl (size_Alg _ _) ?_)
        | (refine wpList_store_row rfl 26 _ _ rfl (w.heap.size + 1 + 1) #[.slice ua (upQ (stG L M ((L.length : Int) - 1)) ((L.length : Int) - 1 + M.length) ((L.length : Int) - 1 + M.length)).length uc, .slice tb2 (tabK (stP T U ((L.length : Int) - 1)) ((L.length : Int) - 1 + M.length) ((L.length : Int) - 1 + M.length)).length tc2] rfl rfl _ _ hz (size_Alg _ _) rfl (one_sl2 _ _ _ _ _ _) ?_))
      refine bodyPost_ret (results_cell_row rfl _ _ (w.heap.size + 1 + 1) _ _ _ _ rfl (setRow_heap _ _ _ _ _ _ hz) Tryz.underlying26 rfl (size_Alg _ _)) rfl ?_
      have hr6 := RowsAt.other hrows.at hz (by decide) (by decide) (fun k hk => setRow_other wr (w.heap.size + 1 + 1) k #[.slice ua (upQ (stG L M ((L.length : Int) - 1)) ((L.length : Int) - 1 + M.length) ((L.length : Int) - 1 + M.length)).length uc, .slice tb2 (tabK (stP T U ((L.length : Int) - 1)) ((L.length : Int) - 1 + M.length) ((L.length : Int) - 1 + M.length)).length tc2] hk)
      have hu6 := ownsRow_other hup hz (by decide) (fun k hk => setRow_other wr (w.heap.size + 1 + 1) k #[.slice ua (upQ (stG L M ((L.length : Int) - 1)) ((L.length : Int) - 1 + M.length) ((L.length : Int) - 1 + M.length)).length uc, .slice tb2 (tabK (stP T U ((L.length : Int) - 1)) ((L.length : Int) - 1 + M.length) ((L.length : Int) - 1 + M.length)).length tc2] hk)
      exact ⟨ua, uc, tb2, tc2, rfl, ownsRow_from hu6 hB.size, RowsAt.from hr6 hB.size, below_setRow' (hB.trans (hbel.mono hB.size)) (by omega) _⟩
end Go.Proofs.YtpophjloedpcfaaGreatDoor

namespace Go.Proofs.YtpophjloedpcfaaGreatDoor
open Go.RowKit
set_option linter.unusedVariables false
set_option maxRecDepth 100000 in
set_option maxHeartbeats 4000000 in
theorem specStack_ff (a b : Option Addr) (ca cb : Nat) (L : List Int) (T : List (List Int)) (a2 b2 : Option Addr) (ca2 cb2 : Nat) (M : List Int) (U : List (List Int)) (w : World) (hr : Rd w a L) (hT : RdT w b T) (hr2 : Rd w a2 M) (hT2 : RdT w b2 U) (h : algB L T = false) (h2 : algB M U = false) : Calls Tryz.prog 77 #[.agg #[.slice a L.length ca, .slice b T.length cb], .agg #[.slice a2 M.length ca2, .slice b2 U.length cb2]] w (RetSAb (stL L T M U) (stT L T M U) (stOk L T M U) w) := by
  obtain ⟨w1, hw1⟩ : ∃ w1, w1 = ((w.alloc (.cells #[.slice a L.length ca, .slice b T.length cb] 26)).alloc (.cells #[.slice a2 M.length ca2, .slice b2 U.length cb2] 26)).alloc (.cells #[.slice none 0 0, .slice none 0 0] 26) := ⟨_, rfl⟩
  have hB : Below w.heap.size w w1 := by rw [hw1]; exact (((Below.refl _ _).alloc (Nat.le_refl _) _).alloc (by simp) _).alloc (by simp; omega) _
  have hx : w1.heap[w.heap.size]? = some (.cells #[.slice a L.length ca, .slice b T.length cb] 26 (0, 0)) := by
    rw [hw1, Below.heap_alloc _ _ _ (by simp; omega), Below.heap_alloc _ _ _ (by simp)]; exact heap_alloc_new w _
  have hx2 : w1.heap[w.heap.size + 1]? = some (.cells #[.slice a2 M.length ca2, .slice b2 U.length cb2] 26 (0, 0)) := by
    rw [hw1, Below.heap_alloc _ _ _ (by simp)]; exact heap_alloc2_new _ _ _
  have hz : w1.heap[w.heap.size + 1 + 1]? = some (.cells #[.slice none 0 0, .slice none 0 0] 26 (0, 0)) := by
    have := heap_alloc_new ((w.alloc (.cells #[.slice a L.length ca, .slice b T.length cb] 26)).alloc (.cells #[.slice a2 M.length ca2, .slice b2 U.length cb2] 26)) (.cells #[.slice none 0 0, .slice none 0 0] 26)
    rw [hw1]; simpa using this
  have Kx := Lib.hid (show ∀ wz, Below w1.heap.size w1 wz → wz.heap[w.heap.size]? = some (.cells #[.slice a L.length ca, .slice b T.length cb] 26 (0, 0)) from fun wz h => (h.block _ (lt_of_block hx)).trans hx)
  have Kx2 := Lib.hid (show ∀ wz, Below w1.heap.size w1 wz → wz.heap[w.heap.size + 1]? = some (.cells #[.slice a2 M.length ca2, .slice b2 U.length cb2] 26 (0, 0)) from fun wz h => (h.block _ (lt_of_block hx2)).trans hx2)
  have Kz := Lib.hid (show ∀ wz, Below w1.heap.size w1 wz → wz.heap[w.heap.size + 1 + 1]? = some (.cells #[.slice none 0 0, .slice none 0 0] 26 (0, 0)) from fun wz h => (h.block _ (lt_of_block hz)).trans hz)
  have KR := Lib.hid (show ∀ wz, Below w1.heap.size w1 wz → Rd wz a L from fun wz h => (hr.below hB).below h)
  have KT := Lib.hid (show ∀ wz, Below w1.heap.size w1 wz → RdT wz b T from fun wz h => (hT.below hB).below h)
  have KR2 := Lib.hid (show ∀ wz, Below w1.heap.size w1 wz → Rd wz a2 M from fun wz h => (hr2.below hB).below h)
  have KT2 := Lib.hid (show ∀ wz, Below w1.heap.size w1 wz → RdT wz b2 U from fun wz h => (hT2.below hB).below h)
  have hsz : w.heap.size + 1 + 1 < w1.heap.size := lt_of_block hz
  have z1 : Below w1.heap.size w1 w1 := Below.refl _ _
  clear hx hx2 hz hr hT hr2 hT2
  have HA := Lib.hid h
  have HA2 := Lib.hid h2
  have HV := Lib.hid (show stOk L T M U = false by unfold stOk; rw [h, h2]; rfl)
  clear h h2
  go_enter Tryz.func77, Tryz.ntmps77
  go_wp2_with (first
    | go_skip
    | (rw [← hw1]; clear hw1)
    | (refine wpList_load_row_w rfl 26 _ rfl w.heap.size rfl _ _ _ _ (Kx.out _ (by assumption)) Tryz.underlying26 rfl (size_Alg _ _) ?_)
    | (refine wpList_load_row_w rfl 26 _ rfl (w.heap.size + 1) rfl _ _ _ _ (Kx2.out _ (by assumption)) Tryz.underlying26 rfl (size_Alg _ _) ?_)
    | (go_at_call_of 30 (Value.agg #[.slice a L.length ca, .slice b T.length cb]); refine (ret_below (validAlgebra_any _ _ _ _ L T _ (KR.out _ z1) (KT.out _ z1)) HA.out).mono ?_; rintro e w2 ⟨rfl, h2⟩; have z2 : Below w1.heap.size w1 w2 := h2; obtain ⟨c0, c1⟩ := bx_cells (Kx.out _ z2); obtain ⟨d0, d1⟩ := bx_cells (Kx2.out _ z2); clear h2)
    | (go_at_call 30; refine (ret_below (validAlgebra_any _ _ _ _ M U _ (KR2.out _ z2) (KT2.out _ z2)) HA2.out).mono ?_; rintro e w3 ⟨rfl, h3⟩; have z3 : Below w1.heap.size w1 w3 := z2.trans (h3.mono z2.size); clear h3 c0 c1 d0 d1; obtain ⟨c0, c1⟩ := bx_cells (Kx.out _ z3); obtain ⟨d0, d1⟩ := bx_cells (Kx2.out _ z3))
    | (refine wpList_store_row rfl 26 _ _ rfl (w.heap.size + 1 + 1) #[.slice none 0 0, .slice none 0 0] rfl rfl _ _ (Kz.out _ z2) (size_Alg _ _) rfl (one_sl2 _ _ _ _ _ _) ?_))
  refine bodyPost_ret (v := .tuple #[.agg #[.slice none 0 0, .slice none 0 0], .bool false]) (results_Alg_tmp rfl _ _ (w.heap.size + 1 + 1) rfl _ _ (setRow_heap _ _ _ _ _ _ (Kz.out _ z2)) rfl) rfl ?_
  rw [HV.out, (st_no HV.out).1, (st_no HV.out).2]
  exact ⟨_, _, _, _, _, _, rfl, OA.zero _ _, below_setRow' (hB.trans (z2.mono hB.size)) (by omega) _⟩
set_option maxRecDepth 100000 in
set_option maxHeartbeats 4000000 in
theorem specStack_ft (a b : Option Addr) (ca cb : Nat) (L : List Int) (T : List (List Int)) (a2 b2 : Option Addr) (ca2 cb2 : Nat) (M : List Int) (U : List (List Int)) (w : World) (hr : Rd w a L) (hT : RdT w b T) (hr2 : Rd w a2 M) (hT2 : RdT w b2 U) (h : algB L T = false) (h2 : algB M U = true) : Calls Tryz.prog 77 #[.agg #[.slice a L.length ca, .slice b T.length cb], .agg #[.slice a2 M.length ca2, .slice b2 U.length cb2]] w (RetSAb (stL L T M U) (stT L T M U) (stOk L T M U) w) := by
  obtain ⟨w1, hw1⟩ : ∃ w1, w1 = ((w.alloc (.cells #[.slice a L.length ca, .slice b T.length cb] 26)).alloc (.cells #[.slice a2 M.length ca2, .slice b2 U.length cb2] 26)).alloc (.cells #[.slice none 0 0, .slice none 0 0] 26) := ⟨_, rfl⟩
  have hB : Below w.heap.size w w1 := by rw [hw1]; exact (((Below.refl _ _).alloc (Nat.le_refl _) _).alloc (by simp) _).alloc (by simp; omega) _
  have hx : w1.heap[w.heap.size]? = some (.cells #[.slice a L.length ca, .slice b T.length cb] 26 (0, 0)) := by
    rw [hw1, Below.heap_alloc _ _ _ (by simp; omega), Below.heap_alloc _ _ _ (by simp)]; exact heap_alloc_new w _
  have hx2 : w1.heap[w.heap.size + 1]? = some (.cells #[.slice a2 M.length ca2, .slice b2 U.length cb2] 26 (0, 0)) := by
    rw [hw1, Below.heap_alloc _ _ _ (by simp)]; exact heap_alloc2_new _ _ _
  have hz : w1.heap[w.heap.size + 1 + 1]? = some (.cells #[.slice none 0 0, .slice none 0 0] 26 (0, 0)) := by
    have := heap_alloc_new ((w.alloc (.cells #[.slice a L.length ca, .slice b T.length cb] 26)).alloc (.cells #[.slice a2 M.length ca2, .slice b2 U.length cb2] 26)) (.cells #[.slice none 0 0, .slice none 0 0] 26)
    rw [hw1]; simpa using this
  have Kx := Lib.hid (show ∀ wz, Below w1.heap.size w1 wz → wz.heap[w.heap.size]? = some (.cells #[.slice a L.length ca, .slice b T.length cb] 26 (0, 0)) from fun wz h => (h.block _ (lt_of_block hx)).trans hx)
  have Kx2 := Lib.hid (show ∀ wz, Below w1.heap.size w1 wz → wz.heap[w.heap.size + 1]? = some (.cells #[.slice a2 M.length ca2, .slice b2 U.length cb2] 26 (0, 0)) from fun wz h => (h.block _ (lt_of_block hx2)).trans hx2)
  have Kz := Lib.hid (show ∀ wz, Below w1.heap.size w1 wz → wz.heap[w.heap.size + 1 + 1]? = some (.cells #[.slice none 0 0, .slice none 0 0] 26 (0, 0)) from fun wz h => (h.block _ (lt_of_block hz)).trans hz)
  have KR := Lib.hid (show ∀ wz, Below w1.heap.size w1 wz → Rd wz a L from fun wz h => (hr.below hB).below h)
  have KT := Lib.hid (show ∀ wz, Below w1.heap.size w1 wz → RdT wz b T from fun wz h => (hT.below hB).below h)
  have KR2 := Lib.hid (show ∀ wz, Below w1.heap.size w1 wz → Rd wz a2 M from fun wz h => (hr2.below hB).below h)
  have KT2 := Lib.hid (show ∀ wz, Below w1.heap.size w1 wz → RdT wz b2 U from fun wz h => (hT2.below hB).below h)
  have hsz : w.heap.size + 1 + 1 < w1.heap.size := lt_of_block hz
  have z1 : Below w1.heap.size w1 w1 := Below.refl _ _
  clear hx hx2 hz hr hT hr2 hT2
  have HA := Lib.hid h
  have HA2 := Lib.hid h2
  have HV := Lib.hid (show stOk L T M U = false by unfold stOk; rw [h, h2]; rfl)
  clear h h2
  go_enter Tryz.func77, Tryz.ntmps77
  go_wp2_with (first
    | go_skip
    | (rw [← hw1]; clear hw1)
    | (refine wpList_load_row_w rfl 26 _ rfl w.heap.size rfl _ _ _ _ (Kx.out _ (by assumption)) Tryz.underlying26 rfl (size_Alg _ _) ?_)
    | (refine wpList_load_row_w rfl 26 _ rfl (w.heap.size + 1) rfl _ _ _ _ (Kx2.out _ (by assumption)) Tryz.underlying26 rfl (size_Alg _ _) ?_)
    | (go_at_call_of 30 (Value.agg #[.slice a L.length ca, .slice b T.length cb]); refine (ret_below (validAlgebra_any _ _ _ _ L T _ (KR.out _ z1) (KT.out _ z1)) HA.out).mono ?_; rintro e w2 ⟨rfl, h2⟩; have z2 : Below w1.heap.size w1 w2 := h2; obtain ⟨c0, c1⟩ := bx_cells (Kx.out _ z2); obtain ⟨d0, d1⟩ := bx_cells (Kx2.out _ z2); clear h2)
    | (go_at_call 30; refine (ret_below (validAlgebra_any _ _ _ _ M U _ (KR2.out _ z2) (KT2.out _ z2)) HA2.out).mono ?_; rintro e w3 ⟨rfl, h3⟩; have z3 : Below w1.heap.size w1 w3 := z2.trans (h3.mono z2.size); clear h3 c0 c1 d0 d1; obtain ⟨c0, c1⟩ := bx_cells (Kx.out _ z3); obtain ⟨d0, d1⟩ := bx_cells (Kx2.out _ z3))
    | (refine wpList_store_row rfl 26 _ _ rfl (w.heap.size + 1 + 1) #[.slice none 0 0, .slice none 0 0] rfl rfl _ _ (Kz.out _ z2) (size_Alg _ _) rfl (one_sl2 _ _ _ _ _ _) ?_))
  refine bodyPost_ret (v := .tuple #[.agg #[.slice none 0 0, .slice none 0 0], .bool false]) (results_Alg_tmp rfl _ _ (w.heap.size + 1 + 1) rfl _ _ (setRow_heap _ _ _ _ _ _ (Kz.out _ z2)) rfl) rfl ?_
  rw [HV.out, (st_no HV.out).1, (st_no HV.out).2]
  exact ⟨_, _, _, _, _, _, rfl, OA.zero _ _, below_setRow' (hB.trans (z2.mono hB.size)) (by omega) _⟩
set_option maxRecDepth 100000 in
set_option maxHeartbeats 4000000 in
theorem specStack_tf (a b : Option Addr) (ca cb : Nat) (L : List Int) (T : List (List Int)) (a2 b2 : Option Addr) (ca2 cb2 : Nat) (M : List Int) (U : List (List Int)) (w : World) (hr : Rd w a L) (hT : RdT w b T) (hr2 : Rd w a2 M) (hT2 : RdT w b2 U) (h : algB L T = true) (h2 : algB M U = false) : Calls Tryz.prog 77 #[.agg #[.slice a L.length ca, .slice b T.length cb], .agg #[.slice a2 M.length ca2, .slice b2 U.length cb2]] w (RetSAb (stL L T M U) (stT L T M U) (stOk L T M U) w) := by
  obtain ⟨w1, hw1⟩ : ∃ w1, w1 = ((w.alloc (.cells #[.slice a L.length ca, .slice b T.length cb] 26)).alloc (.cells #[.slice a2 M.length ca2, .slice b2 U.length cb2] 26)).alloc (.cells #[.slice none 0 0, .slice none 0 0] 26) := ⟨_, rfl⟩
  have hB : Below w.heap.size w w1 := by rw [hw1]; exact (((Below.refl _ _).alloc (Nat.le_refl _) _).alloc (by simp) _).alloc (by simp; omega) _
  have hx : w1.heap[w.heap.size]? = some (.cells #[.slice a L.length ca, .slice b T.length cb] 26 (0, 0)) := by
    rw [hw1, Below.heap_alloc _ _ _ (by simp; omega), Below.heap_alloc _ _ _ (by simp)]; exact heap_alloc_new w _
  have hx2 : w1.heap[w.heap.size + 1]? = some (.cells #[.slice a2 M.length ca2, .slice b2 U.length cb2] 26 (0, 0)) := by
    rw [hw1, Below.heap_alloc _ _ _ (by simp)]; exact heap_alloc2_new _ _ _
  have hz : w1.heap[w.heap.size + 1 + 1]? = some (.cells #[.slice none 0 0, .slice none 0 0] 26 (0, 0)) := by
    have := heap_alloc_new ((w.alloc (.cells #[.slice a L.length ca, .slice b T.length cb] 26)).alloc (.cells #[.slice a2 M.length ca2, .slice b2 U.length cb2] 26)) (.cells #[.slice none 0 0, .slice none 0 0] 26)
    rw [hw1]; simpa using this
  have Kx := Lib.hid (show ∀ wz, Below w1.heap.size w1 wz → wz.heap[w.heap.size]? = some (.cells #[.slice a L.length ca, .slice b T.length cb] 26 (0, 0)) from fun wz h => (h.block _ (lt_of_block hx)).trans hx)
  have Kx2 := Lib.hid (show ∀ wz, Below w1.heap.size w1 wz → wz.heap[w.heap.size + 1]? = some (.cells #[.slice a2 M.length ca2, .slice b2 U.length cb2] 26 (0, 0)) from fun wz h => (h.block _ (lt_of_block hx2)).trans hx2)
  have Kz := Lib.hid (show ∀ wz, Below w1.heap.size w1 wz → wz.heap[w.heap.size + 1 + 1]? = some (.cells #[.slice none 0 0, .slice none 0 0] 26 (0, 0)) from fun wz h => (h.block _ (lt_of_block hz)).trans hz)
  have KR := Lib.hid (show ∀ wz, Below w1.heap.size w1 wz → Rd wz a L from fun wz h => (hr.below hB).below h)
  have KT := Lib.hid (show ∀ wz, Below w1.heap.size w1 wz → RdT wz b T from fun wz h => (hT.below hB).below h)
  have KR2 := Lib.hid (show ∀ wz, Below w1.heap.size w1 wz → Rd wz a2 M from fun wz h => (hr2.below hB).below h)
  have KT2 := Lib.hid (show ∀ wz, Below w1.heap.size w1 wz → RdT wz b2 U from fun wz h => (hT2.below hB).below h)
  have hsz : w.heap.size + 1 + 1 < w1.heap.size := lt_of_block hz
  have z1 : Below w1.heap.size w1 w1 := Below.refl _ _
  clear hx hx2 hz hr hT hr2 hT2
  have HA := Lib.hid h
  have HA2 := Lib.hid h2
  have HV := Lib.hid (show stOk L T M U = false by unfold stOk; rw [h, h2]; rfl)
  clear h h2
  go_enter Tryz.func77, Tryz.ntmps77
  go_wp2_with (first
    | go_skip
    | (rw [← hw1]; clear hw1)
    | (refine wpList_load_row_w rfl 26 _ rfl w.heap.size rfl _ _ _ _ (Kx.out _ (by assumption)) Tryz.underlying26 rfl (size_Alg _ _) ?_)
    | (refine wpList_load_row_w rfl 26 _ rfl (w.heap.size + 1) rfl _ _ _ _ (Kx2.out _ (by assumption)) Tryz.underlying26 rfl (size_Alg _ _) ?_)
    | (go_at_call_of 30 (Value.agg #[.slice a L.length ca, .slice b T.length cb]); refine (ret_below (validAlgebra_any _ _ _ _ L T _ (KR.out _ z1) (KT.out _ z1)) HA.out).mono ?_; rintro e w2 ⟨rfl, h2⟩; have z2 : Below w1.heap.size w1 w2 := h2; obtain ⟨c0, c1⟩ := bx_cells (Kx.out _ z2); obtain ⟨d0, d1⟩ := bx_cells (Kx2.out _ z2); clear h2)
    | (go_at_call 30; refine (ret_below (validAlgebra_any _ _ _ _ M U _ (KR2.out _ z2) (KT2.out _ z2)) HA2.out).mono ?_; rintro e w3 ⟨rfl, h3⟩; have z3 : Below w1.heap.size w1 w3 := z2.trans (h3.mono z2.size); clear h3 c0 c1 d0 d1; obtain ⟨c0, c1⟩ := bx_cells (Kx.out _ z3); obtain ⟨d0, d1⟩ := bx_cells (Kx2.out _ z3))
    | (refine wpList_store_row rfl 26 _ _ rfl (w.heap.size + 1 + 1) #[.slice none 0 0, .slice none 0 0] rfl rfl _ _ (Kz.out _ z3) (size_Alg _ _) rfl (one_sl2 _ _ _ _ _ _) ?_))
  refine bodyPost_ret (v := .tuple #[.agg #[.slice none 0 0, .slice none 0 0], .bool false]) (results_Alg_tmp rfl _ _ (w.heap.size + 1 + 1) rfl _ _ (setRow_heap _ _ _ _ _ _ (Kz.out _ z3)) rfl) rfl ?_
  rw [HV.out, (st_no HV.out).1, (st_no HV.out).2]
  exact ⟨_, _, _, _, _, _, rfl, OA.zero _ _, below_setRow' (hB.trans (z3.mono hB.size)) (by omega) _⟩
set_option maxRecDepth 100000 in
set_option maxHeartbeats 4000000 in
theorem specStack_big (a b : Option Addr) (ca cb : Nat) (L : List Int) (T : List (List Int)) (a2 b2 : Option Addr) (ca2 cb2 : Nat) (M : List Int) (U : List (List Int)) (w : World) (hr : Rd w a L) (hT : RdT w b T) (hr2 : Rd w a2 M) (hT2 : RdT w b2 U) (h : algB L T = true) (h2 : algB M U = true) (h3 : ¬ ((L.length : Int) - 1 + M.length) ≤ 6) : Calls Tryz.prog 77 #[.agg #[.slice a L.length ca, .slice b T.length cb], .agg #[.slice a2 M.length ca2, .slice b2 U.length cb2]] w (RetSAb (stL L T M U) (stT L T M U) (stOk L T M U) w) := by
  obtain ⟨w1, hw1⟩ : ∃ w1, w1 = ((w.alloc (.cells #[.slice a L.length ca, .slice b T.length cb] 26)).alloc (.cells #[.slice a2 M.length ca2, .slice b2 U.length cb2] 26)).alloc (.cells #[.slice none 0 0, .slice none 0 0] 26) := ⟨_, rfl⟩
  have hB : Below w.heap.size w w1 := by rw [hw1]; exact (((Below.refl _ _).alloc (Nat.le_refl _) _).alloc (by simp) _).alloc (by simp; omega) _
  have hx : w1.heap[w.heap.size]? = some (.cells #[.slice a L.length ca, .slice b T.length cb] 26 (0, 0)) := by
    rw [hw1, Below.heap_alloc _ _ _ (by simp; omega), Below.heap_alloc _ _ _ (by simp)]; exact heap_alloc_new w _
  have hx2 : w1.heap[w.heap.size + 1]? = some (.cells #[.slice a2 M.length ca2, .slice b2 U.length cb2] 26 (0, 0)) := by
    rw [hw1, Below.heap_alloc _ _ _ (by simp)]; exact heap_alloc2_new _ _ _
  have hz : w1.heap[w.heap.size + 1 + 1]? = some (.cells #[.slice none 0 0, .slice none 0 0] 26 (0, 0)) := by
    have := heap_alloc_new ((w.alloc (.cells #[.slice a L.length ca, .slice b T.length cb] 26)).alloc (.cells #[.slice a2 M.length ca2, .slice b2 U.length cb2] 26)) (.cells #[.slice none 0 0, .slice none 0 0] 26)
    rw [hw1]; simpa using this
  have Kx := Lib.hid (show ∀ wz, Below w1.heap.size w1 wz → wz.heap[w.heap.size]? = some (.cells #[.slice a L.length ca, .slice b T.length cb] 26 (0, 0)) from fun wz h => (h.block _ (lt_of_block hx)).trans hx)
  have Kx2 := Lib.hid (show ∀ wz, Below w1.heap.size w1 wz → wz.heap[w.heap.size + 1]? = some (.cells #[.slice a2 M.length ca2, .slice b2 U.length cb2] 26 (0, 0)) from fun wz h => (h.block _ (lt_of_block hx2)).trans hx2)
  have Kz := Lib.hid (show ∀ wz, Below w1.heap.size w1 wz → wz.heap[w.heap.size + 1 + 1]? = some (.cells #[.slice none 0 0, .slice none 0 0] 26 (0, 0)) from fun wz h => (h.block _ (lt_of_block hz)).trans hz)
  have KR := Lib.hid (show ∀ wz, Below w1.heap.size w1 wz → Rd wz a L from fun wz h => (hr.below hB).below h)
  have KT := Lib.hid (show ∀ wz, Below w1.heap.size w1 wz → RdT wz b T from fun wz h => (hT.below hB).below h)
  have KR2 := Lib.hid (show ∀ wz, Below w1.heap.size w1 wz → Rd wz a2 M from fun wz h => (hr2.below hB).below h)
  have KT2 := Lib.hid (show ∀ wz, Below w1.heap.size w1 wz → RdT wz b2 U from fun wz h => (hT2.below hB).below h)
  have hsz : w.heap.size + 1 + 1 < w1.heap.size := lt_of_block hz
  have z1 : Below w1.heap.size w1 w1 := Below.refl _ _
  clear hx hx2 hz hr hT hr2 hT2
  have HA := Lib.hid h
  have HA2 := Lib.hid h2
  obtain ⟨l1, l6⟩ := lat_len (alg_lat h)
  obtain ⟨k1, k6⟩ := lat_len (alg_lat h2)
  have n6 : (L.length : Int) ≤ 6 := l6
  have m6 : (M.length : Int) ≤ 6 := k6
  have n1 : 1 ≤ (L.length : Int) := l1
  have m1 : 1 ≤ (M.length : Int) := k1
  clear l1 l6 k1 k6
  have HV := Lib.hid (show stOk L T M U = false by unfold stOk; rw [h, h2, decide_eq_false h3]; rfl)
  have kd : decide ((6 : Int) < (L.length : Int) + M.length - 1) = true := decide_eq_true (by omega)
  clear h h2
  go_enter Tryz.func77, Tryz.ntmps77
  go_wp2_with (first
    | go_skip
    | (rw [← hw1]; clear hw1)
    | (refine wpList_load_row_w rfl 26 _ rfl w.heap.size rfl _ _ _ _ (Kx.out _ (by assumption)) Tryz.underlying26 rfl (size_Alg _ _) ?_)
    | (refine wpList_load_row_w rfl 26 _ rfl (w.heap.size + 1) rfl _ _ _ _ (Kx2.out _ (by assumption)) Tryz.underlying26 rfl (size_Alg _ _) ?_)
    | (go_at_call_of 30 (Value.agg #[.slice a L.length ca, .slice b T.length cb]); refine (ret_below (validAlgebra_any _ _ _ _ L T _ (KR.out _ z1) (KT.out _ z1)) HA.out).mono ?_; rintro e w2 ⟨rfl, h2⟩; have z2 : Below w1.heap.size w1 w2 := h2; obtain ⟨c0, c1⟩ := bx_cells (Kx.out _ z2); obtain ⟨d0, d1⟩ := bx_cells (Kx2.out _ z2); clear h2)
    | (go_at_call 30; refine (ret_below (validAlgebra_any _ _ _ _ M U _ (KR2.out _ z2) (KT2.out _ z2)) HA2.out).mono ?_; rintro e w3 ⟨rfl, h3⟩; have z3 : Below w1.heap.size w1 w3 := z2.trans (h3.mono z2.size); clear h3 c0 c1 d0 d1; obtain ⟨c0, c1⟩ := bx_cells (Kx.out _ z3); obtain ⟨d0, d1⟩ := bx_cells (Kx2.out _ z3))
    | (refine wpList_store_row rfl 26 _ _ rfl (w.heap.size + 1 + 1) #[.slice none 0 0, .slice none 0 0] rfl rfl _ _ (Kz.out _ z3) (size_Alg _ _) rfl (one_sl2 _ _ _ _ _ _) ?_))
  refine bodyPost_ret (v := .tuple #[.agg #[.slice none 0 0, .slice none 0 0], .bool false]) (results_Alg_tmp rfl _ _ (w.heap.size + 1 + 1) rfl _ _ (setRow_heap _ _ _ _ _ _ (Kz.out _ z3)) rfl) rfl ?_
  rw [HV.out, (st_no HV.out).1, (st_no HV.out).2]
  exact ⟨_, _, _, _, _, _, rfl, OA.zero _ _, below_setRow' (hB.trans (z3.mono hB.size)) (by omega) _⟩
set_option maxRecDepth 100000 in
set_option maxHeartbeats 4000000 in
theorem specStack_yes (a b : Option Addr) (ca cb : Nat) (L : List Int) (T : List (List Int)) (a2 b2 : Option Addr) (ca2 cb2 : Nat) (M : List Int) (U : List (List Int)) (w : World) (hr : Rd w a L) (hT : RdT w b T) (hr2 : Rd w a2 M) (hT2 : RdT w b2 U) (h : algB L T = true) (h2 : algB M U = true) (h3 : ((L.length : Int) - 1 + M.length) ≤ 6) : Calls Tryz.prog 77 #[.agg #[.slice a L.length ca, .slice b T.length cb], .agg #[.slice a2 M.length ca2, .slice b2 U.length cb2]] w (RetSAb (stL L T M U) (stT L T M U) (stOk L T M U) w) := by
  obtain ⟨w1, hw1⟩ : ∃ w1, w1 = ((w.alloc (.cells #[.slice a L.length ca, .slice b T.length cb] 26)).alloc (.cells #[.slice a2 M.length ca2, .slice b2 U.length cb2] 26)).alloc (.cells #[.slice none 0 0, .slice none 0 0] 26) := ⟨_, rfl⟩
  have hB : Below w.heap.size w w1 := by rw [hw1]; exact (((Below.refl _ _).alloc (Nat.le_refl _) _).alloc (by simp) _).alloc (by simp; omega) _
  have hx : w1.heap[w.heap.size]? = some (.cells #[.slice a L.length ca, .slice b T.length cb] 26 (0, 0)) := by
    rw [hw1, Below.heap_alloc _ _ _ (by simp; omega), Below.heap_alloc _ _ _ (by simp)]; exact heap_alloc_new w _
  have hx2 : w1.heap[w.heap.size + 1]? = some (.cells #[.slice a2 M.length ca2, .slice b2 U.length cb2] 26 (0, 0)) := by
    rw [hw1, Below.heap_alloc _ _ _ (by simp)]; exact heap_alloc2_new _ _ _
  have hz : w1.heap[w.heap.size + 1 + 1]? = some (.cells #[.slice none 0 0, .slice none 0 0] 26 (0, 0)) := by
    have := heap_alloc_new ((w.alloc (.cells #[.slice a L.length ca, .slice b T.length cb] 26)).alloc (.cells #[.slice a2 M.length ca2, .slice b2 U.length cb2] 26)) (.cells #[.slice none 0 0, .slice none 0 0] 26)
    rw [hw1]; simpa using this
  have Kx := Lib.hid (show ∀ wz, Below w1.heap.size w1 wz → wz.heap[w.heap.size]? = some (.cells #[.slice a L.length ca, .slice b T.length cb] 26 (0, 0)) from fun wz h => (h.block _ (lt_of_block hx)).trans hx)
  have Kx2 := Lib.hid (show ∀ wz, Below w1.heap.size w1 wz → wz.heap[w.heap.size + 1]? = some (.cells #[.slice a2 M.length ca2, .slice b2 U.length cb2] 26 (0, 0)) from fun wz h => (h.block _ (lt_of_block hx2)).trans hx2)
  have Kz := Lib.hid (show ∀ wz, Below w1.heap.size w1 wz → wz.heap[w.heap.size + 1 + 1]? = some (.cells #[.slice none 0 0, .slice none 0 0] 26 (0, 0)) from fun wz h => (h.block _ (lt_of_block hz)).trans hz)
  have KR := Lib.hid (show ∀ wz, Below w1.heap.size w1 wz → Rd wz a L from fun wz h => (hr.below hB).below h)
  have KT := Lib.hid (show ∀ wz, Below w1.heap.size w1 wz → RdT wz b T from fun wz h => (hT.below hB).below h)
  have KR2 := Lib.hid (show ∀ wz, Below w1.heap.size w1 wz → Rd wz a2 M from fun wz h => (hr2.below hB).below h)
  have KT2 := Lib.hid (show ∀ wz, Below w1.heap.size w1 wz → RdT wz b2 U from fun wz h => (hT2.below hB).below h)
  have hsz : w.heap.size + 1 + 1 < w1.heap.size := lt_of_block hz
  have z1 : Below w1.heap.size w1 w1 := Below.refl _ _
  clear hx hx2 hz hr hT hr2 hT2
  have HA := Lib.hid h
  have HA2 := Lib.hid h2
  obtain ⟨l1, l6⟩ := lat_len (alg_lat h)
  obtain ⟨k1, k6⟩ := lat_len (alg_lat h2)
  have n6 : (L.length : Int) ≤ 6 := l6
  have m6 : (M.length : Int) ≤ 6 := k6
  have n1 : 1 ≤ (L.length : Int) := l1
  have m1 : 1 ≤ (M.length : Int) := k1
  clear l1 l6 k1 k6
  have HV := Lib.hid (st_yes h h2 h3)
  have H3 := Lib.hid h3
  have kd : decide ((6 : Int) < (L.length : Int) + M.length - 1) = false := decide_eq_false (by omega)
  clear h3
  clear h h2
  go_enter Tryz.func77, Tryz.ntmps77
  go_wp2_with (first
    | go_skip
    | (rw [← hw1]; clear hw1)
    | (refine wpList_load_row_w rfl 26 _ rfl w.heap.size rfl _ _ _ _ (Kx.out _ (by assumption)) Tryz.underlying26 rfl (size_Alg _ _) ?_)
    | (refine wpList_load_row_w rfl 26 _ rfl (w.heap.size + 1) rfl _ _ _ _ (Kx2.out _ (by assumption)) Tryz.underlying26 rfl (size_Alg _ _) ?_)
    | (go_at_call_of 30 (Value.agg #[.slice a L.length ca, .slice b T.length cb]); refine (ret_below (validAlgebra_any _ _ _ _ L T _ (KR.out _ z1) (KT.out _ z1)) HA.out).mono ?_; rintro e w2 ⟨rfl, h2⟩; have z2 : Below w1.heap.size w1 w2 := h2; obtain ⟨c0, c1⟩ := bx_cells (Kx.out _ z2); obtain ⟨d0, d1⟩ := bx_cells (Kx2.out _ z2); clear h2)
    | (go_at_call 30; refine (ret_below (validAlgebra_any _ _ _ _ M U _ (KR2.out _ z2) (KT2.out _ z2)) HA2.out).mono ?_; rintro e w3 ⟨rfl, h3⟩; have z3 : Below w1.heap.size w1 w3 := z2.trans (h3.mono z2.size); clear h3 c0 c1 d0 d1; obtain ⟨c0, c1⟩ := bx_cells (Kx.out _ z3); obtain ⟨d0, d1⟩ := bx_cells (Kx2.out _ z3))
    | (go_at_call 84; refine (specStackS_any a b ca cb L T a2 b2 ca2 cb2 M U _ (KR.out _ z3) (KT.out _ z3) (KR2.out _ z3) (KT2.out _ z3) HA.out HA2.out H3.out).mono ?_; rintro e w4 ⟨ra, rc, rb, rd, rfl, ho4, hr4, hb4⟩; have z4 : Below w1.heap.size w1 w4 := z3.trans (hb4.mono z3.size))
    | (refine wpList_store_row rfl 26 _ _ rfl (w.heap.size + 1 + 1) #[.slice ra (upL (stG L M ((L.length : Int) - 1)) ((L.length : Int) - 1 + M.length)).length rc, .slice rb (tabL (stP T U ((L.length : Int) - 1)) ((L.length : Int) - 1 + M.length)).length rd] rfl rfl _ _ (Kz.out _ z4) (size_Alg _ _) rfl (one_sl2 _ _ _ _ _ _) ?_))
  refine bodyPost_ret (v := .tuple #[.agg #[.slice ra (upL (stG L M ((L.length : Int) - 1)) ((L.length : Int) - 1 + M.length)).length rc, .slice rb (tabL (stP T U ((L.length : Int) - 1)) ((L.length : Int) - 1 + M.length)).length rd], .bool true]) (results_Alg_tmp rfl _ _ (w.heap.size + 1 + 1) rfl _ _ (setRow_heap _ _ _ _ _ _ (Kz.out _ z4)) rfl) rfl ?_
  rw [HV.out.1, HV.out.2.1, HV.out.2.2]
  have hk : ∀ k, k ≠ w.heap.size + 1 + 1 → (w4.setRow (w.heap.size + 1 + 1) #[.slice ra (upL (stG L M ((L.length : Int) - 1)) ((L.length : Int) - 1 + M.length)).length rc, .slice rb (tabL (stP T U ((L.length : Int) - 1)) ((L.length : Int) - 1 + M.length)).length rd]).heap[k]? = w4.heap[k]? := fun k hk => setRow_other w4 _ k _ hk
  exact ⟨_, _, _, _, _, _, rfl, oa_of (by have := hB.size; have := z3.size; omega) (ownsRow_other ho4 (Kz.out _ z4) (by decide) hk) (RowsAt.other hr4 (Kz.out _ z4) (by decide) (by decide) hk), below_setRow' (hB.trans (z4.mono hB.size)) (by omega) _⟩
/-- spec.StackAlgebras -/
theorem specStackAlgebras_any (a b : Option Addr) (ca cb : Nat) (L : List Int) (T : List (List Int)) (a2 b2 : Option Addr) (ca2 cb2 : Nat) (M : List Int) (U : List (List Int)) (w : World) (hr : Rd w a L) (hT : RdT w b T) (hr2 : Rd w a2 M) (hT2 : RdT w b2 U) : Calls Tryz.prog 77 #[.agg #[.slice a L.length ca, .slice b T.length cb], .agg #[.slice a2 M.length ca2, .slice b2 U.length cb2]] w (RetSAb (stL L T M U) (stT L T M U) (stOk L T M U) w) := by
  cases h : algB L T <;> cases h2 : algB M U
  · exact specStack_ff a b ca cb L T a2 b2 ca2 cb2 M U w hr hT hr2 hT2 h h2
  · exact specStack_ft a b ca cb L T a2 b2 ca2 cb2 M U w hr hT hr2 hT2 h h2
  · exact specStack_tf a b ca cb L T a2 b2 ca2 cb2 M U w hr hT hr2 hT2 h h2
  · by_cases h3 : ((L.length : Int) - 1 + M.length) ≤ 6
    · exact specStack_yes a b ca cb L T a2 b2 ca2 cb2 M U w hr hT hr2 hT2 h h2 h3
    · exact specStack_big a b ca cb L T a2 b2 ca2 cb2 M U w hr hT hr2 hT2 h h2 h3
end Go.Proofs.YtpophjloedpcfaaGreatDoor
