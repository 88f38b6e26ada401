import Derived.Test.YtbellklaoecpbaaG3
import Derived.Test.YtbellklaoecpbaaH9
import Derived.Test.YtbellklaoecpbaaD3
import Derived.Test.YtbellklaoecpbaaA5
namespace Go.Proofs.Ytbellklaoecpbaa
open Go.RowKit

theorem validAlgebra_any (a b : Option Addr) (ca cb : Nat) (L : List Int) (T : List (List Int)) (w : World) (hr : Rd w a L) (hT : RdT w b T) :
    Calls Try.prog 67 #[.agg #[.slice a L.length ca, .slice b T.length cb]] w fun e w' => e = .returned (.bool (algB L T)) ∧ Below w.heap.size w w' := by
  by_cases h : latB L = true ∧ T.length = L.length
  · have := validAlgebra_rows a b ca cb L T w hr hT h.1 h.2
    rwa [h.2]
  · have hf : algB L T = false := by
      cases hl : latB L with
      | false => exact algB_f0 hl
      | true => exact algB_f1 (shape_f_len (by intro e; refine h ⟨hl, ?_⟩; have : num L = L.length := rfl; omega))
    rw [hf]
    refine validAlgebra_len a b ca cb L T w hr ?_
    cases hl : latB L with
    | false => exact .inl rfl
    | true => exact .inr (fun e => h ⟨hl, by omega⟩)
/-- x and y are elements of the algebra -/
def algIn (L : List Int) (T : List (List Int)) (x y : Int) : Bool := algB L T && (decide (0 ≤ x) && decide (x ≤ L.length - 1)) && (decide (0 ≤ y) && decide (y ≤ L.length - 1))
theorem algIn_parts {L : List Int} {T : List (List Int)} {x y : Int} (h : algIn L T x y = true) : algB L T = true ∧ 0 ≤ x ∧ x < num L ∧ 0 ≤ y ∧ y < num L := by
  unfold algIn at h
  simp only [Bool.and_eq_true, decide_eq_true_eq] at h
  have : num L = L.length := rfl
  exact ⟨h.1.1, h.1.2.1, by omega, h.2.1, by omega⟩
set_option maxRecDepth 100000 in
set_option maxHeartbeats 1000000 in
/-- spec.ValidAlgebra -/
theorem specValidAlgebra_any (a b : Option Addr) (ca cb : Nat) (L : List Int) (T : List (List Int)) (w : World) (hr : Rd w a L) (hT : RdT w b T) :
    Calls Try.prog 17 #[.agg #[.slice a L.length ca, .slice b T.length cb]] w fun e w' => e = .returned (.bool (algB L T)) ∧ Below w.heap.size w w' := by
  obtain ⟨w1, hw1⟩ : ∃ w1, w1 = w.alloc (.cells #[.slice a L.length ca, .slice b T.length cb] 26) := ⟨_, rfl⟩
  have hB : Below w.heap.size w w1 := by rw [hw1]; exact (Below.refl _ _).alloc (Nat.le_refl _) _
  have hx : w1.heap[w.heap.size]? = some (.cells #[.slice a L.length ca, .slice b T.length cb] 26 (0, 0)) := by rw [hw1]; exact heap_alloc_new w _
  obtain ⟨c0, c1⟩ := bx_cells hx
  have Kx := Lib.hid (show ∀ wz, Below w1.heap.size w1 wz → wz.heap[w.heap.size]? = some (.cells #[.slice a L.length ca, .slice b T.length cb] 26 (0, 0)) from fun wz h => (h.block _ (lt_of_block hx)).trans hx)
  have KR := Lib.hid (show ∀ wz, Below w1.heap.size w1 wz → Rd wz a L from fun wz h => (hr.below hB).below h)
  have KT := Lib.hid (show ∀ wz, Below w1.heap.size w1 wz → RdT wz b T from fun wz h => (hT.below hB).below h)
  have z1 : Below w1.heap.size w1 w1 := Below.refl _ _
  clear hr hT hx
  go_enter Try.func17, Try.ntmps17
  go_wp2_with (first
    | (rw [← hw1]; clear hw1)
    | (refine wpList_load_row_w rfl 26 _ rfl w.heap.size rfl _ _ _ _ (Kx.out _ (by assumption)) Try.underlying26 rfl (size_Alg _ _) ?_)
    | (go_at_call 67; refine (validAlgebra_any _ _ _ _ L T _ (KR.out _ z1) (KT.out _ z1)).mono ?_; rintro e w2 ⟨rfl, h2⟩))
  go_ret
  exact ⟨rfl, hB.trans (h2.mono hB.size)⟩

set_option maxRecDepth 100000 in
set_option maxHeartbeats 1000000 in
/-- spec.has -/
theorem specHas_any (a b : Option Addr) (ca cb : Nat) (L : List Int) (T : List (List Int)) (x y : Int) (w : World) (hr : Rd w a L) (hT : RdT w b T) (hm : (L.length : Int) ≤ 9223372036854775807) :
    Calls Try.prog 72 #[.agg #[.slice a L.length ca, .slice b T.length cb], .int .i64 x, .int .i64 y] w fun e w' => e = .returned (.bool (algIn L T x y)) ∧ Below w.heap.size w w' := by
  obtain ⟨w1, hw1⟩ : ∃ w1, w1 = w.alloc (.cells #[.slice a L.length ca, .slice b T.length cb] 26) := ⟨_, rfl⟩
  have hB : Below w.heap.size w w1 := by rw [hw1]; exact (Below.refl _ _).alloc (Nat.le_refl _) _
  have hx : w1.heap[w.heap.size]? = some (.cells #[.slice a L.length ca, .slice b T.length cb] 26 (0, 0)) := by rw [hw1]; exact heap_alloc_new w _
  obtain ⟨c0, c1⟩ := bx_cells hx
  have Kx := Lib.hid (show ∀ wz, Below w1.heap.size w1 wz → wz.heap[w.heap.size]? = some (.cells #[.slice a L.length ca, .slice b T.length cb] 26 (0, 0)) from fun wz h => (h.block _ (lt_of_block hx)).trans hx)
  have KR := Lib.hid (show ∀ wz, Below w1.heap.size w1 wz → Rd wz a L from fun wz h => (hr.below hB).below h)
  have KT := Lib.hid (show ∀ wz, Below w1.heap.size w1 wz → RdT wz b T from fun wz h => (hT.below hB).below h)
  have z1 : Below w1.heap.size w1 w1 := Below.refl _ _
  clear hr hT hx
  have hv := Lib.hid (show algIn L T x y = (algB L T && (decide (0 ≤ x) && decide (x ≤ (L.length : Int) - 1)) && (decide (0 ≤ y) && decide (y ≤ (L.length : Int) - 1))) from rfl)
  have k1 : IntKind.i64.wrap ((L.length : Int) - 1) = L.length - 1 := IntWalk.i64_in _ (by omega)
  cases hA : algB L T <;> cases hX : (decide (0 ≤ x) && decide (x ≤ (L.length : Int) - 1)) <;> cases hY : (decide (0 ≤ y) && decide (y ≤ (L.length : Int) - 1))
  all_goals
    rw [hA, hX, hY] at hv
    have HA := Lib.hid hA
    have HX := Lib.hid hX
    have HY := Lib.hid hY
    clear hA hX hY
    go_enter Try.func72, Try.ntmps72
    go_wp2_with (first
    | go_skip
    | (rw [← hw1]; clear hw1)
    | (refine wpList_load_row_w rfl 26 _ rfl w.heap.size rfl _ _ _ _ (Kx.out _ (by assumption)) Try.underlying26 rfl (size_Alg _ _) ?_)
    | (go_at_call 67; refine (validAlgebra_any _ _ _ _ L T _ (KR.out _ z1) (KT.out _ z1)).mono ?_; rw [HA.out]; rintro e w2 ⟨rfl, h2⟩; have z2 : Below w1.heap.size w1 w2 := h2; obtain ⟨e0, e1⟩ := bx_cells (Kx.out _ z2))
    | (go_at_call_of 79 (Value.int .i64 x); refine (inRange_any _ _ _ _).mono ?_; rw [HX.out]; rintro e w' ⟨rfl, rfl⟩)
    | (go_at_call_of 79 (Value.int .i64 y); refine (inRange_any _ _ _ _).mono ?_; rw [HY.out]; rintro e w' ⟨rfl, rfl⟩))
    go_ret
    exact ⟨ret_bool (by rw [hv.out]; rfl), hB.trans (z2.mono hB.size)⟩

set_option maxRecDepth 100000 in
set_option maxHeartbeats 2000000 in
/-- spec.imply -/
theorem imply_any (a b : Option Addr) (ca cb : Nat) (L : List Int) (T : List (List Int)) (x y : Int) (w : World) (hr : Rd w a L) (hT : RdT w b T) (h : algB L T = true) (x0 : 0 ≤ x) (x1 : x < num L) (y0 : 0 ≤ y) (y1 : y < num L) :
    Calls Try.prog 73 #[.agg #[.slice a L.length ca, .slice b T.length cb], .int .i64 x, .int .i64 y] w fun e w' => e = .returned (.int .i64 (imp L T x y)) ∧ Below w.heap.size w w' := by
  obtain ⟨hlat, hsh, _⟩ := algB_parts h
  obtain ⟨n1, n6, hs⟩ := latB_parts hlat
  have hn : num L = L.length := rfl
  have hlt := shape_len hsh
  obtain ⟨w1, hw1⟩ : ∃ w1, w1 = w.alloc (.cells #[.slice a L.length ca, .slice b T.length cb] 26) := ⟨_, rfl⟩
  have hB : Below w.heap.size w w1 := by rw [hw1]; exact (Below.refl _ _).alloc (Nat.le_refl _) _
  have hx : w1.heap[w.heap.size]? = some (.cells #[.slice a L.length ca, .slice b T.length cb] 26 (0, 0)) := by rw [hw1]; exact heap_alloc_new w _
  obtain ⟨c0, c1⟩ := bx_cells hx
  have Kx := Lib.hid (show ∀ wz, Below w1.heap.size w1 wz → wz.heap[w.heap.size]? = some (.cells #[.slice a L.length ca, .slice b T.length cb] 26 (0, 0)) from fun wz h => (h.block _ (lt_of_block hx)).trans hx)
  have KR := Lib.hid (show ∀ wz, Below w1.heap.size w1 wz → Rd wz a L from fun wz h => (hr.below hB).below h)
  have KT := Lib.hid (show ∀ wz, Below w1.heap.size w1 wz → RdT wz b T from fun wz h => (hT.below hB).below h)
  have z1 : Below w1.heap.size w1 w1 := Below.refl _ _
  clear hr hT hx
  obtain ⟨ab, ao, rfl, hcl⟩ := (KR.out _ z1).pos n1
  obtain ⟨B, off, rfl, rb, ro, rc, htab⟩ := tab_of (KT.out _ z1) hsh n1
  have HCL := Lib.hid hcl
  have HTAB := Lib.hid htab
  have HS := Lib.hid hsh
  have HL := Lib.hid hlat
  have HN := Lib.hid hn
  have hxt : x < T.length := by omega
  have hn1 : num L ≤ L.length := by omega
  have hn2 : (L.length : Int) ≤ num L := by omega
  have y30 : y ≤ 30 := by omega
  clear hcl htab hsh hlat hn KR KT Kx hlt h
  go_enter Try.func73, Try.ntmps73
  go_wp2_with (rw [← hw1]; clear hw1)
  go_loopw [7, 8] (fun o c wr => ∃ z : Int, 0 ≤ z ∧ z ≤ num L ∧ c = .int .i64 z ∧ o = .int .i64 (impTo L T x y z) ∧ Dr w1 wr) (fun _ c _ => (6 - intOf c).toNat)
  case atStart => exact ⟨0, by omega, by omega, rfl, rfl, Dr.refl _⟩
  case round =>
    obtain ⟨z, z0, zn, rfl, rfl, hd⟩ := hrel
    have e0 := hd.cell c0
    have e1 := hd.cell c1
    have hcl := hd.cells HCL.out
    by_cases hz : z < num L
    · have hzl : z < L.length := by omega
      obtain ⟨t0, t1⟩ := shape_cell HS.out x0 x1 z0 hz
      obtain ⟨i0, i1⟩ := impTo_lt T x y HL.out z0 (by omega : z ≤ num L)
      have dx := hd.cell (HTAB.out.row x0 x1)
      have exz := hd.cell (HTAB.out.cell x0 x1 z0 hz)
      cases hb : bl L (tv T x z) y with
      | false =>
        have hsk := Lib.hid (impTo_f (L := L) (T := T) (x := x) (y := y) z0 hb)
        have HB := Lib.hid hb; clear hb
        go_wp2
        go_quiet (first | (go_at_call 120; exact q_same (below_is _ _ _ L _ _ _ (Cells.drewN hcl _) hs t0 t1 y0 y30 HB.out)))
        go_wp2
        go_roundw
        case rel => exact ⟨z + 1, by omega, by omega, rfl, by rw [hsk.out], hd.more _⟩
        case measure => simp [intOf]; omega
      | true =>
        have hsu := Lib.hid (impTo_t (L := L) (T := T) (x := x) (y := y) z0 hb)
        have HB := Lib.hid hb; clear hb
        go_wp2
        go_quiet (first | (go_at_call 120; exact q_same (below_is _ _ _ L _ _ _ (Cells.drewN hcl _) hs t0 t1 y0 y30 HB.out)))
        go_wp2_with (go_at_call 89; refine (join_any _ _ _ L _ _ _ (Cells.drewN hcl _) hs i0 i1 z0 hz).mono ?_; rintro e w' ⟨rfl, rfl⟩)
        go_roundw
        case rel => exact ⟨z + 1, by omega, by omega, rfl, by rw [hsu.out], hd.more _⟩
        case measure => simp [intOf]; omega
    · have ht := Lib.hid (show imp L T x y = impTo L T x y z by unfold imp; rw [show num L = z by omega])
      go_wp2
      go_ret
      exact ⟨ret_int (by rw [ht.out]), hB.trans (hd.below _)⟩

set_option maxRecDepth 100000 in
set_option maxHeartbeats 2000000 in
/-- spec.pow -/
theorem pow_any (a b : Option Addr) (ca cb : Nat) (L : List Int) (T : List (List Int)) (x k : Int) (w : World) (hr : Rd w a L) (hT : RdT w b T) (h : algB L T = true) (x0 : 0 ≤ x) (x1 : x < num L) (k0 : 0 ≤ k) (k1 : k ≤ 64) :
    Calls Try.prog 80 #[.agg #[.slice a L.length ca, .slice b T.length cb], .int .i64 x, .int .i64 k] w fun e w' => e = .returned (.int .i64 (powr L T x k)) ∧ Below w.heap.size w w' := by
  obtain ⟨hlat, hsh, _⟩ := algB_parts h
  obtain ⟨n1, n6, hs⟩ := latB_parts hlat
  have hn : num L = L.length := rfl
  have hlt := shape_len hsh
  obtain ⟨w1, hw1⟩ : ∃ w1, w1 = w.alloc (.cells #[.slice a L.length ca, .slice b T.length cb] 26) := ⟨_, rfl⟩
  have hB : Below w.heap.size w w1 := by rw [hw1]; exact (Below.refl _ _).alloc (Nat.le_refl _) _
  have hx : w1.heap[w.heap.size]? = some (.cells #[.slice a L.length ca, .slice b T.length cb] 26 (0, 0)) := by rw [hw1]; exact heap_alloc_new w _
  obtain ⟨c0, c1⟩ := bx_cells hx
  have Kx := Lib.hid (show ∀ wz, Below w1.heap.size w1 wz → wz.heap[w.heap.size]? = some (.cells #[.slice a L.length ca, .slice b T.length cb] 26 (0, 0)) from fun wz h => (h.block _ (lt_of_block hx)).trans hx)
  have KR := Lib.hid (show ∀ wz, Below w1.heap.size w1 wz → Rd wz a L from fun wz h => (hr.below hB).below h)
  have KT := Lib.hid (show ∀ wz, Below w1.heap.size w1 wz → RdT wz b T from fun wz h => (hT.below hB).below h)
  have z1 : Below w1.heap.size w1 w1 := Below.refl _ _
  clear hr hT hx
  obtain ⟨B, off, rfl, rb, ro, rc, htab⟩ := tab_of (KT.out _ z1) hsh n1
  have HTAB := Lib.hid htab
  have HS := Lib.hid hsh
  have HL := Lib.hid hlat
  have HN := Lib.hid hn
  have hn1 : num L ≤ L.length := by omega
  have hn2 : (L.length : Int) ≤ num L := by omega
  have hn3 : num L ≤ T.length := by omega
  have k2 : IntKind.i64.wrap ((L.length : Int) - 1) = L.length - 1 := IntWalk.i64_in _ (by omega)
  clear htab hsh hlat hn KR KT Kx hlt h
  go_enter Try.func80, Try.ntmps80
  go_wp2_with (rw [← hw1]; clear hw1)
  clear k2
  go_loopw [2, 7] (fun c o wr => ∃ m : Int, 0 ≤ m ∧ m ≤ k ∧ c = .int .i64 m ∧ o = .int .i64 (powr L T x (k - m)) ∧ w1 = wr) (fun c _ _ => (intOf c).toNat)
  case atStart => exact ⟨k, by omega, by omega, rfl, by rw [Int.sub_self, powr_zero, HN.out], rfl⟩
  case round =>
    obtain ⟨m, m0, m1, rfl, rfl, rfl⟩ := hrel
    obtain ⟨p0, p1⟩ := powr_lt HL.out HS.out x0 x1 (k - m)
    by_cases hm : 0 < m
    · have dp := HTAB.out.row p0 p1
      have epx := HTAB.out.cell p0 p1 x0 x1
      have p2 : powr L T x (k - m) < T.length := by omega
      have x2 : x < L.length := by omega
      have hsu := Lib.hid (show powr L T x (k - (m - 1)) = tv T (powr L T x (k - m)) x by rw [show k - (m - 1) = (k - m) + 1 by omega, powr_succ _ _ _ (by omega)])
      go_wp2
      go_roundw
      case rel => exact ⟨m - 1, by omega, by omega, rfl, by rw [hsu.out], trivial⟩
      case measure => simp [intOf]; omega
    · have e : m = 0 := by omega
      subst e
      go_wp2
      go_ret
      exact ⟨ret_int (by simp), hB⟩

end Go.Proofs.Ytbellklaoecpbaa
