import Derived.Test.YtpophjloedpcfaaGreatDoorH10
import Derived.Test.YtpophjloedpcfaaGreatDoorM5
import Derived.Test.YtpophjloedpcfaaGreatDoorK1
import Derived.Test.YtpophjloedpcfaaGreatDoorG9
import Derived.RangeFuncNested
import Derived.RangeFuncBound
import Derived.RangeFuncCalls
import Derived.RangeFuncBox
import Derived.RangeFuncLeaves
import Derived.Shelf.Abstract
import Derived.OwnWalkIn
import Derived.TacticsInMore
import Derived.LoopNIn
import Derived.LoopIn
import Derived.Maps.AppendAt
namespace Go.Proofs.YtpophjloedpcfaaGreatDoor
open Go.RowKit

theorem ib_t {f x : Int} (h : ib f x = true) : bt f x = 1 := by unfold ib at h; exact beq_iff_eq.1 h
theorem ib_f {f x : Int} (h : ib f x = false) : bt f x = 0 := by
  have := bt_range f x
  have h2 : bt f x ≠ 1 := fun e => by unfold ib at h; rw [e] at h; cases h
  omega
theorem bit_is (v y : Int) (w : World) (hv : 0 ≤ v) (hv2 : v ≤ 63) (hy0 : 0 ≤ y) (hy : y ≤ 30) {r : Int} (h : bt v y = r) :
    Calls Tryz.prog 131 #[.int .i64 v, .int .i64 y] w fun e w' => e = .returned (.int .i64 r) ∧ w = w' := by
  subst h; exact bit_any v y w hv hv2 hy0 hy
theorem inRange_is (n a b : Int) (w : World) {r : Bool} (h : (decide (a ≤ n) && decide (n ≤ b)) = r) :
    Calls Tryz.prog 65 #[.int .i64 n, .int .i64 a, .int .i64 b] w fun e w' => e = .returned (.bool r) ∧ w = w' := by
  subst h; exact inRange_any n a b w

set_option maxRecDepth 100000 in
set_option maxHeartbeats 4000000 in
/-- spec.isFilter -/
theorem specIsFil_any (a b : Option Addr) (ca cb : Nat) (L : List Int) (T : List (List Int)) (f : Int) (w : World) (hr : Rd w a L) (hT : RdT w b T) (h : algB L T = true) :
    Calls Tryz.prog 162 #[.agg #[.slice a L.length ca, .slice b T.length cb], .int .i64 f] w fun e w' => e = .returned (.bool (isFilB L T f)) ∧ Below w.heap.size w w' := by
  obtain ⟨hlat, hsh, _⟩ := algB_parts h
  obtain ⟨n1, n6, hs⟩ := latB_parts hlat
  have hn : num L = L.length := rfl
  have hlt := shape_len hsh
  obtain ⟨w1, hw1⟩ : ∃ w1, w1 = w.alloc (.cells #[.slice a L.length ca, .slice b T.length cb] 26) := ⟨_, rfl⟩
  have hB : Below w.heap.size w w1 := by rw [hw1]; exact (Below.refl _ _).alloc (Nat.le_refl _) _
  have hx : w1.heap[w.heap.size]? = some (.cells #[.slice a L.length ca, .slice b T.length cb] 26 (0, 0)) := by rw [hw1]; exact heap_alloc_new w _
  obtain ⟨c0, c1⟩ := bx_cells hx
  have Kx := Lib.hid (show ∀ wz, Below w1.heap.size w1 wz → wz.heap[w.heap.size]? = some (.cells #[.slice a L.length ca, .slice b T.length cb] 26 (0, 0)) from fun wz h => (h.block _ (lt_of_block hx)).trans hx)
  have KR := Lib.hid (show ∀ wz, Below w1.heap.size w1 wz → Rd wz a L from fun wz h => (hr.below hB).below h)
  have KT := Lib.hid (show ∀ wz, Below w1.heap.size w1 wz → RdT wz b T from fun wz h => (hT.below hB).below h)
  have z1 : Below w1.heap.size w1 w1 := Below.refl _ _
  clear hr hT hx
  obtain ⟨B, off, rfl, rb, ro, rc, htab⟩ := tab_of (KT.out _ z1) hsh n1
  obtain ⟨ab, ao, rfl, hcl⟩ := (KR.out _ z1).pos n1
  have HCL := Lib.hid hcl
  have HTAB := Lib.hid htab
  have HSH := Lib.hid hsh
  have HN := Lib.hid hn
  have hn1 : num L ≤ L.length := by omega
  have hn2 : (L.length : Int) ≤ num L := by omega
  have hn3 : num L ≤ T.length := by omega
  have l1 : (1 : Int) ≤ L.length := by omega
  have l6 : (L.length : Int) ≤ 6 := by omega
  obtain ⟨p1, p64⟩ := pw_6 n6
  have pe : pw (L.length : Int) = pw (num L) := by rw [hn]
  have hv := Lib.hid (show isFilB L T f = (setB L f && filB L T f) from rfl)
  have hset := Lib.hid (show (decide (0 ≤ f) && decide (f ≤ pw (L.length : Int) - 1)) = setB L f from rfl)
  have hfil := Lib.hid (show filB L T f = (ib f ((L.length : Int) - 1) && all2 (num L) (filXY L T f)) from rfl)
  have k1 : IntKind.i64.wrap (pw (L.length : Int) - 1) = pw (L.length : Int) - 1 := IntWalk.i64_in _ (by omega)
  have k2 : IntKind.i64.wrap ((L.length : Int) - 1) = (L.length : Int) - 1 := IntWalk.i64_in _ (by omega)
  clear hcl htab hsh hlat hn hlt h KR KT Kx
  cases hS : setB L f with
  | false =>
    rw [hS] at hset
    have hv2 := Lib.hid (show isFilB L T f = false by rw [hv.out, hS]; rfl)
    go_enter Tryz.func162, Tryz.ntmps162
    go_wp2_with (first
      | go_skip
      | (rw [← hw1]; clear hw1)
      | (go_at_call 49; refine (power_any _ _ (by omega) (by omega)).mono ?_; rintro e w2 ⟨rfl, rfl⟩)
      | (go_at_call 65; refine (inRange_is f 0 _ _ hset.out).mono ?_; rintro e w3 ⟨rfl, rfl⟩))
    go_ret
    exact ⟨ret_bool (by rw [hv2.out]), hB⟩
  | true =>
    rw [hS] at hset
    obtain ⟨f0, f1⟩ : 0 ≤ f ∧ f ≤ pw (num L) - 1 := by unfold setB at hS; rwa [Bool.and_eq_true, decide_eq_true_eq, decide_eq_true_eq] at hS
    cases hG : ib f ((L.length : Int) - 1) with
    | false =>
      have hv2 := Lib.hid (show isFilB L T f = false by rw [hv.out, hS, hfil.out, hG]; rfl)
      have hG2 := Lib.hid (ib_f hG)
      clear hG
      go_enter Tryz.func162, Tryz.ntmps162
      go_wp2_with (first
        | go_skip
        | (rw [← hw1]; clear hw1)
        | (go_at_call 49; refine (power_any _ _ (by omega) (by omega)).mono ?_; rintro e w2 ⟨rfl, rfl⟩)
        | (go_at_call 65; refine (inRange_is f 0 _ _ hset.out).mono ?_; rintro e w3 ⟨rfl, rfl⟩)
        | (go_at_call 131; refine (bit_is f _ _ (by omega) (by omega) (by omega) (by omega) hG2.out).mono ?_; rintro e w4 ⟨rfl, rfl⟩))
      go_ret
      exact ⟨ret_bool (by rw [hv2.out]), hB⟩
    | true =>
      have hv2 := Lib.hid (show isFilB L T f = all2 (num L) (filXY L T f) by rw [hv.out, hS, hfil.out, hG]; rfl)
      have hG2 := Lib.hid (ib_t hG)
      clear hG
      go_enter Tryz.func162, Tryz.ntmps162
      go_wp2_with (first
        | go_skip
        | (rw [← hw1]; clear hw1)
        | (go_at_call 49; refine (power_any _ _ (by omega) (by omega)).mono ?_; rintro e w2 ⟨rfl, rfl⟩)
        | (go_at_call 65; refine (inRange_is f 0 _ _ hset.out).mono ?_; rintro e w3 ⟨rfl, rfl⟩)
        | (go_at_call 131; refine (bit_is f _ _ (by omega) (by omega) (by omega) (by omega) hG2.out).mono ?_; rintro e w4 ⟨rfl, rfl⟩))
      go_loopw [6, 7] (fun c _ wr => ∃ x : Int, 0 ≤ x ∧ x ≤ num L ∧ c = .int .i64 x ∧ AllTo x (fun x => allI (num L) (filXY L T f x)) ∧ w1 = wr) (fun c _ _ => (6 - intOf c).toNat)
      case atStart => exact ⟨0, by omega, by omega, rfl, AllTo.zero _, rfl⟩
      case round =>
        obtain ⟨x, x0, x1, rfl, hx, rfl⟩ := hrel
        by_cases hxn : x < num L
        · have hxl : x < L.length := by omega
          have hxt : x < T.length := by omega
          go_wp2
          go_loopw [7] (fun c wr => ∃ y : Int, 0 ≤ y ∧ y ≤ num L ∧ c = .int .i64 y ∧ AllTo y (filXY L T f x) ∧ w1 = wr) (fun c _ => (6 - intOf c).toNat)
          case atStart => exact ⟨0, by omega, by omega, rfl, AllTo.zero _, rfl⟩
          case round =>
            obtain ⟨y, y0, y1, rfl, hy, rfl⟩ := hrel
            by_cases hyn : y < num L
            · have hyl : y < L.length := by omega
              obtain ⟨t0, t1⟩ := shape_cell HSH.out x0 hxn y0 hyn
              have d0 := HTAB.out.row x0 hxn
              have d1 := HTAB.out.cell x0 hxn y0 hyn
              have hq := Lib.hid (show filXY L T f x y = (!ib f x || (if ib f y then ib f (tv T x y) else !bl L x y)) from rfl)
              cases hX : ib f x with
              | false =>
                rw [hX] at hq
                have HX := Lib.hid (ib_f hX)
                replace hq := Lib.hid (show filXY L T f x y = true by rw [hq.out]; rfl)
                clear hX
                go_wp2_with (first
                    | go_skip
                    | (go_at_call_of 131 (Value.int .i64 (x : Int)); refine (bit_is f (x) _ (by omega) (by omega) (by omega) (by omega) HX.out).mono ?_; rintro e w4 ⟨rfl, rfl⟩))
                go_roundw
                case rel => exact ⟨y + 1, by omega, by omega, rfl, hy.succ hq.out, by trivial⟩
                case measure => simp [intOf]; omega
              | true =>
                rw [hX] at hq
                have HX := Lib.hid (ib_t hX)
                clear hX
                cases hY : ib f y with
                | false =>
                  rw [hY] at hq
                  have HY := Lib.hid (ib_f hY)
                  clear hY
                  cases hL : bl L x y with
                  | true =>
                    rw [hL] at hq
                    have HL := Lib.hid hL
                    replace hq := Lib.hid (show filXY L T f x y = false by rw [hq.out]; rfl)
                    have hno := Lib.hid (show all2 (num L) (filXY L T f) = false from allI_false (p := fun x => allI (num L) (filXY L T f x)) x x0 hxn (allI_false y y0 hyn hq.out))
                    clear hL
                    go_wp2_with (first
                        | go_skip
                        | (go_at_call_of 131 (Value.int .i64 (x : Int)); refine (bit_is f (x) _ (by omega) (by omega) (by omega) (by omega) HX.out).mono ?_; rintro e w4 ⟨rfl, rfl⟩)
                        | (go_at_call_of 131 (Value.int .i64 (y : Int)); refine (bit_is f (y) _ (by omega) (by omega) (by omega) (by omega) HY.out).mono ?_; rintro e w5 ⟨rfl, rfl⟩)
                        | (go_at_call 98; refine (below_is _ _ _ L x y _ HCL.out hs x0 hxn y0 (by omega) HL.out).mono ?_; rintro e w7 ⟨rfl, rfl⟩))
                    go_ret
                    exact ⟨ret_bool (by rw [hv2.out, hno.out]), hB⟩
                  | false =>
                    rw [hL] at hq
                    have HL := Lib.hid hL
                    replace hq := Lib.hid (show filXY L T f x y = true by rw [hq.out]; rfl)
                    clear hL
                    go_wp2_with (first
                        | go_skip
                        | (go_at_call_of 131 (Value.int .i64 (x : Int)); refine (bit_is f (x) _ (by omega) (by omega) (by omega) (by omega) HX.out).mono ?_; rintro e w4 ⟨rfl, rfl⟩)
                        | (go_at_call_of 131 (Value.int .i64 (y : Int)); refine (bit_is f (y) _ (by omega) (by omega) (by omega) (by omega) HY.out).mono ?_; rintro e w5 ⟨rfl, rfl⟩)
                        | (go_at_call 98; refine (below_is _ _ _ L x y _ HCL.out hs x0 hxn y0 (by omega) HL.out).mono ?_; rintro e w7 ⟨rfl, rfl⟩))
                    go_roundw
                    case rel => exact ⟨y + 1, by omega, by omega, rfl, hy.succ hq.out, by trivial⟩
                    case measure => simp [intOf]; omega
                | true =>
                  rw [hY] at hq
                  have HY := Lib.hid (ib_t hY)
                  clear hY
                  cases hZ : ib f (tv T x y) with
                  | true =>
                    rw [hZ] at hq
                    have HZ := Lib.hid (ib_t hZ)
                    replace hq := Lib.hid (show filXY L T f x y = true by rw [hq.out]; rfl)
                    clear hZ
                    cases hL : bl L x y
                    all_goals
                      have HL := Lib.hid hL
                      clear hL
                      go_wp2_with (first
                          | go_skip
                          | (go_at_call_of 131 (Value.int .i64 (x : Int)); refine (bit_is f (x) _ (by omega) (by omega) (by omega) (by omega) HX.out).mono ?_; rintro e w4 ⟨rfl, rfl⟩)
                          | (go_at_call_of 131 (Value.int .i64 (y : Int)); refine (bit_is f (y) _ (by omega) (by omega) (by omega) (by omega) HY.out).mono ?_; rintro e w5 ⟨rfl, rfl⟩)
                          | (go_at_call_of 131 (Value.int .i64 (tv T x y : Int)); refine (bit_is f (tv T x y) _ (by omega) (by omega) (by omega) (by omega) HZ.out).mono ?_; rintro e w6 ⟨rfl, rfl⟩)
                          | (go_at_call 98; refine (below_is _ _ _ L x y _ HCL.out hs x0 hxn y0 (by omega) HL.out).mono ?_; rintro e w7 ⟨rfl, rfl⟩))
                      go_roundw
                      case rel => exact ⟨y + 1, by omega, by omega, rfl, hy.succ hq.out, by trivial⟩
                      case measure => simp [intOf]; omega
                  | false =>
                    rw [hZ] at hq
                    have HZ := Lib.hid (ib_f hZ)
                    replace hq := Lib.hid (show filXY L T f x y = false by rw [hq.out]; rfl)
                    have hno := Lib.hid (show all2 (num L) (filXY L T f) = false from allI_false (p := fun x => allI (num L) (filXY L T f x)) x x0 hxn (allI_false y y0 hyn hq.out))
                    clear hZ
                    cases hL : bl L x y
                    all_goals
                      have HL := Lib.hid hL
                      clear hL
                      go_wp2_with (first
                          | go_skip
                          | (go_at_call_of 131 (Value.int .i64 (x : Int)); refine (bit_is f (x) _ (by omega) (by omega) (by omega) (by omega) HX.out).mono ?_; rintro e w4 ⟨rfl, rfl⟩)
                          | (go_at_call_of 131 (Value.int .i64 (y : Int)); refine (bit_is f (y) _ (by omega) (by omega) (by omega) (by omega) HY.out).mono ?_; rintro e w5 ⟨rfl, rfl⟩)
                          | (go_at_call_of 131 (Value.int .i64 (tv T x y : Int)); refine (bit_is f (tv T x y) _ (by omega) (by omega) (by omega) (by omega) HZ.out).mono ?_; rintro e w6 ⟨rfl, rfl⟩)
                          | (go_at_call 98; refine (below_is _ _ _ L x y _ HCL.out hs x0 hxn y0 (by omega) HL.out).mono ?_; rintro e w7 ⟨rfl, rfl⟩))
                      go_ret
                      exact ⟨ret_bool (by rw [hv2.out, hno.out]), hB⟩
            · have hall := Lib.hid (hy.all (by omega : num L ≤ y))
              go_wp2
              go_roundw
              case rel => exact ⟨x + 1, by omega, by omega, rfl, hx.succ hall.out, by trivial⟩
              case measure => simp [intOf]; omega
        · have hall := Lib.hid (show all2 (num L) (filXY L T f) = true from hx.all (by omega : num L ≤ x))
          go_wp2
          go_ret
          exact ⟨ret_bool (by rw [hv2.out, hall.out]), hB⟩
end Go.Proofs.YtpophjloedpcfaaGreatDoor

namespace Go.Proofs.YtpophjloedpcfaaGreatDoor
open Go.RowKit

theorem take_next (V : List Int) {i : Int} (i0 : 0 ≤ i) (h : i < V.length) : V.take (i + 1).toNat = V.take i.toNat ++ [nth V i] := by
  have h' : i.toNat < V.length := by omega
  rw [show (i + 1).toNat = i.toNat + 1 by omega, List.take_succ_eq_append_getElem h']
  unfold nth; simp [List.getD, h']
theorem take_end (V : List Int) {i : Int} (h : (V.length : Int) ≤ i) : V.take i.toNat = V := List.take_of_length_le (by omega)
theorem take_flen (V : List Int) (p : Int → Bool) (i : Int) : ((V.take i.toNat).filter p).length ≤ V.length := by
  have h1 := List.length_filter_le p (V.take i.toNat)
  have h2 : (V.take i.toNat).length ≤ V.length := by rw [List.length_take]; omega
  omega
theorem nth_mem (V : List Int) {i : Int} (i0 : 0 ≤ i) (h : i < V.length) : nth V i ∈ V := by
  have h' : i.toNat < V.length := by omega
  unfold nth; simp [List.getD, h']
theorem fils_is (L : List Int) (T : List (List Int)) {f : Int} (f0 : 0 ≤ f) (f1 : f < pw (num L)) : isFilB L T f = filB L T f := by
  unfold isFilB setB
  rw [decide_eq_true f0, decide_eq_true (show f ≤ pw (num L) - 1 by omega)]; rfl

theorem specIsFil_is (a b : Option Addr) (ca cb : Nat) (L : List Int) (T : List (List Int)) (f : Int) (w : World) (hr : Rd w a L) (hT : RdT w b T) (h : algB L T = true) {r : Bool} (hf : isFilB L T f = r) :
    Calls Tryz.prog 162 #[.agg #[.slice a L.length ca, .slice b T.length cb], .int .i64 f] w fun e w' => e = .returned (.bool r) ∧ Below w.heap.size w w' := by
  subst hf; exact specIsFil_any a b ca cb L T f w hr hT h
set_option maxRecDepth 100000 in
set_option maxHeartbeats 2000000 in
/-- spec.filters -/
theorem specFilters_any (a b : Option Addr) (ca cb : Nat) (L : List Int) (T : List (List Int)) (w : World) (hr : Rd w a L) (hT : RdT w b T) (h : algB L T = true) :
    Calls Tryz.prog 124 #[.agg #[.slice a L.length ca, .slice b T.length cb]] w (RetSl w.heap.size (fls L T) w) := by
  have n1 := (lat_len (alg_lat h)).1
  have n6 := (lat_len (alg_lat h)).2
  have hn : num L = L.length := rfl
  obtain ⟨w1, hw1⟩ : ∃ w1, w1 = w.alloc (.cells #[.slice a L.length ca, .slice b T.length cb] 26) := ⟨_, rfl⟩
  have hB : Below w.heap.size w w1 := by rw [hw1]; exact (Below.refl _ _).alloc (Nat.le_refl _) _
  have hx : w1.heap[w.heap.size]? = some (.cells #[.slice a L.length ca, .slice b T.length cb] 26 (0, 0)) := by rw [hw1]; exact heap_alloc_new w _
  obtain ⟨c0, c1⟩ := bx_cells hx
  have Kx := Lib.hid (show ∀ wz, Below w1.heap.size w1 wz → wz.heap[w.heap.size]? = some (.cells #[.slice a L.length ca, .slice b T.length cb] 26 (0, 0)) from fun wz h => (h.block _ (lt_of_block hx)).trans hx)
  have KR := Lib.hid (show ∀ wz, Below w1.heap.size w1 wz → Rd wz a L from fun wz h => (hr.below hB).below h)
  have KT := Lib.hid (show ∀ wz, Below w1.heap.size w1 wz → RdT wz b T from fun wz h => (hT.below hB).below h)
  have z1 : Below w1.heap.size w1 w1 := Below.refl _ _
  clear hr hT hx
  obtain ⟨p1, p64⟩ := pw_6 n6
  have pe : pw (L.length : Int) = pw (num L) := by rw [hn]
  have HA := Lib.hid h
  have l6 : (L.length : Int) ≤ 6 := by omega
  have hs1 := hB.size
  obtain ⟨i0, hi, hz0, hz1, hz2⟩ := info_parts info_int
  clear hn h
  go_enter Tryz.func124, Tryz.ntmps124
  go_wp2_with (first
    | go_skip
    | (rw [← hw1]; clear hw1))
  go_loopw [3, 4] (fun v c wr => ∃ f : Int, 0 ≤ f ∧ f ≤ pw (num L) ∧ c = .int .i64 f ∧ Own w1.heap.size wr v (filtTo (filB L T) f) ∧ Below w1.heap.size w1 wr) (fun _ c _ => (64 - intOf c).toNat)
  case atStart => exact ⟨0, by omega, by omega, rfl, Own.row (L := []) (heap_alloc_new w1 _) (Nat.le_refl _) (Nat.zero_le _), z1.alloc (Nat.le_refl _) _⟩
  case round =>
    clear z1 c0 c1
    obtain ⟨f, f0, f1, rfl, hown, z3⟩ := hrel
    obtain ⟨e0, e1⟩ := bx_cells (Kx.out _ z3)
    by_cases hf : f < pw (num L)
    · have hfl : f < pw (L.length : Int) := by omega
      have hlen := filtTo_len (filB L T) f
      have hsu := Lib.hid (filtTo_succ (filB L T) f f0)
      cases hC : filB L T f with
      | true =>
        have hsu2 := Lib.hid (show filtTo (filB L T) (f + 1) = filtTo (filB L T) f ++ [f] by rw [hsu.out, hC]; rfl)
        have HC := Lib.hid (show isFilB L T f = true by rw [fils_is L T f0 hf]; exact hC)
        clear hC
        go_wp2_with (first
          | go_skip
          | (refine wpList_load_row_w rfl 26 _ rfl w.heap.size rfl _ _ _ _ (Kx.out _ (by assumption)) Tryz.underlying26 rfl (size_Alg _ _) ?_)
          | (go_at_call 49; refine (power_any _ _ (by omega) (by omega)).mono ?_; rintro e w2 ⟨rfl, rfl⟩)
          | (go_at_call 162; refine (specIsFil_is _ _ _ _ L T f _ (KR.out _ z3) (KT.out _ z3) HA.out HC.out).mono ?_; rintro e w4 ⟨rfl, h4⟩; have z4 : Below w1.heap.size w1 w4 := z3.trans (h4.mono z3.size); have hown4 := hown.below h4)
          | (at_builtin; refine wpList_append_own _ rfl _ _ 23 rfl w1.heap.size 3 i0 (.int .i64 0) 1 8 Tryz.underlying23 hi hz0 hz1 hz2 rfl (by decide) _ _ _ rfl (World.ownsRow.alloc hown4 _) ⟨w4.heap.size, 0, none⟩ 1 1 [.int .i64 (f)] rfl rfl (cell_one_new _ _ _) (fun x hx => by simp at hx; subst hx; rfl) (by unfold maxLen; omega) (by omega) (by have := z4.size; simp; omega) ?_; intro v9 w8 hown1 hgrow _))
        go_roundw
        case rel => exact ⟨f + 1, by omega, by omega, rfl, by unfold Own; rw [hsu2.out, List.map_append, List.length_append]; exact hown1, (z4.alloc z4.size _).grown hgrow (by have := z4.size; simp; omega) (fun q hq => (World.ownsRow.lt hown4 q hq).1)⟩
        case measure => simp [intOf]; omega
      | false =>
        have hsu2 := Lib.hid (show filtTo (filB L T) (f + 1) = filtTo (filB L T) f by rw [hsu.out, hC]; rfl)
        have HC := Lib.hid (show isFilB L T f = false by rw [fils_is L T f0 hf]; exact hC)
        clear hC
        go_wp2_with (first
          | go_skip
          | (refine wpList_load_row_w rfl 26 _ rfl w.heap.size rfl _ _ _ _ (Kx.out _ (by assumption)) Tryz.underlying26 rfl (size_Alg _ _) ?_)
          | (go_at_call 49; refine (power_any _ _ (by omega) (by omega)).mono ?_; rintro e w2 ⟨rfl, rfl⟩)
          | (go_at_call 162; refine (specIsFil_is _ _ _ _ L T f _ (KR.out _ z3) (KT.out _ z3) HA.out HC.out).mono ?_; rintro e w4 ⟨rfl, h4⟩; have z4 : Below w1.heap.size w1 w4 := z3.trans (h4.mono z3.size); have hown4 := hown.below h4))
        go_roundw
        case rel => exact ⟨f + 1, by omega, by omega, rfl, by rw [hsu2.out]; exact hown4, z4⟩
        case measure => simp [intOf]; omega
    · have e : f = pw (num L) := by omega
      subst e
      go_wp2_with (first
          | go_skip
          | (go_at_call 49; refine (power_any _ _ (by omega) (by omega)).mono ?_; rintro e w2 ⟨rfl, rfl⟩))
      go_ret
      exact RetOwn.sl ⟨_, rfl, hown.from hs1, hB.trans (z3.mono hB.size)⟩

set_option maxRecDepth 100000 in
set_option maxHeartbeats 2000000 in
/-- spec.generate -/
theorem specGenerate_any (a b : Option Addr) (ca cb : Nat) (L : List Int) (T : List (List Int)) (set : Int) (w : World) (hr : Rd w a L) (hT : RdT w b T) (h : algB L T = true) (hset : setB L set = true) :
    Calls Tryz.prog 90 #[.agg #[.slice a L.length ca, .slice b T.length cb], .int .i64 set] w fun e w' => e = .returned (.int .i64 (genI L T set)) ∧ Below w.heap.size w w' := by
  have n1 := (lat_len (alg_lat h)).1
  have n6 := (lat_len (alg_lat h)).2
  have hn : num L = L.length := rfl
  obtain ⟨w1, hw1⟩ : ∃ w1, w1 = w.alloc (.cells #[.slice a L.length ca, .slice b T.length cb] 26) := ⟨_, rfl⟩
  have hB : Below w.heap.size w w1 := by rw [hw1]; exact (Below.refl _ _).alloc (Nat.le_refl _) _
  have hx : w1.heap[w.heap.size]? = some (.cells #[.slice a L.length ca, .slice b T.length cb] 26 (0, 0)) := by rw [hw1]; exact heap_alloc_new w _
  obtain ⟨c0, c1⟩ := bx_cells hx
  have Kx := Lib.hid (show ∀ wz, Below w1.heap.size w1 wz → wz.heap[w.heap.size]? = some (.cells #[.slice a L.length ca, .slice b T.length cb] 26 (0, 0)) from fun wz h => (h.block _ (lt_of_block hx)).trans hx)
  have KR := Lib.hid (show ∀ wz, Below w1.heap.size w1 wz → Rd wz a L from fun wz h => (hr.below hB).below h)
  have KT := Lib.hid (show ∀ wz, Below w1.heap.size w1 wz → RdT wz b T from fun wz h => (hT.below hB).below h)
  have z1 : Below w1.heap.size w1 w1 := Below.refl _ _
  clear hr hT hx
  obtain ⟨p1, p64⟩ := pw_6 n6
  obtain ⟨s0, s1⟩ : 0 ≤ set ∧ set ≤ pw (num L) - 1 := by unfold setB at hset; rwa [Bool.and_eq_true, decide_eq_true_eq, decide_eq_true_eq] at hset
  have pe : pw (L.length : Int) = pw (num L) := by rw [hn]
  have HA := Lib.hid h
  have l6 : (L.length : Int) ≤ 6 := by omega
  have k1 : IntKind.i64.wrap (pw (L.length : Int) - 1) = pw (L.length : Int) - 1 := IntWalk.i64_in _ (by omega)
  obtain ⟨V, hV⟩ : ∃ V, V = fls L T := ⟨_, rfl⟩
  have hlen : V.length ≤ 64 := by rw [hV]; exact fls_len L T n6
  have HM := Lib.hid (show ∀ i : Int, 0 ≤ i → i < V.length → 0 ≤ nth V i ∧ nth V i < pw (num L) from fun i i0 i1 => by rw [hV] at i1 ⊢; have := fls_parts (nth_mem _ i0 i1); exact ⟨this.1, this.2.1⟩)
  have hv := Lib.hid (show genI L T set = com (num L) (V.filter fun f => hasA f set) by rw [hV]; rfl)
  have HF := Lib.hid (show ∀ (a b : Option Addr) (ca cb : Nat) (w : World), Rd w a L → RdT w b T → Calls Tryz.prog 124 #[.agg #[.slice a L.length ca, .slice b T.length cb]] w (RetSl w.heap.size V w) from fun a b ca cb w h1 h2 => by rw [hV]; exact specFilters_any a b ca cb L T w h1 h2 h)
  clear hn h hV hset
  go_enter Tryz.func90, Tryz.ntmps90
  go_wp2_with (first
    | go_skip
    | (rw [← hw1]; clear hw1)
    | (refine wpList_load_row_w rfl 26 _ rfl w.heap.size rfl _ _ _ _ (Kx.out _ (by assumption)) Tryz.underlying26 rfl (size_Alg _ _) ?_)
    | (go_at_call 49; refine (power_any _ _ (by omega) (by omega)).mono ?_; rintro e w2 ⟨rfl, rfl⟩)
    | (go_at_call 124; refine (HF.out _ _ _ _ _ (KR.out _ z1) (KT.out _ z1)).mono ?_; rintro e w3 ⟨a3, c3, rfl, o3, h3⟩))
  have r3 := o3.rd
  clear o3
  go_loopw [5, 7] (fun o c wr => ∃ i : Int, 0 ≤ i ∧ i ≤ V.length ∧ c = .int .i64 i ∧ o = .int .i64 (com (num L) ((V.take i.toNat).filter fun f => hasA f set)) ∧ w3 = wr) (fun _ c _ => (64 - intOf c).toNat)
  case atStart => exact ⟨0, by omega, by omega, rfl, by first | rfl | (rw [pe]; rfl), by trivial⟩
  case round =>
    obtain ⟨i, i0, i1, rfl, rfl, rfl⟩ := hrel
    by_cases hi : i < V.length
    · obtain ⟨vb, vo, rfl, hcl⟩ := r3 (by intro e; rw [e] at hi; simp at hi; omega)
      have d0 := hcl.at i i0 hi
      obtain ⟨m0, m1⟩ := HM.out i i0 hi
      have hb := Lib.hid (bits_and_i64 (nth V i) set m0 (by omega) s0 (by omega))
      obtain ⟨q0, q1⟩ := com_range (num L) ((V.take i.toNat).filter fun f => hasA f set)
      have hb2 := bits_and_i64 (com (num L) ((V.take i.toNat).filter fun f => hasA f set)) (nth V i) q0 (by omega) m0 (by omega)
      have hb1 := hb.out
      have ht := Lib.hid (take_next V i0 hi)
      cases hC : hasA (nth V i) set with
      | true =>
        have hC2 : (an (nth V i) set == set) = true := hC
        have hsu := Lib.hid (show com (num L) ((V.take (i + 1).toNat).filter fun f => hasA f set) = an (com (num L) ((V.take i.toNat).filter fun f => hasA f set)) (nth V i) by
          rw [ht.out, List.filter_append, List.filter_cons, hC, if_pos rfl, List.filter_nil, com_succ])
        clear hcl hC
        go_wp2
        go_roundw
        case rel => exact ⟨i + 1, by omega, by omega, rfl, by rw [hsu.out], by trivial⟩
        case measure => simp [intOf]; omega
      | false =>
        have hC2 : (an (nth V i) set == set) = false := hC
        have hsu := Lib.hid (show com (num L) ((V.take (i + 1).toNat).filter fun f => hasA f set) = com (num L) ((V.take i.toNat).filter fun f => hasA f set) by
          rw [ht.out, List.filter_append, List.filter_cons, hC, if_neg (by decide), List.filter_nil, List.append_nil])
        clear hcl hC
        go_wp2
        go_roundw
        case rel => exact ⟨i + 1, by omega, by omega, rfl, by rw [hsu.out], by trivial⟩
        case measure => simp [intOf]; omega
    · have ht := Lib.hid (take_end V (show (V.length : Int) ≤ i by omega))
      go_wp2
      go_ret
      exact ⟨ret_int (by rw [hv.out, ht.out]), hB.trans (h3.mono hB.size)⟩
end Go.Proofs.YtpophjloedpcfaaGreatDoor

namespace Go.Proofs.YtpophjloedpcfaaGreatDoor
open Go.RowKit

theorem append11 (a b : Value) : (#[a] ++ #[b] : Array Value) = #[a, b] := rfl
theorem isIn_dr (x set : Int) (w : World) (x0 : 0 ≤ x) (x6 : x ≤ 6) (s0 : 0 ≤ set) (s6 : set ≤ 64) {r : Bool} (h : ib set x = r) :
    Calls Tryz.prog 133 #[.int .i64 x, .int .i64 set] w fun e w' => e = .returned (.bool r) ∧ Dr w w' :=
  (isIn_is x set w x0 x6 s0 s6 h).mono fun _ _ h => ⟨h.1, h.2 ▸ Dr.refl _⟩
theorem in_trans2 {w1 wr : World} (s : In (Below w1.heap.size w1)) (hb : Below s.w.heap.size s.w wr) : Below w1.heap.size w1 wr := s.h.trans (hb.mono s.h.size)
theorem enters_fil : Enters 219 := enters_of Tryz.func219 (by kernel_rfl) rfl
set_option maxRecDepth 100000 in
set_option maxHeartbeats 2000000 in
theorem filClo_any (L : List Int) (T : List (List Int)) (bs ba : Nat) (f x y : Int) (w : World) (hA : AlgAt w ba L T) (hs : w.heap[bs]? = some (.cells #[.int .i64 f] 3 (0, 0))) (h : algB L T = true) (f0 : 0 ≤ f) (f6 : f ≤ 63) (x0 : 0 ≤ x) (x1 : x < num L) (y0 : 0 ≤ y) (y1 : y < num L) :
    Calls Tryz.prog 219 #[.int .i64 x, .int .i64 y, .pointer (some ⟨bs, 0, none⟩), .pointer (some ⟨ba, 0, none⟩)] w fun e w' => e = .returned (.bool (filXY L T f x y)) ∧ Dr w w' := by
  have n6 := (lat_len (alg_lat h)).2
  have x6 : x < 6 := by omega
  have y6 : y < 6 := by omega
  obtain ⟨t0, t1⟩ := shape_cell (alg_shape h) x0 x1 y0 y1
  have cs := cell_of_one hs
  have d0 := hA.g x0 x6 y0 y6
  rw [ordG_in x1 y1] at d0
  have d1 := hA.t x0 x6 y0 y6
  rw [timG_in x1 y1] at d1
  have hq := Lib.hid (show filXY L T f x y = (!ib f x || (if ib f y then ib f (tv T x y) else !bl L x y)) from rfl)
  clear h
  cases hX : ib f x with
  | false =>
    rw [hX] at hq
    have HX := Lib.hid hX; clear hX
    go_enter Tryz.func219, Tryz.ntmps219
    go_wp2_with (go_at_call 133; refine (isIn_is x f _ x0 (by omega) f0 (by omega) HX.out).mono ?_; rintro e w2 ⟨rfl, rfl⟩)
    go_ret
    exact ⟨ret_bool (by rw [hq.out]; rfl), Dr.refl _⟩
  | true =>
    rw [hX] at hq
    have HX := Lib.hid hX; clear hX
    cases hY : ib f y with
    | false =>
      rw [hY] at hq
      have HY := Lib.hid hY; clear hY
      cases hL : bl L x y
      all_goals
        rw [hL] at hq d0
        clear hL
        go_enter Tryz.func219, Tryz.ntmps219
        go_wp2_with (first
          | (go_at_call_of 133 (Value.int .i64 x); refine (isIn_is x f _ x0 (by omega) f0 (by omega) HX.out).mono ?_; rintro e w2 ⟨rfl, rfl⟩)
          | (go_at_call_of 133 (Value.int .i64 y); refine (isIn_is y f _ y0 (by omega) f0 (by omega) HY.out).mono ?_; rintro e w3 ⟨rfl, rfl⟩))
        go_ret
        exact ⟨ret_bool (by rw [hq.out]; rfl), Dr.refl _⟩
    | true =>
      rw [hY] at hq
      have HY := Lib.hid hY; clear hY
      cases hZ : ib f (tv T x y)
      all_goals
        rw [hZ] at hq
        have HZ := Lib.hid hZ
        clear hZ
        go_enter Tryz.func219, Tryz.ntmps219
        go_wp2_with (first
          | (go_at_call_of 133 (Value.int .i64 x); refine (isIn_is x f _ x0 (by omega) f0 (by omega) HX.out).mono ?_; rintro e w2 ⟨rfl, rfl⟩)
          | (go_at_call_of 133 (Value.int .i64 y); refine (isIn_is y f _ y0 (by omega) f0 (by omega) HY.out).mono ?_; rintro e w3 ⟨rfl, rfl⟩))
        go_quiet ((go_at_call 133; exact q_dr (isIn_dr (tv T x y) f _ t0 (by omega) f0 (by omega) HZ.out)))
        go_wp2
        go_ret
        exact ⟨ret_bool (by rw [hq.out]; rfl), ⟨_, rfl⟩⟩

set_option maxRecDepth 100000 in
set_option maxHeartbeats 4000000 in
/-- impl.algebra.isFilter -/
theorem isFilterM_any (L : List Int) (T : List (List Int)) (f : Int) (w : World) (h : algB L T = true) (f0 : 0 ≤ f) (f6 : f ≤ 63) :
    Calls Tryz.prog 214 #[.agg (algOf L T), .int .i64 f] w fun e w' => e = .returned (.bool (filB L T f)) ∧ Below w.heap.size w w' := by
  obtain ⟨n1, n6⟩ := lat_len (alg_lat h)
  have hn : num L = L.length := rfl
  have n6' : (L.length : Int) ≤ 6 := n6
  have l1 : (1 : Int) ≤ L.length := n1
  obtain ⟨w1, hw1⟩ : ∃ w1, w1 = (w.alloc (.cells (algOf L T) 61)).alloc (.cells #[.int .i64 f] 3) := ⟨_, rfl⟩
  have hB : Below w.heap.size w w1 := by rw [hw1]; exact ((Below.refl _ _).alloc (Nat.le_refl _) _).alloc (by simp) _
  have hA : AlgAt w1 w.heap.size L T := by rw [hw1]; exact (AlgAt.new w L T).alloc _
  have hs : w1.heap[w.heap.size + 1]? = some (.cells #[.int .i64 f] 3 (0, 0)) := by rw [hw1]; exact heap_alloc2_new _ _ _
  have Q := Lib.hid (show ∀ wz, Below w1.heap.size w1 wz → AlgAt wz w.heap.size L T from fun wz hz => hA.below hz hA.lt)
  have S := Lib.hid (show ∀ wz, Below w1.heap.size w1 wz → wz.heap[w.heap.size + 1]? = some (.cells #[.int .i64 f] 3 (0, 0)) from fun wz hz => (hz.block _ (lt_of_block hs)).trans hs)
  have hfil := Lib.hid (show filB L T f = (ib f ((L.length : Int) - 1) && all2 (L.length : Int) (filXY L T f)) from rfl)
  have HA := Lib.hid h
  clear hA hs h hn
  cases hG : ib f ((L.length : Int) - 1)
  all_goals
    rw [hG] at hfil
    have HG := Lib.hid hG
    clear hG
    go_enter Tryz.func214, Tryz.ntmps214
    go_wp2_with (rw [← hw1]; clear hw1)
    refine region_in (Below w1.heap.size w1) (by kernel_rfl) (by kernel_rfl) (Dr.below ⟨1, rfl⟩ _) fun hne => ?_
    have r1 : ∀ s : In (Below w1.heap.size w1), s.w.cell? ⟨w.heap.size + 1, 0, none⟩ = some (.int .i64 f) := fun s => cell_of_one (S.out _ s.h)
    have r2 : ∀ s : In (Below w1.heap.size w1), s.w.cell? ⟨w.heap.size, 0, none⟩ = some (.int .i64 L.length) := fun s => (Q.out _ s.h).size
    repeat (first
      | (go_big_quiet_want; refine quiet_load_mid 59 _ rfl w.heap.size 0 rfl (latOf L) _ (fun w' ⟨s, hs⟩ => by rw [hs]; exact (Q.out _ s.h).lat) Tryz.underlying59 rfl (size_latOf L) ?_; simp only [Act.put, List.setIfInBounds_toArray, List.set_cons_succ, List.set_cons_zero]; go_big_quiet_on)
      | go_big_quiet_step ((first | (go_at_call 200; exact in_below _ (Nat.le_refl _) (greatest_any L _ n6')) | (go_at_call 133; exact in_below _ (Nat.le_refl _) ((isIn_is ((L.length : Int) - 1) f _ (by omega) (by omega) f0 (by omega) HG.out).mono fun _ _ h => ⟨h.1, h.2 ▸ Below.refl _ _⟩)) | (go_at_call 138; exact in_below _ (Nat.le_refl _) (allTwo_any 219 _ (L.length : Int) (filXY L T f) _ (by omega) n6' enters_fil fun x y wr x0 x1 y0 y1 hb => by rw [append22]; exact (filClo_any L T _ _ f x y wr (Q.out _ (in_trans2 _ hb)) (S.out _ (in_trans2 _ hb)) HA.out f0 f6 x0 x1 y0 y1).mono fun _ _ h => ⟨h.1, h.2.below _⟩)))))
    refine wpQuiet_nil ?_
    intro s
    have hw2 := s.h
    obtain ⟨w2, hw2'⟩ : ∃ w2, w2 = s.w := ⟨_, rfl⟩
    rw [← hw2'] at hw2 ⊢
    clear hw2'
    go_wp2
    go_ret
    exact ⟨ret_bool (by rw [hfil.out]; rfl), hB.trans (hw2.mono hB.size)⟩
theorem isFilterM_is (L : List Int) (T : List (List Int)) (f : Int) (w : World) (h : algB L T = true) (f0 : 0 ≤ f) (f6 : f ≤ 63) {r : Bool} (hf : filB L T f = r) :
    Calls Tryz.prog 214 #[.agg (algOf L T), .int .i64 f] w fun e w' => e = .returned (.bool r) ∧ Below w.heap.size w w' := by
  subst hf; exact isFilterM_any L T f w h f0 f6
/-- an algebra and a set of its elements; an algebra and a filter of it -/
def asB (L : List Int) (T : List (List Int)) (f : Int) : Bool := algB L T && setB L f
def afB (L : List Int) (T : List (List Int)) (f : Int) : Bool := algB L T && isFilB L T f
theorem setB_so (L : List Int) (f : Int) : soB (L.length : Int) f = setB L f := rfl
theorem setB_63 {L : List Int} {f : Int} (h : setB L f = true) (n6 : num L ≤ 6) : 0 ≤ f ∧ f ≤ 63 := by
  unfold setB at h; rw [Bool.and_eq_true, decide_eq_true_eq, decide_eq_true_eq] at h
  have := pw_6 n6; omega
set_option maxRecDepth 100000 in
set_option maxHeartbeats 2000000 in
theorem readSet_alg (a b : Option Addr) (ca cb : Nat) (L : List Int) (T : List (List Int)) (f : Int) (w : World) (hr : Rd w a L) (hT : RdT w b T) (ha : algB L T = false) :
    Calls Tryz.prog 183 #[.agg #[.slice a L.length ca, .slice b T.length cb], .int .i64 f] w fun e w' => e = .returned (.tuple #[.agg zeroAlg, .bool false]) ∧ Below w.heap.size w w' := by
  have hB1 : Below w.heap.size w ((w.alloc (.cells #[.slice a L.length ca, .slice b T.length cb] 26)).alloc (.cells zeroAlg 61)) := ((Below.refl _ _).alloc (Nat.le_refl _) _).alloc (by simp) _
  have hr1 := hr.below hB1
  have hT1 := hT.below hB1
  have hz1 : ((w.alloc (.cells #[.slice a L.length ca, .slice b T.length cb] 26)).alloc (.cells zeroAlg 61)).heap[w.heap.size + 1]? = some (.cells zeroAlg 61 (0, 0)) := heap_alloc2_new _ _ _
  have hx1 : ((w.alloc (.cells #[.slice a L.length ca, .slice b T.length cb] 26)).alloc (.cells zeroAlg 61)).heap[w.heap.size]? = some (.cells #[.slice a L.length ca, .slice b T.length cb] 26 (0, 0)) := by rw [Below.heap_alloc _ _ _ (by simp)]; exact heap_alloc_new w _
  have HA := Lib.hid ha
  clear ha
  clear hr hT
  go_enter Tryz.func183, Tryz.ntmps183
  go_wp2_with (first
    | go_skip
    | (refine wpList_load_row_w rfl 26 _ rfl w.heap.size rfl _ _ _ _ hx1 Tryz.underlying26 rfl (size_Alg _ _) ?_)
    | (go_at_call 33; refine (readAlgebra_no a b ca cb L T _ hr1 hT1 HA.out).mono ?_; rintro e w2 ⟨rfl, h2⟩; have hz := (h2.block _ (lt_of_block hz1)).trans hz1; have hB := hB1.trans (h2.mono hB1.size); clear h2)
    | (refine wpList_store_row rfl 61 _ _ rfl w2.heap.size zeroAlg rfl rfl _ _ (heap_alloc_new w2 (.cells zeroAlg 61)) size_zeroAlg rfl one_zeroAlg ?_; rw [World.setRow_alloc_new]; obtain ⟨bl, hbl⟩ : ∃ bl, bl = w2.heap.size := ⟨_, rfl⟩; obtain ⟨w3, hw3⟩ : ∃ w3, w3 = w2.alloc (.cells zeroAlg 61) := ⟨_, rfl⟩; rw [← hw3, ← hbl]; have q3 : Below w2.heap.size w2 w3 := (by rw [hw3]; exact (Below.refl _ _).alloc (Nat.le_refl _) _); replace hz := (q3.block _ (lt_of_block hz)).trans hz; replace hB := hB.trans (q3.mono hB.size); clear hw3 hbl q3)
    | (refine wpList_store_row rfl 61 _ _ rfl (w.heap.size + 1) zeroAlg rfl rfl _ _ hz size_zeroAlg rfl one_zeroAlg ?_))
  exact bodyPost_ret (v := .tuple #[.agg zeroAlg, .bool false]) (results_alg_tmp rfl _ _ (w.heap.size + 1) rfl _ (algA_size _ _ _ _ _ _) (setRow_heap _ _ _ _ _ _ hz) rfl) rfl ⟨rfl, below_setRow' hB (by omega) _⟩

set_option maxRecDepth 100000 in
set_option maxHeartbeats 2000000 in
theorem readSet_set (a b : Option Addr) (ca cb : Nat) (L : List Int) (T : List (List Int)) (f : Int) (w : World) (hr : Rd w a L) (hT : RdT w b T) (ha : algB L T = true) (hs : setB L f = false) :
    Calls Tryz.prog 183 #[.agg #[.slice a L.length ca, .slice b T.length cb], .int .i64 f] w fun e w' => e = .returned (.tuple #[.agg zeroAlg, .bool false]) ∧ Below w.heap.size w w' := by
  have hB1 : Below w.heap.size w ((w.alloc (.cells #[.slice a L.length ca, .slice b T.length cb] 26)).alloc (.cells zeroAlg 61)) := ((Below.refl _ _).alloc (Nat.le_refl _) _).alloc (by simp) _
  have hr1 := hr.below hB1
  have hT1 := hT.below hB1
  have hz1 : ((w.alloc (.cells #[.slice a L.length ca, .slice b T.length cb] 26)).alloc (.cells zeroAlg 61)).heap[w.heap.size + 1]? = some (.cells zeroAlg 61 (0, 0)) := heap_alloc2_new _ _ _
  have hx1 : ((w.alloc (.cells #[.slice a L.length ca, .slice b T.length cb] 26)).alloc (.cells zeroAlg 61)).heap[w.heap.size]? = some (.cells #[.slice a L.length ca, .slice b T.length cb] 26 (0, 0)) := by rw [Below.heap_alloc _ _ _ (by simp)]; exact heap_alloc_new w _
  have n6' : (L.length : Int) ≤ 6 := (lat_len (alg_lat ha)).2
  have hw : soB (L.length : Int) f = false := hs
  have HW := Lib.hid hw
  clear hw
  have HA := Lib.hid ha
  clear ha
  clear hr hT
  go_enter Tryz.func183, Tryz.ntmps183
  go_wp2_with (first
    | go_skip
    | (refine wpList_load_row_w rfl 26 _ rfl w.heap.size rfl _ _ _ _ hx1 Tryz.underlying26 rfl (size_Alg _ _) ?_)
    | (go_at_call 33; refine (readAlgebra_yes a b ca cb L T _ hr1 hT1 HA.out).mono ?_; rintro e w2 ⟨rfl, h2⟩; have hz := (h2.block _ (lt_of_block hz1)).trans hz1; have hB := hB1.trans (h2.mono hB1.size); clear h2)
    | (refine wpList_store_row rfl 61 _ _ rfl w2.heap.size (algOf L T) rfl rfl _ _ (heap_alloc_new w2 (.cells zeroAlg 61)) (size_alg _ _ _ _ _ _) rfl (one_alg _ _ _ _ _ _) ?_; rw [World.setRow_alloc_new]; obtain ⟨bl, hbl⟩ : ∃ bl, bl = w2.heap.size := ⟨_, rfl⟩; obtain ⟨w3, hw3⟩ : ∃ w3, w3 = w2.alloc (.cells (algOf L T) 61) := ⟨_, rfl⟩; rw [← hw3, ← hbl]; have hA : AlgAt w3 bl L T := (by rw [hw3, hbl]; exact AlgAt.new w2 L T); have q3 : Below w2.heap.size w2 w3 := (by rw [hw3]; exact (Below.refl _ _).alloc (Nat.le_refl _) _); replace hz := (q3.block _ (lt_of_block hz)).trans hz; replace hB := hB.trans (q3.mono hB.size); clear hw3 hbl q3; have hsz := hA.size)
    | (go_at_call 132; refine (isSetOf_is (L.length : Int) f _ (by omega) n6' HW.out).mono ?_; rintro e w4 ⟨rfl, rfl⟩)
    | (refine wpList_store_row rfl 61 _ _ rfl (w.heap.size + 1) zeroAlg rfl rfl _ _ hz size_zeroAlg rfl one_zeroAlg ?_))
  exact bodyPost_ret (v := .tuple #[.agg zeroAlg, .bool false]) (results_alg_tmp rfl _ _ (w.heap.size + 1) rfl _ (algA_size _ _ _ _ _ _) (setRow_heap _ _ _ _ _ _ hz) rfl) rfl ⟨rfl, below_setRow' hB (by omega) _⟩

set_option maxRecDepth 100000 in
set_option maxHeartbeats 2000000 in
theorem readSet_yes (a b : Option Addr) (ca cb : Nat) (L : List Int) (T : List (List Int)) (f : Int) (w : World) (hr : Rd w a L) (hT : RdT w b T) (ha : algB L T = true) (hs : setB L f = true) :
    Calls Tryz.prog 183 #[.agg #[.slice a L.length ca, .slice b T.length cb], .int .i64 f] w fun e w' => e = .returned (.tuple #[.agg (algOf L T), .bool true]) ∧ Below w.heap.size w w' := by
  have hB1 : Below w.heap.size w ((w.alloc (.cells #[.slice a L.length ca, .slice b T.length cb] 26)).alloc (.cells zeroAlg 61)) := ((Below.refl _ _).alloc (Nat.le_refl _) _).alloc (by simp) _
  have hr1 := hr.below hB1
  have hT1 := hT.below hB1
  have hz1 : ((w.alloc (.cells #[.slice a L.length ca, .slice b T.length cb] 26)).alloc (.cells zeroAlg 61)).heap[w.heap.size + 1]? = some (.cells zeroAlg 61 (0, 0)) := heap_alloc2_new _ _ _
  have hx1 : ((w.alloc (.cells #[.slice a L.length ca, .slice b T.length cb] 26)).alloc (.cells zeroAlg 61)).heap[w.heap.size]? = some (.cells #[.slice a L.length ca, .slice b T.length cb] 26 (0, 0)) := by rw [Below.heap_alloc _ _ _ (by simp)]; exact heap_alloc_new w _
  have n6' : (L.length : Int) ≤ 6 := (lat_len (alg_lat ha)).2
  have hw : soB (L.length : Int) f = true := hs
  have HW := Lib.hid hw
  clear hw
  have HA := Lib.hid ha
  clear ha
  clear hr hT
  go_enter Tryz.func183, Tryz.ntmps183
  go_wp2_with (first
    | go_skip
    | (refine wpList_load_row_w rfl 26 _ rfl w.heap.size rfl _ _ _ _ hx1 Tryz.underlying26 rfl (size_Alg _ _) ?_)
    | (go_at_call 33; refine (readAlgebra_yes a b ca cb L T _ hr1 hT1 HA.out).mono ?_; rintro e w2 ⟨rfl, h2⟩; have hz := (h2.block _ (lt_of_block hz1)).trans hz1; have hB := hB1.trans (h2.mono hB1.size); clear h2)
    | (refine wpList_store_row rfl 61 _ _ rfl w2.heap.size (algOf L T) rfl rfl _ _ (heap_alloc_new w2 (.cells zeroAlg 61)) (size_alg _ _ _ _ _ _) rfl (one_alg _ _ _ _ _ _) ?_; rw [World.setRow_alloc_new]; obtain ⟨bl, hbl⟩ : ∃ bl, bl = w2.heap.size := ⟨_, rfl⟩; obtain ⟨w3, hw3⟩ : ∃ w3, w3 = w2.alloc (.cells (algOf L T) 61) := ⟨_, rfl⟩; rw [← hw3, ← hbl]; have hA : AlgAt w3 bl L T := (by rw [hw3, hbl]; exact AlgAt.new w2 L T); have q3 : Below w2.heap.size w2 w3 := (by rw [hw3]; exact (Below.refl _ _).alloc (Nat.le_refl _) _); replace hz := (q3.block _ (lt_of_block hz)).trans hz; replace hB := hB.trans (q3.mono hB.size); clear hw3 hbl q3; have hsz := hA.size)
    | (go_at_call 132; refine (isSetOf_is (L.length : Int) f _ (by omega) n6' HW.out).mono ?_; rintro e w4 ⟨rfl, rfl⟩)
    | (refine wpList_load_row_w rfl 61 _ rfl bl rfl _ _ _ _ hA Tryz.underlying61 rfl (size_alg _ _ _ _ _ _) ?_)
    | (refine wpList_store_row rfl 61 _ _ rfl (w.heap.size + 1) (algOf L T) rfl rfl _ _ hz (size_alg _ _ _ _ _ _) rfl (one_alg _ _ _ _ _ _) ?_))
  exact bodyPost_ret (v := .tuple #[.agg (algOf L T), .bool true]) (results_alg_tmp rfl _ _ (w.heap.size + 1) rfl _ (algA_size _ _ _ _ _ _) (setRow_heap _ _ _ _ _ _ hz) rfl) rfl ⟨rfl, below_setRow' hB (by omega) _⟩

theorem readSet_no (a b : Option Addr) (ca cb : Nat) (L : List Int) (T : List (List Int)) (f : Int) (w : World) (hr : Rd w a L) (hT : RdT w b T) (h : asB L T f = false) :
    Calls Tryz.prog 183 #[.agg #[.slice a L.length ca, .slice b T.length cb], .int .i64 f] w fun e w' => e = .returned (.tuple #[.agg zeroAlg, .bool false]) ∧ Below w.heap.size w w' := by
  cases ha : algB L T with
  | false => exact readSet_alg a b ca cb L T f w hr hT ha
  | true =>
    unfold asB at h
    rw [ha, Bool.true_and] at h
    exact readSet_set a b ca cb L T f w hr hT ha h
theorem readSet_good (a b : Option Addr) (ca cb : Nat) (L : List Int) (T : List (List Int)) (f : Int) (w : World) (hr : Rd w a L) (hT : RdT w b T) (h : asB L T f = true) :
    Calls Tryz.prog 183 #[.agg #[.slice a L.length ca, .slice b T.length cb], .int .i64 f] w fun e w' => e = .returned (.tuple #[.agg (algOf L T), .bool true]) ∧ Below w.heap.size w w' := by
  unfold asB at h; rw [Bool.and_eq_true] at h
  exact readSet_yes a b ca cb L T f w hr hT h.1 h.2
theorem afB_as {L : List Int} {T : List (List Int)} {f : Int} : afB L T f = (asB L T f && filB L T f) := by
  unfold afB asB isFilB; rw [Bool.and_assoc]
end Go.Proofs.YtpophjloedpcfaaGreatDoor

namespace Go.Proofs.YtpophjloedpcfaaGreatDoor
open Go.RowKit

/-- the list, of an algebra alone -/
def algV (L : List Int) (T : List (List Int)) (V : List Int) : List Int := if algB L T then V else []
theorem algV_t {L : List Int} {T : List (List Int)} {V : List Int} (h : algB L T = true) : algV L T V = V := if_pos h
theorem algV_f {L : List Int} {T : List (List Int)} {V : List Int} (h : algB L T = false) : algV L T V = [] := if_neg (by rw [h]; decide)
theorem algV_len {L : List Int} {T : List (List Int)} {V : List Int} {n : Nat} (h : algB L T = true → V.length ≤ n) : (algV L T V).length ≤ n := by
  cases hA : algB L T with
  | false => rw [algV_f hA]; simp
  | true => rw [algV_t hA]; exact h hA
end Go.Proofs.YtpophjloedpcfaaGreatDoor

namespace Go.Proofs.YtpophjloedpcfaaGreatDoor
open Go.RowKit Go.Shelf

attribute [local go_sem] Oper.semAt_some
/-- a load of a whole array or struct, inside a fence -/
theorem wpListIn_load_row_w {F : Fence} {n : Nat} {P : Program} {ops : Array Oper} {rest : List Oper} {o : Oper} {a : Act} {w : World} {Q : Exit → Act → World → Prop} (hw : Region.wanted o (yielded ops a.tmps) = true) (ty : TypeId) (x : Operand) (ho : o.op = .load ty x)
    (g : Nat) (hx : a.eval x = .pointer (some ⟨g, 0, none⟩)) (t : TypeId) (cs : Array Value) (fr : Nat × Nat) (d : TypeDesc) (hg : w.heap[g]? = some (.cells cs t fr))
    (hu : P.underlying ty = some d) (hd : (match d with | .struct _ | .array _ _ => true | _ => false) = true) (hi : (P.info? ty).map (·.size) = some cs.size)
    (h : wpListIn F n P ops Q rest (a.put o.dst (.agg cs)) w) : wpListIn F n P ops Q (o :: rest) a w := by
  unfold wpListIn
  rw [if_pos hw]
  unfold Oper.wpIn
  refine ⟨?_, ?_⟩
  · simp [Oper.about, ho]
  · rw [Oper.semAt_plain F _ _ (by rw [ho]; intro c hc'; cases hc')]
    simp only [execOp, ho, hx, Instr.loadAt, Instr.sureAddr, Sem.run_bind, Sem.run_pure, Result.andThen_ok, run_loadVar_row w g t ty cs fr d hg hu hd hi]
    exact h
/-- a filter of the algebra -/
abbrev Fl (L : List Int) (T : List (List Int)) : Type := { x : Int // x ∈ fls L T }
def vals {L : List Int} {T : List (List Int)} (xs : List (Fl L T)) : List Int := xs.map (·.1)
theorem vals_snoc {L : List Int} {T : List (List Int)} (xs : List (Fl L T)) (x : Fl L T) : vals (xs ++ [x]) = vals xs ++ [x.1] := by simp [vals]
theorem vals_len {L : List Int} {T : List (List Int)} (xs : List (Fl L T)) : (vals xs).length = xs.length := by simp [vals]
theorem below_grown {w w' : World} (h : Below w.heap.size w w') : w.grownBy w' none :=
  ⟨h.os, h.tape, h.output, h.size, fun k hk _ => h.block k hk⟩
/-- the iterator's algebra lies as it lay -/
def KeepsA (ba : Nat) (L : List Int) (T : List (List Int)) (A B : World) : Prop := AlgAt A ba L T → AlgAt B ba L T
theorem keepsA_t {ba : Nat} {L : List Int} {T : List (List Int)} {A B C : World} (h : KeepsA ba L T A B) (k : KeepsA ba L T B C) : KeepsA ba L T A C := fun x => k (h x)
theorem keepsA_b {ba : Nat} {L : List Int} {T : List (List Int)} {n : Nat} (W : World) (l : Nat) (o o' : Obj) (_ : n ≤ l) (hl : W.heap[l]? = some o) (ho : o.isCells = false) (_ : o.isWalk = false) : KeepsA ba L T W (W.putObj l o') := fun h => by
  refine ((grownBy_putObj' W l o').block ba h.lt fun e => ?_).trans h
  cases e
  have h' : W.heap[ba]? = some (.cells (algOf L T) 61 (0, 0)) := h
  rw [h'] at hl; cases hl; cases ho
theorem enters_filt : Enters 213 := enters_of Tryz.func213 (by kernel_rfl) rfl

set_option maxRecDepth 100000 in
set_option maxHeartbeats 1000000 in
/-- impl.algebra.filters: the algebra is boxed; the function value captures the box -/
theorem filtersM_any (L : List Int) (T : List (List Int)) (w : World) :
    Calls Tryz.prog 201 #[.agg (algOf L T)] w fun e w' => e = .returned (.func (.func 213) #[] #[.pointer (some ⟨w.heap.size, 0, none⟩)]) ∧ w' = w.alloc (.cells (algOf L T) 61) := by
  go_enter Tryz.func201, Tryz.ntmps201
  go_wp2
  go_ret
  exact ⟨rfl, rfl⟩

set_option maxRecDepth 100000 in
set_option maxHeartbeats 2000000 in
/-- the iterator over the filters, at whatever body -/
theorem filters1_in (n : Nat) (hn : 1 ≤ n) (l ba : Nat) (L : List Int) (T : List (List Int)) (h : algB L T = true) (J Jx : List (Fl L T) → World → Prop) (W : World)
    (hJ : AbidesFrom W.heap.size J)
    (hY : ∀ pre (x : Fl L T) W1, J pre W1 → pre.length < 64 → YieldAt Fence.wide (n - 1) Tryz.prog l #[.int .i64 x.1] W1 fun e W' =>
      (e = .returned (.bool true) ∧ J (pre ++ [x]) W' ∧ KeepsA ba L T W1 W') ∨ (e = .returned (.bool false) ∧ Jx (pre ++ [x]) W'))
    (hA : AlgAt W ba L T) (h0 : J [] W) :
    CallsIn Fence.wide n Tryz.prog 213 #[.func (.yield l) #[] #[], .pointer (some ⟨ba, 0, none⟩)] W fun e W' => (∃ v, e = .returned v) ∧
      ((∃ xs, vals xs = fls L T ∧ J xs W') ∨ (∃ pre, True ∧ Jx pre W')) := by
  obtain ⟨n1, n6⟩ := lat_len (alg_lat h)
  have n6' : (L.length : Int) ≤ 6 := n6
  have l64 : pw (L.length : Int) ≤ 64 := (pw_6 n6).2
  have hw := wrap_pw L.length (by omega)
  have p1 : 1 ≤ pw (L.length : Int) := (pw_6 n6).1
  have c0 := hA.size
  have HA := Lib.hid h
  have HY := Lib.hid hY
  have HJ := Lib.hid (show ∀ pre A B, J pre A → Below A.heap.size A B → J pre B from fun pre A B hs hb => hJ pre A B none hs (below_grown hb) (fun r e => by cases e))
  clear h hY hJ
  refine callsIn_of_wp Tryz.func213 rfl trivial ?_ rfl
  simp only [Tryz.ntmps213, List.size_toArray, List.length_cons, List.length_nil, Nat.reduceAdd, Nat.reduceSub, Array.replicate_succ, Array.replicate_zero, List.push_toArray, List.append_toArray, List.nil_append, List.cons_append]
  gi_wp2
  rw [hw]
  clear hw
  gi_loopw [3, 8] (fun _ i wr => ∃ (k : Int) (pre : List (Fl L T)), 0 ≤ k ∧ k ≤ pw (num L) ∧ i = .int .i64 k ∧ vals pre = filtTo (filB L T) k ∧ J pre wr ∧ AlgAt wr ba L T)
    (fun _ i _ => (64 - intOf i).toNat)
  case atStart => exact ⟨0, [], by omega, show (0 : Int) ≤ pw (L.length : Int) by omega, rfl, rfl, h0, hA⟩
  case round =>
    obtain ⟨k, pre, k0, k1, rfl, hp, hJs, hnx⟩ := hrel
    have k1' : k ≤ pw (L.length : Int) := k1
    clear k1
    by_cases hk : k < pw (L.length : Int)
    · have hlen : pre.length < 64 := by
        have h1 := filtTo_len (filB L T) k
        rw [← hp, vals_len] at h1; omega
      have hsu := Lib.hid (filtTo_succ (filB L T) k k0)
      have hal := Lib.hid hnx
      cases hC : filB L T k with
      | true =>
        have hmem : k ∈ fls L T := fls_mem.2 ⟨k0, hk, hC⟩
        have hsu2 := Lib.hid (show vals (pre ++ [(⟨k, hmem⟩ : Fl L T)]) = filtTo (filB L T) (k + 1) by rw [vals_snoc, hp, hsu.out, hC]; rfl)
        have HC := Lib.hid hC
        clear hC
        gi_wp2_with (first
          | (refine wpListIn_load_row_w rfl 61 _ rfl ba rfl _ _ _ _ hal.out Tryz.underlying61 rfl (size_alg _ _ _ _ _ _) ?_)
          | (refine ⟨trivial, ?_⟩; gi_at_call 214; refine (callsIn_wide.2 (isFilterM_is L T k _ HA.out k0 (by omega) HC.out)).mono ?_; rintro e w2 ⟨rfl, h2⟩; obtain ⟨fn, tmps, asg, bdy, hy, hR⟩ := HY.out pre ⟨k, hmem⟩ w2 (HJ.out _ _ _ hJs h2) hlen; dsimp only at hy; have hnx2 : AlgAt w2 ba L T := hal.out.below h2 hal.out.lt))
        refine hR.mono ?_
        rintro e W3 (⟨rfl, hJ3, hk3⟩ | ⟨rfl, hJx3⟩)
        · gi_wp2
          go_roundw
          case rel => exact ⟨k + 1, _, by omega, show k + 1 ≤ pw (L.length : Int) by omega, rfl, hsu2.out, hJ3, hk3 hnx2⟩
          case measure => simp [intOf]; omega
        · gi_wp2
          refine bodyPost_ret (results_none rfl _ _ _) rfl ?_
          exact ⟨⟨_, rfl⟩, .inr ⟨_, trivial, hJx3⟩⟩
      | false =>
        have hsu2 := Lib.hid (show vals pre = filtTo (filB L T) (k + 1) by rw [hp, hsu.out, hC]; rfl)
        have HC := Lib.hid hC
        clear hC
        gi_wp2_with (first
          | (refine wpListIn_load_row_w rfl 61 _ rfl ba rfl _ _ _ _ hal.out Tryz.underlying61 rfl (size_alg _ _ _ _ _ _) ?_)
          | (refine ⟨trivial, ?_⟩; gi_at_call 214; refine (callsIn_wide.2 (isFilterM_is L T k _ HA.out k0 (by omega) HC.out)).mono ?_; rintro e w2 ⟨rfl, h2⟩; have hnx2 : AlgAt w2 ba L T := hal.out.below h2 hal.out.lt; have hJ2 := HJ.out _ _ _ hJs h2))
        refine ⟨fun _ h => (by cases h), ?_⟩
        gi_wp2
        go_roundw
        case rel => exact ⟨k + 1, pre, by omega, show k + 1 ≤ pw (L.length : Int) by omega, rfl, hsu2.out, hJ2, hnx2⟩
        case measure => simp [intOf]; omega
    · have e : k = pw (L.length : Int) := by omega
      subst e
      gi_wp2
      go_end0
      exact ⟨⟨_, rfl⟩, .inl ⟨pre, hp, hJs⟩⟩
/-- the filters are handed to whatever body, each once, ascending -/
theorem filt_stops (n : Nat) (hn : 1 ≤ n) (ba : Nat) (L : List Int) (T : List (List Int)) (h : algB L T = true) (w : World) (hA : AlgAt w ba L T) :
    SeqStopsK Fence.wide n Tryz.prog 213 #[.pointer (some ⟨ba, 0, none⟩)] (fun x : Fl L T => #[Value.int .i64 x.1]) (KeepsA ba L T) (fun xs => vals xs = fls L T) (fun _ => True) 64 w :=
  fun l J Jx W hW hJ _ hY h0 => filters1_in n hn l ba L T h J Jx W hJ hY (hA.below hW hA.lt) h0
/-- what lies round the loop of filtersThat: the predicate's box, the iterator's algebra -/
structure FT (L : List Int) (T : List (List Int)) (pv : Value) (w W : World) : Prop where
  bel : Below w.heap.size w W
  pass : Boxed W (w.heap.size + 1) 128 pv
  alg : AlgAt W (w.heap.size + 1 + 1 + 1) L T
theorem AlgAt.kept {W W' : World} {row : Option Nat} {b : Nat} {L : List Int} {T : List (List Int)} (h : AlgAt W b L T) (hg : W.grownBy W' row) (hne : some b ≠ row) : AlgAt W' b L T := (hg.block b h.lt hne).trans h
theorem ft_own {β : Type} {L : List Int} {T : List (List Int)} {pv : Value} {w : World} {B : Nat} (hB : w.heap.size ≤ B) : OwnFrom B (fun (_ : β) W => FT L T pv w W) := by
  intro s W W' row hs hg hr
  refine ⟨hs.bel.grown hg hs.bel.size (fun k e => Nat.le_trans hB (hr k e).1), hs.pass.kept hg fun e => ?_, hs.alg.kept hg fun e => ?_⟩
  · obtain ⟨_, o, ho, hc⟩ := hr _ e.symm
    rw [show W.heap[w.heap.size + 1]? = _ from hs.pass] at ho; cases ho; cases hc
  · obtain ⟨_, o, ho, hc⟩ := hr _ e.symm
    rw [show W.heap[w.heap.size + 1 + 1 + 1]? = _ from hs.alg] at ho; cases ho; cases hc
theorem ownsRow_frm {w : World} {B B' : Nat} {e : TypeId} {s : Nat} {v : Value} {k : Nat} {xs : List Value} (h : w.ownsRow B e s v k xs) (hB : B' ≤ B) : w.ownsRow B' e s v k xs := by
  obtain ⟨h1, h⟩ := h
  refine ⟨h1, ?_⟩
  rcases h with h | ⟨g, cap, cur, e1, e2, r⟩
  · exact .inl h
  · exact .inr ⟨g, cap, cur, e1, by omega, r⟩
theorem ownsRow_ge {w : World} {B : Nat} {e : TypeId} {s : Nat} {v : Value} {k : Nat} {xs : List Value} (h : w.ownsRow B e s v k xs) {b : Nat} (hb : b < B) : some b ≠ v.ownBlock := by
  rcases h.2 with ⟨rfl, _⟩ | ⟨g, cap, cur, rfl, h1, _⟩
  · simp [Value.ownBlock]
  · intro e'
    obtain rfl : b = g := by simpa [Value.ownBlock] using e'
    omega
theorem ft_below {L : List Int} {T : List (List Int)} {pv : Value} {w W W' : World} (h : FT L T pv w W) (hb : Below W.heap.size W W') : FT L T pv w W' :=
  ⟨h.bel.trans (hb.mono h.bel.size), h.pass.kept (below_grown hb) (by simp), h.alg.kept (below_grown hb) (by simp)⟩
/-- 'list = append(list, f)' in the round -/
theorem ft_appended {L : List Int} {T : List (List Int)} {pv : Value} {w W w1 : World} {v v' : Value} {k m : Nat} {xs ys : List Value} {tmp : Obj} (hF : FT L T pv w W) (hv : Boxed W (w.heap.size + 1 + 1) 23 v) (hrow : W.ownsRow (w.heap.size + 1 + 1 + 1 + 1) 3 1 v k xs)
    (hown' : w1.ownsRow (w.heap.size + 1 + 1 + 1 + 1) 3 1 v' m ys) (hgrow : (W.alloc tmp).grownBy w1 v.ownBlock) :
    Boxed w1 (w.heap.size + 1 + 1) 23 v ∧ Boxed (w1.setCell ⟨w.heap.size + 1 + 1, 0, none⟩ v') (w.heap.size + 1 + 1) 23 v' ∧ (w1.setCell ⟨w.heap.size + 1 + 1, 0, none⟩ v').ownsRow (w.heap.size + 1 + 1 + 1 + 1) 3 1 v' m ys ∧ KeepsOthers W (w1.setCell ⟨w.heap.size + 1 + 1, 0, none⟩ v') ∧ FT L T pv w (w1.setCell ⟨w.heap.size + 1 + 1, 0, none⟩ v') := by
  obtain ⟨hv1, hv2, hr2, hk2, hb2⟩ := hv.appended (n₀ := w.heap.size) (by decide) (ownsRow_frm hrow (by omega)) hF.bel.size (by omega) (ownsRow_frm hown' (by omega)) hgrow
  refine ⟨hv1, hv2, hown'.kept (grownBy_setCell' w1 _ v') (.inr (hv1.not_row (by decide) hown').symm), hk2, hF.bel.trans hb2, ?_, ?_⟩
  · exact Boxed.other (Boxed.kept (hF.pass.alloc tmp) hgrow (ownsRow_ge hrow (by omega))) (by omega) _
  · refine ((hF.alg.kept (World.grownBy_alloc W tmp none) (by simp)).kept hgrow (ownsRow_ge hrow (by omega))).kept (grownBy_setCell' w1 _ v') (fun e => ?_)
    injection e with e; omega
theorem filt_snoc {L : List Int} {T : List (List Int)} (p : Int → Bool) (pre : List (Fl L T)) (x : Fl L T) : (vals (pre ++ [x])).filter p = if p x.1 then (vals pre).filter p ++ [x.1] else (vals pre).filter p := by
  rw [vals_snoc, List.filter_append]
  cases hp : p x.1 <;> simp [hp]
set_option maxRecDepth 100000 in
set_option maxHeartbeats 4000000 in
/-- impl.algebra.filtersThat at whatever closure -/
theorem filtersThat_any (f : Nat) (env : Array Value) (L : List Int) (T : List (List Int)) (p : Int → Bool) (w : World) (h : algB L T = true) (he : Enters f)
    (H : ∀ (x : Int) (wr : World), x ∈ fls L T → Below w.heap.size w wr → Calls Tryz.prog f (#[.int .i64 x] ++ env) wr fun e w' => e = .returned (.bool (p x)) ∧ Below wr.heap.size wr w') :
    Calls Tryz.prog 185 #[.agg (algOf L T), .func (.func f) #[] env] w (RetSl w.heap.size ((fls L T).filter p) w) := by
  obtain ⟨i0, hi, hz0, hz1, hz2⟩ := info_parts info_int
  have n6 := (lat_len (alg_lat h)).2
  obtain ⟨w3, hw3⟩ : ∃ w3, w3 = ((w.alloc (.cells (algOf L T) 61)).alloc (.cells #[.func (.func f) #[] env] 128)).alloc (.cells #[.slice none 0 0] 23) := ⟨_, rfl⟩
  have z3 : w3.heap.size = w.heap.size + 1 + 1 + 1 := by rw [hw3]; simp
  have B3 : Below w.heap.size w w3 := by rw [hw3]; exact (((Below.refl _ _).alloc (Nat.le_refl _) _).alloc (by simp) _).alloc (by simp; omega) _
  have P3 : Boxed w3 (w.heap.size + 1) 128 (.func (.func f) #[] env) := by rw [hw3]; exact Boxed.alloc (heap_alloc2_new _ _ _) _
  have L3 : Boxed w3 (w.heap.size + 1 + 1) 23 (.slice none 0 0) := by
    rw [hw3]
    have := Boxed.new ((w.alloc (.cells (algOf L T) 61)).alloc (.cells #[.func (.func f) #[] env] 128)) 23 (.slice none 0 0)
    simpa using this
  have A3 : AlgAt w3 w.heap.size L T := by rw [hw3]; exact ((AlgAt.new w L T).alloc _).alloc _
  obtain ⟨w4, hw4⟩ : ∃ w4, w4 = w3.alloc (.cells (algOf L T) 61) := ⟨_, rfl⟩
  have z4 : w4.heap.size = w.heap.size + 1 + 1 + 1 + 1 := by rw [hw4]; simp; omega
  have F4 : FT L T (.func (.func f) #[] env) w w4 := by
    rw [hw4]
    exact ⟨B3.alloc (by omega) _, P3.alloc _, by rw [← z3]; exact AlgAt.new w3 L T⟩
  have L4 : Boxed w4 (w.heap.size + 1 + 1) 23 (.slice none 0 0) := by rw [hw4]; exact L3.alloc _
  refine (callsIn_wide (n := 8)).1 ?_
  refine callsIn_of_wp_marks Tryz.func185 rfl trivial ?_ rfl
  simp only [Tryz.ntmps185, List.size_toArray, List.length_cons, List.length_nil, Nat.reduceAdd, Nat.reduceSub, Array.replicate_succ, Array.replicate_zero, List.push_toArray, List.append_toArray, List.nil_append, List.cons_append]
  gi_wp2_with (first
    | (rw [← hw3]; clear hw3)
    | (refine wpListIn_load_row_w rfl 61 _ rfl w.heap.size rfl _ _ _ _ A3 Tryz.underlying61 rfl (size_alg _ _ _ _ _ _) ?_)
    | (refine ⟨trivial, ?_⟩; gi_at_call 201; refine (callsIn_wide.2 (filtersM_any L T _)).mono ?_; rintro e w' ⟨rfl, rfl⟩))
  rw [← hw4]
  clear hw4
  have HH := Lib.hid H
  have HE := Lib.hid (show ∀ (args : Array Value) (w : World), (callFunc f args).run Tryz.prog w = .ok (.enter f args) w from he)
  clear H he
  refine wpIn_rangeFunc_ownG rfl (by omega) (gf := 213) (lb := #[.pointer (some ⟨w.heap.size + 1 + 1 + 1, 0, none⟩)]) rfl trivial enters_filt
    (filt_stops 7 (by omega) (w.heap.size + 1 + 1 + 1) L T h w4 F4.alg) keepsA_t keepsA_b (Below.refl _ _) (fun _ => rfl)
    (fun pre W => (∃ v, Boxed W (w.heap.size + 1 + 1) 23 v ∧ W.ownsRow (w.heap.size + 1 + 1 + 1 + 1) 3 1 v ((vals pre).filter p).length (((vals pre).filter p).map (Value.int .i64)) ∧ True) ∧ FT L T (.func (.func f) #[] env) w W)
    (fun _ _ _ => False)
    (OwnFrom.and (Go.Own.from (holdsRow_own (w.heap.size + 1 + 1 + 1 + 1) (w.heap.size + 1 + 1) 23 3 1 (fun pre => ((vals pre).filter p).length) (fun pre => ((vals pre).filter p).map (Value.int .i64)) (fun _ _ => True)) _) (ft_own (by omega)))
    (fun _ _ _ _ _ hs _ _ => hs)
    ⟨⟨_, L4, World.ownsRow_nil _ _ _ _, trivial⟩, F4⟩
    (fun x => { tmps := #[.agg (algOf L T), .func (.func f) #[] env, .pointer (some ⟨w.heap.size, 0, none⟩), .pointer (some ⟨w.heap.size + 1, 0, none⟩), .slice none 0 0, .pointer (some ⟨w.heap.size + 1 + 1, 0, none⟩), .int .i64 x.1, .agg (algOf L T), .func (.func 213) #[] #[.pointer (some ⟨w.heap.size + 1 + 1 + 1, 0, none⟩)], .int .i64 x.1, undef, undef, undef, undef, undef, undef, undef, undef], defers := [] }) ?assign ?body ?done ?stop
  case assign =>
    intro l x W K hK
    gi_wp2
    exact hK
  case body =>
    rintro l pre x W ⟨⟨v, hv, hrow, _⟩, hF⟩ hlt
    have hc := hv.cell
    have hpc := hF.pass.cell
    have hC := HH.out x.1 W x.2 hF.bel
    have hpl : ((vals pre).filter p).length ≤ 64 := by
      have h1 := List.length_filter_le p (vals pre)
      rw [vals_len] at h1; omega
    have hsn := Lib.hid (filt_snoc p pre x)
    cases hq : p x.1 with
    | true =>
      rw [hq] at hC
      have hsu := Lib.hid (show (vals (pre ++ [x])).filter p = (vals pre).filter p ++ [x.1] by rw [hsn.out, hq]; rfl)
      have HC := Lib.hid hC; clear hq hC
      gi_wp2_with (first
        | (refine ⟨trivial, ?_⟩; rw [HE.out]; refine ⟨fun h => (by cases h), (CallsIn.inRound l (callsIn_wide.2 HC.out)).mono ?_⟩; rintro e w2 ⟨rfl, h2⟩; have hF2 := ft_below hF h2; have hv2 := hv.kept (below_grown h2) (by simp); have hrow2 : Own _ w2 v _ := Own.below (show Own _ W v _ from hrow) h2; have hc2 := hv2.cell)
        | (gi_at_builtin; refine wpListIn_append_own _ rfl _ _ 23 rfl (w.heap.size + 1 + 1 + 1 + 1) 3 i0 (.int .i64 0) 1 8 Tryz.underlying23 hi hz0 hz1 hz2 rfl (by decide) _ _ _ rfl (Own.alloc hrow2 _) ⟨w2.heap.size, 0, none⟩ 1 1 [.int .i64 x.1] rfl rfl (cell_one_new _ _ _) (by simp [Value.oneCell']) (by unfold maxLen; omega) (by omega) (by have := hF2.alg.lt; simp; omega) ?_; intro v' w8 hown' hgrow _; obtain ⟨g', cap', rfl⟩ := ownsRow_succ hown'; obtain ⟨hv3, hv4, hr4, hk4, hF4⟩ := ft_appended hF2 hv2 hrow2 hown' hgrow; have hc3 := hv3.cell; have hf3 := hv3.frozen))
      exact ⟨(KeepsFrom.of_grownBy (below_grown h2) (fun j e => by cases e)).trans (hk4.from _), fun _ => hF4.alg, ⟨_, hv4, by rw [hsu.out]; simpa using hr4, trivial⟩, hF4⟩
    | false =>
      rw [hq] at hC
      have hsu := Lib.hid (show (vals (pre ++ [x])).filter p = (vals pre).filter p by rw [hsn.out, hq]; rfl)
      have HC := Lib.hid hC; clear hq hC
      gi_wp2_with (first
        | (refine ⟨trivial, ?_⟩; rw [HE.out]; refine ⟨fun h => (by cases h), (CallsIn.inRound l (callsIn_wide.2 HC.out)).mono ?_⟩; rintro e w2 ⟨rfl, h2⟩; have hF2 := ft_below hF h2; have hv2 := hv.kept (below_grown h2) (by simp); have hrow2 : Own _ w2 v _ := Own.below (show Own _ W v _ from hrow) h2; have hc2 := hv2.cell))
      exact ⟨KeepsFrom.of_grownBy (below_grown h2) (fun j e => by cases e), fun _ => hF2.alg, ⟨v, hv2, by rw [hsu.out]; exact hrow2, trivial⟩, hF2⟩
  case done =>
    rintro D ys W hD hys ⟨⟨v, hv, hrow, _⟩, hF⟩ hK
    have hc := hv.cell
    gi_wp2
    refine ⟨by simp, .inl ⟨_, _, rfl, run_takeDeferred hK, ?_⟩⟩
    refine ⟨_, results_tmp rfl _ _ _, RetOwn.sl (B := w.heap.size) ⟨v, rfl, ?_, ?_⟩⟩
    · rw [hys] at hrow
      exact ownsRow_putObj (ownsRow_frm hrow (by omega)) _ hK rfl
    · exact hF.bel.trans (belowK_b (w := w) (Nat.le_refl _) W D _ _ (by omega) hK rfl rfl)
  case stop =>
    rintro D c pre W _ _ h _
    exact h.elim
end Go.Proofs.YtpophjloedpcfaaGreatDoor

namespace Go.Proofs.YtpophjloedpcfaaGreatDoor
open Go.RowKit Go.Shelf

attribute [local go_sem] Oper.semAt_some
set_option maxRecDepth 100000 in
set_option maxHeartbeats 4000000 in
/-- impl.algebra.filtersThat at whatever method value -/
theorem filtersThat_m (f : Nat) (r : Value) (L : List Int) (T : List (List Int)) (p : Int → Bool) (w : World) (h : algB L T = true) (he : Enters f)
    (H : ∀ (x : Int) (wr : World), x ∈ fls L T → Below w.heap.size w wr → Calls Tryz.prog f (#[r, .int .i64 x]) wr fun e w' => e = .returned (.bool (p x)) ∧ Below wr.heap.size wr w') :
    Calls Tryz.prog 185 #[.agg (algOf L T), .func (.func f) #[r] #[]] w (RetSl w.heap.size ((fls L T).filter p) w) := by
  obtain ⟨i0, hi, hz0, hz1, hz2⟩ := info_parts info_int
  have n6 := (lat_len (alg_lat h)).2
  obtain ⟨w3, hw3⟩ : ∃ w3, w3 = ((w.alloc (.cells (algOf L T) 61)).alloc (.cells #[.func (.func f) #[r] #[]] 128)).alloc (.cells #[.slice none 0 0] 23) := ⟨_, rfl⟩
  have z3 : w3.heap.size = w.heap.size + 1 + 1 + 1 := by rw [hw3]; simp
  have B3 : Below w.heap.size w w3 := by rw [hw3]; exact (((Below.refl _ _).alloc (Nat.le_refl _) _).alloc (by simp) _).alloc (by simp; omega) _
  have P3 : Boxed w3 (w.heap.size + 1) 128 (.func (.func f) #[r] #[]) := by rw [hw3]; exact Boxed.alloc (heap_alloc2_new _ _ _) _
  have L3 : Boxed w3 (w.heap.size + 1 + 1) 23 (.slice none 0 0) := by
    rw [hw3]
    have := Boxed.new ((w.alloc (.cells (algOf L T) 61)).alloc (.cells #[.func (.func f) #[r] #[]] 128)) 23 (.slice none 0 0)
    simpa using this
  have A3 : AlgAt w3 w.heap.size L T := by rw [hw3]; exact ((AlgAt.new w L T).alloc _).alloc _
  obtain ⟨w4, hw4⟩ : ∃ w4, w4 = w3.alloc (.cells (algOf L T) 61) := ⟨_, rfl⟩
  have z4 : w4.heap.size = w.heap.size + 1 + 1 + 1 + 1 := by rw [hw4]; simp; omega
  have F4 : FT L T (.func (.func f) #[r] #[]) w w4 := by
    rw [hw4]
    exact ⟨B3.alloc (by omega) _, P3.alloc _, by rw [← z3]; exact AlgAt.new w3 L T⟩
  have L4 : Boxed w4 (w.heap.size + 1 + 1) 23 (.slice none 0 0) := by rw [hw4]; exact L3.alloc _
  refine (callsIn_wide (n := 8)).1 ?_
  refine callsIn_of_wp_marks Tryz.func185 rfl trivial ?_ rfl
  simp only [Tryz.ntmps185, List.size_toArray, List.length_cons, List.length_nil, Nat.reduceAdd, Nat.reduceSub, Array.replicate_succ, Array.replicate_zero, List.push_toArray, List.append_toArray, List.nil_append, List.cons_append]
  gi_wp2_with (first
    | (rw [← hw3]; clear hw3)
    | (refine wpListIn_load_row_w rfl 61 _ rfl w.heap.size rfl _ _ _ _ A3 Tryz.underlying61 rfl (size_alg _ _ _ _ _ _) ?_)
    | (refine ⟨trivial, ?_⟩; gi_at_call 201; refine (callsIn_wide.2 (filtersM_any L T _)).mono ?_; rintro e w' ⟨rfl, rfl⟩))
  rw [← hw4]
  clear hw4
  have HH := Lib.hid H
  have HE := Lib.hid (show ∀ (args : Array Value) (w : World), (callFunc f args).run Tryz.prog w = .ok (.enter f args) w from he)
  clear H he
  refine wpIn_rangeFunc_ownG rfl (by omega) (gf := 213) (lb := #[.pointer (some ⟨w.heap.size + 1 + 1 + 1, 0, none⟩)]) rfl trivial enters_filt
    (filt_stops 7 (by omega) (w.heap.size + 1 + 1 + 1) L T h w4 F4.alg) keepsA_t keepsA_b (Below.refl _ _) (fun _ => rfl)
    (fun pre W => (∃ v, Boxed W (w.heap.size + 1 + 1) 23 v ∧ W.ownsRow (w.heap.size + 1 + 1 + 1 + 1) 3 1 v ((vals pre).filter p).length (((vals pre).filter p).map (Value.int .i64)) ∧ True) ∧ FT L T (.func (.func f) #[r] #[]) w W)
    (fun _ _ _ => False)
    (OwnFrom.and (Go.Own.from (holdsRow_own (w.heap.size + 1 + 1 + 1 + 1) (w.heap.size + 1 + 1) 23 3 1 (fun pre => ((vals pre).filter p).length) (fun pre => ((vals pre).filter p).map (Value.int .i64)) (fun _ _ => True)) _) (ft_own (by omega)))
    (fun _ _ _ _ _ hs _ _ => hs)
    ⟨⟨_, L4, World.ownsRow_nil _ _ _ _, trivial⟩, F4⟩
    (fun x => { tmps := #[.agg (algOf L T), .func (.func f) #[r] #[], .pointer (some ⟨w.heap.size, 0, none⟩), .pointer (some ⟨w.heap.size + 1, 0, none⟩), .slice none 0 0, .pointer (some ⟨w.heap.size + 1 + 1, 0, none⟩), .int .i64 x.1, .agg (algOf L T), .func (.func 213) #[] #[.pointer (some ⟨w.heap.size + 1 + 1 + 1, 0, none⟩)], .int .i64 x.1, undef, undef, undef, undef, undef, undef, undef, undef], defers := [] }) ?assign ?body ?done ?stop
  case assign =>
    intro l x W K hK
    gi_wp2
    exact hK
  case body =>
    rintro l pre x W ⟨⟨v, hv, hrow, _⟩, hF⟩ hlt
    have hc := hv.cell
    have hpc := hF.pass.cell
    have hC := HH.out x.1 W x.2 hF.bel
    have hpl : ((vals pre).filter p).length ≤ 64 := by
      have h1 := List.length_filter_le p (vals pre)
      rw [vals_len] at h1; omega
    have hsn := Lib.hid (filt_snoc p pre x)
    cases hq : p x.1 with
    | true =>
      rw [hq] at hC
      have hsu := Lib.hid (show (vals (pre ++ [x])).filter p = (vals pre).filter p ++ [x.1] by rw [hsn.out, hq]; rfl)
      have HC := Lib.hid hC; clear hq hC
      gi_wp2_with (first
        | (refine ⟨trivial, ?_⟩; rw [HE.out]; refine ⟨fun h => (by cases h), (CallsIn.inRound l (callsIn_wide.2 HC.out)).mono ?_⟩; rintro e w2 ⟨rfl, h2⟩; have hF2 := ft_below hF h2; have hv2 := hv.kept (below_grown h2) (by simp); have hrow2 : Own _ w2 v _ := Own.below (show Own _ W v _ from hrow) h2; have hc2 := hv2.cell)
        | (gi_at_builtin; refine wpListIn_append_own _ rfl _ _ 23 rfl (w.heap.size + 1 + 1 + 1 + 1) 3 i0 (.int .i64 0) 1 8 Tryz.underlying23 hi hz0 hz1 hz2 rfl (by decide) _ _ _ rfl (Own.alloc hrow2 _) ⟨w2.heap.size, 0, none⟩ 1 1 [.int .i64 x.1] rfl rfl (cell_one_new _ _ _) (by simp [Value.oneCell']) (by unfold maxLen; omega) (by omega) (by have := hF2.alg.lt; simp; omega) ?_; intro v' w8 hown' hgrow _; obtain ⟨g', cap', rfl⟩ := ownsRow_succ hown'; obtain ⟨hv3, hv4, hr4, hk4, hF4⟩ := ft_appended hF2 hv2 hrow2 hown' hgrow; have hc3 := hv3.cell; have hf3 := hv3.frozen))
      exact ⟨(KeepsFrom.of_grownBy (below_grown h2) (fun j e => by cases e)).trans (hk4.from _), fun _ => hF4.alg, ⟨_, hv4, by rw [hsu.out]; simpa using hr4, trivial⟩, hF4⟩
    | false =>
      rw [hq] at hC
      have hsu := Lib.hid (show (vals (pre ++ [x])).filter p = (vals pre).filter p by rw [hsn.out, hq]; rfl)
      have HC := Lib.hid hC; clear hq hC
      gi_wp2_with (first
        | (refine ⟨trivial, ?_⟩; rw [HE.out]; refine ⟨fun h => (by cases h), (CallsIn.inRound l (callsIn_wide.2 HC.out)).mono ?_⟩; rintro e w2 ⟨rfl, h2⟩; have hF2 := ft_below hF h2; have hv2 := hv.kept (below_grown h2) (by simp); have hrow2 : Own _ w2 v _ := Own.below (show Own _ W v _ from hrow) h2; have hc2 := hv2.cell))
      exact ⟨KeepsFrom.of_grownBy (below_grown h2) (fun j e => by cases e), fun _ => hF2.alg, ⟨v, hv2, by rw [hsu.out]; exact hrow2, trivial⟩, hF2⟩
  case done =>
    rintro D ys W hD hys ⟨⟨v, hv, hrow, _⟩, hF⟩ hK
    have hc := hv.cell
    gi_wp2
    refine ⟨by simp, .inl ⟨_, _, rfl, run_takeDeferred hK, ?_⟩⟩
    refine ⟨_, results_tmp rfl _ _ _, RetOwn.sl (B := w.heap.size) ⟨v, rfl, ?_, ?_⟩⟩
    · rw [hys] at hrow
      exact ownsRow_putObj (ownsRow_frm hrow (by omega)) _ hK rfl
    · exact hF.bel.trans (belowK_b (w := w) (Nat.le_refl _) W D _ _ (by omega) hK rfl rfl)
  case stop =>
    rintro D c pre W _ _ h _
    exact h.elim
/-- what lies round the loop of AppendSeq -/
structure FS (L : List Int) (T : List (List Int)) (ba : Nat) (w W : World) : Prop where
  bel : Below w.heap.size w W
  alg : AlgAt W ba L T
theorem fs_own {β : Type} {L : List Int} {T : List (List Int)} {ba : Nat} {w : World} {B : Nat} (hB : w.heap.size ≤ B) : OwnFrom B (fun (_ : β) W => FS L T ba w W) := by
  intro s W W' row hs hg hr
  refine ⟨hs.bel.grown hg hs.bel.size (fun k e => Nat.le_trans hB (hr k e).1), hs.alg.kept hg fun e => ?_⟩
  obtain ⟨_, o, ho, hc⟩ := hr _ e.symm
  rw [show W.heap[ba]? = _ from hs.alg] at ho; cases ho; cases hc
/-- 's = append(s, v)' in the round -/
theorem fs_appended {L : List Int} {T : List (List Int)} {ba : Nat} {w W w1 : World} {v v' : Value} {k m : Nat} {xs ys : List Value} {tmp : Obj} (hba : ba < w.heap.size) (hF : FS L T ba w W) (hv : Boxed W w.heap.size 23 v) (hrow : W.ownsRow (w.heap.size + 1) 3 1 v k xs)
    (hown' : w1.ownsRow (w.heap.size + 1) 3 1 v' m ys) (hgrow : (W.alloc tmp).grownBy w1 v.ownBlock) :
    Boxed w1 w.heap.size 23 v ∧ Boxed (w1.setCell ⟨w.heap.size, 0, none⟩ v') w.heap.size 23 v' ∧ (w1.setCell ⟨w.heap.size, 0, none⟩ v').ownsRow (w.heap.size + 1) 3 1 v' m ys ∧ KeepsOthers W (w1.setCell ⟨w.heap.size, 0, none⟩ v') ∧ FS L T ba w (w1.setCell ⟨w.heap.size, 0, none⟩ v') := by
  obtain ⟨hv1, hv2, hr2, hk2, hb2⟩ := hv.appended (n₀ := w.heap.size) (by decide) (ownsRow_frm hrow (by omega)) hF.bel.size (by omega) (ownsRow_frm hown' (by omega)) hgrow
  refine ⟨hv1, hv2, hown'.kept (grownBy_setCell' w1 _ v') (.inr (hv1.not_row (by decide) hown').symm), hk2, hF.bel.trans hb2, ?_⟩
  refine ((hF.alg.kept (World.grownBy_alloc W tmp none) (by simp)).kept hgrow (ownsRow_ge hrow (by omega))).kept (grownBy_setCell' w1 _ v') (fun e => ?_)
  injection e with e; omega
set_option maxRecDepth 100000 in
set_option maxHeartbeats 1000000 in
/-- impl.hasAll -/
theorem hasAll_any (f g : Int) (w : World) (f0 : 0 ≤ f) (f6 : f ≤ 63) (g0 : 0 ≤ g) (g6 : g ≤ 63) :
    Calls Tryz.prog 187 #[.int .i64 f, .int .i64 g] w fun e w' => e = .returned (.bool (hasA f g)) ∧ w = w' := by
  have hb := bits_and_i64 f g f0 (by omega) g0 (by omega)
  have hv := Lib.hid (show hasA f g = (an f g == g) from rfl)
  go_enter Tryz.func187, Tryz.ntmps187
  go_wp2
  go_ret
  exact ⟨ret_bool (by rw [hv.out]), rfl⟩
set_option maxRecDepth 100000 in
set_option maxHeartbeats 2000000 in
/-- impl.algebra.common -/
theorem common_any (a : Option Addr) (c : Nat) (L : List Int) (T : List (List Int)) (V : List Int) (w : World) (hr : Rd w a V) (h : algB L T = true) (hl : V.length ≤ 64) (hm : ∀ s ∈ V, 0 ≤ s ∧ s ≤ 63) :
    Calls Tryz.prog 184 #[.agg (algOf L T), .slice a V.length c] w fun e w' => e = .returned (.int .i64 (com (num L) V)) ∧ Below w.heap.size w w' := by
  have n6 := (lat_len (alg_lat h)).2
  have n6' : (L.length : Int) ≤ 6 := n6
  have hw := wrap_pw L.length (by omega)
  have p1 : 1 ≤ pw (L.length : Int) := (pw_6 n6).1
  have l64 : pw (L.length : Int) ≤ 64 := (pw_6 n6).2
  have k1 : IntKind.i64.wrap (pw (L.length : Int) - 1) = pw (L.length : Int) - 1 := IntWalk.i64_in _ (by omega)
  obtain ⟨w1, hw1⟩ : ∃ w1, w1 = w.alloc (.cells (algOf L T) 61) := ⟨_, rfl⟩
  have hB : Below w.heap.size w w1 := by rw [hw1]; exact (Below.refl _ _).alloc (Nat.le_refl _) _
  have hA : AlgAt w1 w.heap.size L T := by rw [hw1]; exact AlgAt.new w L T
  have c0 := hA.size
  have hr1 := hr.below hB
  have HM := Lib.hid (show ∀ i : Int, 0 ≤ i → i < V.length → 0 ≤ nth V i ∧ nth V i ≤ 63 from fun i i0 i1 => hm _ (nth_mem V i0 i1))
  clear hr hm hA h
  go_enter Tryz.func184, Tryz.ntmps184
  go_wp2_with (rw [← hw1]; clear hw1)
  clear hw k1 c0
  go_loopw [5, 7, 15] (fun o _ c wr => ∃ i : Int, 0 ≤ i ∧ i ≤ V.length ∧ c = .int .i64 i ∧ o = .int .i64 (com (L.length : Int) (V.take i.toNat)) ∧ w1 = wr) (fun _ _ c _ => (64 - intOf c).toNat)
  case atStart => exact ⟨0, by omega, by omega, rfl, rfl, rfl⟩
  case round =>
    obtain ⟨i, i0, i1, rfl, rfl, rfl⟩ := hrel
    by_cases hi : i < V.length
    · obtain ⟨vb, vo, rfl, hcl⟩ := hr1 (by intro e; rw [e] at hi; simp at hi; omega)
      have d0 := hcl.at i i0 hi
      obtain ⟨m0, m1⟩ := HM.out i i0 hi
      obtain ⟨q0, q1⟩ := com_range (L.length : Int) (V.take i.toNat)
      have hb2 := bits_and_i64 (com (L.length : Int) (V.take i.toNat)) (nth V i) q0 (by omega) m0 (by omega)
      have hsu := Lib.hid (show com (L.length : Int) (V.take (i + 1).toNat) = an (com (L.length : Int) (V.take i.toNat)) (nth V i) by rw [take_next V i0 hi, com_succ])
      clear hcl
      go_wp2
      go_roundw
      case rel => exact ⟨i + 1, by omega, by omega, rfl, by rw [hsu.out], by trivial⟩
      case measure => simp [intOf]; omega
    · have ht := Lib.hid (take_end V (show (V.length : Int) ≤ i by omega))
      go_wp2
      go_ret
      exact ⟨ret_int (by rw [ht.out]; rfl), hB⟩
end Go.Proofs.YtpophjloedpcfaaGreatDoor

namespace Go.Proofs.YtpophjloedpcfaaGreatDoor
open Go.RowKit

theorem AlgAt.run {w : World} {b : Nat} {L : List Int} {T : List (List Int)} (h : AlgAt w b L T) : (loadVar 61 ⟨b, 0, none⟩).run Tryz.prog w = .ok (.agg (algOf L T)) w :=
  run_loadVar_row w b _ _ _ _ _ h Tryz.underlying61 rfl (size_alg _ _ _ _ _ _)
end Go.Proofs.YtpophjloedpcfaaGreatDoor
