import Derived.Test.YtmlbdlobdnhimabG5
import Derived.Test.YtmlbdlobdnhimabM5
import Derived.Test.YtmlbdlobdnhimabS1
import Derived.Test.YtmlbdlobdnhimabG9
namespace Go.Proofs.Ytmlbdlobdnhimab
open Go.RowKit

theorem ib_t {f x : Int} (h : ib f x = true) : bt f x = 1 := by unfold ib at h; exact beq_iff_eq.1 h
theorem ib_f {f x : Int} (h : ib f x = false) : bt f x = 0 := by
  have := bt_range f x
  have h2 : bt f x ≠ 1 := fun e => by unfold ib at h; rw [e] at h; cases h
  omega
theorem bit_is (v y : Int) (w : World) (hv : 0 ≤ v) (hv2 : v ≤ 63) (hy0 : 0 ≤ y) (hy : y ≤ 30) {r : Int} (h : bt v y = r) :
    Calls Try.prog 126 #[.int .i64 v, .int .i64 y] w fun e w' => e = .returned (.int .i64 r) ∧ w = w' := by
  subst h; exact bit_any v y w hv hv2 hy0 hy
theorem inRange_is (n a b : Int) (w : World) {r : Bool} (h : (decide (a ≤ n) && decide (n ≤ b)) = r) :
    Calls Try.prog 81 #[.int .i64 n, .int .i64 a, .int .i64 b] w fun e w' => e = .returned (.bool r) ∧ w = w' := by
  subst h; exact inRange_any n a b w

set_option maxRecDepth 100000 in
set_option maxHeartbeats 4000000 in
/-- spec.isFilter -/
theorem specIsFil_any (a b : Option Addr) (ca cb : Nat) (L : List Int) (T : List (List Int)) (f : Int) (w : World) (hr : Rd w a L) (hT : RdT w b T) (h : algB L T = true) :
    Calls Try.prog 71 #[.agg #[.slice a L.length ca, .slice b T.length cb], .int .i64 f] w fun e w' => e = .returned (.bool (isFilB L T f)) ∧ Below w.heap.size w w' := by
  obtain ⟨hlat, hsh, _⟩ := algB_parts h
  obtain ⟨n1, n6, hs⟩ := latB_parts hlat
  have hn : num L = L.length := rfl
  have hlt := shape_len hsh
  obtain ⟨w1, hw1⟩ : ∃ w1, w1 = w.alloc (.cells #[.slice a L.length ca, .slice b T.length cb] 27) := ⟨_, rfl⟩
  have hB : Below w.heap.size w w1 := by rw [hw1]; exact (Below.refl _ _).alloc (Nat.le_refl _) _
  have hx : w1.heap[w.heap.size]? = some (.cells #[.slice a L.length ca, .slice b T.length cb] 27 (0, 0)) := by rw [hw1]; exact heap_alloc_new w _
  obtain ⟨c0, c1⟩ := bx_cells hx
  have Kx := Lib.hid (show ∀ wz, Below w1.heap.size w1 wz → wz.heap[w.heap.size]? = some (.cells #[.slice a L.length ca, .slice b T.length cb] 27 (0, 0)) from fun wz h => (h.block _ (lt_of_block hx)).trans hx)
  have KR := Lib.hid (show ∀ wz, Below w1.heap.size w1 wz → Rd wz a L from fun wz h => (hr.below hB).below h)
  have KT := Lib.hid (show ∀ wz, Below w1.heap.size w1 wz → RdT wz b T from fun wz h => (hT.below hB).below h)
  have z1 : Below w1.heap.size w1 w1 := Below.refl _ _
  clear hr hT hx
  obtain ⟨B, off, rfl, rb, ro, rc, htab⟩ := tab_of (KT.out _ z1) hsh n1
  obtain ⟨ab, ao, rfl, hcl⟩ := (KR.out _ z1).pos n1
  have HCL := Lib.hid hcl
  have HTAB := Lib.hid htab
  have HSH := Lib.hid hsh
  have HN := Lib.hid hn
  have hn1 : num L ≤ L.length := by omega
  have hn2 : (L.length : Int) ≤ num L := by omega
  have hn3 : num L ≤ T.length := by omega
  have l1 : (1 : Int) ≤ L.length := by omega
  have l6 : (L.length : Int) ≤ 6 := by omega
  obtain ⟨p1, p64⟩ := pw_6 n6
  have pe : pw (L.length : Int) = pw (num L) := by rw [hn]
  have hv := Lib.hid (show isFilB L T f = (setB L f && filB L T f) from rfl)
  have hset := Lib.hid (show (decide (0 ≤ f) && decide (f ≤ pw (L.length : Int) - 1)) = setB L f from rfl)
  have hfil := Lib.hid (show filB L T f = (ib f ((L.length : Int) - 1) && all2 (num L) (filXY L T f)) from rfl)
  have k1 : IntKind.i64.wrap (pw (L.length : Int) - 1) = pw (L.length : Int) - 1 := IntWalk.i64_in _ (by omega)
  have k2 : IntKind.i64.wrap ((L.length : Int) - 1) = (L.length : Int) - 1 := IntWalk.i64_in _ (by omega)
  clear hcl htab hsh hlat hn hlt h KR KT Kx
  cases hS : setB L f with
  | false =>
    rw [hS] at hset
    have hv2 := Lib.hid (show isFilB L T f = false by rw [hv.out, hS]; rfl)
    go_enter Try.func71, Try.ntmps71
    go_wp2_with (first
      | go_skip
      | (rw [← hw1]; clear hw1)
      | (go_at_call 119; refine (power_any _ _ (by omega) (by omega)).mono ?_; rintro e w2 ⟨rfl, rfl⟩)
      | (go_at_call 81; refine (inRange_is f 0 _ _ hset.out).mono ?_; rintro e w3 ⟨rfl, rfl⟩))
    go_ret
    exact ⟨ret_bool (by rw [hv2.out]), hB⟩
  | true =>
    rw [hS] at hset
    obtain ⟨f0, f1⟩ : 0 ≤ f ∧ f ≤ pw (num L) - 1 := by unfold setB at hS; rwa [Bool.and_eq_true, decide_eq_true_eq, decide_eq_true_eq] at hS
    cases hG : ib f ((L.length : Int) - 1) with
    | false =>
      have hv2 := Lib.hid (show isFilB L T f = false by rw [hv.out, hS, hfil.out, hG]; rfl)
      have hG2 := Lib.hid (ib_f hG)
      clear hG
      go_enter Try.func71, Try.ntmps71
      go_wp2_with (first
        | go_skip
        | (rw [← hw1]; clear hw1)
        | (go_at_call 119; refine (power_any _ _ (by omega) (by omega)).mono ?_; rintro e w2 ⟨rfl, rfl⟩)
        | (go_at_call 81; refine (inRange_is f 0 _ _ hset.out).mono ?_; rintro e w3 ⟨rfl, rfl⟩)
        | (go_at_call 126; refine (bit_is f _ _ (by omega) (by omega) (by omega) (by omega) hG2.out).mono ?_; rintro e w4 ⟨rfl, rfl⟩))
      go_ret
      exact ⟨ret_bool (by rw [hv2.out]), hB⟩
    | true =>
      have hv2 := Lib.hid (show isFilB L T f = all2 (num L) (filXY L T f) by rw [hv.out, hS, hfil.out, hG]; rfl)
      have hG2 := Lib.hid (ib_t hG)
      clear hG
      go_enter Try.func71, Try.ntmps71
      go_wp2_with (first
        | go_skip
        | (rw [← hw1]; clear hw1)
        | (go_at_call 119; refine (power_any _ _ (by omega) (by omega)).mono ?_; rintro e w2 ⟨rfl, rfl⟩)
        | (go_at_call 81; refine (inRange_is f 0 _ _ hset.out).mono ?_; rintro e w3 ⟨rfl, rfl⟩)
        | (go_at_call 126; refine (bit_is f _ _ (by omega) (by omega) (by omega) (by omega) hG2.out).mono ?_; rintro e w4 ⟨rfl, rfl⟩))
      go_loopw [6, 7] (fun c _ wr => ∃ x : Int, 0 ≤ x ∧ x ≤ num L ∧ c = .int .i64 x ∧ AllTo x (fun x => allI (num L) (filXY L T f x)) ∧ w1 = wr) (fun c _ _ => (6 - intOf c).toNat)
      case atStart => exact ⟨0, by omega, by omega, rfl, AllTo.zero _, rfl⟩
      case round =>
        obtain ⟨x, x0, x1, rfl, hx, rfl⟩ := hrel
        by_cases hxn : x < num L
        · have hxl : x < L.length := by omega
          have hxt : x < T.length := by omega
          go_wp2
          go_loopw [7] (fun c wr => ∃ y : Int, 0 ≤ y ∧ y ≤ num L ∧ c = .int .i64 y ∧ AllTo y (filXY L T f x) ∧ w1 = wr) (fun c _ => (6 - intOf c).toNat)
          case atStart => exact ⟨0, by omega, by omega, rfl, AllTo.zero _, rfl⟩
          case round =>
            obtain ⟨y, y0, y1, rfl, hy, rfl⟩ := hrel
            by_cases hyn : y < num L
            · have hyl : y < L.length := by omega
              obtain ⟨t0, t1⟩ := shape_cell HSH.out x0 hxn y0 hyn
              have d0 := HTAB.out.row x0 hxn
              have d1 := HTAB.out.cell x0 hxn y0 hyn
              have hq := Lib.hid (show filXY L T f x y = (!ib f x || (if ib f y then ib f (tv T x y) else !bl L x y)) from rfl)
              cases hX : ib f x with
              | false =>
                rw [hX] at hq
                have HX := Lib.hid (ib_f hX)
                replace hq := Lib.hid (show filXY L T f x y = true by rw [hq.out]; rfl)
                clear hX
                go_wp2_with (first
                    | go_skip
                    | (go_at_call_of 126 (Value.int .i64 (x : Int)); refine (bit_is f (x) _ (by omega) (by omega) (by omega) (by omega) HX.out).mono ?_; rintro e w4 ⟨rfl, rfl⟩))
                go_roundw
                case rel => exact ⟨y + 1, by omega, by omega, rfl, hy.succ hq.out, by trivial⟩
                case measure => simp [intOf]; omega
              | true =>
                rw [hX] at hq
                have HX := Lib.hid (ib_t hX)
                clear hX
                cases hY : ib f y with
                | false =>
                  rw [hY] at hq
                  have HY := Lib.hid (ib_f hY)
                  clear hY
                  cases hL : bl L x y with
                  | true =>
                    rw [hL] at hq
                    have HL := Lib.hid hL
                    replace hq := Lib.hid (show filXY L T f x y = false by rw [hq.out]; rfl)
                    have hno := Lib.hid (show all2 (num L) (filXY L T f) = false from allI_false (p := fun x => allI (num L) (filXY L T f x)) x x0 hxn (allI_false y y0 hyn hq.out))
                    clear hL
                    go_wp2_with (first
                        | go_skip
                        | (go_at_call_of 126 (Value.int .i64 (x : Int)); refine (bit_is f (x) _ (by omega) (by omega) (by omega) (by omega) HX.out).mono ?_; rintro e w4 ⟨rfl, rfl⟩)
                        | (go_at_call_of 126 (Value.int .i64 (y : Int)); refine (bit_is f (y) _ (by omega) (by omega) (by omega) (by omega) HY.out).mono ?_; rintro e w5 ⟨rfl, rfl⟩)
                        | (go_at_call 118; refine (below_is _ _ _ L x y _ HCL.out hs x0 hxn y0 (by omega) HL.out).mono ?_; rintro e w7 ⟨rfl, rfl⟩))
                    go_ret
                    exact ⟨ret_bool (by rw [hv2.out, hno.out]), hB⟩
                  | false =>
                    rw [hL] at hq
                    have HL := Lib.hid hL
                    replace hq := Lib.hid (show filXY L T f x y = true by rw [hq.out]; rfl)
                    clear hL
                    go_wp2_with (first
                        | go_skip
                        | (go_at_call_of 126 (Value.int .i64 (x : Int)); refine (bit_is f (x) _ (by omega) (by omega) (by omega) (by omega) HX.out).mono ?_; rintro e w4 ⟨rfl, rfl⟩)
                        | (go_at_call_of 126 (Value.int .i64 (y : Int)); refine (bit_is f (y) _ (by omega) (by omega) (by omega) (by omega) HY.out).mono ?_; rintro e w5 ⟨rfl, rfl⟩)
                        | (go_at_call 118; refine (below_is _ _ _ L x y _ HCL.out hs x0 hxn y0 (by omega) HL.out).mono ?_; rintro e w7 ⟨rfl, rfl⟩))
                    go_roundw
                    case rel => exact ⟨y + 1, by omega, by omega, rfl, hy.succ hq.out, by trivial⟩
                    case measure => simp [intOf]; omega
                | true =>
                  rw [hY] at hq
                  have HY := Lib.hid (ib_t hY)
                  clear hY
                  cases hZ : ib f (tv T x y) with
                  | true =>
                    rw [hZ] at hq
                    have HZ := Lib.hid (ib_t hZ)
                    replace hq := Lib.hid (show filXY L T f x y = true by rw [hq.out]; rfl)
                    clear hZ
                    cases hL : bl L x y
                    all_goals
                      have HL := Lib.hid hL
                      clear hL
                      go_wp2_with (first
                          | go_skip
                          | (go_at_call_of 126 (Value.int .i64 (x : Int)); refine (bit_is f (x) _ (by omega) (by omega) (by omega) (by omega) HX.out).mono ?_; rintro e w4 ⟨rfl, rfl⟩)
                          | (go_at_call_of 126 (Value.int .i64 (y : Int)); refine (bit_is f (y) _ (by omega) (by omega) (by omega) (by omega) HY.out).mono ?_; rintro e w5 ⟨rfl, rfl⟩)
                          | (go_at_call_of 126 (Value.int .i64 (tv T x y : Int)); refine (bit_is f (tv T x y) _ (by omega) (by omega) (by omega) (by omega) HZ.out).mono ?_; rintro e w6 ⟨rfl, rfl⟩)
                          | (go_at_call 118; refine (below_is _ _ _ L x y _ HCL.out hs x0 hxn y0 (by omega) HL.out).mono ?_; rintro e w7 ⟨rfl, rfl⟩))
                      go_roundw
                      case rel => exact ⟨y + 1, by omega, by omega, rfl, hy.succ hq.out, by trivial⟩
                      case measure => simp [intOf]; omega
                  | false =>
                    rw [hZ] at hq
                    have HZ := Lib.hid (ib_f hZ)
                    replace hq := Lib.hid (show filXY L T f x y = false by rw [hq.out]; rfl)
                    have hno := Lib.hid (show all2 (num L) (filXY L T f) = false from allI_false (p := fun x => allI (num L) (filXY L T f x)) x x0 hxn (allI_false y y0 hyn hq.out))
                    clear hZ
                    cases hL : bl L x y
                    all_goals
                      have HL := Lib.hid hL
                      clear hL
                      go_wp2_with (first
                          | go_skip
                          | (go_at_call_of 126 (Value.int .i64 (x : Int)); refine (bit_is f (x) _ (by omega) (by omega) (by omega) (by omega) HX.out).mono ?_; rintro e w4 ⟨rfl, rfl⟩)
                          | (go_at_call_of 126 (Value.int .i64 (y : Int)); refine (bit_is f (y) _ (by omega) (by omega) (by omega) (by omega) HY.out).mono ?_; rintro e w5 ⟨rfl, rfl⟩)
                          | (go_at_call_of 126 (Value.int .i64 (tv T x y : Int)); refine (bit_is f (tv T x y) _ (by omega) (by omega) (by omega) (by omega) HZ.out).mono ?_; rintro e w6 ⟨rfl, rfl⟩)
                          | (go_at_call 118; refine (below_is _ _ _ L x y _ HCL.out hs x0 hxn y0 (by omega) HL.out).mono ?_; rintro e w7 ⟨rfl, rfl⟩))
                      go_ret
                      exact ⟨ret_bool (by rw [hv2.out, hno.out]), hB⟩
            · have hall := Lib.hid (hy.all (by omega : num L ≤ y))
              go_wp2
              go_roundw
              case rel => exact ⟨x + 1, by omega, by omega, rfl, hx.succ hall.out, by trivial⟩
              case measure => simp [intOf]; omega
        · have hall := Lib.hid (show all2 (num L) (filXY L T f) = true from hx.all (by omega : num L ≤ x))
          go_wp2
          go_ret
          exact ⟨ret_bool (by rw [hv2.out, hall.out]), hB⟩
end Go.Proofs.Ytmlbdlobdnhimab

namespace Go.Proofs.Ytmlbdlobdnhimab
open Go.RowKit

theorem take_next (V : List Int) {i : Int} (i0 : 0 ≤ i) (h : i < V.length) : V.take (i + 1).toNat = V.take i.toNat ++ [nth V i] := by
  have h' : i.toNat < V.length := by omega
  rw [show (i + 1).toNat = i.toNat + 1 by omega, List.take_succ_eq_append_getElem h']
  unfold nth; simp [List.getD, h']
theorem take_end (V : List Int) {i : Int} (h : (V.length : Int) ≤ i) : V.take i.toNat = V := List.take_of_length_le (by omega)
theorem take_flen (V : List Int) (p : Int → Bool) (i : Int) : ((V.take i.toNat).filter p).length ≤ V.length := by
  have h1 := List.length_filter_le p (V.take i.toNat)
  have h2 : (V.take i.toNat).length ≤ V.length := by rw [List.length_take]; omega
  omega
theorem nth_mem (V : List Int) {i : Int} (i0 : 0 ≤ i) (h : i < V.length) : nth V i ∈ V := by
  have h' : i.toNat < V.length := by omega
  unfold nth; simp [List.getD, h']
theorem fils_is (L : List Int) (T : List (List Int)) {f : Int} (f0 : 0 ≤ f) (f1 : f < pw (num L)) : isFilB L T f = filB L T f := by
  unfold isFilB setB
  rw [decide_eq_true f0, decide_eq_true (show f ≤ pw (num L) - 1 by omega)]; rfl

theorem specIsFil_is (a b : Option Addr) (ca cb : Nat) (L : List Int) (T : List (List Int)) (f : Int) (w : World) (hr : Rd w a L) (hT : RdT w b T) (h : algB L T = true) {r : Bool} (hf : isFilB L T f = r) :
    Calls Try.prog 71 #[.agg #[.slice a L.length ca, .slice b T.length cb], .int .i64 f] w fun e w' => e = .returned (.bool r) ∧ Below w.heap.size w w' := by
  subst hf; exact specIsFil_any a b ca cb L T f w hr hT h
end Go.Proofs.Ytmlbdlobdnhimab
