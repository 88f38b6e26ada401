import Derived.Test.YtpfnfglaokiipacN9
import Derived.Maps.AppendAt
namespace Go.Proofs.Ytpfnfglaokiipac
open Go.RowKit

set_option maxRecDepth 100000 in
set_option maxHeartbeats 2000000 in
/-- spec.prime -/
theorem specPrime_any (a b : Option Addr) (ca cb : Nat) (L : List Int) (T : List (List Int)) (f : Int) (w : World) (hr : Rd w a L) (hT : RdT w b T) (h : algB L T = true) (f0 : 0 ≤ f) (f6 : f ≤ 63) :
    Calls Try.prog 84 #[.agg #[.slice a L.length ca, .slice b T.length cb], .int .i64 f] w fun e w' => e = .returned (.bool (priB L f)) ∧ Below w.heap.size w w' := by
  obtain ⟨hlat, hsh, _⟩ := algB_parts h
  obtain ⟨n1, n6, hs⟩ := latB_parts hlat
  have hn : num L = L.length := rfl
  obtain ⟨w1, hw1⟩ : ∃ w1, w1 = w.alloc (.cells #[.slice a L.length ca, .slice b T.length cb] 27) := ⟨_, rfl⟩
  have hB : Below w.heap.size w w1 := by rw [hw1]; exact (Below.refl _ _).alloc (Nat.le_refl _) _
  have hx : w1.heap[w.heap.size]? = some (.cells #[.slice a L.length ca, .slice b T.length cb] 27 (0, 0)) := by rw [hw1]; exact heap_alloc_new w _
  obtain ⟨c0, c1⟩ := bx_cells hx
  have Kx := Lib.hid (show ∀ wz, Below w1.heap.size w1 wz → wz.heap[w.heap.size]? = some (.cells #[.slice a L.length ca, .slice b T.length cb] 27 (0, 0)) from fun wz h => (h.block _ (lt_of_block hx)).trans hx)
  have KR := Lib.hid (show ∀ wz, Below w1.heap.size w1 wz → Rd wz a L from fun wz h => (hr.below hB).below h)
  have KT := Lib.hid (show ∀ wz, Below w1.heap.size w1 wz → RdT wz b T from fun wz h => (hT.below hB).below h)
  have z1 : Below w1.heap.size w1 w1 := Below.refl _ _
  clear hr hT hx
  obtain ⟨ab, ao, rfl, hcl⟩ := (KR.out _ z1).pos n1
  have HCL := Lib.hid hcl
  have HLAT := Lib.hid hlat
  have hn1 : num L ≤ L.length := by omega
  have hn2 : (L.length : Int) ≤ num L := by omega
  have hv := Lib.hid (show priB L f = (!ib f 0 && all2 (num L) (priXY L f)) from rfl)
  clear hcl hsh hlat hn h KR KT Kx
  cases hG : ib f 0 with
  | true =>
    have hv2 := Lib.hid (show priB L f = false by rw [hv.out, hG]; rfl)
    have hG2 := Lib.hid (ib_t hG)
    clear hG
    go_enter Try.func84, Try.ntmps84
    go_wp2_with (first
      | (rw [← hw1]; clear hw1)
      | (go_at_call 101; refine (bit_is f 0 _ (by omega) (by omega) (by omega) (by omega) hG2.out).mono ?_; rintro e w4 ⟨rfl, rfl⟩))
    go_ret
    exact ⟨ret_bool (by rw [hv2.out]), hB⟩
  | false =>
    have hv2 := Lib.hid (show priB L f = all2 (num L) (priXY L f) by rw [hv.out, hG]; rfl)
    have hG2 := Lib.hid (ib_f hG)
    clear hG
    go_enter Try.func84, Try.ntmps84
    go_wp2_with (first
      | (rw [← hw1]; clear hw1)
      | (go_at_call 101; refine (bit_is f 0 _ (by omega) (by omega) (by omega) (by omega) hG2.out).mono ?_; rintro e w4 ⟨rfl, rfl⟩))
    go_loopw [6, 7] (fun c _ wr => ∃ x : Int, 0 ≤ x ∧ x ≤ num L ∧ c = .int .i64 x ∧ AllTo x (fun x => allI (num L) (priXY L f x)) ∧ w1 = wr) (fun c _ _ => (6 - intOf c).toNat)
    case atStart => exact ⟨0, by omega, by omega, rfl, AllTo.zero _, rfl⟩
    case round =>
      obtain ⟨x, x0, x1, rfl, hx, rfl⟩ := hrel
      by_cases hxn : x < num L
      · have hxl : x < L.length := by omega
        go_wp2
        go_loopw [7] (fun c wr => ∃ y : Int, 0 ≤ y ∧ y ≤ num L ∧ c = .int .i64 y ∧ AllTo y (priXY L f x) ∧ w1 = wr) (fun c _ => (6 - intOf c).toNat)
        case atStart => exact ⟨0, by omega, by omega, rfl, AllTo.zero _, rfl⟩
        case round =>
          obtain ⟨y, y0, y1, rfl, hy, rfl⟩ := hrel
          by_cases hyn : y < num L
          · have hyl : y < L.length := by omega
            obtain ⟨t0, t1⟩ := lat_jn HLAT.out x0 hxn y0 hyn
            have hq := Lib.hid (show priXY L f x y = (ib f x || ib f y || !ib f (jn L x y)) from rfl)
            cases hZ : ib f (jn L x y) with
            | false =>
              rw [hZ, Bool.not_false, Bool.or_true] at hq
              have HZ := Lib.hid (ib_f hZ)
              clear hZ
              go_wp2_with (first
                | go_skip
                | (go_at_call 92; refine (join_any _ _ _ L x y _ HCL.out hs x0 hxn y0 hyn).mono ?_; rintro e w3 ⟨rfl, rfl⟩)
                | (go_at_call_of 101 (Value.int .i64 (jn L x y : Int)); refine (bit_is f (jn L x y) _ (by omega) (by omega) (by omega) (by omega) HZ.out).mono ?_; rintro e w6 ⟨rfl, rfl⟩))
              go_roundw
              case rel => exact ⟨y + 1, by omega, by omega, rfl, hy.succ hq.out, by trivial⟩
              case measure => simp [intOf]; omega
            | true =>
              rw [hZ] at hq
              have HZ := Lib.hid (ib_t hZ)
              clear hZ
              cases hX : ib f x with
              | true =>
                rw [hX] at hq
                have HX := Lib.hid (ib_t hX)
                replace hq := Lib.hid (show priXY L f x y = true by rw [hq.out]; rfl)
                clear hX
                go_wp2_with (first
                  | go_skip
                  | (go_at_call 92; refine (join_any _ _ _ L x y _ HCL.out hs x0 hxn y0 hyn).mono ?_; rintro e w3 ⟨rfl, rfl⟩)
                  | (go_at_call_of 101 (Value.int .i64 (x : Int)); refine (bit_is f (x) _ (by omega) (by omega) (by omega) (by omega) HX.out).mono ?_; rintro e w4 ⟨rfl, rfl⟩)
                  | (go_at_call_of 101 (Value.int .i64 (jn L x y : Int)); refine (bit_is f (jn L x y) _ (by omega) (by omega) (by omega) (by omega) HZ.out).mono ?_; rintro e w6 ⟨rfl, rfl⟩))
                go_roundw
                case rel => exact ⟨y + 1, by omega, by omega, rfl, hy.succ hq.out, by trivial⟩
                case measure => simp [intOf]; omega
              | false =>
                rw [hX] at hq
                have HX := Lib.hid (ib_f hX)
                clear hX
                cases hY : ib f y with
                | true =>
                  rw [hY] at hq
                  have HY := Lib.hid (ib_t hY)
                  replace hq := Lib.hid (show priXY L f x y = true by rw [hq.out]; rfl)
                  clear hY
                  go_wp2_with (first
                    | go_skip
                    | (go_at_call 92; refine (join_any _ _ _ L x y _ HCL.out hs x0 hxn y0 hyn).mono ?_; rintro e w3 ⟨rfl, rfl⟩)
                    | (go_at_call_of 101 (Value.int .i64 (x : Int)); refine (bit_is f (x) _ (by omega) (by omega) (by omega) (by omega) HX.out).mono ?_; rintro e w4 ⟨rfl, rfl⟩)
                    | (go_at_call_of 101 (Value.int .i64 (y : Int)); refine (bit_is f (y) _ (by omega) (by omega) (by omega) (by omega) HY.out).mono ?_; rintro e w5 ⟨rfl, rfl⟩)
                    | (go_at_call_of 101 (Value.int .i64 (jn L x y : Int)); refine (bit_is f (jn L x y) _ (by omega) (by omega) (by omega) (by omega) HZ.out).mono ?_; rintro e w6 ⟨rfl, rfl⟩))
                  go_roundw
                  case rel => exact ⟨y + 1, by omega, by omega, rfl, hy.succ hq.out, by trivial⟩
                  case measure => simp [intOf]; omega
                | false =>
                  rw [hY] at hq
                  have HY := Lib.hid (ib_f hY)
                  replace hq := Lib.hid (show priXY L f x y = false by rw [hq.out]; rfl)
                  have hno := Lib.hid (show all2 (num L) (priXY L f) = false from allI_false (p := fun x => allI (num L) (priXY L f x)) x x0 hxn (allI_false y y0 hyn hq.out))
                  clear hY
                  go_wp2_with (first
                    | go_skip
                    | (go_at_call 92; refine (join_any _ _ _ L x y _ HCL.out hs x0 hxn y0 hyn).mono ?_; rintro e w3 ⟨rfl, rfl⟩)
                    | (go_at_call_of 101 (Value.int .i64 (x : Int)); refine (bit_is f (x) _ (by omega) (by omega) (by omega) (by omega) HX.out).mono ?_; rintro e w4 ⟨rfl, rfl⟩)
                    | (go_at_call_of 101 (Value.int .i64 (y : Int)); refine (bit_is f (y) _ (by omega) (by omega) (by omega) (by omega) HY.out).mono ?_; rintro e w5 ⟨rfl, rfl⟩)
                    | (go_at_call_of 101 (Value.int .i64 (jn L x y : Int)); refine (bit_is f (jn L x y) _ (by omega) (by omega) (by omega) (by omega) HZ.out).mono ?_; rintro e w6 ⟨rfl, rfl⟩))
                  go_ret
                  exact ⟨ret_bool (by rw [hv2.out, hno.out]), hB⟩
          · have hall := Lib.hid (hy.all (by omega : num L ≤ y))
            go_wp2
            go_roundw
            case rel => exact ⟨x + 1, by omega, by omega, rfl, hx.succ hall.out, by trivial⟩
            case measure => simp [intOf]; omega
      · have hall := Lib.hid (show all2 (num L) (priXY L f) = true from hx.all (by omega : num L ≤ x))
        go_wp2
        go_ret
        exact ⟨ret_bool (by rw [hv2.out, hall.out]), hB⟩
theorem specPrime_is (a b : Option Addr) (ca cb : Nat) (L : List Int) (T : List (List Int)) (f : Int) (w : World) (hr : Rd w a L) (hT : RdT w b T) (h : algB L T = true) (f0 : 0 ≤ f) (f6 : f ≤ 63) {r : Bool} (hp : priB L f = r) :
    Calls Try.prog 84 #[.agg #[.slice a L.length ca, .slice b T.length cb], .int .i64 f] w fun e w' => e = .returned (.bool (r)) ∧ Below w.heap.size w w' := by
  subst hp; exact specPrime_any a b ca cb L T f w hr hT h f0 f6
set_option maxRecDepth 100000 in
set_option maxHeartbeats 2000000 in
/-- spec.HeartOf -/
theorem specHeartOf_any (a b : Option Addr) (ca cb : Nat) (L : List Int) (T : List (List Int)) (w : World) (hr : Rd w a L) (hT : RdT w b T) :
    Calls Try.prog 45 #[.agg #[.slice a L.length ca, .slice b T.length cb]] w fun e w' => e = .returned (.tuple #[.int .i64 (hrtI L T), .bool (hrtB L T)]) ∧ Below w.heap.size w w' := by
  obtain ⟨w1, hw1⟩ : ∃ w1, w1 = w.alloc (.cells #[.slice a L.length ca, .slice b T.length cb] 27) := ⟨_, rfl⟩
  have hB : Below w.heap.size w w1 := by rw [hw1]; exact (Below.refl _ _).alloc (Nat.le_refl _) _
  have hx : w1.heap[w.heap.size]? = some (.cells #[.slice a L.length ca, .slice b T.length cb] 27 (0, 0)) := by rw [hw1]; exact heap_alloc_new w _
  obtain ⟨c0, c1⟩ := bx_cells hx
  have Kx := Lib.hid (show ∀ wz, Below w1.heap.size w1 wz → wz.heap[w.heap.size]? = some (.cells #[.slice a L.length ca, .slice b T.length cb] 27 (0, 0)) from fun wz h => (h.block _ (lt_of_block hx)).trans hx)
  have KR := Lib.hid (show ∀ wz, Below w1.heap.size w1 wz → Rd wz a L from fun wz h => (hr.below hB).below h)
  have KT := Lib.hid (show ∀ wz, Below w1.heap.size w1 wz → RdT wz b T from fun wz h => (hT.below hB).below h)
  have z1 : Below w1.heap.size w1 w1 := Below.refl _ _
  clear hr hT hx
  cases hA : algB L T with
  | false =>
    have hv := Lib.hid (hrt_out hA)
    have HA := Lib.hid hA
    clear hA
    go_enter Try.func45, Try.ntmps45
    go_wp2_with (first
      | go_skip
      | (rw [← hw1]; clear hw1)
      | (refine wpList_load_row_w rfl 27 _ rfl w.heap.size rfl _ _ _ _ (Kx.out _ (by assumption)) Try.underlying27 rfl (size_Alg _ _) ?_)
      | (go_at_call 49; refine (ret_below (validAlgebra_any _ _ _ _ L T _ (KR.out _ z1) (KT.out _ z1)) HA.out).mono ?_; rintro e w2 ⟨rfl, h2⟩; have z2 : Below w1.heap.size w1 w2 := h2; clear h2))
    go_ret2
    exact ⟨by rw [hv.out.1, hv.out.2]; rfl, hB.trans (z2.mono hB.size)⟩
  | true =>
    have n1 := (lat_len (alg_lat hA)).1
    have n6 := (lat_len (alg_lat hA)).2
    have l1 : (1 : Int) ≤ L.length := n1
    have l6 : (L.length : Int) ≤ 6 := n6
    obtain ⟨p1, p64⟩ := pw_6 n6
    have pe : pw (L.length : Int) = pw (num L) := rfl
    have k1 : IntKind.i64.wrap (pw (L.length : Int) - 1) = pw (L.length : Int) - 1 := IntWalk.i64_in _ (by omega)
    obtain ⟨V, hV⟩ : ∃ V, V = fls L T := ⟨_, rfl⟩
    have hlen : V.length ≤ 64 := by rw [hV]; exact fls_len L T n6
    have HM := Lib.hid (show ∀ i : Int, 0 ≤ i → i < V.length → 0 ≤ nth V i ∧ nth V i ≤ 63 from fun i i0 i1 => by rw [hV] at i1 ⊢; exact fls_63 (alg_lat hA) (nth_mem _ i0 i1))
    have hv := Lib.hid (show com (num L) (V.filter fun f => decide (1 < wt f)) = hrtC L T by rw [hV]; exact hrt_eq (alg_lat hA))
    have HF := Lib.hid (show ∀ (a b : Option Addr) (ca cb : Nat) (w : World), Rd w a L → RdT w b T → Calls Try.prog 64 #[.agg #[.slice a L.length ca, .slice b T.length cb]] w (RetSl w.heap.size V w) from fun a b ca cb w h1 h2 => by rw [hV]; exact specFilters_any a b ca cb L T w h1 h2 hA)
    have HW := Lib.hid (hrt_wt (L := L) (T := T) (alg_lat hA))
    have hno := Lib.hid (fun e => hrt_no (L := L) (T := T) e)
    have hye := Lib.hid (fun e => hrt_yes (L := L) (T := T) hA e)
    have HR := Lib.hid (com_range (num L) ((fls L T).filter fun f => f != pw (num L - 1)))
    have HA := Lib.hid hA
    clear hA hV
    go_enter Try.func45, Try.ntmps45
    go_wp2_with (first
      | go_skip
      | (rw [← hw1]; clear hw1)
      | (refine wpList_load_row_w rfl 27 _ rfl w.heap.size rfl _ _ _ _ (Kx.out _ (by assumption)) Try.underlying27 rfl (size_Alg _ _) ?_)
      | (go_at_call 49; refine (ret_below (validAlgebra_any _ _ _ _ L T _ (KR.out _ z1) (KT.out _ z1)) HA.out).mono ?_; rintro e w2 ⟨rfl, h2⟩; have z2 : Below w1.heap.size w1 w2 := h2; clear h2; obtain ⟨e0, e1⟩ := bx_cells (Kx.out _ z2))
      | (go_at_call 68; refine (power_any _ _ (by omega) (by omega)).mono ?_; rintro e w4 ⟨rfl, rfl⟩)
      | (go_at_call 64; refine (HF.out _ _ _ _ _ (KR.out _ z2) (KT.out _ z2)).mono ?_; rintro e w3 ⟨a3, c3, rfl, o3, h3⟩))
    have r3 := o3.rd
    have z3 : Below w1.heap.size w1 w3 := z2.trans (h3.mono z2.size)
    clear o3 h3 z2 e0 e1
    go_loopw [5, 7] (fun o c wr => ∃ i : Int, 0 ≤ i ∧ i ≤ V.length ∧ c = .int .i64 i ∧ o = .int .i64 (com (num L) ((V.take i.toNat).filter fun f => decide (1 < wt f))) ∧ w3 = wr) (fun _ c _ => (64 - intOf c).toNat)
    case atStart => exact ⟨0, by omega, by omega, rfl, by first | rfl | (rw [pe]; rfl), rfl⟩
    case round =>
      obtain ⟨i, i0, i1, rfl, rfl, rfl⟩ := hrel
      by_cases hi : i < V.length
      · obtain ⟨vb, vo, rfl, hcl⟩ := r3 (by intro e; rw [e] at hi; simp at hi; omega)
        have d0 := hcl.at i i0 hi
        obtain ⟨m0, m1⟩ := HM.out i i0 hi
        obtain ⟨q0, q1⟩ := com_range (num L) ((V.take i.toNat).filter fun f => decide (1 < wt f))
        have hb2 := bits_and_i64 (com (num L) ((V.take i.toNat).filter fun f => decide (1 < wt f))) (nth V i) q0 (by omega) m0 (by omega)
        have ht := Lib.hid (take_next V i0 hi)
        clear hcl
        by_cases hC : 1 < wt (nth V i)
        · have hsu := Lib.hid (show com (num L) ((V.take (i + 1).toNat).filter fun f => decide (1 < wt f)) = an (com (num L) ((V.take i.toNat).filter fun f => decide (1 < wt f))) (nth V i) by
            rw [ht.out, List.filter_append, List.filter_cons, decide_eq_true hC, if_pos rfl, List.filter_nil, com_succ])
          go_wp2_with (go_at_call 88; refine (weight_any (nth V i) _ m0 m1).mono ?_; rintro e w4 ⟨rfl, rfl⟩)
          go_roundw
          case rel => exact ⟨i + 1, by omega, by omega, rfl, by rw [hsu.out], by trivial⟩
          case measure => simp [intOf]; omega
        · have hsu := Lib.hid (show com (num L) ((V.take (i + 1).toNat).filter fun f => decide (1 < wt f)) = com (num L) ((V.take i.toNat).filter fun f => decide (1 < wt f)) by
            rw [ht.out, List.filter_append, List.filter_cons, decide_eq_false hC, if_neg (by decide), List.filter_nil, List.append_nil])
          go_wp2_with (go_at_call 88; refine (weight_any (nth V i) _ m0 m1).mono ?_; rintro e w4 ⟨rfl, rfl⟩)
          go_roundw
          case rel => exact ⟨i + 1, by omega, by omega, rfl, by rw [hsu.out], by trivial⟩
          case measure => simp [intOf]; omega
      · have ht := take_end V (show (V.length : Int) ≤ i by omega)
        rw [ht, hv.out]
        have c0 : 0 ≤ hrtC L T := HR.out.1
        have c63 : hrtC L T ≤ 63 := by have := HR.out.2; show com (num L) ((fls L T).filter fun f => f != pw (num L - 1)) ≤ 63; omega
        clear ht
        by_cases hC : wt (hrtC L T) < 2
        · have hz := Lib.hid (hno.out (by rw [beq_iff_eq]; exact HW.out.1 hC))
          go_wp2_with (go_at_call 88; refine (weight_any (hrtC L T) _ c0 c63).mono ?_; rintro e w4 ⟨rfl, rfl⟩)
          go_ret2
          exact ⟨by rw [hz.out.1, hz.out.2]; rfl, hB.trans (z3.mono hB.size)⟩
        · have hz := Lib.hid (hye.out (by rw [beq_eq_false_iff_ne]; exact fun e => hC (HW.out.2 e)))
          go_wp2_with (go_at_call 88; refine (weight_any (hrtC L T) _ c0 c63).mono ?_; rintro e w4 ⟨rfl, rfl⟩)
          go_ret2
          exact ⟨by rw [hz.out.1, hz.out.2]; rfl, hB.trans (z3.mono hB.size)⟩
theorem apart_new {u v v' : Value} {n : Nat} (h : ∀ q, u.ownBlock = some q → v.ownBlock ≠ some q) (hl : v'.ownBlock = v.ownBlock ∨ v'.ownBlock = some n) (hn : ∀ q, u.ownBlock = some q → q < n) : ∀ q, u.ownBlock = some q → v'.ownBlock ≠ some q := fun q hq e => by
  rcases hl with hl | hl
  · exact h q hq (hl ▸ e)
  · have := hn q hq
    rw [hl] at e
    injection e with e
    omega
theorem apart_kept {u v : Value} (h : ∀ q, u.ownBlock = some q → v.ownBlock ≠ some q) : u.ownBlock = none ∨ u.ownBlock ≠ v.ownBlock := by
  cases hu : u.ownBlock with
  | none => exact .inl rfl
  | some q => exact .inr fun e => h q hu e.symm
set_option maxRecDepth 100000 in
set_option maxHeartbeats 4000000 in
/-- spec.PrimeFilters -/
theorem specPrimeFilters_any (a b : Option Addr) (ca cb : Nat) (L : List Int) (T : List (List Int)) (w : World) (hr : Rd w a L) (hT : RdT w b T) :
    Calls Try.prog 35 #[.agg #[.slice a L.length ca, .slice b T.length cb]] w (RetSl w.heap.size (algV L T ((fls L T).filter (priB L))) w) := by
  obtain ⟨w1, hw1⟩ : ∃ w1, w1 = w.alloc (.cells #[.slice a L.length ca, .slice b T.length cb] 27) := ⟨_, rfl⟩
  have hB : Below w.heap.size w w1 := by rw [hw1]; exact (Below.refl _ _).alloc (Nat.le_refl _) _
  have hx : w1.heap[w.heap.size]? = some (.cells #[.slice a L.length ca, .slice b T.length cb] 27 (0, 0)) := by rw [hw1]; exact heap_alloc_new w _
  obtain ⟨c0, c1⟩ := bx_cells hx
  have Kx := Lib.hid (show ∀ wz, Below w1.heap.size w1 wz → wz.heap[w.heap.size]? = some (.cells #[.slice a L.length ca, .slice b T.length cb] 27 (0, 0)) from fun wz h => (h.block _ (lt_of_block hx)).trans hx)
  have KR := Lib.hid (show ∀ wz, Below w1.heap.size w1 wz → Rd wz a L from fun wz h => (hr.below hB).below h)
  have KT := Lib.hid (show ∀ wz, Below w1.heap.size w1 wz → RdT wz b T from fun wz h => (hT.below hB).below h)
  have z1 : Below w1.heap.size w1 w1 := Below.refl _ _
  clear hr hT hx
  cases hA : algB L T with
  | false =>
    have hv := Lib.hid (algV_f (V := (fls L T).filter (priB L)) hA)
    have HA := Lib.hid hA
    clear hA
    go_enter Try.func35, Try.ntmps35
    go_wp2_with (first
      | go_skip
      | (rw [← hw1]; clear hw1)
      | (refine wpList_load_row_w rfl 27 _ rfl w.heap.size rfl _ _ _ _ (Kx.out _ (by assumption)) Try.underlying27 rfl (size_Alg _ _) ?_)
      | (go_at_call 49; refine (ret_below (validAlgebra_any _ _ _ _ L T _ (KR.out _ z1) (KT.out _ z1)) HA.out).mono ?_; rintro e w2 ⟨rfl, h2⟩; have z2 : Below w1.heap.size w1 w2 := h2; clear h2))
    go_ret
    rw [hv.out]
    exact ⟨none, 0, rfl, Own.nothing _ _, hB.trans (z2.mono hB.size)⟩
  | true =>
    have n6 := (lat_len (alg_lat hA)).2
    obtain ⟨V, hV⟩ : ∃ V, V = fls L T := ⟨_, rfl⟩
    have hlen : V.length ≤ 64 := by rw [hV]; exact fls_len L T n6
    have hv := Lib.hid (show algV L T ((fls L T).filter (priB L)) = V.filter (priB L) by rw [hV]; exact algV_t hA)
    have HM := Lib.hid (show ∀ i : Int, 0 ≤ i → i < V.length → 0 ≤ nth V i ∧ nth V i ≤ 63 from fun i i0 i1 => by rw [hV] at i1 ⊢; exact fls_63 (alg_lat hA) (nth_mem _ i0 i1))
    have HF := Lib.hid (show ∀ (a b : Option Addr) (ca cb : Nat) (w : World), Rd w a L → RdT w b T → Calls Try.prog 64 #[.agg #[.slice a L.length ca, .slice b T.length cb]] w (RetSl w.heap.size V w) from fun a b ca cb w h1 h2 => by rw [hV]; exact specFilters_any a b ca cb L T w h1 h2 hA)
    obtain ⟨i0, hi, hz0, hz1, hz2⟩ := info_parts info_int
    have HA := Lib.hid hA
    have hs1 := hB.size
    clear hA hV
    go_enter Try.func35, Try.ntmps35
    go_wp2_with (first
      | go_skip
      | (rw [← hw1]; clear hw1)
      | (refine wpList_load_row_w rfl 27 _ rfl w.heap.size rfl _ _ _ _ (Kx.out _ (by assumption)) Try.underlying27 rfl (size_Alg _ _) ?_)
      | (go_at_call 49; refine (ret_below (validAlgebra_any _ _ _ _ L T _ (KR.out _ z1) (KT.out _ z1)) HA.out).mono ?_; rintro e w2 ⟨rfl, h2⟩; have z2 : Below w1.heap.size w1 w2 := h2; clear h2; have z2a : Below w1.heap.size w1 (w2.alloc (.cells #[] 3)) := z2.alloc z2.size _)
      | (go_at_call 64; refine (HF.out _ _ _ _ _ (KR.out _ z2a) (KT.out _ z2a)).mono ?_; rintro e w3 ⟨a3, c3, rfl, o3, h3⟩))
    have z3 : Below w1.heap.size w1 w3 := z2a.trans (h3.mono z2a.size)
    have ob : Own w1.heap.size w3 (.slice (some ⟨w2.heap.size, 0, none⟩) 0 0) [] := Own.below (Own.row (L := []) (heap_alloc_new w2 _) z2.size (Nat.zero_le _)) h3
    have hap : ∀ q, (Value.slice a3 V.length c3).ownBlock = some q → (Value.slice (some ⟨w2.heap.size, 0, none⟩) 0 0).ownBlock ≠ some q := fun q hq e => by
      have h1 := (World.ownsRow.lt o3 q hq).1
      simp [Value.ownBlock] at e h1
      omega
    replace o3 := o3.from z2a.size
    clear z2 z2a h3
    go_loopw [3, 5] (fun o c wr => ∃ i : Int, 0 ≤ i ∧ i ≤ V.length ∧ c = .int .i64 i ∧ Own w1.heap.size wr o ((V.take i.toNat).filter (priB L)) ∧ Own w1.heap.size wr (.slice a3 V.length c3) V ∧ (∀ q, (Value.slice a3 V.length c3).ownBlock = some q → o.ownBlock ≠ some q) ∧ Below w1.heap.size w1 wr) (fun _ c _ => (64 - intOf c).toNat)
    case atStart => exact ⟨0, by omega, by omega, rfl, ob, o3, hap, z3⟩
    case round =>
      clear z3 ob o3 hap
      obtain ⟨i, j0, j1, rfl, hown, hlist, hap, z3⟩ := hrel
      by_cases hj : i < V.length
      · obtain ⟨vb, vo, rfl, hcl⟩ := hlist.rd (by intro e; rw [e] at hj; simp at hj; omega)
        have d0 := hcl.at i j0 hj
        have hvl := hcl.lt (show (1 : Int) ≤ num V by show (1 : Int) ≤ (V.length : Int); omega)
        have HD := Lib.hid (show ∀ wz, Below wr.heap.size wr wz → wz.cell? ⟨vb, vo + i.toNat, none⟩ = some (.int .i64 (nth V i)) from fun wz hz => (hcl.below hz hvl).at i j0 hj)
        obtain ⟨m0, m1⟩ := HM.out i j0 hj
        have ht := Lib.hid (take_next V j0 hj)
        have hfl := take_flen V (priB L) i
        clear hcl
        cases hC : (priB L) (nth V i) with
        | true =>
          have hsu := Lib.hid (show (V.take (i + 1).toNat).filter (priB L) = (V.take i.toNat).filter (priB L) ++ [nth V i] by
            rw [ht.out, List.filter_append, List.filter_cons, hC, if_pos rfl, List.filter_nil])
          have HC := Lib.hid hC
          clear hC
          go_wp2
          refine region_in (Below wr.heap.size wr) (by kernel_rfl) (by kernel_rfl) (Dr.below ⟨1, rfl⟩ _) fun hne => ?_
          have r0 : ∀ s : In (Below wr.heap.size wr), s.w.cell? ⟨vb, vo + i.toNat, none⟩ = some (.int .i64 (nth V i)) := fun s => HD.out _ s.h
          repeat (first
            | (go_big_quiet_want; refine quiet_load_row 27 _ rfl w.heap.size rfl _ _ _ _ (fun w' ⟨s, hs⟩ => by rw [hs]; exact Kx.out _ (z3.trans (s.h.mono z3.size))) Try.underlying27 rfl (size_Alg _ _) ?_; simp only [Act.put, List.setIfInBounds_toArray, List.set_cons_succ, List.set_cons_zero]; go_big_quiet_on)
            | go_big_quiet_step ((go_at_call 84; exact in_below _ (Nat.le_refl _) (specPrime_is _ _ _ _ L T (nth V i) _ (KR.out _ (in_trans z3 _)) (KT.out _ (in_trans z3 _)) HA.out m0 m1 HC.out))))
          refine wpQuiet_nil ?_
          intro s
          have hw2 := s.h
          obtain ⟨w7, hw2'⟩ : ∃ w7, w7 = s.w := ⟨_, rfl⟩
          rw [← hw2'] at hw2 ⊢
          clear hw2'
          replace hown := hown.below hw2
          replace hlist := hlist.below hw2
          replace z3 := z3.trans (hw2.mono z3.size)
          have d1 := HD.out _ hw2
          clear d0
          go_wp2_with (at_builtin; refine wpList_append_own_at _ rfl _ _ 22 rfl w1.heap.size 3 i0 (.int .i64 0) 1 8 Try.underlying22 hi hz0 hz1 hz2 rfl (by decide) _ _ _ rfl (World.ownsRow.alloc hown _) ⟨w7.heap.size, 0, none⟩ 1 1 [.int .i64 (nth V i)] rfl rfl (cell_one_new _ _ _) (fun x hx => by simp at hx; subst hx; rfl) (by unfold maxLen; omega) (by omega) (by have := z3.size; simp; omega) ?_; intro v9 w8 hown1 hgrow _ hloc)
          go_roundw
          case rel => exact ⟨i + 1, by omega, by omega, rfl, by unfold Own; rw [hsu.out, List.map_append, List.length_append]; exact hown1, World.ownsRow.kept (World.ownsRow.alloc hlist _) hgrow (apart_kept hap), apart_new hap hloc (fun q hq => by have := (World.ownsRow.lt hlist q hq).2; simp; omega), (z3.alloc z3.size _).grown hgrow (by have := z3.size; simp; omega) (fun q hq => (World.ownsRow.lt hown q hq).1)⟩
          case measure => simp [intOf]; omega
        | false =>
          have hsu := Lib.hid (show (V.take (i + 1).toNat).filter (priB L) = (V.take i.toNat).filter (priB L) by
            rw [ht.out, List.filter_append, List.filter_cons, hC, if_neg (by decide), List.filter_nil, List.append_nil])
          have HC := Lib.hid hC
          clear hC
          go_wp2
          refine region_in (Below wr.heap.size wr) (by kernel_rfl) (by kernel_rfl) (Dr.below ⟨1, rfl⟩ _) fun hne => ?_
          have r0 : ∀ s : In (Below wr.heap.size wr), s.w.cell? ⟨vb, vo + i.toNat, none⟩ = some (.int .i64 (nth V i)) := fun s => HD.out _ s.h
          repeat (first
            | (go_big_quiet_want; refine quiet_load_row 27 _ rfl w.heap.size rfl _ _ _ _ (fun w' ⟨s, hs⟩ => by rw [hs]; exact Kx.out _ (z3.trans (s.h.mono z3.size))) Try.underlying27 rfl (size_Alg _ _) ?_; simp only [Act.put, List.setIfInBounds_toArray, List.set_cons_succ, List.set_cons_zero]; go_big_quiet_on)
            | go_big_quiet_step ((go_at_call 84; exact in_below _ (Nat.le_refl _) (specPrime_is _ _ _ _ L T (nth V i) _ (KR.out _ (in_trans z3 _)) (KT.out _ (in_trans z3 _)) HA.out m0 m1 HC.out))))
          refine wpQuiet_nil ?_
          intro s
          have hw2 := s.h
          obtain ⟨w7, hw2'⟩ : ∃ w7, w7 = s.w := ⟨_, rfl⟩
          rw [← hw2'] at hw2 ⊢
          clear hw2'
          replace hown := hown.below hw2
          replace hlist := hlist.below hw2
          replace z3 := z3.trans (hw2.mono z3.size)
          clear d0
          go_wp2
          go_roundw
          case rel => exact ⟨i + 1, by omega, by omega, rfl, by rw [hsu.out]; exact hown, hlist, hap, z3⟩
          case measure => simp [intOf]; omega
      · have ht := Lib.hid (take_end V (show (V.length : Int) ≤ i by omega))
        go_wp2
        go_ret
        rw [hv.out, ← ht.out]
        exact RetOwn.sl ⟨_, rfl, by rw [ht.out] at hown ⊢; exact hown.from hs1, hB.trans (z3.mono hB.size)⟩
end Go.Proofs.Ytpfnfglaokiipac
