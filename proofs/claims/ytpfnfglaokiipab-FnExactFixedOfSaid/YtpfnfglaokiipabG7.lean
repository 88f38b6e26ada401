import Derived.Test.YtpfnfglaokiipabG6
import Derived.Test.YtpfnfglaokiipabD3
import Derived.Test.YtpfnfglaokiipabM4
namespace Go.Proofs.Ytpfnfglaokiipab
open Go.RowKit

set_option maxRecDepth 100000 in
set_option maxHeartbeats 2000000 in
/-- impl.elementsThat at whatever function value -/
theorem elementsThat_any (f : Nat) (env : Array Value) (n : Int) (p : Int → Bool) (w : World) (n0 : 0 ≤ n) (n6 : n ≤ 6) (he : Enters f)
    (H : ∀ (y : Int) (wr : World), 0 ≤ y → y < n → Below w.heap.size w wr → Calls Try.prog f (#[.int .i64 y] ++ env) wr fun e w' => e = .returned (.bool (p y)) ∧ Below wr.heap.size wr w') :
    Calls Try.prog 68 #[.int .i64 n, .func (.func f) #[] env] w (RetOwn w.heap.size (filtTo p n) w) := by
  obtain ⟨i0, hi, hz0, hz1, hz2⟩ := info_parts info_int
  have HH := Lib.hid H; clear H
  have HE := Lib.hid (show ∀ (args : Array Value) (w : World), (callFunc f args).run Try.prog w = .ok (.enter f args) w from he); clear he
  go_enter Try.func68, Try.ntmps68
  go_wp2
  go_loopw [5, 6, 8] (fun v _ c wr => ∃ y : Int, 0 ≤ y ∧ y ≤ n ∧ c = .int .i64 y ∧ Own w.heap.size wr v (filtTo p y) ∧ Below w.heap.size w wr) (fun _ _ c _ => (6 - intOf c).toNat)
  case atStart => exact ⟨0, by omega, by omega, rfl, Own.nothing _ _, Below.refl _ _⟩
  case round =>
    obtain ⟨y, y0, y1, rfl, hown, hbel⟩ := hrel
    by_cases hy : y < n
    · have hlen := filtTo_len p y
      have hsu := Lib.hid (filtTo_succ p y y0)
      have hC := HH.out y wr y0 hy hbel
      cases hq : p y with
      | true =>
        rw [hq] at hC
        have hsu2 := Lib.hid (show filtTo p (y + 1) = filtTo p y ++ [y] by rw [hsu.out, hq]; rfl)
        have HC := Lib.hid hC; clear hq hC
        go_wp2_with (first
          | (rw [HE.out]; refine (HC.out).mono ?_; rintro e w3 ⟨rfl, hd3⟩; have hown3 := hown.below hd3; have hbel3 := hbel.trans (hd3.mono hbel.size))
          | (at_builtin; refine wpList_append_own _ rfl _ _ 22 rfl w.heap.size 3 i0 (.int .i64 0) 1 8 Try.underlying22 hi hz0 hz1 hz2 rfl (by decide) _ _ _ rfl (World.ownsRow.alloc hown3 _) ⟨w3.heap.size, 0, none⟩ 1 1 [.int .i64 y] rfl rfl (cell_one_new _ _ _) (fun x hx => by simp at hx; subst hx; rfl) (by unfold maxLen; omega) (by omega) (by have := hbel3.size; simp; omega) ?_; intro v' w2 hown1 hgrow _))
        go_roundw
        case rel => exact ⟨y + 1, by omega, by omega, rfl, by unfold Own; rw [hsu2.out, List.map_append, List.length_append]; exact hown1, (hbel3.alloc hbel3.size _).grown hgrow (by have := hbel3.size; simp; omega) (fun q hq => (World.ownsRow.lt hown3 q hq).1)⟩
        case measure => simp [intOf]; omega
      | false =>
        rw [hq] at hC
        have hsu2 := Lib.hid (show filtTo p (y + 1) = filtTo p y by rw [hsu.out, hq]; rfl)
        have HC := Lib.hid hC; clear hq hC
        go_wp2_with (rw [HE.out]; refine (HC.out).mono ?_; rintro e w3 ⟨rfl, hd3⟩; have hown3 := hown.below hd3; have hbel3 := hbel.trans (hd3.mono hbel.size))
        go_roundw
        case rel => exact ⟨y + 1, by omega, by omega, rfl, by rw [hsu2.out]; exact hown3, hbel3⟩
        case measure => simp [intOf]; omega
    · have e : y = n := by omega
      subst e
      go_wp2
      go_ret
      exact ⟨_, rfl, hown, hbel⟩

def fixQ (T : List (List Int)) (x : Int) : Bool := tv T x x == x
def algI (L : List Int) (T : List (List Int)) (p : Int → Bool) : List Int := if algB L T then filtTo p (num L) else []
theorem algI_t {L : List Int} {T : List (List Int)} {p : Int → Bool} (h : algB L T = true) : algI L T p = filtTo p (num L) := if_pos h
theorem algI_f {L : List Int} {T : List (List Int)} {p : Int → Bool} (h : algB L T = false) : algI L T p = [] := if_neg (by rw [h]; decide)
theorem algI_len (L : List Int) (T : List (List Int)) (p : Int → Bool) : (algI L T p).length ≤ 6 := by
  cases h : algB L T with
  | false => rw [algI_f h]; simp
  | true => rw [algI_t h]; have := filtTo_len p (num L); have := lat_len (algB_parts h).1; omega
theorem append1 (a b : Value) : (#[a] ++ #[b] : Array Value) = #[a, b] := rfl
set_option maxRecDepth 100000 in
set_option maxHeartbeats 2000000 in
/-- spec.FixedOf -/
theorem specFixedOf_any (a b : Option Addr) (ca cb : Nat) (L : List Int) (T : List (List Int)) (w : World) (hr : Rd w a L) (hT : RdT w b T) :
    Calls Try.prog 38 #[.agg #[.slice a L.length ca, .slice b T.length cb]] w (RetSl w.heap.size (algI L T (fixQ T)) w) := by
  obtain ⟨w1, hw1⟩ : ∃ w1, w1 = w.alloc (.cells #[.slice a L.length ca, .slice b T.length cb] 28) := ⟨_, rfl⟩
  have hB : Below w.heap.size w w1 := by rw [hw1]; exact (Below.refl _ _).alloc (Nat.le_refl _) _
  have hx : w1.heap[w.heap.size]? = some (.cells #[.slice a L.length ca, .slice b T.length cb] 28 (0, 0)) := by rw [hw1]; exact heap_alloc_new w _
  obtain ⟨c0, c1⟩ := bx_cells hx
  have Kx := Lib.hid (show ∀ wz, Below w1.heap.size w1 wz → wz.heap[w.heap.size]? = some (.cells #[.slice a L.length ca, .slice b T.length cb] 28 (0, 0)) from fun wz h => (h.block _ (lt_of_block hx)).trans hx)
  have KR := Lib.hid (show ∀ wz, Below w1.heap.size w1 wz → Rd wz a L from fun wz h => (hr.below hB).below h)
  have KT := Lib.hid (show ∀ wz, Below w1.heap.size w1 wz → RdT wz b T from fun wz h => (hT.below hB).below h)
  have z1 : Below w1.heap.size w1 w1 := Below.refl _ _
  clear hr hT hx
  cases hA : algB L T with
  | false =>
    have hv := Lib.hid (algI_f (p := fixQ T) hA)
    go_enter Try.func38, Try.ntmps38
    go_wp2_with (first
    | go_skip
    | (rw [← hw1]; clear hw1)
    | (refine wpList_load_row_w rfl 28 _ rfl w.heap.size rfl _ _ _ _ (Kx.out _ (by assumption)) Try.underlying28 rfl (size_Alg _ _) ?_)
    | (go_at_call 50; refine (ret_below (validAlgebra_any _ _ _ _ L T _ (KR.out _ z1) (KT.out _ z1)) hA).mono ?_; rintro e w2 ⟨rfl, h2⟩))
    go_ret
    rw [hv.out]
    exact ⟨none, 0, rfl, Own.nothing _ _, hB.trans (h2.mono hB.size)⟩
  | true =>
    have hv := Lib.hid (algI_t (p := fixQ T) hA)
    obtain ⟨hlat, hsh, _⟩ := algB_parts hA
    obtain ⟨n1, n6⟩ := lat_len hlat
    obtain ⟨B, off, rfl, rb, ro, rc, htab⟩ := tab_of (KT.out _ z1) hsh n1
    have HTAB := Lib.hid (show ∀ wz, Below w1.heap.size w1 wz → TabAt wz B off (num L) L.length rb ro rc T from fun wz h => htab.below h)
    have HN := Lib.hid (show num L = L.length from rfl)
    have hlt := shape_len hsh
    have hn1 : num L ≤ L.length := by rw [HN.out]; omega
    have hn2 : (L.length : Int) ≤ num L := by rw [HN.out]; omega
    have hn3 : num L ≤ T.length := by omega
    have HA := Lib.hid hA
    obtain ⟨i0, hi, hz0, hz1, hz2⟩ := info_parts info_int
    clear hA hlat hsh htab hlt
    go_enter Try.func38, Try.ntmps38
    go_wp2_with (first
    | go_skip
    | (rw [← hw1]; clear hw1)
    | (refine wpList_load_row_w rfl 28 _ rfl w.heap.size rfl _ _ _ _ (Kx.out _ (by assumption)) Try.underlying28 rfl (size_Alg _ _) ?_)
    | (go_at_call 50; refine (ret_below (validAlgebra_any _ _ _ _ L T _ (KR.out _ z1) (KT.out _ z1)) HA.out).mono ?_; rintro e w2 ⟨rfl, h2⟩; have z2 : Below w1.heap.size w1 w2 := h2; clear h2))
    have B2 := hB.trans (z2.mono hB.size)
    have hs1 := hB.size
    go_loopw [3, 4] (fun v c wr => ∃ x : Int, 0 ≤ x ∧ x ≤ num L ∧ c = .int .i64 x ∧ Own w1.heap.size wr v (filtTo (fixQ T) x) ∧ Below w1.heap.size w1 wr) (fun _ c _ => (6 - intOf c).toNat)
    case atStart => exact ⟨0, by omega, by omega, rfl, Own.row (L := []) (heap_alloc_new w2 _) z2.size (Nat.zero_le _), z2.alloc z2.size _⟩
    case round =>
      clear B2 z2
      obtain ⟨x, x0, x1, rfl, hown, z3⟩ := hrel
      have hbel : Below w.heap.size w wr := hB.trans (z3.mono hB.size)
      obtain ⟨e0, e1⟩ := bx_cells (Kx.out _ z3)
      by_cases hx : x < num L
      · have dx := (HTAB.out _ z3).row x0 hx
        have exx := (HTAB.out _ z3).cell x0 hx x0 hx
        have hxl : x < L.length := by omega
        have hxt : x < T.length := by omega
        have hlen := filtTo_len (fixQ T) x
        have hsu := Lib.hid (filtTo_succ (fixQ T) x x0)
        have hq := Lib.hid (show fixQ T x = (tv T x x == x) from rfl)
        cases hC : tv T x x == x
        all_goals rw [hC] at hq
        case true =>
          have hsu2 := Lib.hid (show filtTo (fixQ T) (x + 1) = filtTo (fixQ T) x ++ [x] by rw [hsu.out, hq.out]; rfl)
          go_wp2_with (at_builtin; refine wpList_append_own _ rfl _ _ 22 rfl w1.heap.size 3 i0 (.int .i64 0) 1 8 Try.underlying22 hi hz0 hz1 hz2 rfl (by decide) _ _ _ rfl (World.ownsRow.alloc hown _) ⟨wr.heap.size, 0, none⟩ 1 1 [.int .i64 x] rfl rfl (cell_one_new _ _ _) (fun x hx => by simp at hx; subst hx; rfl) (by unfold maxLen; omega) (by omega) (by have := z3.size; simp; omega) ?_; intro v' w2 hown1 hgrow _)
          go_roundw
          case rel => exact ⟨x + 1, by omega, by omega, rfl, by unfold Own; rw [hsu2.out, List.map_append, List.length_append]; exact hown1, (z3.alloc z3.size _).grown hgrow (by have := z3.size; simp; omega) (fun q hq => (World.ownsRow.lt hown q hq).1)⟩
          case measure => simp [intOf]; omega
        case false =>
          have hsu2 := Lib.hid (show filtTo (fixQ T) (x + 1) = filtTo (fixQ T) x by rw [hsu.out, hq.out]; rfl)
          go_wp2
          go_roundw
          case rel => exact ⟨x + 1, by omega, by omega, rfl, by rw [hsu2.out]; exact hown, z3⟩
          case measure => simp [intOf]; omega
      · have e : x = num L := by omega
        subst e
        go_wp2
        go_ret
        rw [hv.out]
        exact RetOwn.sl ⟨_, rfl, hown.from hs1, hbel⟩

end Go.Proofs.Ytpfnfglaokiipab
