import Derived.Test.YtmlbdlobdnhimaaT4
import Derived.Test.YtmlbdlobdnhimaaM5
namespace Go.Proofs.Ytmlbdlobdnhimaa
open Go.RowKit

theorem readOne_no (a : Option Addr) (cap : Nat) (L : List Int) (x : Int) (w : World) (hr : Rd w a L) (h : goodB L x x = false) :
    Calls Try.prog 61 #[.slice a L.length cap, .slice (some ⟨w.heap.size, 0, none⟩) 1 1] (w.alloc (.cells #[.int .i64 x] 3)) fun e w' => e = .returned (.tuple #[.agg zeroLat, .bool false]) ∧ Below w.heap.size w w' := by
  have hb : Below w.heap.size w (w.alloc (.cells #[.int .i64 x] 3)) := (Below.refl _ _).alloc (Nat.le_refl _) _
  have hrow : Row (w.alloc (.cells #[.int .i64 x] 3)) w.heap.size [x] := heap_alloc_new w _
  cases hl : latB L with
  | false => exact (readWith_bad a (some ⟨w.heap.size, 0, none⟩) cap 1 L [x] _ (hr.below hb) hl).mono fun _ _ h => ⟨h.1, hb.trans (h.2.mono (by simp))⟩
  | true =>
    have h2 : withB L [x] = false := by
      rw [good_two, hl, Bool.true_and, withB_two] at h
      unfold withB
      rw [show ((List.length [x] : Nat) : Int) = 0 + 1 from rfl, allI_succ _ (by omega), allI_zero]
      simpa [inE, nth] using h
    have := readWith_lat a (some ⟨w.heap.size, 0, none⟩) cap 1 L [x] _ (hr.below hb) hrow.rd (by simp) hl
    rw [withA_f h2, h2] at this
    exact this.mono fun _ _ h => ⟨h.1, hb.trans (h.2.mono (by simp))⟩
theorem readOne_yes (a : Option Addr) (cap : Nat) (L : List Int) (x : Int) (w : World) (hr : Rd w a L) (h : goodB L x x = true) :
    Calls Try.prog 61 #[.slice a L.length cap, .slice (some ⟨w.heap.size, 0, none⟩) 1 1] (w.alloc (.cells #[.int .i64 x] 3)) fun e w' => e = .returned (.tuple #[.agg (latOf L), .bool true]) ∧ Below w.heap.size w w' := by
  have hb : Below w.heap.size w (w.alloc (.cells #[.int .i64 x] 3)) := (Below.refl _ _).alloc (Nat.le_refl _) _
  have hrow : Row (w.alloc (.cells #[.int .i64 x] 3)) w.heap.size [x] := heap_alloc_new w _
  obtain ⟨hl, _, _, _, x0, x1, _⟩ := goodB_parts h
  have h2 : withB L [x] = true := by
    unfold withB
    rw [show ((List.length [x] : Nat) : Int) = 0 + 1 from rfl, allI_succ _ (by omega), allI_zero]
    unfold num at x1
    simp [inE, nth, x0, x1]
  have := readWith_lat a (some ⟨w.heap.size, 0, none⟩) cap 1 L [x] _ (hr.below hb) hrow.rd (by simp) hl
  rw [withA_t h2, h2] at this
  exact this.mono fun _ _ h => ⟨h.1, hb.trans (h.2.mono (by simp))⟩
end Go.Proofs.Ytmlbdlobdnhimaa

namespace Go.Proofs.Ytmlbdlobdnhimaa
open Go.RowKit

def compQ (L : List Int) (x y : Int) : Bool := mt L x y == 0 && jn L x y == L.length - 1
def compI (L : List Int) (x : Int) : List Int := if goodB L x x then filtTo (compQ L x) (num L) else []
theorem compI_t {L : List Int} {x : Int} (h : goodB L x x = true) : compI L x = filtTo (compQ L x) (num L) := if_pos h
theorem compI_f {L : List Int} {x : Int} (h : goodB L x x = false) : compI L x = [] := if_neg (by rw [h]; decide)
theorem compI_len (L : List Int) (x : Int) : (compI L x).length ≤ 6 := by
  cases h : goodB L x x with
  | false => rw [compI_f h]; simp
  | true => rw [compI_t h]; have := filtTo_len (compQ L x) (num L); have := (goodB_parts h).2.2.1; omega

set_option maxRecDepth 100000 in
set_option maxHeartbeats 2000000 in
/-- spec.ComplementsOf -/
theorem specComplementsOf_any (a : Option Addr) (cap : Nat) (L : List Int) (x : Int) (w : World) (hr : Rd w a L) (hm : L.length ≤ maxLen) :
    Calls Try.prog 40 #[.slice a L.length cap, .int .i64 x] w (RetSl w.heap.size (compI L x) w) := by
  cases hB : goodB L x x with
  | false =>
    have hv := Lib.hid (compI_f hB)
    go_enter Try.func40, Try.ntmps40
    go_wp2_with (go_at_call 66; refine (good_any _ _ _ _ _ _ hr hm).mono ?_; rintro e w1 ⟨rfl, hd⟩)
    go_ret
    rw [hv.out]
    exact ⟨none, 0, rfl, Own.nothing _ _, hd.below _⟩
  | true =>
    obtain ⟨hlat, h1, h6, hs, x0, x1, _, _⟩ := goodB_parts hB
    obtain ⟨b, off, rfl, hc⟩ := hr.pos h1
    have hv := Lib.hid (compI_t hB)
    have hlt := hc.lt h1
    have hn : num L = L.length := rfl
    have HN := Lib.hid hn; clear hn
    have hn1 : num L ≤ L.length := by rw [HN.out]; omega
    have hn2 : (L.length : Int) ≤ num L := by rw [HN.out]; omega
    obtain ⟨i0, hi, hz0, hz1, hz2⟩ := info_parts info_int
    go_enter Try.func40, Try.ntmps40
    go_wp2_with (go_at_call 66; refine (good_any _ _ _ _ _ _ hr hm).mono ?_; rintro e w1 ⟨rfl, hd⟩)
    have HL := Lib.hid hlat
    clear hlat hB
    have hsz : w1.heap.size = w.heap.size := by obtain ⟨k, rfl⟩ := hd; rfl
    have HSZ := Lib.hid hsz; clear hsz
    have hbel0 : Below w.heap.size w (w1.alloc (.cells #[] 3)) := (hd.below _).alloc (by rw [HSZ.out]; exact Nat.le_refl _) _
    go_loopw [5, 6] (fun v c wr => ∃ y : Int, 0 ≤ y ∧ y ≤ num L ∧ c = .int .i64 y ∧ Own w.heap.size wr v (filtTo (compQ L x) y) ∧ Below w.heap.size w wr) (fun _ c _ => (6 - intOf c).toNat)
    case atStart => exact ⟨0, by omega, by omega, rfl, Own.row (L := []) (heap_alloc_new w1 _) (by rw [HSZ.out]; exact Nat.le_refl _) (Nat.zero_le _), hbel0⟩
    case round =>
      clear hbel0
      obtain ⟨y, y0, y1, rfl, hown, hbel⟩ := hrel
      by_cases hy : y < num L
      · have hyl : y < L.length := by omega
        have hc2 : Cells wr b off L := hc.below hbel hlt
        have hlen := filtTo_len (compQ L x) y
        have hsu := Lib.hid (filtTo_succ (compQ L x) y y0)
        have hq := Lib.hid (show compQ L x y = (mt L x y == 0 && jn L x y == L.length - 1) from rfl)
        cases hA : mt L x y == 0 <;> cases hB : jn L x y == (L.length : Int) - 1
        all_goals rw [hA, hB] at hq
        case true.true =>
          have hsu2 := Lib.hid (show filtTo (compQ L x) (y + 1) = filtTo (compQ L x) y ++ [y] by rw [hsu.out, hq.out]; rfl)
          go_wp2_with (first
            | (go_at_call 68; refine (meet_any _ _ _ L _ _ _ hc2 hs x0 x1 (by omega) (by omega)).mono ?_; rintro e w' ⟨rfl, rfl⟩)
            | (go_at_call 69; refine (join_any _ _ _ L _ _ _ hc2 hs x0 x1 (by omega) (by omega)).mono ?_; rintro e w' ⟨rfl, rfl⟩)
            | (at_builtin; refine wpList_append_own _ rfl _ _ 23 rfl w.heap.size 3 i0 (.int .i64 0) 1 8 Try.underlying23 hi hz0 hz1 hz2 rfl (by decide) _ _ _ rfl (World.ownsRow.alloc hown _) ⟨wr.heap.size, 0, none⟩ 1 1 [.int .i64 y] rfl rfl (cell_one_new _ _ _) (fun x hx => by simp at hx; subst hx; rfl) (by unfold maxLen; omega) (by omega) (by have := hbel.size; simp; omega) ?_; intro v' w2 hown1 hgrow _))
          go_roundw
          case rel => exact ⟨y + 1, by omega, by omega, rfl, by unfold Own; rw [hsu2.out, List.map_append, List.length_append]; exact hown1, (hbel.alloc hbel.size _).grown hgrow (by have := hbel.size; simp; omega) (fun q hq => (World.ownsRow.lt hown q hq).1)⟩
          case measure => simp [intOf]; omega
        all_goals
          have hsu2 := Lib.hid (show filtTo (compQ L x) (y + 1) = filtTo (compQ L x) y by rw [hsu.out, hq.out]; rfl)
          go_wp2_with (first
            | (go_at_call 68; refine (meet_any _ _ _ L _ _ _ hc2 hs x0 x1 (by omega) (by omega)).mono ?_; rintro e w' ⟨rfl, rfl⟩)
            | (go_at_call 69; refine (join_any _ _ _ L _ _ _ hc2 hs x0 x1 (by omega) (by omega)).mono ?_; rintro e w' ⟨rfl, rfl⟩))
          go_roundw
          case rel => exact ⟨y + 1, by omega, by omega, rfl, by rw [hsu2.out]; exact hown, hbel⟩
          case measure => simp [intOf]; omega
      · have e : y = num L := by omega
        subst e
        go_wp2
        go_ret
        rw [hv.out]
        exact RetOwn.sl ⟨_, rfl, hown, hbel⟩

set_option maxRecDepth 100000 in
set_option maxHeartbeats 1000000 in
/-- the closure of impl.ComplementsOf -/
theorem compClo_any (L : List Int) (b6 b3 : Nat) (x y : Int) (w : World) (hlat : latB L = true) (hL : LatAt w b6 L) (h3 : w.heap[b3]? = some (.cells #[.int .i64 x] 3 (0, 0))) (x0 : 0 ≤ x) (x1 : x < num L) (y0 : 0 ≤ y) (y1 : y < num L) :
    Calls Try.prog 77 #[.int .i64 y, .pointer (some ⟨b6, 0, none⟩), .pointer (some ⟨b3, 0, none⟩)] w fun e w' => e = .returned (.bool (compQ L x y)) ∧ Below w.heap.size w w' := by
  obtain ⟨p1, p6, _⟩ := latB_parts hlat
  have c3 := cell_of_one h3
  have x6 : x < 6 := by omega
  have y6 : y < 6 := by omega
  have d0 := hL.m x0 x6 y0 y6
  have d1 := hL.j x0 x6 y0 y6
  rw [tabT_meet hlat x0 x1 y0 y1] at d0
  rw [tabT_join hlat x0 x1 y0 y1] at d1
  have l6 : (L.length : Int) ≤ 6 := p6
  have hq := Lib.hid (show compQ L x y = (mt L x y == 0 && jn L x y == L.length - 1) from rfl)
  have q0 := Lib.hid (show ∀ wz, Below w.heap.size w wz → wz.cell? ⟨b3, 0, none⟩ = some (.int .i64 x) from fun wz hz => by rw [hz.cell (by exact block_lt_of_cell c3)]; exact c3)
  have q1 := Lib.hid (show ∀ wz, Below w.heap.size w wz → wz.cell? ⟨b6, 37 + x.toNat * 6 + y.toNat, none⟩ = some (.int .i64 (mt L x y)) from fun wz hz => by rw [hz.cell (by exact block_lt_of_cell d0)]; exact d0)
  have q2 := Lib.hid (show ∀ wz, Below w.heap.size w wz → wz.cell? ⟨b6, 73 + x.toNat * 6 + y.toNat, none⟩ = some (.int .i64 (jn L x y)) from fun wz hz => by rw [hz.cell (by exact block_lt_of_cell d1)]; exact d1)
  clear hlat c3 d0 d1
  cases hA : mt L x y == 0 <;> cases hB : jn L x y == (L.length : Int) - 1
  all_goals
    rw [hA, hB] at hq
    go_enter Try.func77, Try.ntmps77
    go_wp2
    refine region_in (Below w.heap.size w) (by kernel_rfl) (by kernel_rfl) (Dr.below ⟨1, rfl⟩ _) fun hne => ?_
    have r0 : ∀ s : In (Below w.heap.size w), s.w.cell? ⟨b3, 0, none⟩ = some (.int .i64 x) := fun s => q0.out _ s.h
    have r1 : ∀ s : In (Below w.heap.size w), s.w.cell? ⟨b6, 37 + x.toNat * 6 + y.toNat, none⟩ = some (.int .i64 (mt L x y)) := fun s => q1.out _ s.h
    have r2 : ∀ s : In (Below w.heap.size w), s.w.cell? ⟨b6, 73 + x.toNat * 6 + y.toNat, none⟩ = some (.int .i64 (jn L x y)) := fun s => q2.out _ s.h
    repeat (first
      | (go_big_quiet_want; refine quiet_load_row 58 _ rfl b6 rfl _ _ _ _ (fun w' ⟨s, hs⟩ => by rw [hs]; exact hL.below s.h hL.lt) Try.underlying58 rfl (size_lat _ _ _ _) ?_; simp only [Act.put, List.setIfInBounds_toArray, List.set_cons_succ, List.set_cons_zero]; go_big_quiet_on)
      | go_big_quiet_step ((first | (go_at_call 62; exact in_below _ (Nat.le_refl _) (greatest_any L _ l6)))))
    refine wpQuiet_nil ?_
    intro s
    have hw2 := s.h
    obtain ⟨w2, hw2'⟩ : ∃ w2, w2 = s.w := ⟨_, rfl⟩
    rw [← hw2'] at hw2 ⊢
    clear hw2'
    go_wp2
    go_ret
    exact ⟨ret_bool (by rw [hq.out]; rfl), hw2⟩
end Go.Proofs.Ytmlbdlobdnhimaa

namespace Go.Proofs.Ytmlbdlobdnhimaa
open Go.RowKit

theorem readOne_no' (a : Option Addr) (cap m : Nat) (L : List Int) (x : Int) (w : World) (hm : m = w.heap.size) (hr : Rd w a L) (h : goodB L x x = false) :
    Calls Try.prog 61 #[.slice a L.length cap, .slice (some ⟨m, 0, none⟩) 1 1] (w.alloc (.cells #[.int .i64 x] 3)) fun e w' => e = .returned (.tuple #[.agg zeroLat, .bool false]) ∧ Below w.heap.size w w' := by
  subst hm; exact readOne_no a cap L x w hr h
theorem readOne_yes' (a : Option Addr) (cap m : Nat) (L : List Int) (x : Int) (w : World) (hm : m = w.heap.size) (hr : Rd w a L) (h : goodB L x x = true) :
    Calls Try.prog 61 #[.slice a L.length cap, .slice (some ⟨m, 0, none⟩) 1 1] (w.alloc (.cells #[.int .i64 x] 3)) fun e w' => e = .returned (.tuple #[.agg (latOf L), .bool true]) ∧ Below w.heap.size w w' := by
  subst hm; exact readOne_yes a cap L x w hr h

theorem compClo_is (L : List Int) (b6 b3 : Nat) (x y : Int) (w : World) (hlat : latB L = true) (hL : LatAt w b6 L) (h3 : w.heap[b3]? = some (.cells #[.int .i64 x] 3 (0, 0))) (x0 : 0 ≤ x) (x1 : x < num L) (y0 : 0 ≤ y) (y1 : y < num L) {r : Bool} (hr : compQ L x y = r) :
    Calls Try.prog 77 #[.int .i64 y, .pointer (some ⟨b6, 0, none⟩), .pointer (some ⟨b3, 0, none⟩)] w fun e w' => e = .returned (.bool r) ∧ Below w.heap.size w w' := by
  rw [← hr]; exact compClo_any L b6 b3 x y w hlat hL h3 x0 x1 y0 y1

set_option maxRecDepth 100000 in
set_option maxHeartbeats 2000000 in
/-- impl.elementsThat at the closure of comp -/
theorem elementsThat_comp (L : List Int) (b6 b3 : Nat) (x : Int) (n : Int) (w : World) (n0 : 0 ≤ n) (n6 : n ≤ 6) (hn1 : n ≤ num L) (hlat : Hid (latB L = true)) (hL : LatAt w b6 L) (h3 : w.heap[b3]? = some (.cells #[.int .i64 x] 3 (0, 0))) (x0 : 0 ≤ x) (x1 : x < num L) :
    Calls Try.prog 70 #[.int .i64 n, .func (.func 77) #[] #[.pointer (some ⟨b6, 0, none⟩), .pointer (some ⟨b3, 0, none⟩)]] w (RetOwn w.heap.size (filtTo (compQ L x) n) w) := by
  obtain ⟨i0, hi, hz0, hz1, hz2⟩ := info_parts info_int
  go_enter Try.func70, Try.ntmps70
  go_wp2
  go_loopw [5, 6, 8] (fun v _ c wr => ∃ y : Int, 0 ≤ y ∧ y ≤ n ∧ c = .int .i64 y ∧ Own w.heap.size wr v (filtTo (compQ L x) y) ∧ Below w.heap.size w wr) (fun _ _ c _ => (6 - intOf c).toNat)
  case atStart => exact ⟨0, by omega, by omega, rfl, Own.nothing _ _, Below.refl _ _⟩
  case round =>
    obtain ⟨y, y0, y1, rfl, hown, hbel⟩ := hrel
    by_cases hy : y < n
    · have hlen := filtTo_len (compQ L x) y
      have hsu := Lib.hid (filtTo_succ (compQ L x) y y0)
      have eL := hL.below hbel hL.lt
      have e3 : wr.heap[b3]? = some (.cells #[.int .i64 x] 3 (0, 0)) := (hbel.block _ (lt_of_block h3)).trans h3
      cases hq : (compQ L x) y with
      | true =>
        have hsu2 := Lib.hid (show filtTo (compQ L x) (y + 1) = filtTo (compQ L x) y ++ [y] by rw [hsu.out, hq]; rfl)
        have HQ := Lib.hid hq
        clear hq
        go_wp2_with (first
          | (go_at_call 77; refine (compClo_is L b6 b3 x y wr hlat.out eL e3 x0 x1 y0 (by omega) HQ.out).mono ?_; rintro e w3 ⟨rfl, hd3⟩; have hown3 := hown.below hd3; have hbel3 := hbel.trans (hd3.mono hbel.size))
          | (at_builtin; refine wpList_append_own _ rfl _ _ 23 rfl w.heap.size 3 i0 (.int .i64 0) 1 8 Try.underlying23 hi hz0 hz1 hz2 rfl (by decide) _ _ _ rfl (World.ownsRow.alloc hown3 _) ⟨w3.heap.size, 0, none⟩ 1 1 [.int .i64 y] rfl rfl (cell_one_new _ _ _) (fun x hx => by simp at hx; subst hx; rfl) (by unfold maxLen; omega) (by omega) (by have := hbel3.size; simp; omega) ?_; intro v' w2 hown1 hgrow _))
        go_roundw
        case rel => exact ⟨y + 1, by omega, by omega, rfl, by unfold Own; rw [hsu2.out, List.map_append, List.length_append]; exact hown1, (hbel3.alloc hbel3.size _).grown hgrow (by have := hbel3.size; simp; omega) (fun q hq => (World.ownsRow.lt hown3 q hq).1)⟩
        case measure => simp [intOf]; omega
      | false =>
        have hsu2 := Lib.hid (show filtTo (compQ L x) (y + 1) = filtTo (compQ L x) y by rw [hsu.out, hq]; rfl)
        have HQ := Lib.hid hq
        clear hq
        go_wp2_with (go_at_call 77; refine (compClo_is L b6 b3 x y wr hlat.out eL e3 x0 x1 y0 (by omega) HQ.out).mono ?_; rintro e w3 ⟨rfl, hd3⟩; have hown3 := hown.below hd3; have hbel3 := hbel.trans (hd3.mono hbel.size))
        go_roundw
        case rel => exact ⟨y + 1, by omega, by omega, rfl, by rw [hsu2.out]; exact hown3, hbel3⟩
        case measure => simp [intOf]; omega
    · have e : y = n := by omega
      subst e
      go_wp2
      go_ret
      exact ⟨_, rfl, hown, hbel⟩

set_option maxRecDepth 100000 in
set_option maxHeartbeats 1000000 in
/-- impl.ComplementsOf -/
theorem implComplementsOf_any (a : Option Addr) (cap : Nat) (L : List Int) (x : Int) (w : World) (hr : Rd w a L) :
    Calls Try.prog 39 #[.slice a L.length cap, .int .i64 x] w (RetSl w.heap.size (compI L x) w) := by
  have hb0 : Below w.heap.size w (w.alloc (.cells #[.int .i64 x] 3)) := (Below.refl _ _).alloc (Nat.le_refl _) _
  have hrx : Rd (w.alloc (.cells #[.int .i64 x] 3)) a L := hr.below hb0
  cases hB : goodB L x x with
  | false =>
    have hv := Lib.hid (compI_f hB)
    have HB := Lib.hid hB; clear hB
    go_enter Try.func39, Try.ntmps39
    go_wp2_with (first
      | (go_at_call 61; refine (readOne_no' _ _ (w.heap.size + 1) L x (w.alloc (.cells #[.int .i64 x] 3)) (by simp) hrx HB.out).mono ?_; rintro e w1 ⟨rfl, h1⟩)
      | (refine wpList_store_row rfl 58 _ _ rfl w1.heap.size zeroLat rfl rfl _ _ (heap_alloc_new w1 (.cells zeroLat 58)) (size_lat _ _ _ _) rfl (one_lat _ _ _ _) ?_; rw [World.setRow_alloc_new]; obtain ⟨w2, hw2⟩ : ∃ w2, w2 = w1.alloc (.cells zeroLat 58) := ⟨_, rfl⟩; rw [← hw2]; have h2 : Below (w.alloc (.cells #[.int .i64 x] 3)).heap.size (w.alloc (.cells #[.int .i64 x] 3)) w2 := (by rw [hw2]; exact h1.alloc h1.size _); clear hw2))
    go_ret
    rw [hv.out]
    exact ⟨none, 0, rfl, Own.nothing _ _, hb0.trans (h2.mono (by simp))⟩
  | true =>
    obtain ⟨hlat, p1, p6, _, x0, x1, _, _⟩ := goodB_parts hB
    have hv := Lib.hid (compI_t hB)
    have HB := Lib.hid hB; clear hB
    have HL := Lib.hid hlat; clear hlat
    have l6 : (L.length : Int) ≤ 6 := p6
    go_enter Try.func39, Try.ntmps39
    go_wp2_with (first
      | (go_at_call 61; refine (readOne_yes' _ _ (w.heap.size + 1) L x (w.alloc (.cells #[.int .i64 x] 3)) (by simp) hrx HB.out).mono ?_; rintro e w1 ⟨rfl, h1⟩)
      | (refine wpList_store_row rfl 58 _ _ rfl w1.heap.size (latOf L) rfl rfl _ _ (heap_alloc_new w1 (.cells zeroLat 58)) (size_lat _ _ _ _) rfl (one_lat _ _ _ _) ?_; rw [World.setRow_alloc_new]; obtain ⟨b6, hb6⟩ : ∃ b6, b6 = w1.heap.size := ⟨_, rfl⟩; obtain ⟨w2, hw2⟩ : ∃ w2, w2 = w1.alloc (.cells (latOf L) 58) := ⟨_, rfl⟩; rw [← hw2, ← hb6]; have hL : LatAt w2 b6 L := (by rw [hw2, hb6]; exact LatAt.new w1 L); replace h1 : Below (w.alloc (.cells #[.int .i64 x] 3)).heap.size (w.alloc (.cells #[.int .i64 x] 3)) w2 := (by rw [hw2]; exact h1.alloc h1.size _); clear hw2 hb6; have c0 := hL.size; have h3 : w2.heap[w.heap.size]? = some (.cells #[.int .i64 x] 3 (0, 0)) := (h1.block _ (by simp)).trans (heap_alloc_new w _))
      | (go_at_call 70; refine (elementsThat_comp L b6 w.heap.size x L.length _ (by omega) l6 (Int.le_refl _) HL hL h3 x0 x1).mono ?_; intro e w9 hret; obtain ⟨a9, c9, rfl, ho, hb⟩ := hret.sl))
    go_ret
    rw [hv.out]
    have hz := h1.size
    have hz2 : w.heap.size + 1 ≤ w2.heap.size := by simpa using hz
    exact ⟨a9, c9, rfl, ho.from (by omega), (hb0.trans (h1.mono (by simp))).trans (hb.mono (by omega))⟩

end Go.Proofs.Ytmlbdlobdnhimaa

namespace Go.Proofs.Ytmlbdlobdnhimaa
open Go.RowKit

def covR (L : List Int) (x y z : Int) : Bool := z == x || z == y || !bl L x z || !bl L z y
def covQ (L : List Int) (x y : Int) : Bool := (y != x && bl L x y) && allI (num L) (covR L x y)
def covI (L : List Int) (x : Int) : List Int := if goodB L x x then filtTo (covQ L x) (num L) else []
theorem covI_t {L : List Int} {x : Int} (h : goodB L x x = true) : covI L x = filtTo (covQ L x) (num L) := if_pos h
theorem covI_f {L : List Int} {x : Int} (h : goodB L x x = false) : covI L x = [] := if_neg (by rw [h]; decide)
theorem covI_len (L : List Int) (x : Int) : (covI L x).length ≤ 6 := by
  cases h : goodB L x x with
  | false => rw [covI_f h]; simp
  | true => rw [covI_t h]; have := filtTo_len (covQ L x) (num L); have := (goodB_parts h).2.2.1; omega

set_option maxRecDepth 100000 in
set_option maxHeartbeats 4000000 in
/-- spec.covers -/
theorem covers_any (b off cap : Nat) (L : List Int) (x : Int) (w : World) (hc : Cells w b off L) (hs : Small L) (h1 : 1 ≤ num L) (x0 : 0 ≤ x) (x1 : x < num L) :
    Calls Try.prog 73 #[.slice (some ⟨b, off, none⟩) L.length cap, .int .i64 x] w (RetOwn w.heap.size (filtTo (covQ L x) (num L)) w) := by
  have h6 := hs.len
  have hlt := hc.lt h1
  have hn : num L = L.length := rfl
  have HN := Lib.hid hn; clear hn
  have hn1 : num L ≤ L.length := by rw [HN.out]; omega
  have hn2 : (L.length : Int) ≤ num L := by rw [HN.out]; omega
  obtain ⟨i0, hi, hz0, hz1, hz2⟩ := info_parts info_int
  go_enter Try.func73, Try.ntmps73
  go_wp2
  go_loopw [5, 6] (fun v c wr => ∃ y : Int, 0 ≤ y ∧ y ≤ num L ∧ c = .int .i64 y ∧ Own w.heap.size wr v (filtTo (covQ L x) y) ∧ Below w.heap.size w wr) (fun _ c _ => (6 - intOf c).toNat)
  case atStart => exact ⟨0, by omega, by omega, rfl, Own.row (L := []) (heap_alloc_new w _) (Nat.le_refl _) (Nat.zero_le _), (Below.refl _ _).alloc (Nat.le_refl _) _⟩
  case round =>
    obtain ⟨y, y0, y1, rfl, hown, hbel⟩ := hrel
    by_cases hy : y < num L
    · have hyl : y < L.length := by omega
      have hc2 : Cells wr b off L := hc.below hbel hlt
      have hlen := filtTo_len (covQ L x) y
      have hsu := Lib.hid (filtTo_succ (covQ L x) y y0)
      have hq := Lib.hid (show covQ L x y = ((y != x && bl L x y) && allI (num L) (covR L x y)) from rfl)
      cases hA : y != x <;> cases hB : bl L x y
      all_goals
        go_wp2_with (go_at_call 67; refine (below_any _ _ _ L _ _ _ hc2 hs (by omega) (by omega) (by omega) (by omega)).mono ?_; rintro e w' ⟨rfl, rfl⟩)
        obtain ⟨w1, rfl⟩ : ∃ w1 : World, w1 = wr := ⟨_, rfl⟩
        go_loop [7, 8] (fun o c => ∃ z : Int, 0 ≤ z ∧ z ≤ num L ∧ c = .int .i64 z ∧ o = .bool (okTo (y != x && bl L x y) (covR L x y) z)) (fun _ c => (6 - intOf c).toNat)
        case atStart => exact ⟨0, by omega, by omega, rfl, by simp [okTo_zero, *]⟩
        case round =>
          obtain ⟨z, z0, z1, rfl, rfl⟩ := hrel
          have hsz := Lib.hid (okTo_succ (y != x && bl L x y) (covR L x y) z z0)
          by_cases hz : z < num L
          · cases hok : okTo (y != x && bl L x y) (covR L x y) z with
            | true =>
              rw [hok] at hsz
              clear hok hA hB
              have hr := Lib.hid (show covR L x y z = (z == x || z == y || !bl L x z || !bl L z y) from rfl)
              cases hC : z == x <;> cases hD : z == y <;> cases hE : bl L x z <;> cases hF : bl L z y
              all_goals
                rw [hC, hD, hE, hF] at hr
                go_wp2_with (go_at_call 67; refine (below_any _ _ _ L _ _ _ hc2 hs (by omega) (by omega) (by omega) (by omega)).mono ?_; rintro e w' ⟨rfl, rfl⟩)
                go_round
                case rel => exact ⟨z + 1, by omega, by omega, rfl, by rw [hsz.out, hr.out]; rfl⟩
                case measure => simp [intOf]; omega
            | false =>
              have he := okTo_end z1 (.inr hok)
              rw [hok, ← hq.out] at he
              have hsu2 := Lib.hid (show filtTo (covQ L x) (y + 1) = filtTo (covQ L x) y by rw [hsu.out, he]; rfl)
              clear he hA hB
              go_wp2
              go_roundw
              case rel => exact ⟨y + 1, by omega, by omega, rfl, by rw [hsu2.out]; exact hown, hbel⟩
              case measure => simp [intOf]; omega
          · have he := okTo_end (A := y != x && bl L x y) (q := covR L x y) z1 (.inl (by omega))
            rw [← hq.out] at he
            clear hA hB
            cases hok : okTo (y != x && bl L x y) (covR L x y) z with
            | true =>
              rw [hok] at he
              have hsu2 := Lib.hid (show filtTo (covQ L x) (y + 1) = filtTo (covQ L x) y ++ [y] by rw [hsu.out, he]; rfl)
              clear he
              go_wp2_with (at_builtin; refine wpList_append_own _ rfl _ _ 23 rfl w.heap.size 3 i0 (.int .i64 0) 1 8 Try.underlying23 hi hz0 hz1 hz2 rfl (by decide) _ _ _ rfl (World.ownsRow.alloc hown _) ⟨w1.heap.size, 0, none⟩ 1 1 [.int .i64 y] rfl rfl (cell_one_new _ _ _) (fun x hx => by simp at hx; subst hx; rfl) (by unfold maxLen; omega) (by omega) (by have := hbel.size; simp; omega) ?_; intro v' w2 hown1 hgrow _)
              go_roundw
              case rel => exact ⟨y + 1, by omega, by omega, rfl, by unfold Own; rw [hsu2.out, List.map_append, List.length_append]; exact hown1, (hbel.alloc hbel.size _).grown hgrow (by have := hbel.size; simp; omega) (fun q hq => (World.ownsRow.lt hown q hq).1)⟩
              case measure => simp [intOf]; omega
            | false =>
              rw [hok] at he
              have hsu2 := Lib.hid (show filtTo (covQ L x) (y + 1) = filtTo (covQ L x) y by rw [hsu.out, he]; rfl)
              clear he
              go_wp2
              go_roundw
              case rel => exact ⟨y + 1, by omega, by omega, rfl, by rw [hsu2.out]; exact hown, hbel⟩
              case measure => simp [intOf]; omega
    · have e : y = num L := by omega
      subst e
      go_wp2
      go_ret
      exact ⟨_, rfl, hown, hbel⟩
end Go.Proofs.Ytmlbdlobdnhimaa

namespace Go.Proofs.Ytmlbdlobdnhimaa
open Go.RowKit

def abQ (L : List Int) (x y : Int) : Bool := x != y && bl L x y
def covS (L : List Int) (x y z : Int) : Bool := !(abQ L x z && abQ L z y)
theorem covQ_eq (L : List Int) (x y : Int) : covQ L x y = (allI (num L) (covS L x y) && abQ L x y) := by
  unfold covQ abQ
  rw [Bool.and_comm]
  have e : (y != x) = (x != y) := by rw [Bool.eq_iff_iff, bne_iff_ne, bne_iff_ne]; exact ⟨Ne.symm, Ne.symm⟩
  rw [e]
  congr 1
  refine allI_congr fun z _ _ => ?_
  unfold covR covS abQ
  have e1 : (x != z) = !(z == x) := by rw [bne, Bool.not_inj_iff, Bool.eq_iff_iff, beq_iff_eq, beq_iff_eq]; exact ⟨Eq.symm, Eq.symm⟩
  rw [e1, bne]
  cases z == x <;> cases z == y <;> cases bl L x z <;> cases bl L z y <;> rfl

set_option maxRecDepth 100000 in
set_option maxHeartbeats 1000000 in
/-- impl.lattice.isAbove -/
theorem isAbove_is (L : List Int) (x y : Int) (w : World) (h6 : num L ≤ 6) (x0 : 0 ≤ x) (x1 : x < num L) (y0 : 0 ≤ y) (y1 : y < num L) {r : Bool} (hr : abQ L x y = r) :
    Calls Try.prog 104 #[.agg (latOf L), .int .i64 x, .int .i64 y] w fun e w' => e = .returned (.bool r) ∧ Below w.heap.size w w' := by
  have hq := Lib.hid (show abQ L x y = (x != y && bl L x y) from rfl)
  have d0 := (LatAt.new w L).g x0 (by omega : x < 6) y0 (by omega : y < 6)
  rw [ordG_in x1 y1] at d0
  have HR := Lib.hid hr; clear hr
  cases hA : x != y <;> cases hB : bl L x y
  all_goals
    rw [hA, hB] at hq
    go_enter Try.func104, Try.ntmps104
    go_wp2
    go_ret
    exact ⟨ret_bool (by rw [← HR.out, hq.out]; rfl), (Below.refl _ _).alloc (Nat.le_refl _) _⟩

set_option maxRecDepth 100000 in
set_option maxHeartbeats 2000000 in
/-- impl.lattice.isCover -/
theorem isCover_any (L : List Int) (x y : Int) (w : World) (h6 : num L ≤ 6) (x0 : 0 ≤ x) (x1 : x < num L) (y0 : 0 ≤ y) (y1 : y < num L) :
    Calls Try.prog 72 #[.agg (latOf L), .int .i64 x, .int .i64 y] w fun e w' => e = .returned (.bool (covQ L x y)) ∧ Below w.heap.size w w' := by
  have hn : num L = L.length := rfl
  have HN := Lib.hid hn; clear hn
  have hn1 : num L ≤ L.length := by rw [HN.out]; omega
  have hn2 : (L.length : Int) ≤ num L := by rw [HN.out]; omega
  have hq := Lib.hid (covQ_eq L x y)
  go_enter Try.func72, Try.ntmps72
  have c00 := (LatAt.new w L).size
  go_wp2
  clear c00
  go_loopw [7, 10] (fun _ c wr => ∃ z : Int, 0 ≤ z ∧ z ≤ num L ∧ c = .int .i64 z ∧ AllTo z (covS L x y) ∧ LatAt wr w.heap.size L ∧ Below w.heap.size w wr) (fun _ c _ => (6 - intOf c).toNat)
  case atStart => exact ⟨0, by omega, by omega, rfl, AllTo.zero _, LatAt.new w L, (Below.refl _ _).alloc (Nat.le_refl _) _⟩
  case round =>
    obtain ⟨z, z0, z1, rfl, ha, hL, hbel⟩ := hrel
    by_cases hz : z < num L
    · have hzl : z < L.length := by omega
      have hs := Lib.hid (show covS L x y z = !(abQ L x z && abQ L z y) from rfl)
      cases hA : abQ L x z
      case false =>
        have HA := Lib.hid hA
        rw [hA] at hs
        clear hA
        go_wp2_with (first | (refine wpList_load_row_w rfl 58 _ rfl w.heap.size rfl _ _ _ _ hL Try.underlying58 rfl (size_lat _ _ _ _) ?_) | (go_at_call 104; refine (isAbove_is L x z _ h6 x0 x1 z0 hz HA.out).mono ?_; rintro e w5 ⟨rfl, h5⟩))
        go_roundw
        case rel => exact ⟨z + 1, by omega, by omega, rfl, ha.succ hs.out, hL.below h5 hL.lt, hbel.trans (h5.mono hbel.size)⟩
        case measure => simp [intOf]; omega
      case true =>
        have HA := Lib.hid hA
        cases hB : abQ L z y
        case false =>
          have HB := Lib.hid hB
          rw [hA, hB] at hs
          clear hA hB
          go_wp2_with (first | (clear tk; go_at_call 104; refine (isAbove_is L z y _ h6 z0 hz y0 y1 HB.out).mono ?_; rintro e w6 ⟨rfl, h6b⟩) | (refine wpList_load_row_w rfl 58 _ rfl w.heap.size rfl _ _ _ _ hL Try.underlying58 rfl (size_lat _ _ _ _) ?_) | (go_at_call 104; refine (isAbove_is L x z _ h6 x0 x1 z0 hz HA.out).mono ?_; rintro e w5 ⟨rfl, h5⟩; have tk : True := trivial; replace hL := hL.below h5 hL.lt; replace hbel := hbel.trans (h5.mono hbel.size)))
          go_roundw
          case rel => exact ⟨z + 1, by omega, by omega, rfl, ha.succ hs.out, hL.below h6b hL.lt, hbel.trans (h6b.mono hbel.size)⟩
          case measure => simp [intOf]; omega
        case true =>
          have HB := Lib.hid hB
          rw [hA, hB] at hs
          clear hA hB
          have hf := Lib.hid (show covQ L x y = false by rw [hq.out, allI_false z z0 hz hs.out]; rfl)
          go_wp2_with (first | (clear tk; go_at_call 104; refine (isAbove_is L z y _ h6 z0 hz y0 y1 HB.out).mono ?_; rintro e w6 ⟨rfl, h6b⟩) | (refine wpList_load_row_w rfl 58 _ rfl w.heap.size rfl _ _ _ _ hL Try.underlying58 rfl (size_lat _ _ _ _) ?_) | (go_at_call 104; refine (isAbove_is L x z _ h6 x0 x1 z0 hz HA.out).mono ?_; rintro e w5 ⟨rfl, h5⟩; have tk : True := trivial; replace hL := hL.below h5 hL.lt; replace hbel := hbel.trans (h5.mono hbel.size)))
          go_ret
          exact ⟨ret_bool hf.out.symm, hbel.trans (h6b.mono hbel.size)⟩
    · have hall := Lib.hid (show covQ L x y = abQ L x y by rw [hq.out, ha.all (by omega : num L ≤ z)]; rfl)
      go_wp2_with (first | (refine wpList_load_row_w rfl 58 _ rfl w.heap.size rfl _ _ _ _ hL Try.underlying58 rfl (size_lat _ _ _ _) ?_) | (go_at_call 104; refine (isAbove_is L x y _ h6 x0 x1 y0 y1 rfl).mono ?_; rintro e w5 ⟨rfl, h5⟩))
      go_ret
      exact ⟨ret_bool hall.out.symm, hbel.trans (h5.mono hbel.size)⟩

set_option maxRecDepth 100000 in
set_option maxHeartbeats 1000000 in
/-- the closure of impl.CoversOf -/
theorem covClo_is (L : List Int) (b6 b3 : Nat) (x y : Int) (w : World) (h6 : num L ≤ 6) (hL : LatAt w b6 L) (h3 : w.heap[b3]? = some (.cells #[.int .i64 x] 3 (0, 0))) (x0 : 0 ≤ x) (x1 : x < num L) (y0 : 0 ≤ y) (y1 : y < num L) {r : Bool} (hr : covQ L x y = r) :
    Calls Try.prog 71 #[.int .i64 y, .pointer (some ⟨b6, 0, none⟩), .pointer (some ⟨b3, 0, none⟩)] w fun e w' => e = .returned (.bool r) ∧ Below w.heap.size w w' := by
  have c3 := cell_of_one h3
  have HR := Lib.hid hr; clear hr
  go_enter Try.func71, Try.ntmps71
  go_wp2_with (first | (refine wpList_load_row_w rfl 58 _ rfl b6 rfl _ _ _ _ hL Try.underlying58 rfl (size_lat _ _ _ _) ?_) | (go_at_call 72; refine (isCover_any L x y _ h6 x0 x1 y0 y1).mono ?_; rintro e w5 ⟨rfl, h5⟩))
  go_ret
  exact ⟨ret_bool HR.out, h5⟩

set_option maxRecDepth 100000 in
set_option maxHeartbeats 2000000 in
/-- impl.elementsThat at the closure of cov -/
theorem elementsThat_cov (L : List Int) (b6 b3 : Nat) (x : Int) (n : Int) (w : World) (n0 : 0 ≤ n) (n6 : n ≤ 6) (hn1 : n ≤ num L) (hl6 : num L ≤ 6) (hL : LatAt w b6 L) (h3 : w.heap[b3]? = some (.cells #[.int .i64 x] 3 (0, 0))) (x0 : 0 ≤ x) (x1 : x < num L) :
    Calls Try.prog 70 #[.int .i64 n, .func (.func 71) #[] #[.pointer (some ⟨b6, 0, none⟩), .pointer (some ⟨b3, 0, none⟩)]] w (RetOwn w.heap.size (filtTo (covQ L x) n) w) := by
  obtain ⟨i0, hi, hz0, hz1, hz2⟩ := info_parts info_int
  go_enter Try.func70, Try.ntmps70
  go_wp2
  go_loopw [5, 6, 8] (fun v _ c wr => ∃ y : Int, 0 ≤ y ∧ y ≤ n ∧ c = .int .i64 y ∧ Own w.heap.size wr v (filtTo (covQ L x) y) ∧ Below w.heap.size w wr) (fun _ _ c _ => (6 - intOf c).toNat)
  case atStart => exact ⟨0, by omega, by omega, rfl, Own.nothing _ _, Below.refl _ _⟩
  case round =>
    obtain ⟨y, y0, y1, rfl, hown, hbel⟩ := hrel
    by_cases hy : y < n
    · have hlen := filtTo_len (covQ L x) y
      have hsu := Lib.hid (filtTo_succ (covQ L x) y y0)
      have eL := hL.below hbel hL.lt
      have e3 : wr.heap[b3]? = some (.cells #[.int .i64 x] 3 (0, 0)) := (hbel.block _ (lt_of_block h3)).trans h3
      cases hq : (covQ L x) y with
      | true =>
        have hsu2 := Lib.hid (show filtTo (covQ L x) (y + 1) = filtTo (covQ L x) y ++ [y] by rw [hsu.out, hq]; rfl)
        have HQ := Lib.hid hq
        clear hq
        go_wp2_with (first
          | (go_at_call 71; refine (covClo_is L b6 b3 x y wr hl6 eL e3 x0 x1 y0 (by omega) HQ.out).mono ?_; rintro e w3 ⟨rfl, hd3⟩; have hown3 := hown.below hd3; have hbel3 := hbel.trans (hd3.mono hbel.size))
          | (at_builtin; refine wpList_append_own _ rfl _ _ 23 rfl w.heap.size 3 i0 (.int .i64 0) 1 8 Try.underlying23 hi hz0 hz1 hz2 rfl (by decide) _ _ _ rfl (World.ownsRow.alloc hown3 _) ⟨w3.heap.size, 0, none⟩ 1 1 [.int .i64 y] rfl rfl (cell_one_new _ _ _) (fun x hx => by simp at hx; subst hx; rfl) (by unfold maxLen; omega) (by omega) (by have := hbel3.size; simp; omega) ?_; intro v' w2 hown1 hgrow _))
        go_roundw
        case rel => exact ⟨y + 1, by omega, by omega, rfl, by unfold Own; rw [hsu2.out, List.map_append, List.length_append]; exact hown1, (hbel3.alloc hbel3.size _).grown hgrow (by have := hbel3.size; simp; omega) (fun q hq => (World.ownsRow.lt hown3 q hq).1)⟩
        case measure => simp [intOf]; omega
      | false =>
        have hsu2 := Lib.hid (show filtTo (covQ L x) (y + 1) = filtTo (covQ L x) y by rw [hsu.out, hq]; rfl)
        have HQ := Lib.hid hq
        clear hq
        go_wp2_with (go_at_call 71; refine (covClo_is L b6 b3 x y wr hl6 eL e3 x0 x1 y0 (by omega) HQ.out).mono ?_; rintro e w3 ⟨rfl, hd3⟩; have hown3 := hown.below hd3; have hbel3 := hbel.trans (hd3.mono hbel.size))
        go_roundw
        case rel => exact ⟨y + 1, by omega, by omega, rfl, by rw [hsu2.out]; exact hown3, hbel3⟩
        case measure => simp [intOf]; omega
    · have e : y = n := by omega
      subst e
      go_wp2
      go_ret
      exact ⟨_, rfl, hown, hbel⟩

set_option maxHeartbeats 400000 in
/-- spec.CoversOf -/
theorem specCoversOf_any (a : Option Addr) (cap : Nat) (L : List Int) (x : Int) (w : World) (hr : Rd w a L) (hm : L.length ≤ maxLen) :
    Calls Try.prog 31 #[.slice a L.length cap, .int .i64 x] w (RetSl w.heap.size (covI L x) w) := by
  cases hB : goodB L x x with
  | false =>
    have hv := Lib.hid (covI_f hB)
    go_enter Try.func31, Try.ntmps31
    go_wp2_with (go_at_call 66; refine (good_any _ _ _ _ _ _ hr hm).mono ?_; rintro e w1 ⟨rfl, hd⟩)
    go_ret
    rw [hv.out]
    exact ⟨none, 0, rfl, Own.nothing _ _, hd.below _⟩
  | true =>
    obtain ⟨_, h1, h6, hs, x0, x1, _, _⟩ := goodB_parts hB
    obtain ⟨b, off, rfl, hc⟩ := hr.pos h1
    have hv := Lib.hid (covI_t hB)
    go_enter Try.func31, Try.ntmps31
    go_wp2_with (first | (go_at_call 66; refine (good_any _ _ _ _ _ _ hr hm).mono ?_; rintro e w1 ⟨rfl, hd⟩) | (go_at_call 73; refine (covers_any _ _ _ L x _ (hd.cells hc) hs h1 x0 x1).mono ?_; intro e w9 hret; obtain ⟨a9, c9, rfl, ho, hb⟩ := hret.sl))
    go_ret
    rw [hv.out]
    exact ⟨a9, c9, rfl, ho.from (hd.below 0).size, (hd.below _).trans (hb.mono (hd.below 0).size)⟩

set_option maxRecDepth 100000 in
set_option maxHeartbeats 1000000 in
/-- impl.CoversOf -/
theorem implCoversOf_any (a : Option Addr) (cap : Nat) (L : List Int) (x : Int) (w : World) (hr : Rd w a L) :
    Calls Try.prog 29 #[.slice a L.length cap, .int .i64 x] w (RetSl w.heap.size (covI L x) w) := by
  have hb0 : Below w.heap.size w (w.alloc (.cells #[.int .i64 x] 3)) := (Below.refl _ _).alloc (Nat.le_refl _) _
  have hrx : Rd (w.alloc (.cells #[.int .i64 x] 3)) a L := hr.below hb0
  cases hB : goodB L x x with
  | false =>
    have hv := Lib.hid (covI_f hB)
    have HB := Lib.hid hB; clear hB
    go_enter Try.func29, Try.ntmps29
    go_wp2_with (first
      | (go_at_call 61; refine (readOne_no' _ _ (w.heap.size + 1) L x (w.alloc (.cells #[.int .i64 x] 3)) (by simp) hrx HB.out).mono ?_; rintro e w1 ⟨rfl, h1⟩)
      | (refine wpList_store_row rfl 58 _ _ rfl w1.heap.size zeroLat rfl rfl _ _ (heap_alloc_new w1 (.cells zeroLat 58)) (size_lat _ _ _ _) rfl (one_lat _ _ _ _) ?_; rw [World.setRow_alloc_new]; obtain ⟨w2, hw2⟩ : ∃ w2, w2 = w1.alloc (.cells zeroLat 58) := ⟨_, rfl⟩; rw [← hw2]; have h2 : Below (w.alloc (.cells #[.int .i64 x] 3)).heap.size (w.alloc (.cells #[.int .i64 x] 3)) w2 := (by rw [hw2]; exact h1.alloc h1.size _); clear hw2))
    go_ret
    rw [hv.out]
    exact ⟨none, 0, rfl, Own.nothing _ _, hb0.trans (h2.mono (by simp))⟩
  | true =>
    obtain ⟨hlat, p1, p6, _, x0, x1, _, _⟩ := goodB_parts hB
    have hv := Lib.hid (covI_t hB)
    have HB := Lib.hid hB; clear hB
    clear hlat
    have l6 : (L.length : Int) ≤ 6 := p6
    go_enter Try.func29, Try.ntmps29
    go_wp2_with (first
      | (go_at_call 61; refine (readOne_yes' _ _ (w.heap.size + 1) L x (w.alloc (.cells #[.int .i64 x] 3)) (by simp) hrx HB.out).mono ?_; rintro e w1 ⟨rfl, h1⟩)
      | (refine wpList_store_row rfl 58 _ _ rfl w1.heap.size (latOf L) rfl rfl _ _ (heap_alloc_new w1 (.cells zeroLat 58)) (size_lat _ _ _ _) rfl (one_lat _ _ _ _) ?_; rw [World.setRow_alloc_new]; obtain ⟨b6, hb6⟩ : ∃ b6, b6 = w1.heap.size := ⟨_, rfl⟩; obtain ⟨w2, hw2⟩ : ∃ w2, w2 = w1.alloc (.cells (latOf L) 58) := ⟨_, rfl⟩; rw [← hw2, ← hb6]; have hL : LatAt w2 b6 L := (by rw [hw2, hb6]; exact LatAt.new w1 L); replace h1 : Below (w.alloc (.cells #[.int .i64 x] 3)).heap.size (w.alloc (.cells #[.int .i64 x] 3)) w2 := (by rw [hw2]; exact h1.alloc h1.size _); clear hw2 hb6; have c0 := hL.size; have h3 : w2.heap[w.heap.size]? = some (.cells #[.int .i64 x] 3 (0, 0)) := (h1.block _ (by simp)).trans (heap_alloc_new w _))
      | (go_at_call 70; refine (elementsThat_cov L b6 w.heap.size x L.length _ (by omega) l6 (Int.le_refl _) p6 hL h3 x0 x1).mono ?_; intro e w9 hret; obtain ⟨a9, c9, rfl, ho, hb⟩ := hret.sl))
    go_ret
    rw [hv.out]
    have hz := h1.size
    have hz2 : w.heap.size + 1 ≤ w2.heap.size := by simpa using hz
    exact ⟨a9, c9, rfl, ho.from (by omega), (hb0.trans (h1.mono (by simp))).trans (hb.mono (by omega))⟩

end Go.Proofs.Ytmlbdlobdnhimaa
