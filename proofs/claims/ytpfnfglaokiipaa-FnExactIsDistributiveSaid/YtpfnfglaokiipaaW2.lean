import Derived.Test.YtpfnfglaokiipaaW1
namespace Go.Proofs.Ytpfnfglaokiipaa
open Go.RowKit

theorem withB_two (L : List Int) (x y : Int) : withB L [x, y] = ((decide (0 ≤ x) && decide (x < L.length)) && (decide (0 ≤ y) && decide (y < L.length))) := by
  unfold withB
  rw [show ((List.length [x, y] : Nat) : Int) = (0 + 1) + 1 from rfl, allI_succ _ (by omega), allI_succ _ (by omega), allI_zero]
  rfl
theorem good_two {L : List Int} {x y : Int} : goodB L x y = (latB L && withB L [x, y]) := by
  rw [withB_two]
  unfold goodB
  rw [show decide (x ≤ num L - 1) = decide (x < (L.length : Int)) from by rw [decide_eq_decide]; unfold num; omega, show decide (y ≤ num L - 1) = decide (y < (L.length : Int)) from by rw [decide_eq_decide]; unfold num; omega, Bool.and_assoc]
theorem row_two (w : World) (x y : Int) : Row (w.alloc (.cells #[.int .i64 x, .int .i64 y] 3)) w.heap.size [x, y] := heap_alloc_new w _

/-- impl.readLatticeWith at two elements -/
theorem readTwo_no (a : Option Addr) (cap : Nat) (L : List Int) (x y : Int) (w : World) (hr : Rd w a L) (h : goodB L x y = false) :
    Calls Try.prog 50 #[.slice a L.length cap, .slice (some ⟨w.heap.size, 0, none⟩) 2 2] (w.alloc (.cells #[.int .i64 x, .int .i64 y] 3)) fun e w' => e = .returned (.tuple #[.agg zeroLat, .bool false]) ∧ Below w.heap.size w w' := by
  have hb : Below w.heap.size w (w.alloc (.cells #[.int .i64 x, .int .i64 y] 3)) := (Below.refl _ _).alloc (Nat.le_refl _) _
  rw [good_two] at h
  cases hl : latB L with
  | false => exact (readWith_bad a (some ⟨w.heap.size, 0, none⟩) cap 2 L [x, y] _ (hr.below hb) hl).mono fun _ _ h => ⟨h.1, hb.trans (h.2.mono (by simp))⟩
  | true =>
    rw [hl, Bool.true_and] at h
    have := readWith_lat a (some ⟨w.heap.size, 0, none⟩) cap 2 L [x, y] _ (hr.below hb) (row_two w x y).rd (by simp) hl
    rw [withA_f h, h] at this
    exact this.mono fun _ _ h => ⟨h.1, hb.trans (h.2.mono (by simp))⟩
theorem readTwo_yes (a : Option Addr) (cap : Nat) (L : List Int) (x y : Int) (w : World) (hr : Rd w a L) (h : goodB L x y = true) :
    Calls Try.prog 50 #[.slice a L.length cap, .slice (some ⟨w.heap.size, 0, none⟩) 2 2] (w.alloc (.cells #[.int .i64 x, .int .i64 y] 3)) fun e w' => e = .returned (.tuple #[.agg (latOf L), .bool true]) ∧ Below w.heap.size w w' := by
  have hb : Below w.heap.size w (w.alloc (.cells #[.int .i64 x, .int .i64 y] 3)) := (Below.refl _ _).alloc (Nat.le_refl _) _
  rw [good_two, Bool.and_eq_true] at h
  have := readWith_lat a (some ⟨w.heap.size, 0, none⟩) cap 2 L [x, y] _ (hr.below hb) (row_two w x y).rd (by simp) h.1
  rw [withA_t h.2, h.2] at this
  exact this.mono fun _ _ h => ⟨h.1, hb.trans (h.2.mono (by simp))⟩

set_option maxRecDepth 100000 in
set_option maxHeartbeats 1000000 in
/-- impl.IsBelow -/
theorem implIsBelow_any (a : Option Addr) (cap : Nat) (L : List Int) (x y : Int) (w : World) (hr : Rd w a L) :
    Calls Try.prog 20 #[.slice a L.length cap, .int .i64 x, .int .i64 y] w fun e w' => e = .returned (.bool (isBelowB L x y)) ∧ Below w.heap.size w w' := by
  cases hB : goodB L x y with
  | false =>
    have hv := Lib.hid (show isBelowB L x y = false by unfold isBelowB; rw [hB]; rfl)
    have HB := Lib.hid hB; clear hB
    go_enter Try.func20, Try.ntmps20
    go_wp2_with (first
      | (go_at_call 50; refine (readTwo_no _ _ L x y w hr HB.out).mono ?_; rintro e w1 ⟨rfl, h1⟩)
      | (refine wpList_store_row rfl 45 _ _ rfl w1.heap.size zeroLat rfl rfl _ _ (heap_alloc_new w1 (.cells zeroLat 45)) (size_lat _ _ _ _) rfl (one_lat _ _ _ _) ?_; rw [World.setRow_alloc_new]))
    go_ret
    exact ⟨ret_bool hv.out.symm, h1.alloc h1.size _⟩
  | true =>
    obtain ⟨hlat, h1, h6, hs, x0, x1, y0, y1⟩ := goodB_parts hB
    have hv := Lib.hid (show isBelowB L x y = ordG L x y by unfold isBelowB; rw [hB, ordG_in x1 y1]; rfl)
    have HB := Lib.hid hB; clear hB
    clear hlat hs
    go_enter Try.func20, Try.ntmps20
    go_wp2_with (first
      | (go_at_call 50; refine (readTwo_yes _ _ L x y w hr HB.out).mono ?_; rintro e w1 ⟨rfl, h1⟩)
      | (refine wpList_store_row rfl 45 _ _ rfl w1.heap.size (latOf L) rfl rfl _ _ (heap_alloc_new w1 (.cells zeroLat 45)) (size_lat _ _ _ _) rfl (one_lat _ _ _ _) ?_; rw [World.setRow_alloc_new]; obtain ⟨b6, hb6⟩ : ∃ b6, b6 = w1.heap.size := ⟨_, rfl⟩; obtain ⟨w2, hw2⟩ : ∃ w2, w2 = w1.alloc (.cells (latOf L) 45) := ⟨_, rfl⟩; rw [← hw2, ← hb6]; have hL : LatAt w2 b6 L := (by rw [hw2, hb6]; exact LatAt.new w1 L); replace h1 : Below w.heap.size w w2 := (by rw [hw2]; exact h1.alloc h1.size _); clear hw2 hb6; have c0 := hL.g x0 (by omega : x < 6) y0 (by omega : y < 6)))
    go_ret
    exact ⟨ret_bool hv.out.symm, h1⟩

set_option maxRecDepth 100000 in
set_option maxHeartbeats 1000000 in
/-- impl.MeetOf -/
theorem implMeetOf_any (a : Option Addr) (cap : Nat) (L : List Int) (x y : Int) (w : World) (hr : Rd w a L) :
    Calls Try.prog 22 #[.slice a L.length cap, .int .i64 x, .int .i64 y] w fun e w' => e = .returned (.int .i64 (meetOfI L x y)) ∧ Below w.heap.size w w' := by
  cases hB : goodB L x y with
  | false =>
    have hv := Lib.hid (show meetOfI L x y = -1 by unfold meetOfI; rw [hB]; rfl)
    have HB := Lib.hid hB; clear hB
    go_enter Try.func22, Try.ntmps22
    go_wp2_with (first
      | (go_at_call 50; refine (readTwo_no _ _ L x y w hr HB.out).mono ?_; rintro e w1 ⟨rfl, h1⟩)
      | (refine wpList_store_row rfl 45 _ _ rfl w1.heap.size zeroLat rfl rfl _ _ (heap_alloc_new w1 (.cells zeroLat 45)) (size_lat _ _ _ _) rfl (one_lat _ _ _ _) ?_; rw [World.setRow_alloc_new]))
    go_ret
    exact ⟨ret_int hv.out.symm, h1.alloc h1.size _⟩
  | true =>
    obtain ⟨hlat, h1, h6, hs, x0, x1, y0, y1⟩ := goodB_parts hB
    have hv := Lib.hid (show meetOfI L x y = tabT (ordG L) L.length x y by unfold meetOfI; rw [hB, tabT_meet hlat x0 x1 y0 y1]; rfl)
    have HB := Lib.hid hB; clear hB
    clear hlat hs
    go_enter Try.func22, Try.ntmps22
    go_wp2_with (first
      | (go_at_call 50; refine (readTwo_yes _ _ L x y w hr HB.out).mono ?_; rintro e w1 ⟨rfl, h1⟩)
      | (refine wpList_store_row rfl 45 _ _ rfl w1.heap.size (latOf L) rfl rfl _ _ (heap_alloc_new w1 (.cells zeroLat 45)) (size_lat _ _ _ _) rfl (one_lat _ _ _ _) ?_; rw [World.setRow_alloc_new]; obtain ⟨b6, hb6⟩ : ∃ b6, b6 = w1.heap.size := ⟨_, rfl⟩; obtain ⟨w2, hw2⟩ : ∃ w2, w2 = w1.alloc (.cells (latOf L) 45) := ⟨_, rfl⟩; rw [← hw2, ← hb6]; have hL : LatAt w2 b6 L := (by rw [hw2, hb6]; exact LatAt.new w1 L); replace h1 : Below w.heap.size w w2 := (by rw [hw2]; exact h1.alloc h1.size _); clear hw2 hb6; have c0 := hL.m x0 (by omega : x < 6) y0 (by omega : y < 6)))
    go_ret
    exact ⟨ret_int hv.out.symm, h1⟩

set_option maxRecDepth 100000 in
set_option maxHeartbeats 1000000 in
/-- impl.JoinOf -/
theorem implJoinOf_any (a : Option Addr) (cap : Nat) (L : List Int) (x y : Int) (w : World) (hr : Rd w a L) :
    Calls Try.prog 24 #[.slice a L.length cap, .int .i64 x, .int .i64 y] w fun e w' => e = .returned (.int .i64 (joinOfI L x y)) ∧ Below w.heap.size w w' := by
  cases hB : goodB L x y with
  | false =>
    have hv := Lib.hid (show joinOfI L x y = -1 by unfold joinOfI; rw [hB]; rfl)
    have HB := Lib.hid hB; clear hB
    go_enter Try.func24, Try.ntmps24
    go_wp2_with (first
      | (go_at_call 50; refine (readTwo_no _ _ L x y w hr HB.out).mono ?_; rintro e w1 ⟨rfl, h1⟩)
      | (refine wpList_store_row rfl 45 _ _ rfl w1.heap.size zeroLat rfl rfl _ _ (heap_alloc_new w1 (.cells zeroLat 45)) (size_lat _ _ _ _) rfl (one_lat _ _ _ _) ?_; rw [World.setRow_alloc_new]))
    go_ret
    exact ⟨ret_int hv.out.symm, h1.alloc h1.size _⟩
  | true =>
    obtain ⟨hlat, h1, h6, hs, x0, x1, y0, y1⟩ := goodB_parts hB
    have hv := Lib.hid (show joinOfI L x y = tabT (revG (ordG L)) L.length x y by unfold joinOfI; rw [hB, tabT_join hlat x0 x1 y0 y1]; rfl)
    have HB := Lib.hid hB; clear hB
    clear hlat hs
    go_enter Try.func24, Try.ntmps24
    go_wp2_with (first
      | (go_at_call 50; refine (readTwo_yes _ _ L x y w hr HB.out).mono ?_; rintro e w1 ⟨rfl, h1⟩)
      | (refine wpList_store_row rfl 45 _ _ rfl w1.heap.size (latOf L) rfl rfl _ _ (heap_alloc_new w1 (.cells zeroLat 45)) (size_lat _ _ _ _) rfl (one_lat _ _ _ _) ?_; rw [World.setRow_alloc_new]; obtain ⟨b6, hb6⟩ : ∃ b6, b6 = w1.heap.size := ⟨_, rfl⟩; obtain ⟨w2, hw2⟩ : ∃ w2, w2 = w1.alloc (.cells (latOf L) 45) := ⟨_, rfl⟩; rw [← hw2, ← hb6]; have hL : LatAt w2 b6 L := (by rw [hw2, hb6]; exact LatAt.new w1 L); replace h1 : Below w.heap.size w w2 := (by rw [hw2]; exact h1.alloc h1.size _); clear hw2 hb6; have c0 := hL.j x0 (by omega : x < 6) y0 (by omega : y < 6)))
    go_ret
    exact ⟨ret_int hv.out.symm, h1⟩

set_option maxRecDepth 100000 in
set_option maxHeartbeats 1000000 in
/-- the law -/
theorem lawIsBelow (a : Option Addr) (cap : Nat) (L : List Int) (x y : Int) (w : World) (hr : Rd w a L) (hm : L.length ≤ maxLen) :
    Calls Try.prog 4 #[.slice a L.length cap, .int .i64 x, .int .i64 y] w fun e w' => e = .returned (.bool true) ∧ Below w.heap.size w w' := by
  have hmm := hm
  unfold maxLen at hm
  by_cases hbig : 1048576 < L.length
  · go_enter Try.func4, Try.ntmps4
    go_wp2
    go_ret
    exact ⟨rfl, Below.refl _ _⟩
  · have hs : L.length ≤ 1048576 := by omega
    have hs2 : (L.length : Int) ≤ 1048576 := by omega
    go_enter Try.func4, Try.ntmps4
    go_wp2_with fail
    refine (toIntS_any _ _ L _ hr hs).mono ?_
    rintro e w1 ⟨rfl, hrow1, hb1⟩
    go_wp2_with fail
    refine (specIsBelow_any _ _ L x y _ hrow1.rd hmm).mono ?_
    rintro e w2 ⟨rfl, hd2⟩
    have hr2 : Rd w2 a L := hd2.rd (hr.below hb1)
    have hB2 : Below w.heap.size w w2 := hb1.trans (hd2.below _)
    clear hrow1 hb1 hd2
    go_wp2_with fail
    refine (toIntS_any _ _ L _ hr2 hs).mono ?_
    rintro e w3 ⟨rfl, hrow3, hb3⟩
    have hr3 : Rd w3 a L := hr2.below hb3
    have hB3 : Below w.heap.size w w3 := hB2.trans (hb3.mono hB2.size)
    obtain ⟨b3, hb3'⟩ : ∃ b3, b3 = w2.heap.size := ⟨_, rfl⟩
    rw [← hb3'] at hrow3 ⊢
    clear hr2 hB2 hb3 hb3'
    go_wp2_with fail
    refine (implIsBelow_any _ _ L x y _ hrow3.rd).mono ?_
    rintro e w4 ⟨rfl, hb4⟩
    have hr4 : Rd w4 a L := hr3.below hb4
    have hrow4 := hrow3.below hb4 hrow3.lt
    have hB4 : Below w.heap.size w w4 := hB3.trans (hb4.mono hB3.size)
    clear hr3 hrow3 hB3 hb4
    have hne : (isBelowB L x y != isBelowB L x y) = false := by simp
    go_wp2_with fail
    refine (toIntS_any _ _ L _ hr4 hs).mono ?_
    rintro e w5 ⟨rfl, hrow5, hb5⟩
    have hrow6 := hrow4.below hb5 hrow4.lt
    have hB5 : Below w.heap.size w w5 := hB4.trans (hb5.mono hB4.size)
    have heq : eqL L L = true := decide_eq_true rfl
    go_wp2_with fail
    refine (eqIntS_any _ _ _ _ L L _ hrow6.rd hrow5.rd (by omega)).mono ?_
    rintro e w6 ⟨rfl, hd6⟩
    go_wp2
    go_ret
    exact ⟨rfl, hB5.trans (hd6.below _)⟩

set_option maxRecDepth 100000 in
set_option maxHeartbeats 1000000 in
/-- the law -/
theorem lawMeetOf (a : Option Addr) (cap : Nat) (L : List Int) (x y : Int) (w : World) (hr : Rd w a L) (hm : L.length ≤ maxLen) :
    Calls Try.prog 5 #[.slice a L.length cap, .int .i64 x, .int .i64 y] w fun e w' => e = .returned (.bool true) ∧ Below w.heap.size w w' := by
  have hmm := hm
  unfold maxLen at hm
  by_cases hbig : 1048576 < L.length
  · go_enter Try.func5, Try.ntmps5
    go_wp2
    go_ret
    exact ⟨rfl, Below.refl _ _⟩
  · have hs : L.length ≤ 1048576 := by omega
    have hs2 : (L.length : Int) ≤ 1048576 := by omega
    go_enter Try.func5, Try.ntmps5
    go_wp2_with fail
    refine (toIntS_any _ _ L _ hr hs).mono ?_
    rintro e w1 ⟨rfl, hrow1, hb1⟩
    go_wp2_with fail
    refine (specMeetOf_any _ _ L x y _ hrow1.rd hmm).mono ?_
    rintro e w2 ⟨rfl, hd2⟩
    have hr2 : Rd w2 a L := hd2.rd (hr.below hb1)
    have hB2 : Below w.heap.size w w2 := hb1.trans (hd2.below _)
    clear hrow1 hb1 hd2
    go_wp2_with fail
    refine (toIntS_any _ _ L _ hr2 hs).mono ?_
    rintro e w3 ⟨rfl, hrow3, hb3⟩
    have hr3 : Rd w3 a L := hr2.below hb3
    have hB3 : Below w.heap.size w w3 := hB2.trans (hb3.mono hB2.size)
    obtain ⟨b3, hb3'⟩ : ∃ b3, b3 = w2.heap.size := ⟨_, rfl⟩
    rw [← hb3'] at hrow3 ⊢
    clear hr2 hB2 hb3 hb3'
    go_wp2_with fail
    refine (implMeetOf_any _ _ L x y _ hrow3.rd).mono ?_
    rintro e w4 ⟨rfl, hb4⟩
    have hr4 : Rd w4 a L := hr3.below hb4
    have hrow4 := hrow3.below hb4 hrow3.lt
    have hB4 : Below w.heap.size w w4 := hB3.trans (hb4.mono hB3.size)
    clear hr3 hrow3 hB3 hb4
    have hne : (meetOfI L x y != meetOfI L x y) = false := by simp
    go_wp2_with fail
    refine (toIntS_any _ _ L _ hr4 hs).mono ?_
    rintro e w5 ⟨rfl, hrow5, hb5⟩
    have hrow6 := hrow4.below hb5 hrow4.lt
    have hB5 : Below w.heap.size w w5 := hB4.trans (hb5.mono hB4.size)
    have heq : eqL L L = true := decide_eq_true rfl
    go_wp2_with fail
    refine (eqIntS_any _ _ _ _ L L _ hrow6.rd hrow5.rd (by omega)).mono ?_
    rintro e w6 ⟨rfl, hd6⟩
    go_wp2
    go_ret
    exact ⟨rfl, hB5.trans (hd6.below _)⟩

set_option maxRecDepth 100000 in
set_option maxHeartbeats 1000000 in
/-- the law -/
theorem lawJoinOf (a : Option Addr) (cap : Nat) (L : List Int) (x y : Int) (w : World) (hr : Rd w a L) (hm : L.length ≤ maxLen) :
    Calls Try.prog 6 #[.slice a L.length cap, .int .i64 x, .int .i64 y] w fun e w' => e = .returned (.bool true) ∧ Below w.heap.size w w' := by
  have hmm := hm
  unfold maxLen at hm
  by_cases hbig : 1048576 < L.length
  · go_enter Try.func6, Try.ntmps6
    go_wp2
    go_ret
    exact ⟨rfl, Below.refl _ _⟩
  · have hs : L.length ≤ 1048576 := by omega
    have hs2 : (L.length : Int) ≤ 1048576 := by omega
    go_enter Try.func6, Try.ntmps6
    go_wp2_with fail
    refine (toIntS_any _ _ L _ hr hs).mono ?_
    rintro e w1 ⟨rfl, hrow1, hb1⟩
    go_wp2_with fail
    refine (specJoinOf_any _ _ L x y _ hrow1.rd hmm).mono ?_
    rintro e w2 ⟨rfl, hd2⟩
    have hr2 : Rd w2 a L := hd2.rd (hr.below hb1)
    have hB2 : Below w.heap.size w w2 := hb1.trans (hd2.below _)
    clear hrow1 hb1 hd2
    go_wp2_with fail
    refine (toIntS_any _ _ L _ hr2 hs).mono ?_
    rintro e w3 ⟨rfl, hrow3, hb3⟩
    have hr3 : Rd w3 a L := hr2.below hb3
    have hB3 : Below w.heap.size w w3 := hB2.trans (hb3.mono hB2.size)
    obtain ⟨b3, hb3'⟩ : ∃ b3, b3 = w2.heap.size := ⟨_, rfl⟩
    rw [← hb3'] at hrow3 ⊢
    clear hr2 hB2 hb3 hb3'
    go_wp2_with fail
    refine (implJoinOf_any _ _ L x y _ hrow3.rd).mono ?_
    rintro e w4 ⟨rfl, hb4⟩
    have hr4 : Rd w4 a L := hr3.below hb4
    have hrow4 := hrow3.below hb4 hrow3.lt
    have hB4 : Below w.heap.size w w4 := hB3.trans (hb4.mono hB3.size)
    clear hr3 hrow3 hB3 hb4
    have hne : (joinOfI L x y != joinOfI L x y) = false := by simp
    go_wp2_with fail
    refine (toIntS_any _ _ L _ hr4 hs).mono ?_
    rintro e w5 ⟨rfl, hrow5, hb5⟩
    have hrow6 := hrow4.below hb5 hrow4.lt
    have hB5 : Below w.heap.size w w5 := hB4.trans (hb5.mono hB4.size)
    have heq : eqL L L = true := decide_eq_true rfl
    go_wp2_with fail
    refine (eqIntS_any _ _ _ _ L L _ hrow6.rd hrow5.rd (by omega)).mono ?_
    rintro e w6 ⟨rfl, hd6⟩
    go_wp2
    go_ret
    exact ⟨rfl, hB5.trans (hd6.below _)⟩

end Go.Proofs.Ytpfnfglaokiipaa
