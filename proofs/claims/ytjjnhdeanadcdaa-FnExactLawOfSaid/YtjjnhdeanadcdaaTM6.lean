import Derived.Test.YtjjnhdeanadcdaaC3
import Derived.Test.YtjjnhdeanadcdaaL5
namespace Go.Proofs.Ytjjnhdeanadcdaa
open Go.RowKit

/-- the term of a property -/
def lwV (s : ByteArray) : List Int :=
  if s.toList == [112, 114, 101, 108, 105, 110, 101, 97, 114] then [14, 16, 0, 1, 16, 1, 0] else if s.toList == [100, 105, 118, 105, 115, 105, 98, 108, 101] then [16, 13, 0, 1, 15, 0, 16, 0, 1] else if s.toList == [105, 110, 118, 111, 108, 117, 116, 105, 118, 101] then [16, 12, 12, 0, 0] else if s.toList == [105, 100, 101, 109, 112, 111, 116, 101, 110, 116] then [16, 0, 15, 0, 0] else if s.toList == [98, 111, 111, 108, 101, 97, 110] then [14, 0, 12, 0] else []
theorem lwV_0 (s : ByteArray) (q0 : (s.toList == [112, 114, 101, 108, 105, 110, 101, 97, 114]) = true) : lwV s = [14, 16, 0, 1, 16, 1, 0] := by unfold lwV; rw [q0]; rfl
set_option maxRecDepth 100000 in
set_option maxHeartbeats 1000000 in
theorem speclaw_0 (s : ByteArray) (q0 : (s.toList == [112, 114, 101, 108, 105, 110, 101, 97, 114]) = true) (w : World) : Calls Try.prog 47 #[.string s] w (RetSl w.heap.size [14, 16, 0, 1, 16, 1, 0] w) := by
  go_enter Try.func47, Try.ntmps47
  go_wp2
  go_ret
  exact ⟨some ⟨w.heap.size, 0, none⟩, 7, rfl, Own.row (L := [14, 16, 0, 1, 16, 1, 0]) (heap_alloc_new w _) (Nat.le_refl _) (by unfold maxLen; simp), (Below.refl _ _).alloc (Nat.le_refl _) _⟩
set_option maxRecDepth 100000 in
set_option maxHeartbeats 1000000 in
theorem implLawOf_0 (s : ByteArray) (q0 : (s.toList == [112, 114, 101, 108, 105, 110, 101, 97, 114]) = true) (w : World) : Calls Try.prog 16 #[.string s] w (RetSl w.heap.size [14, 16, 0, 1, 16, 1, 0] w) := by
  go_enter Try.func16, Try.ntmps16
  go_wp2
  go_ret
  exact ⟨some ⟨w.heap.size, 0, none⟩, 7, rfl, Own.row (L := [14, 16, 0, 1, 16, 1, 0]) (heap_alloc_new w _) (Nat.le_refl _) (by unfold maxLen; simp), (Below.refl _ _).alloc (Nat.le_refl _) _⟩
theorem lwV_1 (s : ByteArray) (q0 : (s.toList == [112, 114, 101, 108, 105, 110, 101, 97, 114]) = false) (q1 : (s.toList == [100, 105, 118, 105, 115, 105, 98, 108, 101]) = true) : lwV s = [16, 13, 0, 1, 15, 0, 16, 0, 1] := by unfold lwV; rw [q0, q1]; rfl
set_option maxRecDepth 100000 in
set_option maxHeartbeats 1000000 in
theorem speclaw_1 (s : ByteArray) (q0 : (s.toList == [112, 114, 101, 108, 105, 110, 101, 97, 114]) = false) (q1 : (s.toList == [100, 105, 118, 105, 115, 105, 98, 108, 101]) = true) (w : World) : Calls Try.prog 47 #[.string s] w (RetSl w.heap.size [16, 13, 0, 1, 15, 0, 16, 0, 1] w) := by
  go_enter Try.func47, Try.ntmps47
  go_wp2
  go_ret
  exact ⟨some ⟨w.heap.size, 0, none⟩, 9, rfl, Own.row (L := [16, 13, 0, 1, 15, 0, 16, 0, 1]) (heap_alloc_new w _) (Nat.le_refl _) (by unfold maxLen; simp), (Below.refl _ _).alloc (Nat.le_refl _) _⟩
set_option maxRecDepth 100000 in
set_option maxHeartbeats 1000000 in
theorem implLawOf_1 (s : ByteArray) (q0 : (s.toList == [112, 114, 101, 108, 105, 110, 101, 97, 114]) = false) (q1 : (s.toList == [100, 105, 118, 105, 115, 105, 98, 108, 101]) = true) (w : World) : Calls Try.prog 16 #[.string s] w (RetSl w.heap.size [16, 13, 0, 1, 15, 0, 16, 0, 1] w) := by
  go_enter Try.func16, Try.ntmps16
  go_wp2
  go_ret
  exact ⟨some ⟨w.heap.size, 0, none⟩, 9, rfl, Own.row (L := [16, 13, 0, 1, 15, 0, 16, 0, 1]) (heap_alloc_new w _) (Nat.le_refl _) (by unfold maxLen; simp), (Below.refl _ _).alloc (Nat.le_refl _) _⟩
theorem lwV_2 (s : ByteArray) (q0 : (s.toList == [112, 114, 101, 108, 105, 110, 101, 97, 114]) = false) (q1 : (s.toList == [100, 105, 118, 105, 115, 105, 98, 108, 101]) = false) (q2 : (s.toList == [105, 110, 118, 111, 108, 117, 116, 105, 118, 101]) = true) : lwV s = [16, 12, 12, 0, 0] := by unfold lwV; rw [q0, q1, q2]; rfl
set_option maxRecDepth 100000 in
set_option maxHeartbeats 1000000 in
theorem speclaw_2 (s : ByteArray) (q0 : (s.toList == [112, 114, 101, 108, 105, 110, 101, 97, 114]) = false) (q1 : (s.toList == [100, 105, 118, 105, 115, 105, 98, 108, 101]) = false) (q2 : (s.toList == [105, 110, 118, 111, 108, 117, 116, 105, 118, 101]) = true) (w : World) : Calls Try.prog 47 #[.string s] w (RetSl w.heap.size [16, 12, 12, 0, 0] w) := by
  go_enter Try.func47, Try.ntmps47
  go_wp2
  go_ret
  exact ⟨some ⟨w.heap.size, 0, none⟩, 5, rfl, Own.row (L := [16, 12, 12, 0, 0]) (heap_alloc_new w _) (Nat.le_refl _) (by unfold maxLen; simp), (Below.refl _ _).alloc (Nat.le_refl _) _⟩
set_option maxRecDepth 100000 in
set_option maxHeartbeats 1000000 in
theorem implLawOf_2 (s : ByteArray) (q0 : (s.toList == [112, 114, 101, 108, 105, 110, 101, 97, 114]) = false) (q1 : (s.toList == [100, 105, 118, 105, 115, 105, 98, 108, 101]) = false) (q2 : (s.toList == [105, 110, 118, 111, 108, 117, 116, 105, 118, 101]) = true) (w : World) : Calls Try.prog 16 #[.string s] w (RetSl w.heap.size [16, 12, 12, 0, 0] w) := by
  go_enter Try.func16, Try.ntmps16
  go_wp2
  go_ret
  exact ⟨some ⟨w.heap.size, 0, none⟩, 5, rfl, Own.row (L := [16, 12, 12, 0, 0]) (heap_alloc_new w _) (Nat.le_refl _) (by unfold maxLen; simp), (Below.refl _ _).alloc (Nat.le_refl _) _⟩
theorem lwV_3 (s : ByteArray) (q0 : (s.toList == [112, 114, 101, 108, 105, 110, 101, 97, 114]) = false) (q1 : (s.toList == [100, 105, 118, 105, 115, 105, 98, 108, 101]) = false) (q2 : (s.toList == [105, 110, 118, 111, 108, 117, 116, 105, 118, 101]) = false) (q3 : (s.toList == [105, 100, 101, 109, 112, 111, 116, 101, 110, 116]) = true) : lwV s = [16, 0, 15, 0, 0] := by unfold lwV; rw [q0, q1, q2, q3]; rfl
set_option maxRecDepth 100000 in
set_option maxHeartbeats 1000000 in
theorem speclaw_3 (s : ByteArray) (q0 : (s.toList == [112, 114, 101, 108, 105, 110, 101, 97, 114]) = false) (q1 : (s.toList == [100, 105, 118, 105, 115, 105, 98, 108, 101]) = false) (q2 : (s.toList == [105, 110, 118, 111, 108, 117, 116, 105, 118, 101]) = false) (q3 : (s.toList == [105, 100, 101, 109, 112, 111, 116, 101, 110, 116]) = true) (w : World) : Calls Try.prog 47 #[.string s] w (RetSl w.heap.size [16, 0, 15, 0, 0] w) := by
  go_enter Try.func47, Try.ntmps47
  go_wp2
  go_ret
  exact ⟨some ⟨w.heap.size, 0, none⟩, 5, rfl, Own.row (L := [16, 0, 15, 0, 0]) (heap_alloc_new w _) (Nat.le_refl _) (by unfold maxLen; simp), (Below.refl _ _).alloc (Nat.le_refl _) _⟩
set_option maxRecDepth 100000 in
set_option maxHeartbeats 1000000 in
theorem implLawOf_3 (s : ByteArray) (q0 : (s.toList == [112, 114, 101, 108, 105, 110, 101, 97, 114]) = false) (q1 : (s.toList == [100, 105, 118, 105, 115, 105, 98, 108, 101]) = false) (q2 : (s.toList == [105, 110, 118, 111, 108, 117, 116, 105, 118, 101]) = false) (q3 : (s.toList == [105, 100, 101, 109, 112, 111, 116, 101, 110, 116]) = true) (w : World) : Calls Try.prog 16 #[.string s] w (RetSl w.heap.size [16, 0, 15, 0, 0] w) := by
  go_enter Try.func16, Try.ntmps16
  go_wp2
  go_ret
  exact ⟨some ⟨w.heap.size, 0, none⟩, 5, rfl, Own.row (L := [16, 0, 15, 0, 0]) (heap_alloc_new w _) (Nat.le_refl _) (by unfold maxLen; simp), (Below.refl _ _).alloc (Nat.le_refl _) _⟩
theorem lwV_4 (s : ByteArray) (q0 : (s.toList == [112, 114, 101, 108, 105, 110, 101, 97, 114]) = false) (q1 : (s.toList == [100, 105, 118, 105, 115, 105, 98, 108, 101]) = false) (q2 : (s.toList == [105, 110, 118, 111, 108, 117, 116, 105, 118, 101]) = false) (q3 : (s.toList == [105, 100, 101, 109, 112, 111, 116, 101, 110, 116]) = false) (q4 : (s.toList == [98, 111, 111, 108, 101, 97, 110]) = true) : lwV s = [14, 0, 12, 0] := by unfold lwV; rw [q0, q1, q2, q3, q4]; rfl
set_option maxRecDepth 100000 in
set_option maxHeartbeats 1000000 in
theorem speclaw_4 (s : ByteArray) (q0 : (s.toList == [112, 114, 101, 108, 105, 110, 101, 97, 114]) = false) (q1 : (s.toList == [100, 105, 118, 105, 115, 105, 98, 108, 101]) = false) (q2 : (s.toList == [105, 110, 118, 111, 108, 117, 116, 105, 118, 101]) = false) (q3 : (s.toList == [105, 100, 101, 109, 112, 111, 116, 101, 110, 116]) = false) (q4 : (s.toList == [98, 111, 111, 108, 101, 97, 110]) = true) (w : World) : Calls Try.prog 47 #[.string s] w (RetSl w.heap.size [14, 0, 12, 0] w) := by
  go_enter Try.func47, Try.ntmps47
  go_wp2
  go_ret
  exact ⟨some ⟨w.heap.size, 0, none⟩, 4, rfl, Own.row (L := [14, 0, 12, 0]) (heap_alloc_new w _) (Nat.le_refl _) (by unfold maxLen; simp), (Below.refl _ _).alloc (Nat.le_refl _) _⟩
set_option maxRecDepth 100000 in
set_option maxHeartbeats 1000000 in
theorem implLawOf_4 (s : ByteArray) (q0 : (s.toList == [112, 114, 101, 108, 105, 110, 101, 97, 114]) = false) (q1 : (s.toList == [100, 105, 118, 105, 115, 105, 98, 108, 101]) = false) (q2 : (s.toList == [105, 110, 118, 111, 108, 117, 116, 105, 118, 101]) = false) (q3 : (s.toList == [105, 100, 101, 109, 112, 111, 116, 101, 110, 116]) = false) (q4 : (s.toList == [98, 111, 111, 108, 101, 97, 110]) = true) (w : World) : Calls Try.prog 16 #[.string s] w (RetSl w.heap.size [14, 0, 12, 0] w) := by
  go_enter Try.func16, Try.ntmps16
  go_wp2
  go_ret
  exact ⟨some ⟨w.heap.size, 0, none⟩, 4, rfl, Own.row (L := [14, 0, 12, 0]) (heap_alloc_new w _) (Nat.le_refl _) (by unfold maxLen; simp), (Below.refl _ _).alloc (Nat.le_refl _) _⟩
theorem lwV_5 (s : ByteArray) (q0 : (s.toList == [112, 114, 101, 108, 105, 110, 101, 97, 114]) = false) (q1 : (s.toList == [100, 105, 118, 105, 115, 105, 98, 108, 101]) = false) (q2 : (s.toList == [105, 110, 118, 111, 108, 117, 116, 105, 118, 101]) = false) (q3 : (s.toList == [105, 100, 101, 109, 112, 111, 116, 101, 110, 116]) = false) (q4 : (s.toList == [98, 111, 111, 108, 101, 97, 110]) = false) : lwV s = [] := by unfold lwV; rw [q0, q1, q2, q3, q4]; rfl
set_option maxRecDepth 100000 in
set_option maxHeartbeats 1000000 in
theorem speclaw_5 (s : ByteArray) (q0 : (s.toList == [112, 114, 101, 108, 105, 110, 101, 97, 114]) = false) (q1 : (s.toList == [100, 105, 118, 105, 115, 105, 98, 108, 101]) = false) (q2 : (s.toList == [105, 110, 118, 111, 108, 117, 116, 105, 118, 101]) = false) (q3 : (s.toList == [105, 100, 101, 109, 112, 111, 116, 101, 110, 116]) = false) (q4 : (s.toList == [98, 111, 111, 108, 101, 97, 110]) = false) (w : World) : Calls Try.prog 47 #[.string s] w (RetSl w.heap.size [] w) := by
  go_enter Try.func47, Try.ntmps47
  go_wp2
  go_ret
  exact ⟨none, 0, rfl, Own.nothing _ _, Below.refl _ _⟩
set_option maxRecDepth 100000 in
set_option maxHeartbeats 1000000 in
theorem implLawOf_5 (s : ByteArray) (q0 : (s.toList == [112, 114, 101, 108, 105, 110, 101, 97, 114]) = false) (q1 : (s.toList == [100, 105, 118, 105, 115, 105, 98, 108, 101]) = false) (q2 : (s.toList == [105, 110, 118, 111, 108, 117, 116, 105, 118, 101]) = false) (q3 : (s.toList == [105, 100, 101, 109, 112, 111, 116, 101, 110, 116]) = false) (q4 : (s.toList == [98, 111, 111, 108, 101, 97, 110]) = false) (w : World) : Calls Try.prog 16 #[.string s] w (RetSl w.heap.size [] w) := by
  go_enter Try.func16, Try.ntmps16
  go_wp2
  go_ret
  exact ⟨none, 0, rfl, Own.nothing _ _, Below.refl _ _⟩
theorem speclaw_any (s : ByteArray) (w : World) : Calls Try.prog 47 #[.string s] w (RetSl w.heap.size (lwV s) w) := by
  cases q0 : (s.toList == [112, 114, 101, 108, 105, 110, 101, 97, 114]) with
  | true => rw [lwV_0 s q0]; exact speclaw_0 s q0 w
  | false =>
    cases q1 : (s.toList == [100, 105, 118, 105, 115, 105, 98, 108, 101]) with
    | true => rw [lwV_1 s q0 q1]; exact speclaw_1 s q0 q1 w
    | false =>
      cases q2 : (s.toList == [105, 110, 118, 111, 108, 117, 116, 105, 118, 101]) with
      | true => rw [lwV_2 s q0 q1 q2]; exact speclaw_2 s q0 q1 q2 w
      | false =>
        cases q3 : (s.toList == [105, 100, 101, 109, 112, 111, 116, 101, 110, 116]) with
        | true => rw [lwV_3 s q0 q1 q2 q3]; exact speclaw_3 s q0 q1 q2 q3 w
        | false =>
          cases q4 : (s.toList == [98, 111, 111, 108, 101, 97, 110]) with
          | true => rw [lwV_4 s q0 q1 q2 q3 q4]; exact speclaw_4 s q0 q1 q2 q3 q4 w
          | false =>
            rw [lwV_5 s q0 q1 q2 q3 q4]; exact speclaw_5 s q0 q1 q2 q3 q4 w
theorem implLawOf_any (s : ByteArray) (w : World) : Calls Try.prog 16 #[.string s] w (RetSl w.heap.size (lwV s) w) := by
  cases q0 : (s.toList == [112, 114, 101, 108, 105, 110, 101, 97, 114]) with
  | true => rw [lwV_0 s q0]; exact implLawOf_0 s q0 w
  | false =>
    cases q1 : (s.toList == [100, 105, 118, 105, 115, 105, 98, 108, 101]) with
    | true => rw [lwV_1 s q0 q1]; exact implLawOf_1 s q0 q1 w
    | false =>
      cases q2 : (s.toList == [105, 110, 118, 111, 108, 117, 116, 105, 118, 101]) with
      | true => rw [lwV_2 s q0 q1 q2]; exact implLawOf_2 s q0 q1 q2 w
      | false =>
        cases q3 : (s.toList == [105, 100, 101, 109, 112, 111, 116, 101, 110, 116]) with
        | true => rw [lwV_3 s q0 q1 q2 q3]; exact implLawOf_3 s q0 q1 q2 q3 w
        | false =>
          cases q4 : (s.toList == [98, 111, 111, 108, 101, 97, 110]) with
          | true => rw [lwV_4 s q0 q1 q2 q3 q4]; exact implLawOf_4 s q0 q1 q2 q3 q4 w
          | false =>
            rw [lwV_5 s q0 q1 q2 q3 q4]; exact implLawOf_5 s q0 q1 q2 q3 q4 w
set_option maxRecDepth 100000 in
/-- spec.LawOf -/
theorem specLawOf_any (s : ByteArray) (w : World) : Calls Try.prog 15 #[.string s] w (RetSl w.heap.size (lwV s) w) := by
  go_enter Try.func15, Try.ntmps15
  go_wp2_with fail
  refine (speclaw_any s _).mono ?_
  rintro e w1 ⟨a1, c1, rfl, o1, hB1⟩
  go_wp2
  go_ret
  exact ⟨a1, c1, rfl, o1, hB1⟩
set_option maxRecDepth 100000 in
set_option maxHeartbeats 1000000 in
/-- the law -/
theorem lawLawOf (s : ByteArray) (w : World) (hs : s.size ≤ maxLen) :
    Calls Try.prog 3 #[.string s] w fun e w' => e = .returned (.bool true) ∧ Below w.heap.size w w' := by
  unfold maxLen at hs
  by_cases hb0 : 1048576 < s.size
  · have hc0 : (1048576 : Int) < (s.size : Int) := by omega
    go_enter Try.func3, Try.ntmps3
    go_wp2
    go_ret
    exact ⟨rfl, Below.refl _ _⟩
  have hs0 : ¬ (1048576 : Int) < (s.size : Int) := by omega
  obtain ⟨V, hV⟩ : ∃ V, V = lwV s := ⟨_, rfl⟩
  have hlen : Hid (V.length ≤ 64) := Lib.hid (by rw [hV]; unfold lwV; (repeat' split) <;> simp)
  have HS := Lib.hid (show ∀ w : World, Calls Try.prog 15 #[.string s] w (RetSl w.heap.size V w) from fun w => by rw [hV]; exact specLawOf_any s w)
  have HI := Lib.hid (show ∀ w : World, Calls Try.prog 16 #[.string s] w (RetSl w.heap.size V w) from fun w => by rw [hV]; exact implLawOf_any s w)
  have heq : eqL V V = true := decide_eq_true rfl
  clear hV hb0
  go_enter Try.func3, Try.ntmps3
  go_wp2_with fail
  refine (HS.out _).mono ?_
  rintro e w1 ⟨a1, c1, rfl, o1, hB1⟩
  go_wp2_with fail
  refine (HI.out _).mono ?_
  rintro e w2 ⟨a2, c2, rfl, o2, hb2⟩
  have hB2 : Below w.heap.size w w2 := hB1.trans (hb2.mono hB1.size)
  have o1b : Own w.heap.size w2 (.slice a1 V.length c1) V := o1.below hb2
  have l1 := World.ownsRow.lt o1
  have hz1 := hB1.size
  clear o1 hb2 hB1
  go_wp2_with fail
  refine (eqIntS_any _ _ _ _ _ _ _ o2.rd o1b.rd (by have := hlen.out; omega)).mono ?_
  rintro e w3 ⟨rfl, hd3⟩
  have hB3 : Below w.heap.size w w3 := hB2.trans (hd3.below _)
  replace o1b := o1b.below (hd3.below _)
  replace o2 := o2.below (hd3.below _)
  clear hB2 hd3
  go_wp2_with fail
  refine (markIntS_any _ _ _ _ _ o2 (by omega) (by omega) (by have := hlen.out; omega)).mono ?_
  rintro e w4 ⟨rfl, o2d, hg4⟩
  have o1d := own_apart l1 o2 o1b hg4
  have hB4 : Below w.heap.size w w4 := hB3.grown hg4 hB3.size (fun k hk => Nat.le_trans hz1 (World.ownsRow.lt o2 k hk).1)
  have r2 : Rd w4 a2 (markL 1 V.length) := Own.rd (B := w1.heap.size) (cap := c2) (by rw [markL_len]; exact o2d)
  clear o1b o2 hg4 hB3
  go_wp2_with fail
  refine (heldIntS_any _ _ _ _ _ r2 (by omega) (by omega) (by have := hlen.out; omega)).mono ?_
  rintro e w5 ⟨rfl, rfl⟩
  have hne : ((1 : Int) + (V.length : Int) != 1 + (V.length : Int)) = false := by simp
  go_wp2_with fail
  refine (HI.out _).mono ?_
  rintro e w6 ⟨a3, c3, rfl, o3, hb6⟩
  have o1e := o1d.below hb6
  have r2e : Rd w6 a2 (markL 1 V.length) := r2.below hb6
  have hB6 : Below w.heap.size w w6 := hB4.trans (hb6.mono hB4.size)
  clear o1d r2 hB4 hb6
  go_wp2_with fail
  refine (eqIntS_any _ _ _ _ _ _ _ o3.rd o1e.rd (by have := hlen.out; omega)).mono ?_
  rintro e w7 ⟨rfl, hd7⟩
  have r2f := hd7.rd r2e
  have hB7 : Below w.heap.size w w7 := hB6.trans (hd7.below _)
  clear o1e o3 r2e hd7 hB6
  go_wp2_with fail
  refine (heldIntS_any _ _ _ _ _ r2f (by omega) (by omega) (by have := hlen.out; omega)).mono ?_
  rintro e w8 ⟨rfl, rfl⟩
  go_wp2
  go_ret
  exact ⟨rfl, hB7⟩
end Go.Proofs.Ytjjnhdeanadcdaa
