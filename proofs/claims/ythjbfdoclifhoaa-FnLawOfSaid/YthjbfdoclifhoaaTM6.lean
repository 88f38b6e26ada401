import Derived.Test.YthjbfdoclifhoaaC3
import Derived.Test.YthjbfdoclifhoaaL5
namespace Go.Proofs.Ythjbfdoclifhoaa
open Go.RowKit

/-- the term of a property -/
def lwV (s : ByteArray) : List Int :=
  if s.toList == [112, 114, 101, 108, 105, 110, 101, 97, 114] then [14, 16, 0, 1, 16, 1, 0] else if s.toList == [100, 105, 118, 105, 115, 105, 98, 108, 101] then [16, 13, 0, 1, 15, 0, 16, 0, 1] else if s.toList == [105, 110, 118, 111, 108, 117, 116, 105, 118, 101] then [16, 12, 12, 0, 0] else if s.toList == [105, 100, 101, 109, 112, 111, 116, 101, 110, 116] then [16, 0, 15, 0, 0] else if s.toList == [98, 111, 111, 108, 101, 97, 110] then [14, 0, 12, 0] else []
theorem lwV_0 (s : ByteArray) (q0 : (s.toList == [112, 114, 101, 108, 105, 110, 101, 97, 114]) = true) : lwV s = [14, 16, 0, 1, 16, 1, 0] := by unfold lwV; rw [q0]; rfl
set_option maxRecDepth 100000 in
set_option maxHeartbeats 1000000 in
theorem speclaw_0 (s : ByteArray) (q0 : (s.toList == [112, 114, 101, 108, 105, 110, 101, 97, 114]) = true) (w : World) : Calls Try.prog 17 #[.string s] w (RetSl w.heap.size [14, 16, 0, 1, 16, 1, 0] w) := by
  go_enter Try.func17, Try.ntmps17
  go_wp2
  go_ret
  exact ⟨some ⟨w.heap.size, 0, none⟩, 7, rfl, Own.row (L := [14, 16, 0, 1, 16, 1, 0]) (heap_alloc_new w _) (Nat.le_refl _) (by unfold maxLen; simp), (Below.refl _ _).alloc (Nat.le_refl _) _⟩
set_option maxRecDepth 100000 in
set_option maxHeartbeats 1000000 in
theorem implLawOf_0 (s : ByteArray) (q0 : (s.toList == [112, 114, 101, 108, 105, 110, 101, 97, 114]) = true) (w : World) : Calls Try.prog 5 #[.string s] w (RetSl w.heap.size [14, 16, 0, 1, 16, 1, 0] w) := by
  go_enter Try.func5, Try.ntmps5
  go_wp2
  go_ret
  exact ⟨some ⟨w.heap.size, 0, none⟩, 7, rfl, Own.row (L := [14, 16, 0, 1, 16, 1, 0]) (heap_alloc_new w _) (Nat.le_refl _) (by unfold maxLen; simp), (Below.refl _ _).alloc (Nat.le_refl _) _⟩
theorem lwV_1 (s : ByteArray) (q0 : (s.toList == [112, 114, 101, 108, 105, 110, 101, 97, 114]) = false) (q1 : (s.toList == [100, 105, 118, 105, 115, 105, 98, 108, 101]) = true) : lwV s = [16, 13, 0, 1, 15, 0, 16, 0, 1] := by unfold lwV; rw [q0, q1]; rfl
set_option maxRecDepth 100000 in
set_option maxHeartbeats 1000000 in
theorem speclaw_1 (s : ByteArray) (q0 : (s.toList == [112, 114, 101, 108, 105, 110, 101, 97, 114]) = false) (q1 : (s.toList == [100, 105, 118, 105, 115, 105, 98, 108, 101]) = true) (w : World) : Calls Try.prog 17 #[.string s] w (RetSl w.heap.size [16, 13, 0, 1, 15, 0, 16, 0, 1] w) := by
  go_enter Try.func17, Try.ntmps17
  go_wp2
  go_ret
  exact ⟨some ⟨w.heap.size, 0, none⟩, 9, rfl, Own.row (L := [16, 13, 0, 1, 15, 0, 16, 0, 1]) (heap_alloc_new w _) (Nat.le_refl _) (by unfold maxLen; simp), (Below.refl _ _).alloc (Nat.le_refl _) _⟩
set_option maxRecDepth 100000 in
set_option maxHeartbeats 1000000 in
theorem implLawOf_1 (s : ByteArray) (q0 : (s.toList == [112, 114, 101, 108, 105, 110, 101, 97, 114]) = false) (q1 : (s.toList == [100, 105, 118, 105, 115, 105, 98, 108, 101]) = true) (w : World) : Calls Try.prog 5 #[.string s] w (RetSl w.heap.size [16, 13, 0, 1, 15, 0, 16, 0, 1] w) := by
  go_enter Try.func5, Try.ntmps5
  go_wp2
  go_ret
  exact ⟨some ⟨w.heap.size, 0, none⟩, 9, rfl, Own.row (L := [16, 13, 0, 1, 15, 0, 16, 0, 1]) (heap_alloc_new w _) (Nat.le_refl _) (by unfold maxLen; simp), (Below.refl _ _).alloc (Nat.le_refl _) _⟩
theorem lwV_2 (s : ByteArray) (q0 : (s.toList == [112, 114, 101, 108, 105, 110, 101, 97, 114]) = false) (q1 : (s.toList == [100, 105, 118, 105, 115, 105, 98, 108, 101]) = false) (q2 : (s.toList == [105, 110, 118, 111, 108, 117, 116, 105, 118, 101]) = true) : lwV s = [16, 12, 12, 0, 0] := by unfold lwV; rw [q0, q1, q2]; rfl
set_option maxRecDepth 100000 in
set_option maxHeartbeats 1000000 in
theorem speclaw_2 (s : ByteArray) (q0 : (s.toList == [112, 114, 101, 108, 105, 110, 101, 97, 114]) = false) (q1 : (s.toList == [100, 105, 118, 105, 115, 105, 98, 108, 101]) = false) (q2 : (s.toList == [105, 110, 118, 111, 108, 117, 116, 105, 118, 101]) = true) (w : World) : Calls Try.prog 17 #[.string s] w (RetSl w.heap.size [16, 12, 12, 0, 0] w) := by
  go_enter Try.func17, Try.ntmps17
  go_wp2
  go_ret
  exact ⟨some ⟨w.heap.size, 0, none⟩, 5, rfl, Own.row (L := [16, 12, 12, 0, 0]) (heap_alloc_new w _) (Nat.le_refl _) (by unfold maxLen; simp), (Below.refl _ _).alloc (Nat.le_refl _) _⟩
set_option maxRecDepth 100000 in
set_option maxHeartbeats 1000000 in
theorem implLawOf_2 (s : ByteArray) (q0 : (s.toList == [112, 114, 101, 108, 105, 110, 101, 97, 114]) = false) (q1 : (s.toList == [100, 105, 118, 105, 115, 105, 98, 108, 101]) = false) (q2 : (s.toList == [105, 110, 118, 111, 108, 117, 116, 105, 118, 101]) = true) (w : World) : Calls Try.prog 5 #[.string s] w (RetSl w.heap.size [16, 12, 12, 0, 0] w) := by
  go_enter Try.func5, Try.ntmps5
  go_wp2
  go_ret
  exact ⟨some ⟨w.heap.size, 0, none⟩, 5, rfl, Own.row (L := [16, 12, 12, 0, 0]) (heap_alloc_new w _) (Nat.le_refl _) (by unfold maxLen; simp), (Below.refl _ _).alloc (Nat.le_refl _) _⟩
theorem lwV_3 (s : ByteArray) (q0 : (s.toList == [112, 114, 101, 108, 105, 110, 101, 97, 114]) = false) (q1 : (s.toList == [100, 105, 118, 105, 115, 105, 98, 108, 101]) = false) (q2 : (s.toList == [105, 110, 118, 111, 108, 117, 116, 105, 118, 101]) = false) (q3 : (s.toList == [105, 100, 101, 109, 112, 111, 116, 101, 110, 116]) = true) : lwV s = [16, 0, 15, 0, 0] := by unfold lwV; rw [q0, q1, q2, q3]; rfl
set_option maxRecDepth 100000 in
set_option maxHeartbeats 1000000 in
theorem speclaw_3 (s : ByteArray) (q0 : (s.toList == [112, 114, 101, 108, 105, 110, 101, 97, 114]) = false) (q1 : (s.toList == [100, 105, 118, 105, 115, 105, 98, 108, 101]) = false) (q2 : (s.toList == [105, 110, 118, 111, 108, 117, 116, 105, 118, 101]) = false) (q3 : (s.toList == [105, 100, 101, 109, 112, 111, 116, 101, 110, 116]) = true) (w : World) : Calls Try.prog 17 #[.string s] w (RetSl w.heap.size [16, 0, 15, 0, 0] w) := by
  go_enter Try.func17, Try.ntmps17
  go_wp2
  go_ret
  exact ⟨some ⟨w.heap.size, 0, none⟩, 5, rfl, Own.row (L := [16, 0, 15, 0, 0]) (heap_alloc_new w _) (Nat.le_refl _) (by unfold maxLen; simp), (Below.refl _ _).alloc (Nat.le_refl _) _⟩
set_option maxRecDepth 100000 in
set_option maxHeartbeats 1000000 in
theorem implLawOf_3 (s : ByteArray) (q0 : (s.toList == [112, 114, 101, 108, 105, 110, 101, 97, 114]) = false) (q1 : (s.toList == [100, 105, 118, 105, 115, 105, 98, 108, 101]) = false) (q2 : (s.toList == [105, 110, 118, 111, 108, 117, 116, 105, 118, 101]) = false) (q3 : (s.toList == [105, 100, 101, 109, 112, 111, 116, 101, 110, 116]) = true) (w : World) : Calls Try.prog 5 #[.string s] w (RetSl w.heap.size [16, 0, 15, 0, 0] w) := by
  go_enter Try.func5, Try.ntmps5
  go_wp2
  go_ret
  exact ⟨some ⟨w.heap.size, 0, none⟩, 5, rfl, Own.row (L := [16, 0, 15, 0, 0]) (heap_alloc_new w _) (Nat.le_refl _) (by unfold maxLen; simp), (Below.refl _ _).alloc (Nat.le_refl _) _⟩
theorem lwV_4 (s : ByteArray) (q0 : (s.toList == [112, 114, 101, 108, 105, 110, 101, 97, 114]) = false) (q1 : (s.toList == [100, 105, 118, 105, 115, 105, 98, 108, 101]) = false) (q2 : (s.toList == [105, 110, 118, 111, 108, 117, 116, 105, 118, 101]) = false) (q3 : (s.toList == [105, 100, 101, 109, 112, 111, 116, 101, 110, 116]) = false) (q4 : (s.toList == [98, 111, 111, 108, 101, 97, 110]) = true) : lwV s = [14, 0, 12, 0] := by unfold lwV; rw [q0, q1, q2, q3, q4]; rfl
set_option maxRecDepth 100000 in
set_option maxHeartbeats 1000000 in
theorem speclaw_4 (s : ByteArray) (q0 : (s.toList == [112, 114, 101, 108, 105, 110, 101, 97, 114]) = false) (q1 : (s.toList == [100, 105, 118, 105, 115, 105, 98, 108, 101]) = false) (q2 : (s.toList == [105, 110, 118, 111, 108, 117, 116, 105, 118, 101]) = false) (q3 : (s.toList == [105, 100, 101, 109, 112, 111, 116, 101, 110, 116]) = false) (q4 : (s.toList == [98, 111, 111, 108, 101, 97, 110]) = true) (w : World) : Calls Try.prog 17 #[.string s] w (RetSl w.heap.size [14, 0, 12, 0] w) := by
  go_enter Try.func17, Try.ntmps17
  go_wp2
  go_ret
  exact ⟨some ⟨w.heap.size, 0, none⟩, 4, rfl, Own.row (L := [14, 0, 12, 0]) (heap_alloc_new w _) (Nat.le_refl _) (by unfold maxLen; simp), (Below.refl _ _).alloc (Nat.le_refl _) _⟩
set_option maxRecDepth 100000 in
set_option maxHeartbeats 1000000 in
theorem implLawOf_4 (s : ByteArray) (q0 : (s.toList == [112, 114, 101, 108, 105, 110, 101, 97, 114]) = false) (q1 : (s.toList == [100, 105, 118, 105, 115, 105, 98, 108, 101]) = false) (q2 : (s.toList == [105, 110, 118, 111, 108, 117, 116, 105, 118, 101]) = false) (q3 : (s.toList == [105, 100, 101, 109, 112, 111, 116, 101, 110, 116]) = false) (q4 : (s.toList == [98, 111, 111, 108, 101, 97, 110]) = true) (w : World) : Calls Try.prog 5 #[.string s] w (RetSl w.heap.size [14, 0, 12, 0] w) := by
  go_enter Try.func5, Try.ntmps5
  go_wp2
  go_ret
  exact ⟨some ⟨w.heap.size, 0, none⟩, 4, rfl, Own.row (L := [14, 0, 12, 0]) (heap_alloc_new w _) (Nat.le_refl _) (by unfold maxLen; simp), (Below.refl _ _).alloc (Nat.le_refl _) _⟩
theorem lwV_5 (s : ByteArray) (q0 : (s.toList == [112, 114, 101, 108, 105, 110, 101, 97, 114]) = false) (q1 : (s.toList == [100, 105, 118, 105, 115, 105, 98, 108, 101]) = false) (q2 : (s.toList == [105, 110, 118, 111, 108, 117, 116, 105, 118, 101]) = false) (q3 : (s.toList == [105, 100, 101, 109, 112, 111, 116, 101, 110, 116]) = false) (q4 : (s.toList == [98, 111, 111, 108, 101, 97, 110]) = false) : lwV s = [] := by unfold lwV; rw [q0, q1, q2, q3, q4]; rfl
set_option maxRecDepth 100000 in
set_option maxHeartbeats 1000000 in
theorem speclaw_5 (s : ByteArray) (q0 : (s.toList == [112, 114, 101, 108, 105, 110, 101, 97, 114]) = false) (q1 : (s.toList == [100, 105, 118, 105, 115, 105, 98, 108, 101]) = false) (q2 : (s.toList == [105, 110, 118, 111, 108, 117, 116, 105, 118, 101]) = false) (q3 : (s.toList == [105, 100, 101, 109, 112, 111, 116, 101, 110, 116]) = false) (q4 : (s.toList == [98, 111, 111, 108, 101, 97, 110]) = false) (w : World) : Calls Try.prog 17 #[.string s] w (RetSl w.heap.size [] w) := by
  go_enter Try.func17, Try.ntmps17
  go_wp2
  go_ret
  exact ⟨none, 0, rfl, Own.nothing _ _, Below.refl _ _⟩
set_option maxRecDepth 100000 in
set_option maxHeartbeats 1000000 in
theorem implLawOf_5 (s : ByteArray) (q0 : (s.toList == [112, 114, 101, 108, 105, 110, 101, 97, 114]) = false) (q1 : (s.toList == [100, 105, 118, 105, 115, 105, 98, 108, 101]) = false) (q2 : (s.toList == [105, 110, 118, 111, 108, 117, 116, 105, 118, 101]) = false) (q3 : (s.toList == [105, 100, 101, 109, 112, 111, 116, 101, 110, 116]) = false) (q4 : (s.toList == [98, 111, 111, 108, 101, 97, 110]) = false) (w : World) : Calls Try.prog 5 #[.string s] w (RetSl w.heap.size [] w) := by
  go_enter Try.func5, Try.ntmps5
  go_wp2
  go_ret
  exact ⟨none, 0, rfl, Own.nothing _ _, Below.refl _ _⟩
theorem speclaw_any (s : ByteArray) (w : World) : Calls Try.prog 17 #[.string s] w (RetSl w.heap.size (lwV s) w) := by
  cases q0 : (s.toList == [112, 114, 101, 108, 105, 110, 101, 97, 114]) with
  | true => rw [lwV_0 s q0]; exact speclaw_0 s q0 w
  | false =>
    cases q1 : (s.toList == [100, 105, 118, 105, 115, 105, 98, 108, 101]) with
    | true => rw [lwV_1 s q0 q1]; exact speclaw_1 s q0 q1 w
    | false =>
      cases q2 : (s.toList == [105, 110, 118, 111, 108, 117, 116, 105, 118, 101]) with
      | true => rw [lwV_2 s q0 q1 q2]; exact speclaw_2 s q0 q1 q2 w
      | false =>
        cases q3 : (s.toList == [105, 100, 101, 109, 112, 111, 116, 101, 110, 116]) with
        | true => rw [lwV_3 s q0 q1 q2 q3]; exact speclaw_3 s q0 q1 q2 q3 w
        | false =>
          cases q4 : (s.toList == [98, 111, 111, 108, 101, 97, 110]) with
          | true => rw [lwV_4 s q0 q1 q2 q3 q4]; exact speclaw_4 s q0 q1 q2 q3 q4 w
          | false =>
            rw [lwV_5 s q0 q1 q2 q3 q4]; exact speclaw_5 s q0 q1 q2 q3 q4 w
theorem implLawOf_any (s : ByteArray) (w : World) : Calls Try.prog 5 #[.string s] w (RetSl w.heap.size (lwV s) w) := by
  cases q0 : (s.toList == [112, 114, 101, 108, 105, 110, 101, 97, 114]) with
  | true => rw [lwV_0 s q0]; exact implLawOf_0 s q0 w
  | false =>
    cases q1 : (s.toList == [100, 105, 118, 105, 115, 105, 98, 108, 101]) with
    | true => rw [lwV_1 s q0 q1]; exact implLawOf_1 s q0 q1 w
    | false =>
      cases q2 : (s.toList == [105, 110, 118, 111, 108, 117, 116, 105, 118, 101]) with
      | true => rw [lwV_2 s q0 q1 q2]; exact implLawOf_2 s q0 q1 q2 w
      | false =>
        cases q3 : (s.toList == [105, 100, 101, 109, 112, 111, 116, 101, 110, 116]) with
        | true => rw [lwV_3 s q0 q1 q2 q3]; exact implLawOf_3 s q0 q1 q2 q3 w
        | false =>
          cases q4 : (s.toList == [98, 111, 111, 108, 101, 97, 110]) with
          | true => rw [lwV_4 s q0 q1 q2 q3 q4]; exact implLawOf_4 s q0 q1 q2 q3 q4 w
          | false =>
            rw [lwV_5 s q0 q1 q2 q3 q4]; exact implLawOf_5 s q0 q1 q2 q3 q4 w
set_option maxRecDepth 100000 in
/-- spec.LawOf -/
theorem specLawOf_any (s : ByteArray) (w : World) : Calls Try.prog 7 #[.string s] w (RetSl w.heap.size (lwV s) w) := by
  go_enter Try.func7, Try.ntmps7
  go_wp2_with fail
  refine (speclaw_any s _).mono ?_
  rintro e w1 ⟨a1, c1, rfl, o1, hB1⟩
  go_wp2
  go_ret
  exact ⟨a1, c1, rfl, o1, hB1⟩
end Go.Proofs.Ythjbfdoclifhoaa
