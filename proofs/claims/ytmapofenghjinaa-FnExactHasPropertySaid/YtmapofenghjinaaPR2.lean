import Derived.Test.YtmapofenghjinaaPR1
import Derived.Test.YtmapofenghjinaaG8
namespace Go.Proofs.Ytmapofenghjinaa
open Go.RowKit
set_option linter.unusedVariables false

set_option maxRecDepth 100000 in
set_option maxHeartbeats 1000000 in
/-- spec.is: another name -/
theorem specIs_5 (s : ByteArray) (q0 : (s.toList == [112, 114, 101, 108, 105, 110, 101, 97, 114]) = false) (q1 : (s.toList == [100, 105, 118, 105, 115, 105, 98, 108, 101]) = false) (q2 : (s.toList == [105, 110, 118, 111, 108, 117, 116, 105, 118, 101]) = false) (q3 : (s.toList == [105, 100, 101, 109, 112, 111, 116, 101, 110, 116]) = false) (q4 : (s.toList == [98, 111, 111, 108, 101, 97, 110]) = false) (a b : Option Addr) (ca cb : Nat) (L : List Int) (T : List (List Int)) (w : World) (h : algB L T = true) :
    Calls Try.prog 51 #[.string s, .agg #[.slice a L.length ca, .slice b T.length cb]] w fun e w' => e = .returned (.tuple #[.bool false, .bool false]) ∧ Below w.heap.size w w' := by
  obtain ⟨l1, l6⟩ := lat_len (alg_lat h)
  obtain ⟨w1, hw1⟩ : ∃ w1, w1 = w.alloc (.cells #[.slice a L.length ca, .slice b T.length cb] 28) := ⟨_, rfl⟩
  have hB : Below w.heap.size w w1 := by rw [hw1]; exact (Below.refl _ _).alloc (Nat.le_refl _) _
  have hx1 : w1.heap[w.heap.size]? = some (.cells #[.slice a L.length ca, .slice b T.length cb] 28 (0, 0)) := by rw [hw1]; exact heap_alloc_new w _
  have n1 : 1 ≤ (L.length : Int) := l1
  obtain ⟨c0, c1⟩ := bx_cells hx1
  clear h l1 l6 hx1
  go_enter Try.func51, Try.ntmps51
  go_wp2_with (rw [← hw1]; clear hw1)
  clear c0 c1
  go_loopw [7, 8, 9] (fun _ xv _ wr => xv = .int .i64 0 ∧ Below w1.heap.size w1 wr) (fun _ _ _ _ => 0)
  case atStart => exact ⟨rfl, Below.refl _ _⟩
  case round =>
    obtain ⟨rfl, hbel⟩ := hrel
    go_wp2
    go_loopw [7, 9] (fun _ yv wr => yv = .int .i64 0 ∧ Below w1.heap.size w1 wr) (fun _ _ _ => 0)
    case atStart => exact ⟨rfl, hbel⟩
    case round =>
      clear hbel
      obtain ⟨rfl, hbel⟩ := hrel
      go_wp2
      go_ret2
      exact ⟨rfl, hB.trans (hbel.mono hB.size)⟩
set_option maxRecDepth 100000 in
set_option maxHeartbeats 1000000 in
theorem specHas_no (s : ByteArray)  (a b : Option Addr) (ca cb : Nat) (L : List Int) (T : List (List Int)) (w : World) (hr : Rd w a L) (hT : RdT w b T) (h : algB L T = false) :
    Calls Try.prog 16 #[.string s, .agg #[.slice a L.length ca, .slice b T.length cb]] w fun e w' => e = .returned (.bool false) ∧ Below w.heap.size w w' := by
  obtain ⟨w1, hw1⟩ : ∃ w1, w1 = w.alloc (.cells #[.slice a L.length ca, .slice b T.length cb] 28) := ⟨_, rfl⟩
  have hB : Below w.heap.size w w1 := by rw [hw1]; exact (Below.refl _ _).alloc (Nat.le_refl _) _
  have hx1 : w1.heap[w.heap.size]? = some (.cells #[.slice a L.length ca, .slice b T.length cb] 28 (0, 0)) := by rw [hw1]; exact heap_alloc_new w _
  have Kx := Lib.hid (show ∀ wz, Below w1.heap.size w1 wz → wz.heap[w.heap.size]? = some (.cells #[.slice a L.length ca, .slice b T.length cb] 28 (0, 0)) from fun wz h => (h.block _ (lt_of_block hx1)).trans hx1)
  have KR := Lib.hid (show ∀ wz, Below w1.heap.size w1 wz → Rd wz a L from fun wz h => (hr.below hB).below h)
  have KT := Lib.hid (show ∀ wz, Below w1.heap.size w1 wz → RdT wz b T from fun wz h => (hT.below hB).below h)
  have HA := Lib.hid h
  have z1 : Below w1.heap.size w1 w1 := Below.refl _ _
  clear h hr hT hx1
  go_enter Try.func16, Try.ntmps16
  go_wp2_with (first
    | go_skip
    | (rw [← hw1]; clear hw1)
    | (refine wpList_load_row_w rfl 28 _ rfl w.heap.size rfl _ _ _ _ (Kx.out _ (by assumption)) Try.underlying28 rfl (size_Alg _ _) ?_)
    | (go_at_call 50; refine (ret_below (validAlgebra_any _ _ _ _ L T _ (KR.out _ z1) (KT.out _ z1)) HA.out).mono ?_; rintro e w2 ⟨rfl, h2⟩; have z2 : Below w1.heap.size w1 w2 := h2; clear h2))
  go_ret
  exact ⟨rfl, hB.trans (Below.mono (by assumption) hB.size)⟩
set_option maxRecDepth 100000 in
set_option maxHeartbeats 1000000 in
theorem specHas_0 (s : ByteArray) (q0 : (s.toList == [112, 114, 101, 108, 105, 110, 101, 97, 114]) = true) (a b : Option Addr) (ca cb : Nat) (L : List Int) (T : List (List Int)) (w : World) (hr : Rd w a L) (hT : RdT w b T) (h : algB L T = true) :
    Calls Try.prog 16 #[.string s, .agg #[.slice a L.length ca, .slice b T.length cb]] w fun e w' => e = .returned (.bool (hasB 0 L T)) ∧ Below w.heap.size w w' := by
  obtain ⟨w1, hw1⟩ : ∃ w1, w1 = w.alloc (.cells #[.slice a L.length ca, .slice b T.length cb] 28) := ⟨_, rfl⟩
  have hB : Below w.heap.size w w1 := by rw [hw1]; exact (Below.refl _ _).alloc (Nat.le_refl _) _
  have hx1 : w1.heap[w.heap.size]? = some (.cells #[.slice a L.length ca, .slice b T.length cb] 28 (0, 0)) := by rw [hw1]; exact heap_alloc_new w _
  have Kx := Lib.hid (show ∀ wz, Below w1.heap.size w1 wz → wz.heap[w.heap.size]? = some (.cells #[.slice a L.length ca, .slice b T.length cb] 28 (0, 0)) from fun wz h => (h.block _ (lt_of_block hx1)).trans hx1)
  have KR := Lib.hid (show ∀ wz, Below w1.heap.size w1 wz → Rd wz a L from fun wz h => (hr.below hB).below h)
  have KT := Lib.hid (show ∀ wz, Below w1.heap.size w1 wz → RdT wz b T from fun wz h => (hT.below hB).below h)
  have HA := Lib.hid h
  have z1 : Below w1.heap.size w1 w1 := Below.refl _ _
  have Q0 := Lib.hid q0
  clear q0
  clear h hr hT hx1
  go_enter Try.func16, Try.ntmps16
  go_wp2_with (first
    | go_skip
    | (rw [← hw1]; clear hw1)
    | (refine wpList_load_row_w rfl 28 _ rfl w.heap.size rfl _ _ _ _ (Kx.out _ (by assumption)) Try.underlying28 rfl (size_Alg _ _) ?_)
    | (go_at_call 50; refine (ret_below (validAlgebra_any _ _ _ _ L T _ (KR.out _ z1) (KT.out _ z1)) HA.out).mono ?_; rintro e w2 ⟨rfl, h2⟩; have z2 : Below w1.heap.size w1 w2 := h2; clear h2)
    | (go_at_call 51; refine (specIs_0 s Q0.out a b ca cb L T _ (KR.out _ z2) (KT.out _ z2) HA.out).mono ?_; rintro e w3 ⟨rfl, h3⟩; have z3 : Below w1.heap.size w1 w3 := z2.trans (h3.mono z2.size); clear h3))
  go_ret
  exact ⟨rfl, hB.trans (Below.mono (by assumption) hB.size)⟩
set_option maxRecDepth 100000 in
set_option maxHeartbeats 1000000 in
theorem specHas_1 (s : ByteArray) (q0 : (s.toList == [112, 114, 101, 108, 105, 110, 101, 97, 114]) = false) (q1 : (s.toList == [100, 105, 118, 105, 115, 105, 98, 108, 101]) = true) (a b : Option Addr) (ca cb : Nat) (L : List Int) (T : List (List Int)) (w : World) (hr : Rd w a L) (hT : RdT w b T) (h : algB L T = true) :
    Calls Try.prog 16 #[.string s, .agg #[.slice a L.length ca, .slice b T.length cb]] w fun e w' => e = .returned (.bool (hasB 1 L T)) ∧ Below w.heap.size w w' := by
  obtain ⟨w1, hw1⟩ : ∃ w1, w1 = w.alloc (.cells #[.slice a L.length ca, .slice b T.length cb] 28) := ⟨_, rfl⟩
  have hB : Below w.heap.size w w1 := by rw [hw1]; exact (Below.refl _ _).alloc (Nat.le_refl _) _
  have hx1 : w1.heap[w.heap.size]? = some (.cells #[.slice a L.length ca, .slice b T.length cb] 28 (0, 0)) := by rw [hw1]; exact heap_alloc_new w _
  have Kx := Lib.hid (show ∀ wz, Below w1.heap.size w1 wz → wz.heap[w.heap.size]? = some (.cells #[.slice a L.length ca, .slice b T.length cb] 28 (0, 0)) from fun wz h => (h.block _ (lt_of_block hx1)).trans hx1)
  have KR := Lib.hid (show ∀ wz, Below w1.heap.size w1 wz → Rd wz a L from fun wz h => (hr.below hB).below h)
  have KT := Lib.hid (show ∀ wz, Below w1.heap.size w1 wz → RdT wz b T from fun wz h => (hT.below hB).below h)
  have HA := Lib.hid h
  have z1 : Below w1.heap.size w1 w1 := Below.refl _ _
  have Q0 := Lib.hid q0
  have Q1 := Lib.hid q1
  clear q0 q1
  clear h hr hT hx1
  go_enter Try.func16, Try.ntmps16
  go_wp2_with (first
    | go_skip
    | (rw [← hw1]; clear hw1)
    | (refine wpList_load_row_w rfl 28 _ rfl w.heap.size rfl _ _ _ _ (Kx.out _ (by assumption)) Try.underlying28 rfl (size_Alg _ _) ?_)
    | (go_at_call 50; refine (ret_below (validAlgebra_any _ _ _ _ L T _ (KR.out _ z1) (KT.out _ z1)) HA.out).mono ?_; rintro e w2 ⟨rfl, h2⟩; have z2 : Below w1.heap.size w1 w2 := h2; clear h2)
    | (go_at_call 51; refine (specIs_1 s Q0.out Q1.out a b ca cb L T _ (KR.out _ z2) (KT.out _ z2) HA.out).mono ?_; rintro e w3 ⟨rfl, h3⟩; have z3 : Below w1.heap.size w1 w3 := z2.trans (h3.mono z2.size); clear h3))
  go_ret
  exact ⟨rfl, hB.trans (Below.mono (by assumption) hB.size)⟩
set_option maxRecDepth 100000 in
set_option maxHeartbeats 1000000 in
theorem specHas_2 (s : ByteArray) (q0 : (s.toList == [112, 114, 101, 108, 105, 110, 101, 97, 114]) = false) (q1 : (s.toList == [100, 105, 118, 105, 115, 105, 98, 108, 101]) = false) (q2 : (s.toList == [105, 110, 118, 111, 108, 117, 116, 105, 118, 101]) = true) (a b : Option Addr) (ca cb : Nat) (L : List Int) (T : List (List Int)) (w : World) (hr : Rd w a L) (hT : RdT w b T) (h : algB L T = true) :
    Calls Try.prog 16 #[.string s, .agg #[.slice a L.length ca, .slice b T.length cb]] w fun e w' => e = .returned (.bool (hasB 2 L T)) ∧ Below w.heap.size w w' := by
  obtain ⟨w1, hw1⟩ : ∃ w1, w1 = w.alloc (.cells #[.slice a L.length ca, .slice b T.length cb] 28) := ⟨_, rfl⟩
  have hB : Below w.heap.size w w1 := by rw [hw1]; exact (Below.refl _ _).alloc (Nat.le_refl _) _
  have hx1 : w1.heap[w.heap.size]? = some (.cells #[.slice a L.length ca, .slice b T.length cb] 28 (0, 0)) := by rw [hw1]; exact heap_alloc_new w _
  have Kx := Lib.hid (show ∀ wz, Below w1.heap.size w1 wz → wz.heap[w.heap.size]? = some (.cells #[.slice a L.length ca, .slice b T.length cb] 28 (0, 0)) from fun wz h => (h.block _ (lt_of_block hx1)).trans hx1)
  have KR := Lib.hid (show ∀ wz, Below w1.heap.size w1 wz → Rd wz a L from fun wz h => (hr.below hB).below h)
  have KT := Lib.hid (show ∀ wz, Below w1.heap.size w1 wz → RdT wz b T from fun wz h => (hT.below hB).below h)
  have HA := Lib.hid h
  have z1 : Below w1.heap.size w1 w1 := Below.refl _ _
  have Q0 := Lib.hid q0
  have Q1 := Lib.hid q1
  have Q2 := Lib.hid q2
  clear q0 q1 q2
  clear h hr hT hx1
  go_enter Try.func16, Try.ntmps16
  go_wp2_with (first
    | go_skip
    | (rw [← hw1]; clear hw1)
    | (refine wpList_load_row_w rfl 28 _ rfl w.heap.size rfl _ _ _ _ (Kx.out _ (by assumption)) Try.underlying28 rfl (size_Alg _ _) ?_)
    | (go_at_call 50; refine (ret_below (validAlgebra_any _ _ _ _ L T _ (KR.out _ z1) (KT.out _ z1)) HA.out).mono ?_; rintro e w2 ⟨rfl, h2⟩; have z2 : Below w1.heap.size w1 w2 := h2; clear h2)
    | (go_at_call 51; refine (specIs_2 s Q0.out Q1.out Q2.out a b ca cb L T _ (KR.out _ z2) (KT.out _ z2) HA.out).mono ?_; rintro e w3 ⟨rfl, h3⟩; have z3 : Below w1.heap.size w1 w3 := z2.trans (h3.mono z2.size); clear h3))
  go_ret
  exact ⟨rfl, hB.trans (Below.mono (by assumption) hB.size)⟩
set_option maxRecDepth 100000 in
set_option maxHeartbeats 1000000 in
theorem specHas_3 (s : ByteArray) (q0 : (s.toList == [112, 114, 101, 108, 105, 110, 101, 97, 114]) = false) (q1 : (s.toList == [100, 105, 118, 105, 115, 105, 98, 108, 101]) = false) (q2 : (s.toList == [105, 110, 118, 111, 108, 117, 116, 105, 118, 101]) = false) (q3 : (s.toList == [105, 100, 101, 109, 112, 111, 116, 101, 110, 116]) = true) (a b : Option Addr) (ca cb : Nat) (L : List Int) (T : List (List Int)) (w : World) (hr : Rd w a L) (hT : RdT w b T) (h : algB L T = true) :
    Calls Try.prog 16 #[.string s, .agg #[.slice a L.length ca, .slice b T.length cb]] w fun e w' => e = .returned (.bool (hasB 3 L T)) ∧ Below w.heap.size w w' := by
  obtain ⟨w1, hw1⟩ : ∃ w1, w1 = w.alloc (.cells #[.slice a L.length ca, .slice b T.length cb] 28) := ⟨_, rfl⟩
  have hB : Below w.heap.size w w1 := by rw [hw1]; exact (Below.refl _ _).alloc (Nat.le_refl _) _
  have hx1 : w1.heap[w.heap.size]? = some (.cells #[.slice a L.length ca, .slice b T.length cb] 28 (0, 0)) := by rw [hw1]; exact heap_alloc_new w _
  have Kx := Lib.hid (show ∀ wz, Below w1.heap.size w1 wz → wz.heap[w.heap.size]? = some (.cells #[.slice a L.length ca, .slice b T.length cb] 28 (0, 0)) from fun wz h => (h.block _ (lt_of_block hx1)).trans hx1)
  have KR := Lib.hid (show ∀ wz, Below w1.heap.size w1 wz → Rd wz a L from fun wz h => (hr.below hB).below h)
  have KT := Lib.hid (show ∀ wz, Below w1.heap.size w1 wz → RdT wz b T from fun wz h => (hT.below hB).below h)
  have HA := Lib.hid h
  have z1 : Below w1.heap.size w1 w1 := Below.refl _ _
  have Q0 := Lib.hid q0
  have Q1 := Lib.hid q1
  have Q2 := Lib.hid q2
  have Q3 := Lib.hid q3
  clear q0 q1 q2 q3
  clear h hr hT hx1
  go_enter Try.func16, Try.ntmps16
  go_wp2_with (first
    | go_skip
    | (rw [← hw1]; clear hw1)
    | (refine wpList_load_row_w rfl 28 _ rfl w.heap.size rfl _ _ _ _ (Kx.out _ (by assumption)) Try.underlying28 rfl (size_Alg _ _) ?_)
    | (go_at_call 50; refine (ret_below (validAlgebra_any _ _ _ _ L T _ (KR.out _ z1) (KT.out _ z1)) HA.out).mono ?_; rintro e w2 ⟨rfl, h2⟩; have z2 : Below w1.heap.size w1 w2 := h2; clear h2)
    | (go_at_call 51; refine (specIs_3 s Q0.out Q1.out Q2.out Q3.out a b ca cb L T _ (KR.out _ z2) (KT.out _ z2) HA.out).mono ?_; rintro e w3 ⟨rfl, h3⟩; have z3 : Below w1.heap.size w1 w3 := z2.trans (h3.mono z2.size); clear h3))
  go_ret
  exact ⟨rfl, hB.trans (Below.mono (by assumption) hB.size)⟩
set_option maxRecDepth 100000 in
set_option maxHeartbeats 1000000 in
theorem specHas_4 (s : ByteArray) (q0 : (s.toList == [112, 114, 101, 108, 105, 110, 101, 97, 114]) = false) (q1 : (s.toList == [100, 105, 118, 105, 115, 105, 98, 108, 101]) = false) (q2 : (s.toList == [105, 110, 118, 111, 108, 117, 116, 105, 118, 101]) = false) (q3 : (s.toList == [105, 100, 101, 109, 112, 111, 116, 101, 110, 116]) = false) (q4 : (s.toList == [98, 111, 111, 108, 101, 97, 110]) = true) (a b : Option Addr) (ca cb : Nat) (L : List Int) (T : List (List Int)) (w : World) (hr : Rd w a L) (hT : RdT w b T) (h : algB L T = true) :
    Calls Try.prog 16 #[.string s, .agg #[.slice a L.length ca, .slice b T.length cb]] w fun e w' => e = .returned (.bool (hasB 4 L T)) ∧ Below w.heap.size w w' := by
  obtain ⟨w1, hw1⟩ : ∃ w1, w1 = w.alloc (.cells #[.slice a L.length ca, .slice b T.length cb] 28) := ⟨_, rfl⟩
  have hB : Below w.heap.size w w1 := by rw [hw1]; exact (Below.refl _ _).alloc (Nat.le_refl _) _
  have hx1 : w1.heap[w.heap.size]? = some (.cells #[.slice a L.length ca, .slice b T.length cb] 28 (0, 0)) := by rw [hw1]; exact heap_alloc_new w _
  have Kx := Lib.hid (show ∀ wz, Below w1.heap.size w1 wz → wz.heap[w.heap.size]? = some (.cells #[.slice a L.length ca, .slice b T.length cb] 28 (0, 0)) from fun wz h => (h.block _ (lt_of_block hx1)).trans hx1)
  have KR := Lib.hid (show ∀ wz, Below w1.heap.size w1 wz → Rd wz a L from fun wz h => (hr.below hB).below h)
  have KT := Lib.hid (show ∀ wz, Below w1.heap.size w1 wz → RdT wz b T from fun wz h => (hT.below hB).below h)
  have HA := Lib.hid h
  have z1 : Below w1.heap.size w1 w1 := Below.refl _ _
  have Q0 := Lib.hid q0
  have Q1 := Lib.hid q1
  have Q2 := Lib.hid q2
  have Q3 := Lib.hid q3
  have Q4 := Lib.hid q4
  clear q0 q1 q2 q3 q4
  clear h hr hT hx1
  go_enter Try.func16, Try.ntmps16
  go_wp2_with (first
    | go_skip
    | (rw [← hw1]; clear hw1)
    | (refine wpList_load_row_w rfl 28 _ rfl w.heap.size rfl _ _ _ _ (Kx.out _ (by assumption)) Try.underlying28 rfl (size_Alg _ _) ?_)
    | (go_at_call 50; refine (ret_below (validAlgebra_any _ _ _ _ L T _ (KR.out _ z1) (KT.out _ z1)) HA.out).mono ?_; rintro e w2 ⟨rfl, h2⟩; have z2 : Below w1.heap.size w1 w2 := h2; clear h2)
    | (go_at_call 51; refine (specIs_4 s Q0.out Q1.out Q2.out Q3.out Q4.out a b ca cb L T _ (KR.out _ z2) (KT.out _ z2) HA.out).mono ?_; rintro e w3 ⟨rfl, h3⟩; have z3 : Below w1.heap.size w1 w3 := z2.trans (h3.mono z2.size); clear h3))
  go_ret
  exact ⟨rfl, hB.trans (Below.mono (by assumption) hB.size)⟩
set_option maxRecDepth 100000 in
set_option maxHeartbeats 1000000 in
theorem specHas_5 (s : ByteArray) (q0 : (s.toList == [112, 114, 101, 108, 105, 110, 101, 97, 114]) = false) (q1 : (s.toList == [100, 105, 118, 105, 115, 105, 98, 108, 101]) = false) (q2 : (s.toList == [105, 110, 118, 111, 108, 117, 116, 105, 118, 101]) = false) (q3 : (s.toList == [105, 100, 101, 109, 112, 111, 116, 101, 110, 116]) = false) (q4 : (s.toList == [98, 111, 111, 108, 101, 97, 110]) = false) (a b : Option Addr) (ca cb : Nat) (L : List Int) (T : List (List Int)) (w : World) (hr : Rd w a L) (hT : RdT w b T) (h : algB L T = true) :
    Calls Try.prog 16 #[.string s, .agg #[.slice a L.length ca, .slice b T.length cb]] w fun e w' => e = .returned (.bool false) ∧ Below w.heap.size w w' := by
  obtain ⟨w1, hw1⟩ : ∃ w1, w1 = w.alloc (.cells #[.slice a L.length ca, .slice b T.length cb] 28) := ⟨_, rfl⟩
  have hB : Below w.heap.size w w1 := by rw [hw1]; exact (Below.refl _ _).alloc (Nat.le_refl _) _
  have hx1 : w1.heap[w.heap.size]? = some (.cells #[.slice a L.length ca, .slice b T.length cb] 28 (0, 0)) := by rw [hw1]; exact heap_alloc_new w _
  have Kx := Lib.hid (show ∀ wz, Below w1.heap.size w1 wz → wz.heap[w.heap.size]? = some (.cells #[.slice a L.length ca, .slice b T.length cb] 28 (0, 0)) from fun wz h => (h.block _ (lt_of_block hx1)).trans hx1)
  have KR := Lib.hid (show ∀ wz, Below w1.heap.size w1 wz → Rd wz a L from fun wz h => (hr.below hB).below h)
  have KT := Lib.hid (show ∀ wz, Below w1.heap.size w1 wz → RdT wz b T from fun wz h => (hT.below hB).below h)
  have HA := Lib.hid h
  have z1 : Below w1.heap.size w1 w1 := Below.refl _ _
  have Q0 := Lib.hid q0
  have Q1 := Lib.hid q1
  have Q2 := Lib.hid q2
  have Q3 := Lib.hid q3
  have Q4 := Lib.hid q4
  clear q0 q1 q2 q3 q4
  clear h hr hT hx1
  go_enter Try.func16, Try.ntmps16
  go_wp2_with (first
    | go_skip
    | (rw [← hw1]; clear hw1)
    | (refine wpList_load_row_w rfl 28 _ rfl w.heap.size rfl _ _ _ _ (Kx.out _ (by assumption)) Try.underlying28 rfl (size_Alg _ _) ?_)
    | (go_at_call 50; refine (ret_below (validAlgebra_any _ _ _ _ L T _ (KR.out _ z1) (KT.out _ z1)) HA.out).mono ?_; rintro e w2 ⟨rfl, h2⟩; have z2 : Below w1.heap.size w1 w2 := h2; clear h2)
    | (go_at_call 51; refine (specIs_5 s Q0.out Q1.out Q2.out Q3.out Q4.out a b ca cb L T _ HA.out).mono ?_; rintro e w3 ⟨rfl, h3⟩; have z3 : Below w1.heap.size w1 w3 := z2.trans (h3.mono z2.size); clear h3))
  go_ret
  exact ⟨rfl, hB.trans (Below.mono (by assumption) hB.size)⟩
/-- impl.propertyOf's answers -/
def prFun : Nat → Nat
  | 0 => 109
  | 1 => 110
  | 2 => 111
  | 3 => 112
  | _ => 113
set_option maxRecDepth 100000 in
theorem propertyOf_0 (s : ByteArray) (q0 : (s.toList == [112, 114, 101, 108, 105, 110, 101, 97, 114]) = true) (w : World) : Calls Try.prog 53 #[.string s] w fun e w' => e = .returned (.tuple #[.func (.func 109) #[] #[], .bool true]) ∧ w = w' := by
  go_enter Try.func53, Try.ntmps53
  go_wp2
  go_ret2
  exact ⟨rfl, rfl⟩
set_option maxRecDepth 100000 in
theorem propertyOf_1 (s : ByteArray) (q0 : (s.toList == [112, 114, 101, 108, 105, 110, 101, 97, 114]) = false) (q1 : (s.toList == [100, 105, 118, 105, 115, 105, 98, 108, 101]) = true) (w : World) : Calls Try.prog 53 #[.string s] w fun e w' => e = .returned (.tuple #[.func (.func 110) #[] #[], .bool true]) ∧ w = w' := by
  go_enter Try.func53, Try.ntmps53
  go_wp2
  go_ret2
  exact ⟨rfl, rfl⟩
set_option maxRecDepth 100000 in
theorem propertyOf_2 (s : ByteArray) (q0 : (s.toList == [112, 114, 101, 108, 105, 110, 101, 97, 114]) = false) (q1 : (s.toList == [100, 105, 118, 105, 115, 105, 98, 108, 101]) = false) (q2 : (s.toList == [105, 110, 118, 111, 108, 117, 116, 105, 118, 101]) = true) (w : World) : Calls Try.prog 53 #[.string s] w fun e w' => e = .returned (.tuple #[.func (.func 111) #[] #[], .bool true]) ∧ w = w' := by
  go_enter Try.func53, Try.ntmps53
  go_wp2
  go_ret2
  exact ⟨rfl, rfl⟩
set_option maxRecDepth 100000 in
theorem propertyOf_3 (s : ByteArray) (q0 : (s.toList == [112, 114, 101, 108, 105, 110, 101, 97, 114]) = false) (q1 : (s.toList == [100, 105, 118, 105, 115, 105, 98, 108, 101]) = false) (q2 : (s.toList == [105, 110, 118, 111, 108, 117, 116, 105, 118, 101]) = false) (q3 : (s.toList == [105, 100, 101, 109, 112, 111, 116, 101, 110, 116]) = true) (w : World) : Calls Try.prog 53 #[.string s] w fun e w' => e = .returned (.tuple #[.func (.func 112) #[] #[], .bool true]) ∧ w = w' := by
  go_enter Try.func53, Try.ntmps53
  go_wp2
  go_ret2
  exact ⟨rfl, rfl⟩
set_option maxRecDepth 100000 in
theorem propertyOf_4 (s : ByteArray) (q0 : (s.toList == [112, 114, 101, 108, 105, 110, 101, 97, 114]) = false) (q1 : (s.toList == [100, 105, 118, 105, 115, 105, 98, 108, 101]) = false) (q2 : (s.toList == [105, 110, 118, 111, 108, 117, 116, 105, 118, 101]) = false) (q3 : (s.toList == [105, 100, 101, 109, 112, 111, 116, 101, 110, 116]) = false) (q4 : (s.toList == [98, 111, 111, 108, 101, 97, 110]) = true) (w : World) : Calls Try.prog 53 #[.string s] w fun e w' => e = .returned (.tuple #[.func (.func 113) #[] #[], .bool true]) ∧ w = w' := by
  go_enter Try.func53, Try.ntmps53
  go_wp2
  go_ret2
  exact ⟨rfl, rfl⟩
set_option maxRecDepth 100000 in
theorem propertyOf_5 (s : ByteArray) (q0 : (s.toList == [112, 114, 101, 108, 105, 110, 101, 97, 114]) = false) (q1 : (s.toList == [100, 105, 118, 105, 115, 105, 98, 108, 101]) = false) (q2 : (s.toList == [105, 110, 118, 111, 108, 117, 116, 105, 118, 101]) = false) (q3 : (s.toList == [105, 100, 101, 109, 112, 111, 116, 101, 110, 116]) = false) (q4 : (s.toList == [98, 111, 111, 108, 101, 97, 110]) = false) (w : World) : Calls Try.prog 53 #[.string s] w fun e w' => e = .returned (.tuple #[Value.nilFunc, .bool false]) ∧ w = w' := by
  go_enter Try.func53, Try.ntmps53
  go_wp2
  go_ret2
  exact ⟨rfl, rfl⟩
theorem enters_pr0 : Enters 109 := enters_of Try.func109 (by kernel_rfl) rfl
set_option maxRecDepth 100000 in
set_option maxHeartbeats 1000000 in
theorem prClo_0 (L : List Int) (T : List (List Int)) (x y : Int) (w : World) (h : algB L T = true) (x0 : 0 ≤ x) (x1 : x < num L) (y0 : 0 ≤ y) (y1 : y < num L) :
    Calls Try.prog 109 #[.agg (algOf L T), .int .i64 x, .int .i64 y] w fun e w' => e = .returned (.bool (prQ0 L T x y)) ∧ Below w.heap.size w w' := by
  obtain ⟨l1, l6⟩ := lat_len (alg_lat h)
  obtain ⟨w1, hw1⟩ : ∃ w1, w1 = w.alloc (.cells (algOf L T) 70) := ⟨_, rfl⟩
  have hB : Below w.heap.size w w1 := by rw [hw1]; exact (Below.refl _ _).alloc (Nat.le_refl _) _
  have hA : AlgAt w1 w.heap.size L T := by rw [hw1]; exact AlgAt.new w L T
  have Q := Lib.hid (show ∀ wz, Below w1.heap.size w1 wz → AlgAt wz w.heap.size L T from fun wz hz => hA.below hz hA.lt)
  have HA := Lib.hid h
  have n6 : (L.length : Int) ≤ 6 := l6
  have x6 : x < 6 := by omega
  have y6 : y < 6 := by omega
  have ie := imp_el HA.out x y
  have i0 : 0 ≤ imp L T x y := ie.1
  have i1 : imp L T x y < num L := ie.2
  have i6 : imp L T x y < 6 := by omega
  clear ie
  have je := imp_el HA.out y x
  have j0 : 0 ≤ imp L T y x := je.1
  have j1 : imp L T y x < num L := je.2
  have j6 : imp L T y x < 6 := by omega
  clear je
  have hq := Lib.hid (show prQ0 L T x y = (jn L (imp L T x y) (imp L T y x) == (L.length : Int) - 1) from rfl)
  clear hA h
  go_enter Try.func109, Try.ntmps109
  go_wp2_with (rw [← hw1]; clear hw1)
  refine region_in (Below w1.heap.size w1) (by kernel_rfl) (by kernel_rfl) (Dr.below ⟨1, rfl⟩ _) fun hne => ?_
  have r0 : ∀ s : In (Below w1.heap.size w1), s.w.cell? ⟨w.heap.size, 145 + (x).toNat * 6 + (y).toNat, none⟩ = some (.int .i64 (imp L T x y)) := fun s => by
    have := (Q.out _ s.h).i x0 x6 y0 y6
    rwa [impG_in (by omega) (by omega)] at this
  have r1 : ∀ s : In (Below w1.heap.size w1), s.w.cell? ⟨w.heap.size, 145 + (y).toNat * 6 + (x).toNat, none⟩ = some (.int .i64 (imp L T y x)) := fun s => by
    have := (Q.out _ s.h).i y0 y6 x0 x6
    rwa [impG_in (by omega) (by omega)] at this
  have r2 : ∀ s : In (Below w1.heap.size w1), s.w.cell? ⟨w.heap.size, 73 + (imp L T x y).toNat * 6 + (imp L T y x).toNat, none⟩ = some (.int .i64 (jn L (imp L T x y) (imp L T y x))) := fun s => by
    have := (Q.out _ s.h).j i0 i6 j0 j6
    rwa [show tabJ L (imp L T x y) (imp L T y x) = jn L (imp L T x y) (imp L T y x) from tabT_join (alg_lat HA.out) i0 i1 j0 j1] at this
  repeat (first
    | (go_big_quiet_want; refine quiet_load_mid 68 _ rfl w.heap.size 0 rfl (latOf L) _ (fun w' ⟨s, hs⟩ => by rw [hs]; exact (Q.out _ s.h).lat) Try.underlying68 rfl (size_latOf L) ?_; simp only [Act.put, List.setIfInBounds_toArray, List.set_cons_succ, List.set_cons_zero]; go_big_quiet_on)
    | go_big_quiet_step ((first | (go_at_call 68; exact in_below _ (Nat.le_refl _) (greatest_any L _ n6)))))
  refine wpQuiet_nil ?_
  intro s
  have hw2 := s.h
  obtain ⟨w7, hw2'⟩ : ∃ x : World, x = s.w := ⟨_, rfl⟩
  rw [← hw2'] at hw2 ⊢
  clear hw2'
  go_wp2
  go_ret
  exact ⟨ret_bool (by rw [hq.out]), hB.trans (hw2.mono hB.size)⟩
theorem enters_pr1 : Enters 110 := enters_of Try.func110 (by kernel_rfl) rfl
set_option maxRecDepth 100000 in
set_option maxHeartbeats 1000000 in
theorem prClo_1 (L : List Int) (T : List (List Int)) (x y : Int) (w : World) (h : algB L T = true) (x0 : 0 ≤ x) (x1 : x < num L) (y0 : 0 ≤ y) (y1 : y < num L) :
    Calls Try.prog 110 #[.agg (algOf L T), .int .i64 x, .int .i64 y] w fun e w' => e = .returned (.bool (prQ1 L T x y)) ∧ Below w.heap.size w w' := by
  obtain ⟨l1, l6⟩ := lat_len (alg_lat h)
  obtain ⟨w1, hw1⟩ : ∃ w1, w1 = w.alloc (.cells (algOf L T) 70) := ⟨_, rfl⟩
  have hB : Below w.heap.size w w1 := by rw [hw1]; exact (Below.refl _ _).alloc (Nat.le_refl _) _
  have hA : AlgAt w1 w.heap.size L T := by rw [hw1]; exact AlgAt.new w L T
  have Q := Lib.hid (show ∀ wz, Below w1.heap.size w1 wz → AlgAt wz w.heap.size L T from fun wz hz => hA.below hz hA.lt)
  have HA := Lib.hid h
  have n6 : (L.length : Int) ≤ 6 := l6
  have x6 : x < 6 := by omega
  have y6 : y < 6 := by omega
  have ie := imp_el HA.out x y
  have i0 : 0 ≤ imp L T x y := ie.1
  have i1 : imp L T x y < num L := ie.2
  have i6 : imp L T x y < 6 := by omega
  clear ie
  have hq := Lib.hid (show prQ1 L T x y = (tv T x (imp L T x y) == mt L x y) from rfl)
  clear hA h
  go_enter Try.func110, Try.ntmps110
  go_wp2_with (rw [← hw1]; clear hw1)
  refine region_in (Below w1.heap.size w1) (by kernel_rfl) (by kernel_rfl) (Dr.below ⟨1, rfl⟩ _) fun hne => ?_
  have r0 : ∀ s : In (Below w1.heap.size w1), s.w.cell? ⟨w.heap.size, 145 + (x).toNat * 6 + (y).toNat, none⟩ = some (.int .i64 (imp L T x y)) := fun s => by
    have := (Q.out _ s.h).i x0 x6 y0 y6
    rwa [impG_in (by omega) (by omega)] at this
  have r1 : ∀ s : In (Below w1.heap.size w1), s.w.cell? ⟨w.heap.size, 109 + (x).toNat * 6 + (imp L T x y).toNat, none⟩ = some (.int .i64 (tv T (x) (imp L T x y))) := fun s => by
    have := (Q.out _ s.h).t x0 x6 i0 i6
    rwa [timG_in (by omega) (by omega)] at this
  have r2 : ∀ s : In (Below w1.heap.size w1), s.w.cell? ⟨w.heap.size, 37 + (x).toNat * 6 + (y).toNat, none⟩ = some (.int .i64 (mt L (x) (y))) := fun s => by
    have := (Q.out _ s.h).m x0 x6 y0 y6
    rwa [show tabM L (x) (y) = mt L (x) (y) from tabT_meet (alg_lat HA.out) x0 x1 y0 y1] at this
  repeat (first
    | go_big_quiet_step (fail))
  refine wpQuiet_nil ?_
  intro s
  have hw2 := s.h
  obtain ⟨w7, hw2'⟩ : ∃ x : World, x = s.w := ⟨_, rfl⟩
  rw [← hw2'] at hw2 ⊢
  clear hw2'
  go_wp2
  go_ret
  exact ⟨ret_bool (by rw [hq.out]), hB.trans (hw2.mono hB.size)⟩
theorem enters_pr2 : Enters 111 := enters_of Try.func111 (by kernel_rfl) rfl
set_option maxRecDepth 100000 in
set_option maxHeartbeats 1000000 in
theorem prClo_2 (L : List Int) (T : List (List Int)) (x y : Int) (w : World) (h : algB L T = true) (x0 : 0 ≤ x) (x1 : x < num L) (y0 : 0 ≤ y) (y1 : y < num L) :
    Calls Try.prog 111 #[.agg (algOf L T), .int .i64 x, .int .i64 y] w fun e w' => e = .returned (.bool (prQ2 L T x y)) ∧ Below w.heap.size w w' := by
  obtain ⟨l1, l6⟩ := lat_len (alg_lat h)
  obtain ⟨w1, hw1⟩ : ∃ w1, w1 = w.alloc (.cells (algOf L T) 70) := ⟨_, rfl⟩
  have hB : Below w.heap.size w w1 := by rw [hw1]; exact (Below.refl _ _).alloc (Nat.le_refl _) _
  have hA : AlgAt w1 w.heap.size L T := by rw [hw1]; exact AlgAt.new w L T
  have Q := Lib.hid (show ∀ wz, Below w1.heap.size w1 wz → AlgAt wz w.heap.size L T from fun wz hz => hA.below hz hA.lt)
  have HA := Lib.hid h
  have n6 : (L.length : Int) ≤ 6 := l6
  have x6 : x < 6 := by omega
  have y6 : y < 6 := by omega
  have ie := imp_el HA.out x 0
  have i0 : 0 ≤ imp L T x 0 := ie.1
  have i1 : imp L T x 0 < num L := ie.2
  have i6 : imp L T x 0 < 6 := by omega
  clear ie
  have hq := Lib.hid (show prQ2 L T x y = (imp L T (imp L T x 0) 0 == x) from rfl)
  clear hA h
  go_enter Try.func111, Try.ntmps111
  go_wp2_with (rw [← hw1]; clear hw1)
  refine region_in (Below w1.heap.size w1) (by kernel_rfl) (by kernel_rfl) (Dr.below ⟨1, rfl⟩ _) fun hne => ?_
  repeat (first
    | (go_big_quiet_want; refine quiet_load_row 70 _ rfl w.heap.size rfl _ _ _ _ (fun w' ⟨s, hs⟩ => by rw [hs]; exact Q.out _ s.h) Try.underlying70 rfl (size_alg _ _ _ _ _ _) ?_; simp only [Act.put, List.setIfInBounds_toArray, List.set_cons_succ, List.set_cons_zero]; go_big_quiet_on)
    | go_big_quiet_step ((first | (go_at_call_of 100 (Value.int .i64 x); exact in_below _ (Nat.le_refl _) (not_any L T x _ HA.out x0 x1)) | (go_at_call 100; exact in_below _ (Nat.le_refl _) (not_any L T _ _ HA.out i0 i1)))))
  refine wpQuiet_nil ?_
  intro s
  have hw2 := s.h
  obtain ⟨w7, hw2'⟩ : ∃ x : World, x = s.w := ⟨_, rfl⟩
  rw [← hw2'] at hw2 ⊢
  clear hw2'
  go_wp2
  go_ret
  exact ⟨ret_bool (by rw [hq.out]), hB.trans (hw2.mono hB.size)⟩
theorem enters_pr3 : Enters 112 := enters_of Try.func112 (by kernel_rfl) rfl
set_option maxRecDepth 100000 in
set_option maxHeartbeats 1000000 in
theorem prClo_3 (L : List Int) (T : List (List Int)) (x y : Int) (w : World) (h : algB L T = true) (x0 : 0 ≤ x) (x1 : x < num L) (y0 : 0 ≤ y) (y1 : y < num L) :
    Calls Try.prog 112 #[.agg (algOf L T), .int .i64 x, .int .i64 y] w fun e w' => e = .returned (.bool (prQ3 L T x y)) ∧ Below w.heap.size w w' := by
  obtain ⟨l1, l6⟩ := lat_len (alg_lat h)
  obtain ⟨w1, hw1⟩ : ∃ w1, w1 = w.alloc (.cells (algOf L T) 70) := ⟨_, rfl⟩
  have hB : Below w.heap.size w w1 := by rw [hw1]; exact (Below.refl _ _).alloc (Nat.le_refl _) _
  have hA : AlgAt w1 w.heap.size L T := by rw [hw1]; exact AlgAt.new w L T
  have Q := Lib.hid (show ∀ wz, Below w1.heap.size w1 wz → AlgAt wz w.heap.size L T from fun wz hz => hA.below hz hA.lt)
  have HA := Lib.hid h
  have n6 : (L.length : Int) ≤ 6 := l6
  have x6 : x < 6 := by omega
  have y6 : y < 6 := by omega
  have hq := Lib.hid (show prQ3 L T x y = (tv T x x == x) from rfl)
  have d0 := hA.t x0 x6 x0 x6
  rw [timG_in x1 x1] at d0
  clear hA h
  go_enter Try.func112, Try.ntmps112
  go_wp2_with (rw [← hw1]; clear hw1)
  go_ret
  exact ⟨ret_bool (by rw [hq.out]), hB⟩
theorem enters_pr4 : Enters 113 := enters_of Try.func113 (by kernel_rfl) rfl
set_option maxRecDepth 100000 in
set_option maxHeartbeats 1000000 in
theorem prClo_4 (L : List Int) (T : List (List Int)) (x y : Int) (w : World) (h : algB L T = true) (x0 : 0 ≤ x) (x1 : x < num L) (y0 : 0 ≤ y) (y1 : y < num L) :
    Calls Try.prog 113 #[.agg (algOf L T), .int .i64 x, .int .i64 y] w fun e w' => e = .returned (.bool (prQ4 L T x y)) ∧ Below w.heap.size w w' := by
  obtain ⟨l1, l6⟩ := lat_len (alg_lat h)
  obtain ⟨w1, hw1⟩ : ∃ w1, w1 = w.alloc (.cells (algOf L T) 70) := ⟨_, rfl⟩
  have hB : Below w.heap.size w w1 := by rw [hw1]; exact (Below.refl _ _).alloc (Nat.le_refl _) _
  have hA : AlgAt w1 w.heap.size L T := by rw [hw1]; exact AlgAt.new w L T
  have Q := Lib.hid (show ∀ wz, Below w1.heap.size w1 wz → AlgAt wz w.heap.size L T from fun wz hz => hA.below hz hA.lt)
  have HA := Lib.hid h
  have n6 : (L.length : Int) ≤ 6 := l6
  have x6 : x < 6 := by omega
  have y6 : y < 6 := by omega
  have hq := Lib.hid (show prQ4 L T x y = (jn L x (imp L T x 0) == (L.length : Int) - 1) from rfl)
  clear hA h
  go_enter Try.func113, Try.ntmps113
  go_wp2_with (first
    | (rw [← hw1]; clear hw1)
    | (refine wpList_load_row_w rfl 70 _ rfl w.heap.size rfl _ _ _ _ (Q.out _ (Below.refl _ _)) Try.underlying70 rfl (size_alg _ _ _ _ _ _) ?_)
    | (go_at_call 114; refine (isSharp_any L T x _ HA.out x0 x1).mono ?_; rintro e w2 ⟨rfl, h2⟩))
  go_ret
  exact ⟨ret_bool (by rw [hq.out]; rfl), hB.trans (h2.mono hB.size)⟩
end Go.Proofs.Ytmapofenghjinaa
