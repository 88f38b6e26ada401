import Derived.Test.YthjbfdoclifhoaaG9
import Derived.Test.YthjbfdoclifhoaaH10
namespace Go.Proofs.Ythjbfdoclifhoaa
open Go.RowKit
set_option linter.unusedVariables false

def prQ0 (L : List Int) (T : List (List Int)) (x y : Int) : Bool := jn L (imp L T x y) (imp L T y x) == (L.length : Int) - 1
def prQ1 (L : List Int) (T : List (List Int)) (x y : Int) : Bool := tv T x (imp L T x y) == mt L x y
def prQ2 (L : List Int) (T : List (List Int)) (x y : Int) : Bool := imp L T (imp L T x 0) 0 == x
def prQ3 (L : List Int) (T : List (List Int)) (x y : Int) : Bool := tv T x x == x
def prQ4 (L : List Int) (T : List (List Int)) (x y : Int) : Bool := jn L x (imp L T x 0) == (L.length : Int) - 1
/-- the properties, by number -/
def prQ : Nat → List Int → List (List Int) → Int → Int → Bool
  | 0 => prQ0
  | 1 => prQ1
  | 2 => prQ2
  | 3 => prQ3
  | _ => prQ4
/-- which property a name is, 5 for none -/
def prIx (s : ByteArray) : Nat :=
  if s.toList == [112, 114, 101, 108, 105, 110, 101, 97, 114] then 0 else if s.toList == [100, 105, 118, 105, 115, 105, 98, 108, 101] then 1 else if s.toList == [105, 110, 118, 111, 108, 117, 116, 105, 118, 101] then 2 else if s.toList == [105, 100, 101, 109, 112, 111, 116, 101, 110, 116] then 3 else if s.toList == [98, 111, 111, 108, 101, 97, 110] then 4 else 5
def hasB (k : Nat) (L : List Int) (T : List (List Int)) : Bool := all2 (L.length : Int) (prQ k L T)
end Go.Proofs.Ythjbfdoclifhoaa

namespace Go.Proofs.Ythjbfdoclifhoaa
open Go.RowKit
set_option linter.unusedVariables false

/-- impl.propertyOf's answers -/
def prFun : Nat → Nat
  | 0 => 60
  | 1 => 61
  | 2 => 62
  | 3 => 64
  | _ => 65
set_option maxRecDepth 100000 in
theorem propertyOf_0 (s : ByteArray) (q0 : (s.toList == [112, 114, 101, 108, 105, 110, 101, 97, 114]) = true) (w : World) : Calls Try.prog 37 #[.string s] w fun e w' => e = .returned (.tuple #[.func (.func 60) #[] #[], .bool true]) ∧ w = w' := by
  go_enter Try.func37, Try.ntmps37
  go_wp2
  go_ret2
  exact ⟨rfl, rfl⟩
set_option maxRecDepth 100000 in
theorem propertyOf_1 (s : ByteArray) (q0 : (s.toList == [112, 114, 101, 108, 105, 110, 101, 97, 114]) = false) (q1 : (s.toList == [100, 105, 118, 105, 115, 105, 98, 108, 101]) = true) (w : World) : Calls Try.prog 37 #[.string s] w fun e w' => e = .returned (.tuple #[.func (.func 61) #[] #[], .bool true]) ∧ w = w' := by
  go_enter Try.func37, Try.ntmps37
  go_wp2
  go_ret2
  exact ⟨rfl, rfl⟩
set_option maxRecDepth 100000 in
theorem propertyOf_2 (s : ByteArray) (q0 : (s.toList == [112, 114, 101, 108, 105, 110, 101, 97, 114]) = false) (q1 : (s.toList == [100, 105, 118, 105, 115, 105, 98, 108, 101]) = false) (q2 : (s.toList == [105, 110, 118, 111, 108, 117, 116, 105, 118, 101]) = true) (w : World) : Calls Try.prog 37 #[.string s] w fun e w' => e = .returned (.tuple #[.func (.func 62) #[] #[], .bool true]) ∧ w = w' := by
  go_enter Try.func37, Try.ntmps37
  go_wp2
  go_ret2
  exact ⟨rfl, rfl⟩
set_option maxRecDepth 100000 in
theorem propertyOf_3 (s : ByteArray) (q0 : (s.toList == [112, 114, 101, 108, 105, 110, 101, 97, 114]) = false) (q1 : (s.toList == [100, 105, 118, 105, 115, 105, 98, 108, 101]) = false) (q2 : (s.toList == [105, 110, 118, 111, 108, 117, 116, 105, 118, 101]) = false) (q3 : (s.toList == [105, 100, 101, 109, 112, 111, 116, 101, 110, 116]) = true) (w : World) : Calls Try.prog 37 #[.string s] w fun e w' => e = .returned (.tuple #[.func (.func 64) #[] #[], .bool true]) ∧ w = w' := by
  go_enter Try.func37, Try.ntmps37
  go_wp2
  go_ret2
  exact ⟨rfl, rfl⟩
set_option maxRecDepth 100000 in
theorem propertyOf_4 (s : ByteArray) (q0 : (s.toList == [112, 114, 101, 108, 105, 110, 101, 97, 114]) = false) (q1 : (s.toList == [100, 105, 118, 105, 115, 105, 98, 108, 101]) = false) (q2 : (s.toList == [105, 110, 118, 111, 108, 117, 116, 105, 118, 101]) = false) (q3 : (s.toList == [105, 100, 101, 109, 112, 111, 116, 101, 110, 116]) = false) (q4 : (s.toList == [98, 111, 111, 108, 101, 97, 110]) = true) (w : World) : Calls Try.prog 37 #[.string s] w fun e w' => e = .returned (.tuple #[.func (.func 65) #[] #[], .bool true]) ∧ w = w' := by
  go_enter Try.func37, Try.ntmps37
  go_wp2
  go_ret2
  exact ⟨rfl, rfl⟩
set_option maxRecDepth 100000 in
theorem propertyOf_5 (s : ByteArray) (q0 : (s.toList == [112, 114, 101, 108, 105, 110, 101, 97, 114]) = false) (q1 : (s.toList == [100, 105, 118, 105, 115, 105, 98, 108, 101]) = false) (q2 : (s.toList == [105, 110, 118, 111, 108, 117, 116, 105, 118, 101]) = false) (q3 : (s.toList == [105, 100, 101, 109, 112, 111, 116, 101, 110, 116]) = false) (q4 : (s.toList == [98, 111, 111, 108, 101, 97, 110]) = false) (w : World) : Calls Try.prog 37 #[.string s] w fun e w' => e = .returned (.tuple #[Value.nilFunc, .bool false]) ∧ w = w' := by
  go_enter Try.func37, Try.ntmps37
  go_wp2
  go_ret2
  exact ⟨rfl, rfl⟩
theorem enters_pr0 : Enters 60 := enters_of Try.func60 (by kernel_rfl) rfl
set_option maxRecDepth 100000 in
set_option maxHeartbeats 1000000 in
theorem prClo_0 (L : List Int) (T : List (List Int)) (x y : Int) (w : World) (h : algB L T = true) (x0 : 0 ≤ x) (x1 : x < num L) (y0 : 0 ≤ y) (y1 : y < num L) :
    Calls Try.prog 60 #[.agg (algOf L T), .int .i64 x, .int .i64 y] w fun e w' => e = .returned (.bool (prQ0 L T x y)) ∧ Below w.heap.size w w' := by
  obtain ⟨l1, l6⟩ := lat_len (alg_lat h)
  obtain ⟨w1, hw1⟩ : ∃ w1, w1 = w.alloc (.cells (algOf L T) 58) := ⟨_, rfl⟩
  have hB : Below w.heap.size w w1 := by rw [hw1]; exact (Below.refl _ _).alloc (Nat.le_refl _) _
  have hA : AlgAt w1 w.heap.size L T := by rw [hw1]; exact AlgAt.new w L T
  have Q := Lib.hid (show ∀ wz, Below w1.heap.size w1 wz → AlgAt wz w.heap.size L T from fun wz hz => hA.below hz hA.lt)
  have HA := Lib.hid h
  have n6 : (L.length : Int) ≤ 6 := l6
  have x6 : x < 6 := by omega
  have y6 : y < 6 := by omega
  have ie := imp_el HA.out x y
  have i0 : 0 ≤ imp L T x y := ie.1
  have i1 : imp L T x y < num L := ie.2
  have i6 : imp L T x y < 6 := by omega
  clear ie
  have je := imp_el HA.out y x
  have j0 : 0 ≤ imp L T y x := je.1
  have j1 : imp L T y x < num L := je.2
  have j6 : imp L T y x < 6 := by omega
  clear je
  have hq := Lib.hid (show prQ0 L T x y = (jn L (imp L T x y) (imp L T y x) == (L.length : Int) - 1) from rfl)
  clear hA h
  go_enter Try.func60, Try.ntmps60
  go_wp2_with (rw [← hw1]; clear hw1)
  refine region_in (Below w1.heap.size w1) (by kernel_rfl) (by kernel_rfl) (Dr.below ⟨1, rfl⟩ _) fun hne => ?_
  have r0 : ∀ s : In (Below w1.heap.size w1), s.w.cell? ⟨w.heap.size, 145 + (x).toNat * 6 + (y).toNat, none⟩ = some (.int .i64 (imp L T x y)) := fun s => by
    have := (Q.out _ s.h).i x0 x6 y0 y6
    rwa [impG_in (by omega) (by omega)] at this
  have r1 : ∀ s : In (Below w1.heap.size w1), s.w.cell? ⟨w.heap.size, 145 + (y).toNat * 6 + (x).toNat, none⟩ = some (.int .i64 (imp L T y x)) := fun s => by
    have := (Q.out _ s.h).i y0 y6 x0 x6
    rwa [impG_in (by omega) (by omega)] at this
  have r2 : ∀ s : In (Below w1.heap.size w1), s.w.cell? ⟨w.heap.size, 73 + (imp L T x y).toNat * 6 + (imp L T y x).toNat, none⟩ = some (.int .i64 (jn L (imp L T x y) (imp L T y x))) := fun s => by
    have := (Q.out _ s.h).j i0 i6 j0 j6
    rwa [show tabJ L (imp L T x y) (imp L T y x) = jn L (imp L T x y) (imp L T y x) from tabT_join (alg_lat HA.out) i0 i1 j0 j1] at this
  repeat (first
    | (go_big_quiet_want; refine quiet_load_mid 56 _ rfl w.heap.size 0 rfl (latOf L) _ (fun w' ⟨s, hs⟩ => by rw [hs]; exact (Q.out _ s.h).lat) Try.underlying56 rfl (size_latOf L) ?_; simp only [Act.put, List.setIfInBounds_toArray, List.set_cons_succ, List.set_cons_zero]; go_big_quiet_on)
    | go_big_quiet_step ((first | (go_at_call 29; exact in_below _ (Nat.le_refl _) (greatest_any L _ n6)))))
  refine wpQuiet_nil ?_
  intro s
  have hw2 := s.h
  obtain ⟨w7, hw2'⟩ : ∃ x : World, x = s.w := ⟨_, rfl⟩
  rw [← hw2'] at hw2 ⊢
  clear hw2'
  go_wp2
  go_ret
  exact ⟨ret_bool (by rw [hq.out]), hB.trans (hw2.mono hB.size)⟩
theorem enters_pr1 : Enters 61 := enters_of Try.func61 (by kernel_rfl) rfl
set_option maxRecDepth 100000 in
set_option maxHeartbeats 1000000 in
theorem prClo_1 (L : List Int) (T : List (List Int)) (x y : Int) (w : World) (h : algB L T = true) (x0 : 0 ≤ x) (x1 : x < num L) (y0 : 0 ≤ y) (y1 : y < num L) :
    Calls Try.prog 61 #[.agg (algOf L T), .int .i64 x, .int .i64 y] w fun e w' => e = .returned (.bool (prQ1 L T x y)) ∧ Below w.heap.size w w' := by
  obtain ⟨l1, l6⟩ := lat_len (alg_lat h)
  obtain ⟨w1, hw1⟩ : ∃ w1, w1 = w.alloc (.cells (algOf L T) 58) := ⟨_, rfl⟩
  have hB : Below w.heap.size w w1 := by rw [hw1]; exact (Below.refl _ _).alloc (Nat.le_refl _) _
  have hA : AlgAt w1 w.heap.size L T := by rw [hw1]; exact AlgAt.new w L T
  have Q := Lib.hid (show ∀ wz, Below w1.heap.size w1 wz → AlgAt wz w.heap.size L T from fun wz hz => hA.below hz hA.lt)
  have HA := Lib.hid h
  have n6 : (L.length : Int) ≤ 6 := l6
  have x6 : x < 6 := by omega
  have y6 : y < 6 := by omega
  have ie := imp_el HA.out x y
  have i0 : 0 ≤ imp L T x y := ie.1
  have i1 : imp L T x y < num L := ie.2
  have i6 : imp L T x y < 6 := by omega
  clear ie
  have hq := Lib.hid (show prQ1 L T x y = (tv T x (imp L T x y) == mt L x y) from rfl)
  clear hA h
  go_enter Try.func61, Try.ntmps61
  go_wp2_with (rw [← hw1]; clear hw1)
  refine region_in (Below w1.heap.size w1) (by kernel_rfl) (by kernel_rfl) (Dr.below ⟨1, rfl⟩ _) fun hne => ?_
  have r0 : ∀ s : In (Below w1.heap.size w1), s.w.cell? ⟨w.heap.size, 145 + (x).toNat * 6 + (y).toNat, none⟩ = some (.int .i64 (imp L T x y)) := fun s => by
    have := (Q.out _ s.h).i x0 x6 y0 y6
    rwa [impG_in (by omega) (by omega)] at this
  have r1 : ∀ s : In (Below w1.heap.size w1), s.w.cell? ⟨w.heap.size, 109 + (x).toNat * 6 + (imp L T x y).toNat, none⟩ = some (.int .i64 (tv T (x) (imp L T x y))) := fun s => by
    have := (Q.out _ s.h).t x0 x6 i0 i6
    rwa [timG_in (by omega) (by omega)] at this
  have r2 : ∀ s : In (Below w1.heap.size w1), s.w.cell? ⟨w.heap.size, 37 + (x).toNat * 6 + (y).toNat, none⟩ = some (.int .i64 (mt L (x) (y))) := fun s => by
    have := (Q.out _ s.h).m x0 x6 y0 y6
    rwa [show tabM L (x) (y) = mt L (x) (y) from tabT_meet (alg_lat HA.out) x0 x1 y0 y1] at this
  repeat (first
    | go_big_quiet_step (fail))
  refine wpQuiet_nil ?_
  intro s
  have hw2 := s.h
  obtain ⟨w7, hw2'⟩ : ∃ x : World, x = s.w := ⟨_, rfl⟩
  rw [← hw2'] at hw2 ⊢
  clear hw2'
  go_wp2
  go_ret
  exact ⟨ret_bool (by rw [hq.out]), hB.trans (hw2.mono hB.size)⟩
theorem enters_pr2 : Enters 62 := enters_of Try.func62 (by kernel_rfl) rfl
set_option maxRecDepth 100000 in
set_option maxHeartbeats 1000000 in
theorem prClo_2 (L : List Int) (T : List (List Int)) (x y : Int) (w : World) (h : algB L T = true) (x0 : 0 ≤ x) (x1 : x < num L) (y0 : 0 ≤ y) (y1 : y < num L) :
    Calls Try.prog 62 #[.agg (algOf L T), .int .i64 x, .int .i64 y] w fun e w' => e = .returned (.bool (prQ2 L T x y)) ∧ Below w.heap.size w w' := by
  obtain ⟨l1, l6⟩ := lat_len (alg_lat h)
  obtain ⟨w1, hw1⟩ : ∃ w1, w1 = w.alloc (.cells (algOf L T) 58) := ⟨_, rfl⟩
  have hB : Below w.heap.size w w1 := by rw [hw1]; exact (Below.refl _ _).alloc (Nat.le_refl _) _
  have hA : AlgAt w1 w.heap.size L T := by rw [hw1]; exact AlgAt.new w L T
  have Q := Lib.hid (show ∀ wz, Below w1.heap.size w1 wz → AlgAt wz w.heap.size L T from fun wz hz => hA.below hz hA.lt)
  have HA := Lib.hid h
  have n6 : (L.length : Int) ≤ 6 := l6
  have x6 : x < 6 := by omega
  have y6 : y < 6 := by omega
  have ie := imp_el HA.out x 0
  have i0 : 0 ≤ imp L T x 0 := ie.1
  have i1 : imp L T x 0 < num L := ie.2
  have i6 : imp L T x 0 < 6 := by omega
  clear ie
  have hq := Lib.hid (show prQ2 L T x y = (imp L T (imp L T x 0) 0 == x) from rfl)
  clear hA h
  go_enter Try.func62, Try.ntmps62
  go_wp2_with (rw [← hw1]; clear hw1)
  refine region_in (Below w1.heap.size w1) (by kernel_rfl) (by kernel_rfl) (Dr.below ⟨1, rfl⟩ _) fun hne => ?_
  repeat (first
    | (go_big_quiet_want; refine quiet_load_row 58 _ rfl w.heap.size rfl _ _ _ _ (fun w' ⟨s, hs⟩ => by rw [hs]; exact Q.out _ s.h) Try.underlying58 rfl (size_alg _ _ _ _ _ _) ?_; simp only [Act.put, List.setIfInBounds_toArray, List.set_cons_succ, List.set_cons_zero]; go_big_quiet_on)
    | go_big_quiet_step ((first | (go_at_call_of 63 (Value.int .i64 x); exact in_below _ (Nat.le_refl _) (not_any L T x _ HA.out x0 x1)) | (go_at_call 63; exact in_below _ (Nat.le_refl _) (not_any L T _ _ HA.out i0 i1)))))
  refine wpQuiet_nil ?_
  intro s
  have hw2 := s.h
  obtain ⟨w7, hw2'⟩ : ∃ x : World, x = s.w := ⟨_, rfl⟩
  rw [← hw2'] at hw2 ⊢
  clear hw2'
  go_wp2
  go_ret
  exact ⟨ret_bool (by rw [hq.out]), hB.trans (hw2.mono hB.size)⟩
theorem enters_pr3 : Enters 64 := enters_of Try.func64 (by kernel_rfl) rfl
set_option maxRecDepth 100000 in
set_option maxHeartbeats 1000000 in
theorem prClo_3 (L : List Int) (T : List (List Int)) (x y : Int) (w : World) (h : algB L T = true) (x0 : 0 ≤ x) (x1 : x < num L) (y0 : 0 ≤ y) (y1 : y < num L) :
    Calls Try.prog 64 #[.agg (algOf L T), .int .i64 x, .int .i64 y] w fun e w' => e = .returned (.bool (prQ3 L T x y)) ∧ Below w.heap.size w w' := by
  obtain ⟨l1, l6⟩ := lat_len (alg_lat h)
  obtain ⟨w1, hw1⟩ : ∃ w1, w1 = w.alloc (.cells (algOf L T) 58) := ⟨_, rfl⟩
  have hB : Below w.heap.size w w1 := by rw [hw1]; exact (Below.refl _ _).alloc (Nat.le_refl _) _
  have hA : AlgAt w1 w.heap.size L T := by rw [hw1]; exact AlgAt.new w L T
  have Q := Lib.hid (show ∀ wz, Below w1.heap.size w1 wz → AlgAt wz w.heap.size L T from fun wz hz => hA.below hz hA.lt)
  have HA := Lib.hid h
  have n6 : (L.length : Int) ≤ 6 := l6
  have x6 : x < 6 := by omega
  have y6 : y < 6 := by omega
  have hq := Lib.hid (show prQ3 L T x y = (tv T x x == x) from rfl)
  have d0 := hA.t x0 x6 x0 x6
  rw [timG_in x1 x1] at d0
  clear hA h
  go_enter Try.func64, Try.ntmps64
  go_wp2_with (rw [← hw1]; clear hw1)
  go_ret
  exact ⟨ret_bool (by rw [hq.out]), hB⟩
theorem enters_pr4 : Enters 65 := enters_of Try.func65 (by kernel_rfl) rfl
set_option maxRecDepth 100000 in
set_option maxHeartbeats 1000000 in
theorem prClo_4 (L : List Int) (T : List (List Int)) (x y : Int) (w : World) (h : algB L T = true) (x0 : 0 ≤ x) (x1 : x < num L) (y0 : 0 ≤ y) (y1 : y < num L) :
    Calls Try.prog 65 #[.agg (algOf L T), .int .i64 x, .int .i64 y] w fun e w' => e = .returned (.bool (prQ4 L T x y)) ∧ Below w.heap.size w w' := by
  obtain ⟨l1, l6⟩ := lat_len (alg_lat h)
  obtain ⟨w1, hw1⟩ : ∃ w1, w1 = w.alloc (.cells (algOf L T) 58) := ⟨_, rfl⟩
  have hB : Below w.heap.size w w1 := by rw [hw1]; exact (Below.refl _ _).alloc (Nat.le_refl _) _
  have hA : AlgAt w1 w.heap.size L T := by rw [hw1]; exact AlgAt.new w L T
  have Q := Lib.hid (show ∀ wz, Below w1.heap.size w1 wz → AlgAt wz w.heap.size L T from fun wz hz => hA.below hz hA.lt)
  have HA := Lib.hid h
  have n6 : (L.length : Int) ≤ 6 := l6
  have x6 : x < 6 := by omega
  have y6 : y < 6 := by omega
  have hq := Lib.hid (show prQ4 L T x y = (jn L x (imp L T x 0) == (L.length : Int) - 1) from rfl)
  clear hA h
  go_enter Try.func65, Try.ntmps65
  go_wp2_with (first
    | (rw [← hw1]; clear hw1)
    | (refine wpList_load_row_w rfl 58 _ rfl w.heap.size rfl _ _ _ _ (Q.out _ (Below.refl _ _)) Try.underlying58 rfl (size_alg _ _ _ _ _ _) ?_)
    | (go_at_call 66; refine (isSharp_any L T x _ HA.out x0 x1).mono ?_; rintro e w2 ⟨rfl, h2⟩))
  go_ret
  exact ⟨ret_bool (by rw [hq.out]; rfl), hB.trans (h2.mono hB.size)⟩
end Go.Proofs.Ythjbfdoclifhoaa

namespace Go.Proofs.Ythjbfdoclifhoaa
open Go.RowKit
set_option linter.unusedVariables false

theorem enters_hasClo : Enters 68 := enters_of Try.func68 (by kernel_rfl) rfl
set_option maxRecDepth 100000 in
set_option maxHeartbeats 1000000 in
theorem hasClo_any (f : Nat) (p : Int → Int → Bool) (L : List Int) (T : List (List Int)) (bf ba : Nat) (x y : Int) (w : World) (hf : w.heap[bf]? = some (.cells #[.func (.func f) #[] #[]] 78 (0, 0))) (hA : AlgAt w ba L T) (he : Enters f)
    (H : ∀ wr, Calls Try.prog f #[.agg (algOf L T), .int .i64 x, .int .i64 y] wr fun e w' => e = .returned (.bool (p x y)) ∧ Below wr.heap.size wr w') :
    Calls Try.prog 68 #[.int .i64 x, .int .i64 y, .pointer (some ⟨bf, 0, none⟩), .pointer (some ⟨ba, 0, none⟩)] w fun e w' => e = .returned (.bool (p x y)) ∧ Below w.heap.size w w' := by
  have cf := cell_of_one hf
  have HH := Lib.hid H
  have HA := Lib.hid hA
  have HE := Lib.hid (show ∀ (args : Array Value) (w : World), (callFunc f args).run Try.prog w = .ok (.enter f args) w from he)
  clear H he hf hA
  go_enter Try.func68, Try.ntmps68
  go_wp2_with (first
    | (refine wpList_load_row_w rfl 58 _ rfl ba rfl _ _ _ _ HA.out Try.underlying58 rfl (size_alg _ _ _ _ _ _) ?_)
    | (rw [HE.out]; refine (HH.out _).mono ?_; rintro e w2 ⟨rfl, h2⟩))
  go_ret
  exact ⟨rfl, h2⟩
set_option maxRecDepth 100000 in
set_option maxHeartbeats 1000000 in
/-- impl.algebra.hasProperty, of whatever property -/
theorem hasProp_any (f : Nat) (p : Int → Int → Bool) (L : List Int) (T : List (List Int)) (w : World) (h : algB L T = true) (he : Enters f)
    (H : ∀ x y, 0 ≤ x → x < num L → 0 ≤ y → y < num L → ∀ wr, Calls Try.prog f #[.agg (algOf L T), .int .i64 x, .int .i64 y] wr fun e w' => e = .returned (.bool (p x y)) ∧ Below wr.heap.size wr w') :
    Calls Try.prog 38 #[.agg (algOf L T), .func (.func f) #[] #[]] w fun e w' => e = .returned (.bool (all2 (L.length : Int) p)) ∧ Below w.heap.size w w' := by
  obtain ⟨l1, l6⟩ := lat_len (alg_lat h)
  obtain ⟨w1, hw1⟩ : ∃ w1, w1 = (w.alloc (.cells (algOf L T) 58)).alloc (.cells #[.func (.func f) #[] #[]] 78) := ⟨_, rfl⟩
  have hB : Below w.heap.size w w1 := by rw [hw1]; exact ((Below.refl _ _).alloc (Nat.le_refl _) _).alloc (by simp) _
  have hA : AlgAt w1 w.heap.size L T := by
    have := (AlgAt.new w L T).below ((Below.refl (w.heap.size + 1) (w.alloc (.cells (algOf L T) 58))).alloc (by simp) (.cells #[.func (.func f) #[] #[]] 78)) (by omega)
    rw [hw1]; exact this
  have hf : w1.heap[w.heap.size + 1]? = some (.cells #[.func (.func f) #[] #[]] 78 (0, 0)) := by rw [hw1]; exact heap_alloc2_new _ _ _
  have c0 := hA.size
  have KA := Lib.hid (show ∀ wz, Below w1.heap.size w1 wz → AlgAt wz w.heap.size L T from fun wz hz => hA.below hz hA.lt)
  have KF := Lib.hid (show ∀ wz, Below w1.heap.size w1 wz → wz.heap[w.heap.size + 1]? = some (.cells #[.func (.func f) #[] #[]] 78 (0, 0)) from fun wz h => (h.block _ (lt_of_block hf)).trans hf)
  have HH := Lib.hid H
  have HE := Lib.hid he
  have n6 : (L.length : Int) ≤ 6 := l6
  have n1 : 1 ≤ (L.length : Int) := l1
  clear hA hf h H he l1 l6
  go_enter Try.func38, Try.ntmps38
  go_wp2_with (first
    | (rw [← hw1]; clear hw1)
    | (go_at_call 67; refine (allTwo_any 68 #[.pointer (some ⟨w.heap.size + 1, 0, none⟩), .pointer (some ⟨w.heap.size, 0, none⟩)] L.length p w1 (by omega) n6 enters_hasClo (fun x y wr x0 x1 y0 y1 hb => hasClo_any f p L T (w.heap.size + 1) w.heap.size x y wr (KF.out _ hb) (KA.out _ hb) HE.out (HH.out x y x0 x1 y0 y1))).mono ?_; rintro e w2 ⟨rfl, h2⟩))
  go_ret
  exact ⟨rfl, hB.trans (h2.mono hB.size)⟩
set_option maxRecDepth 100000 in
set_option maxHeartbeats 1000000 in
theorem implHas_0n (s : ByteArray) (q0 : (s.toList == [112, 114, 101, 108, 105, 110, 101, 97, 114]) = true) (a b : Option Addr) (ca cb : Nat) (L : List Int) (T : List (List Int)) (w : World) (hr : Rd w a L) (hT : RdT w b T) (h : algB L T = false) :
    Calls Try.prog 13 #[.string s, .agg #[.slice a L.length ca, .slice b T.length cb]] w fun e w' => e = .returned (.bool false) ∧ Below w.heap.size w w' := by
  obtain ⟨w1, hw1⟩ : ∃ w1, w1 = w.alloc (.cells #[.slice a L.length ca, .slice b T.length cb] 31) := ⟨_, rfl⟩
  have hB : Below w.heap.size w w1 := by rw [hw1]; exact (Below.refl _ _).alloc (Nat.le_refl _) _
  have hx1 : w1.heap[w.heap.size]? = some (.cells #[.slice a L.length ca, .slice b T.length cb] 31 (0, 0)) := by rw [hw1]; exact heap_alloc_new w _
  have Kx := Lib.hid (show ∀ wz, Below w1.heap.size w1 wz → wz.heap[w.heap.size]? = some (.cells #[.slice a L.length ca, .slice b T.length cb] 31 (0, 0)) from fun wz h => (h.block _ (lt_of_block hx1)).trans hx1)
  have KR := Lib.hid (show ∀ wz, Below w1.heap.size w1 wz → Rd wz a L from fun wz h => (hr.below hB).below h)
  have KT := Lib.hid (show ∀ wz, Below w1.heap.size w1 wz → RdT wz b T from fun wz h => (hT.below hB).below h)
  have HA := Lib.hid h
  have z1 : Below w1.heap.size w1 w1 := Below.refl _ _
  have Q0 := Lib.hid q0
  clear q0
  clear h hr hT hx1
  go_enter Try.func13, Try.ntmps13
  go_wp2_with (first
    | go_skip
    | (rw [← hw1]; clear hw1)
    | (go_at_call 37; refine (propertyOf_0 s Q0.out _).mono ?_; rintro e w9 ⟨rfl, rfl⟩)
    | (refine wpList_load_row_w rfl 31 _ rfl w.heap.size rfl _ _ _ _ (Kx.out _ z1) Try.underlying31 rfl (size_Alg _ _) ?_)
    | (go_at_call 24; refine (readAlgebra_no a b ca cb L T _ (KR.out _ z1) (KT.out _ z1) HA.out).mono ?_; rintro e w2 ⟨rfl, h2⟩; have z2 : Below w1.heap.size w1 w2 := h2; clear h2)
    | (refine wpList_store_row rfl 58 _ _ rfl w2.heap.size (zeroAlg) rfl rfl _ _ (heap_alloc_new w2 (.cells zeroAlg 58)) size_zeroAlg rfl one_zeroAlg ?_; rw [World.setRow_alloc_new]; obtain ⟨bl, hbl⟩ : ∃ bl, bl = w2.heap.size := ⟨_, rfl⟩; obtain ⟨w3, hw3⟩ : ∃ x, x = w2.alloc (.cells (zeroAlg) 58) := ⟨_, rfl⟩; rw [← hw3, ← hbl]; have q3 : Below w2.heap.size w2 w3 := (by rw [hw3]; exact (Below.refl _ _).alloc (Nat.le_refl _) _); have z3 : Below w1.heap.size w1 w3 := z2.trans (q3.mono z2.size); clear hw3 hbl q3 z2))
  go_ret
  exact ⟨rfl, hB.trans (Below.mono (by first | exact z4 | exact z3) hB.size)⟩
set_option maxRecDepth 100000 in
set_option maxHeartbeats 1000000 in
theorem implHas_0y (s : ByteArray) (q0 : (s.toList == [112, 114, 101, 108, 105, 110, 101, 97, 114]) = true) (a b : Option Addr) (ca cb : Nat) (L : List Int) (T : List (List Int)) (w : World) (hr : Rd w a L) (hT : RdT w b T) (h : algB L T = true) :
    Calls Try.prog 13 #[.string s, .agg #[.slice a L.length ca, .slice b T.length cb]] w fun e w' => e = .returned (.bool (hasB 0 L T)) ∧ Below w.heap.size w w' := by
  obtain ⟨w1, hw1⟩ : ∃ w1, w1 = w.alloc (.cells #[.slice a L.length ca, .slice b T.length cb] 31) := ⟨_, rfl⟩
  have hB : Below w.heap.size w w1 := by rw [hw1]; exact (Below.refl _ _).alloc (Nat.le_refl _) _
  have hx1 : w1.heap[w.heap.size]? = some (.cells #[.slice a L.length ca, .slice b T.length cb] 31 (0, 0)) := by rw [hw1]; exact heap_alloc_new w _
  have Kx := Lib.hid (show ∀ wz, Below w1.heap.size w1 wz → wz.heap[w.heap.size]? = some (.cells #[.slice a L.length ca, .slice b T.length cb] 31 (0, 0)) from fun wz h => (h.block _ (lt_of_block hx1)).trans hx1)
  have KR := Lib.hid (show ∀ wz, Below w1.heap.size w1 wz → Rd wz a L from fun wz h => (hr.below hB).below h)
  have KT := Lib.hid (show ∀ wz, Below w1.heap.size w1 wz → RdT wz b T from fun wz h => (hT.below hB).below h)
  have HA := Lib.hid h
  have z1 : Below w1.heap.size w1 w1 := Below.refl _ _
  have Q0 := Lib.hid q0
  clear q0
  clear h hr hT hx1
  go_enter Try.func13, Try.ntmps13
  go_wp2_with (first
    | go_skip
    | (rw [← hw1]; clear hw1)
    | (go_at_call 37; refine (propertyOf_0 s Q0.out _).mono ?_; rintro e w9 ⟨rfl, rfl⟩)
    | (refine wpList_load_row_w rfl 31 _ rfl w.heap.size rfl _ _ _ _ (Kx.out _ z1) Try.underlying31 rfl (size_Alg _ _) ?_)
    | (go_at_call 24; refine (readAlgebra_yes a b ca cb L T _ (KR.out _ z1) (KT.out _ z1) HA.out).mono ?_; rintro e w2 ⟨rfl, h2⟩; have z2 : Below w1.heap.size w1 w2 := h2; clear h2)
    | (refine wpList_store_row rfl 58 _ _ rfl w2.heap.size (algOf L T) rfl rfl _ _ (heap_alloc_new w2 (.cells zeroAlg 58)) (size_alg _ _ _ _ _ _) rfl (one_alg _ _ _ _ _ _) ?_; rw [World.setRow_alloc_new]; obtain ⟨bl, hbl⟩ : ∃ bl, bl = w2.heap.size := ⟨_, rfl⟩; obtain ⟨w3, hw3⟩ : ∃ x, x = w2.alloc (.cells (algOf L T) 58) := ⟨_, rfl⟩; rw [← hw3, ← hbl]; have q3 : Below w2.heap.size w2 w3 := (by rw [hw3]; exact (Below.refl _ _).alloc (Nat.le_refl _) _); have hA : AlgAt w3 bl L T := (by rw [hw3, hbl]; exact AlgAt.new w2 L T); have z3 : Below w1.heap.size w1 w3 := z2.trans (q3.mono z2.size); clear hw3 hbl q3 z2)
    | (refine wpList_load_row_w rfl 58 _ rfl bl rfl _ _ _ _ hA Try.underlying58 rfl (size_alg _ _ _ _ _ _) ?_)
    | (go_at_call 38; refine (hasProp_any 60 (prQ0 L T) L T w3 HA.out enters_pr0 (fun x y x0 x1 y0 y1 wr => prClo_0 L T x y wr HA.out x0 x1 y0 y1)).mono ?_; rintro e w4 ⟨rfl, h4⟩; have z4 : Below w1.heap.size w1 w4 := z3.trans (h4.mono z3.size); clear z3 h4))
  go_ret
  exact ⟨rfl, hB.trans (Below.mono (by first | exact z4 | exact z3) hB.size)⟩
set_option maxRecDepth 100000 in
set_option maxHeartbeats 1000000 in
theorem implHas_1n (s : ByteArray) (q0 : (s.toList == [112, 114, 101, 108, 105, 110, 101, 97, 114]) = false) (q1 : (s.toList == [100, 105, 118, 105, 115, 105, 98, 108, 101]) = true) (a b : Option Addr) (ca cb : Nat) (L : List Int) (T : List (List Int)) (w : World) (hr : Rd w a L) (hT : RdT w b T) (h : algB L T = false) :
    Calls Try.prog 13 #[.string s, .agg #[.slice a L.length ca, .slice b T.length cb]] w fun e w' => e = .returned (.bool false) ∧ Below w.heap.size w w' := by
  obtain ⟨w1, hw1⟩ : ∃ w1, w1 = w.alloc (.cells #[.slice a L.length ca, .slice b T.length cb] 31) := ⟨_, rfl⟩
  have hB : Below w.heap.size w w1 := by rw [hw1]; exact (Below.refl _ _).alloc (Nat.le_refl _) _
  have hx1 : w1.heap[w.heap.size]? = some (.cells #[.slice a L.length ca, .slice b T.length cb] 31 (0, 0)) := by rw [hw1]; exact heap_alloc_new w _
  have Kx := Lib.hid (show ∀ wz, Below w1.heap.size w1 wz → wz.heap[w.heap.size]? = some (.cells #[.slice a L.length ca, .slice b T.length cb] 31 (0, 0)) from fun wz h => (h.block _ (lt_of_block hx1)).trans hx1)
  have KR := Lib.hid (show ∀ wz, Below w1.heap.size w1 wz → Rd wz a L from fun wz h => (hr.below hB).below h)
  have KT := Lib.hid (show ∀ wz, Below w1.heap.size w1 wz → RdT wz b T from fun wz h => (hT.below hB).below h)
  have HA := Lib.hid h
  have z1 : Below w1.heap.size w1 w1 := Below.refl _ _
  have Q0 := Lib.hid q0
  have Q1 := Lib.hid q1
  clear q0 q1
  clear h hr hT hx1
  go_enter Try.func13, Try.ntmps13
  go_wp2_with (first
    | go_skip
    | (rw [← hw1]; clear hw1)
    | (go_at_call 37; refine (propertyOf_1 s Q0.out Q1.out _).mono ?_; rintro e w9 ⟨rfl, rfl⟩)
    | (refine wpList_load_row_w rfl 31 _ rfl w.heap.size rfl _ _ _ _ (Kx.out _ z1) Try.underlying31 rfl (size_Alg _ _) ?_)
    | (go_at_call 24; refine (readAlgebra_no a b ca cb L T _ (KR.out _ z1) (KT.out _ z1) HA.out).mono ?_; rintro e w2 ⟨rfl, h2⟩; have z2 : Below w1.heap.size w1 w2 := h2; clear h2)
    | (refine wpList_store_row rfl 58 _ _ rfl w2.heap.size (zeroAlg) rfl rfl _ _ (heap_alloc_new w2 (.cells zeroAlg 58)) size_zeroAlg rfl one_zeroAlg ?_; rw [World.setRow_alloc_new]; obtain ⟨bl, hbl⟩ : ∃ bl, bl = w2.heap.size := ⟨_, rfl⟩; obtain ⟨w3, hw3⟩ : ∃ x, x = w2.alloc (.cells (zeroAlg) 58) := ⟨_, rfl⟩; rw [← hw3, ← hbl]; have q3 : Below w2.heap.size w2 w3 := (by rw [hw3]; exact (Below.refl _ _).alloc (Nat.le_refl _) _); have z3 : Below w1.heap.size w1 w3 := z2.trans (q3.mono z2.size); clear hw3 hbl q3 z2))
  go_ret
  exact ⟨rfl, hB.trans (Below.mono (by first | exact z4 | exact z3) hB.size)⟩
set_option maxRecDepth 100000 in
set_option maxHeartbeats 1000000 in
theorem implHas_1y (s : ByteArray) (q0 : (s.toList == [112, 114, 101, 108, 105, 110, 101, 97, 114]) = false) (q1 : (s.toList == [100, 105, 118, 105, 115, 105, 98, 108, 101]) = true) (a b : Option Addr) (ca cb : Nat) (L : List Int) (T : List (List Int)) (w : World) (hr : Rd w a L) (hT : RdT w b T) (h : algB L T = true) :
    Calls Try.prog 13 #[.string s, .agg #[.slice a L.length ca, .slice b T.length cb]] w fun e w' => e = .returned (.bool (hasB 1 L T)) ∧ Below w.heap.size w w' := by
  obtain ⟨w1, hw1⟩ : ∃ w1, w1 = w.alloc (.cells #[.slice a L.length ca, .slice b T.length cb] 31) := ⟨_, rfl⟩
  have hB : Below w.heap.size w w1 := by rw [hw1]; exact (Below.refl _ _).alloc (Nat.le_refl _) _
  have hx1 : w1.heap[w.heap.size]? = some (.cells #[.slice a L.length ca, .slice b T.length cb] 31 (0, 0)) := by rw [hw1]; exact heap_alloc_new w _
  have Kx := Lib.hid (show ∀ wz, Below w1.heap.size w1 wz → wz.heap[w.heap.size]? = some (.cells #[.slice a L.length ca, .slice b T.length cb] 31 (0, 0)) from fun wz h => (h.block _ (lt_of_block hx1)).trans hx1)
  have KR := Lib.hid (show ∀ wz, Below w1.heap.size w1 wz → Rd wz a L from fun wz h => (hr.below hB).below h)
  have KT := Lib.hid (show ∀ wz, Below w1.heap.size w1 wz → RdT wz b T from fun wz h => (hT.below hB).below h)
  have HA := Lib.hid h
  have z1 : Below w1.heap.size w1 w1 := Below.refl _ _
  have Q0 := Lib.hid q0
  have Q1 := Lib.hid q1
  clear q0 q1
  clear h hr hT hx1
  go_enter Try.func13, Try.ntmps13
  go_wp2_with (first
    | go_skip
    | (rw [← hw1]; clear hw1)
    | (go_at_call 37; refine (propertyOf_1 s Q0.out Q1.out _).mono ?_; rintro e w9 ⟨rfl, rfl⟩)
    | (refine wpList_load_row_w rfl 31 _ rfl w.heap.size rfl _ _ _ _ (Kx.out _ z1) Try.underlying31 rfl (size_Alg _ _) ?_)
    | (go_at_call 24; refine (readAlgebra_yes a b ca cb L T _ (KR.out _ z1) (KT.out _ z1) HA.out).mono ?_; rintro e w2 ⟨rfl, h2⟩; have z2 : Below w1.heap.size w1 w2 := h2; clear h2)
    | (refine wpList_store_row rfl 58 _ _ rfl w2.heap.size (algOf L T) rfl rfl _ _ (heap_alloc_new w2 (.cells zeroAlg 58)) (size_alg _ _ _ _ _ _) rfl (one_alg _ _ _ _ _ _) ?_; rw [World.setRow_alloc_new]; obtain ⟨bl, hbl⟩ : ∃ bl, bl = w2.heap.size := ⟨_, rfl⟩; obtain ⟨w3, hw3⟩ : ∃ x, x = w2.alloc (.cells (algOf L T) 58) := ⟨_, rfl⟩; rw [← hw3, ← hbl]; have q3 : Below w2.heap.size w2 w3 := (by rw [hw3]; exact (Below.refl _ _).alloc (Nat.le_refl _) _); have hA : AlgAt w3 bl L T := (by rw [hw3, hbl]; exact AlgAt.new w2 L T); have z3 : Below w1.heap.size w1 w3 := z2.trans (q3.mono z2.size); clear hw3 hbl q3 z2)
    | (refine wpList_load_row_w rfl 58 _ rfl bl rfl _ _ _ _ hA Try.underlying58 rfl (size_alg _ _ _ _ _ _) ?_)
    | (go_at_call 38; refine (hasProp_any 61 (prQ1 L T) L T w3 HA.out enters_pr1 (fun x y x0 x1 y0 y1 wr => prClo_1 L T x y wr HA.out x0 x1 y0 y1)).mono ?_; rintro e w4 ⟨rfl, h4⟩; have z4 : Below w1.heap.size w1 w4 := z3.trans (h4.mono z3.size); clear z3 h4))
  go_ret
  exact ⟨rfl, hB.trans (Below.mono (by first | exact z4 | exact z3) hB.size)⟩
set_option maxRecDepth 100000 in
set_option maxHeartbeats 1000000 in
theorem implHas_2n (s : ByteArray) (q0 : (s.toList == [112, 114, 101, 108, 105, 110, 101, 97, 114]) = false) (q1 : (s.toList == [100, 105, 118, 105, 115, 105, 98, 108, 101]) = false) (q2 : (s.toList == [105, 110, 118, 111, 108, 117, 116, 105, 118, 101]) = true) (a b : Option Addr) (ca cb : Nat) (L : List Int) (T : List (List Int)) (w : World) (hr : Rd w a L) (hT : RdT w b T) (h : algB L T = false) :
    Calls Try.prog 13 #[.string s, .agg #[.slice a L.length ca, .slice b T.length cb]] w fun e w' => e = .returned (.bool false) ∧ Below w.heap.size w w' := by
  obtain ⟨w1, hw1⟩ : ∃ w1, w1 = w.alloc (.cells #[.slice a L.length ca, .slice b T.length cb] 31) := ⟨_, rfl⟩
  have hB : Below w.heap.size w w1 := by rw [hw1]; exact (Below.refl _ _).alloc (Nat.le_refl _) _
  have hx1 : w1.heap[w.heap.size]? = some (.cells #[.slice a L.length ca, .slice b T.length cb] 31 (0, 0)) := by rw [hw1]; exact heap_alloc_new w _
  have Kx := Lib.hid (show ∀ wz, Below w1.heap.size w1 wz → wz.heap[w.heap.size]? = some (.cells #[.slice a L.length ca, .slice b T.length cb] 31 (0, 0)) from fun wz h => (h.block _ (lt_of_block hx1)).trans hx1)
  have KR := Lib.hid (show ∀ wz, Below w1.heap.size w1 wz → Rd wz a L from fun wz h => (hr.below hB).below h)
  have KT := Lib.hid (show ∀ wz, Below w1.heap.size w1 wz → RdT wz b T from fun wz h => (hT.below hB).below h)
  have HA := Lib.hid h
  have z1 : Below w1.heap.size w1 w1 := Below.refl _ _
  have Q0 := Lib.hid q0
  have Q1 := Lib.hid q1
  have Q2 := Lib.hid q2
  clear q0 q1 q2
  clear h hr hT hx1
  go_enter Try.func13, Try.ntmps13
  go_wp2_with (first
    | go_skip
    | (rw [← hw1]; clear hw1)
    | (go_at_call 37; refine (propertyOf_2 s Q0.out Q1.out Q2.out _).mono ?_; rintro e w9 ⟨rfl, rfl⟩)
    | (refine wpList_load_row_w rfl 31 _ rfl w.heap.size rfl _ _ _ _ (Kx.out _ z1) Try.underlying31 rfl (size_Alg _ _) ?_)
    | (go_at_call 24; refine (readAlgebra_no a b ca cb L T _ (KR.out _ z1) (KT.out _ z1) HA.out).mono ?_; rintro e w2 ⟨rfl, h2⟩; have z2 : Below w1.heap.size w1 w2 := h2; clear h2)
    | (refine wpList_store_row rfl 58 _ _ rfl w2.heap.size (zeroAlg) rfl rfl _ _ (heap_alloc_new w2 (.cells zeroAlg 58)) size_zeroAlg rfl one_zeroAlg ?_; rw [World.setRow_alloc_new]; obtain ⟨bl, hbl⟩ : ∃ bl, bl = w2.heap.size := ⟨_, rfl⟩; obtain ⟨w3, hw3⟩ : ∃ x, x = w2.alloc (.cells (zeroAlg) 58) := ⟨_, rfl⟩; rw [← hw3, ← hbl]; have q3 : Below w2.heap.size w2 w3 := (by rw [hw3]; exact (Below.refl _ _).alloc (Nat.le_refl _) _); have z3 : Below w1.heap.size w1 w3 := z2.trans (q3.mono z2.size); clear hw3 hbl q3 z2))
  go_ret
  exact ⟨rfl, hB.trans (Below.mono (by first | exact z4 | exact z3) hB.size)⟩
set_option maxRecDepth 100000 in
set_option maxHeartbeats 1000000 in
theorem implHas_2y (s : ByteArray) (q0 : (s.toList == [112, 114, 101, 108, 105, 110, 101, 97, 114]) = false) (q1 : (s.toList == [100, 105, 118, 105, 115, 105, 98, 108, 101]) = false) (q2 : (s.toList == [105, 110, 118, 111, 108, 117, 116, 105, 118, 101]) = true) (a b : Option Addr) (ca cb : Nat) (L : List Int) (T : List (List Int)) (w : World) (hr : Rd w a L) (hT : RdT w b T) (h : algB L T = true) :
    Calls Try.prog 13 #[.string s, .agg #[.slice a L.length ca, .slice b T.length cb]] w fun e w' => e = .returned (.bool (hasB 2 L T)) ∧ Below w.heap.size w w' := by
  obtain ⟨w1, hw1⟩ : ∃ w1, w1 = w.alloc (.cells #[.slice a L.length ca, .slice b T.length cb] 31) := ⟨_, rfl⟩
  have hB : Below w.heap.size w w1 := by rw [hw1]; exact (Below.refl _ _).alloc (Nat.le_refl _) _
  have hx1 : w1.heap[w.heap.size]? = some (.cells #[.slice a L.length ca, .slice b T.length cb] 31 (0, 0)) := by rw [hw1]; exact heap_alloc_new w _
  have Kx := Lib.hid (show ∀ wz, Below w1.heap.size w1 wz → wz.heap[w.heap.size]? = some (.cells #[.slice a L.length ca, .slice b T.length cb] 31 (0, 0)) from fun wz h => (h.block _ (lt_of_block hx1)).trans hx1)
  have KR := Lib.hid (show ∀ wz, Below w1.heap.size w1 wz → Rd wz a L from fun wz h => (hr.below hB).below h)
  have KT := Lib.hid (show ∀ wz, Below w1.heap.size w1 wz → RdT wz b T from fun wz h => (hT.below hB).below h)
  have HA := Lib.hid h
  have z1 : Below w1.heap.size w1 w1 := Below.refl _ _
  have Q0 := Lib.hid q0
  have Q1 := Lib.hid q1
  have Q2 := Lib.hid q2
  clear q0 q1 q2
  clear h hr hT hx1
  go_enter Try.func13, Try.ntmps13
  go_wp2_with (first
    | go_skip
    | (rw [← hw1]; clear hw1)
    | (go_at_call 37; refine (propertyOf_2 s Q0.out Q1.out Q2.out _).mono ?_; rintro e w9 ⟨rfl, rfl⟩)
    | (refine wpList_load_row_w rfl 31 _ rfl w.heap.size rfl _ _ _ _ (Kx.out _ z1) Try.underlying31 rfl (size_Alg _ _) ?_)
    | (go_at_call 24; refine (readAlgebra_yes a b ca cb L T _ (KR.out _ z1) (KT.out _ z1) HA.out).mono ?_; rintro e w2 ⟨rfl, h2⟩; have z2 : Below w1.heap.size w1 w2 := h2; clear h2)
    | (refine wpList_store_row rfl 58 _ _ rfl w2.heap.size (algOf L T) rfl rfl _ _ (heap_alloc_new w2 (.cells zeroAlg 58)) (size_alg _ _ _ _ _ _) rfl (one_alg _ _ _ _ _ _) ?_; rw [World.setRow_alloc_new]; obtain ⟨bl, hbl⟩ : ∃ bl, bl = w2.heap.size := ⟨_, rfl⟩; obtain ⟨w3, hw3⟩ : ∃ x, x = w2.alloc (.cells (algOf L T) 58) := ⟨_, rfl⟩; rw [← hw3, ← hbl]; have q3 : Below w2.heap.size w2 w3 := (by rw [hw3]; exact (Below.refl _ _).alloc (Nat.le_refl _) _); have hA : AlgAt w3 bl L T := (by rw [hw3, hbl]; exact AlgAt.new w2 L T); have z3 : Below w1.heap.size w1 w3 := z2.trans (q3.mono z2.size); clear hw3 hbl q3 z2)
    | (refine wpList_load_row_w rfl 58 _ rfl bl rfl _ _ _ _ hA Try.underlying58 rfl (size_alg _ _ _ _ _ _) ?_)
    | (go_at_call 38; refine (hasProp_any 62 (prQ2 L T) L T w3 HA.out enters_pr2 (fun x y x0 x1 y0 y1 wr => prClo_2 L T x y wr HA.out x0 x1 y0 y1)).mono ?_; rintro e w4 ⟨rfl, h4⟩; have z4 : Below w1.heap.size w1 w4 := z3.trans (h4.mono z3.size); clear z3 h4))
  go_ret
  exact ⟨rfl, hB.trans (Below.mono (by first | exact z4 | exact z3) hB.size)⟩
set_option maxRecDepth 100000 in
set_option maxHeartbeats 1000000 in
theorem implHas_3n (s : ByteArray) (q0 : (s.toList == [112, 114, 101, 108, 105, 110, 101, 97, 114]) = false) (q1 : (s.toList == [100, 105, 118, 105, 115, 105, 98, 108, 101]) = false) (q2 : (s.toList == [105, 110, 118, 111, 108, 117, 116, 105, 118, 101]) = false) (q3 : (s.toList == [105, 100, 101, 109, 112, 111, 116, 101, 110, 116]) = true) (a b : Option Addr) (ca cb : Nat) (L : List Int) (T : List (List Int)) (w : World) (hr : Rd w a L) (hT : RdT w b T) (h : algB L T = false) :
    Calls Try.prog 13 #[.string s, .agg #[.slice a L.length ca, .slice b T.length cb]] w fun e w' => e = .returned (.bool false) ∧ Below w.heap.size w w' := by
  obtain ⟨w1, hw1⟩ : ∃ w1, w1 = w.alloc (.cells #[.slice a L.length ca, .slice b T.length cb] 31) := ⟨_, rfl⟩
  have hB : Below w.heap.size w w1 := by rw [hw1]; exact (Below.refl _ _).alloc (Nat.le_refl _) _
  have hx1 : w1.heap[w.heap.size]? = some (.cells #[.slice a L.length ca, .slice b T.length cb] 31 (0, 0)) := by rw [hw1]; exact heap_alloc_new w _
  have Kx := Lib.hid (show ∀ wz, Below w1.heap.size w1 wz → wz.heap[w.heap.size]? = some (.cells #[.slice a L.length ca, .slice b T.length cb] 31 (0, 0)) from fun wz h => (h.block _ (lt_of_block hx1)).trans hx1)
  have KR := Lib.hid (show ∀ wz, Below w1.heap.size w1 wz → Rd wz a L from fun wz h => (hr.below hB).below h)
  have KT := Lib.hid (show ∀ wz, Below w1.heap.size w1 wz → RdT wz b T from fun wz h => (hT.below hB).below h)
  have HA := Lib.hid h
  have z1 : Below w1.heap.size w1 w1 := Below.refl _ _
  have Q0 := Lib.hid q0
  have Q1 := Lib.hid q1
  have Q2 := Lib.hid q2
  have Q3 := Lib.hid q3
  clear q0 q1 q2 q3
  clear h hr hT hx1
  go_enter Try.func13, Try.ntmps13
  go_wp2_with (first
    | go_skip
    | (rw [← hw1]; clear hw1)
    | (go_at_call 37; refine (propertyOf_3 s Q0.out Q1.out Q2.out Q3.out _).mono ?_; rintro e w9 ⟨rfl, rfl⟩)
    | (refine wpList_load_row_w rfl 31 _ rfl w.heap.size rfl _ _ _ _ (Kx.out _ z1) Try.underlying31 rfl (size_Alg _ _) ?_)
    | (go_at_call 24; refine (readAlgebra_no a b ca cb L T _ (KR.out _ z1) (KT.out _ z1) HA.out).mono ?_; rintro e w2 ⟨rfl, h2⟩; have z2 : Below w1.heap.size w1 w2 := h2; clear h2)
    | (refine wpList_store_row rfl 58 _ _ rfl w2.heap.size (zeroAlg) rfl rfl _ _ (heap_alloc_new w2 (.cells zeroAlg 58)) size_zeroAlg rfl one_zeroAlg ?_; rw [World.setRow_alloc_new]; obtain ⟨bl, hbl⟩ : ∃ bl, bl = w2.heap.size := ⟨_, rfl⟩; obtain ⟨w3, hw3⟩ : ∃ x, x = w2.alloc (.cells (zeroAlg) 58) := ⟨_, rfl⟩; rw [← hw3, ← hbl]; have q3 : Below w2.heap.size w2 w3 := (by rw [hw3]; exact (Below.refl _ _).alloc (Nat.le_refl _) _); have z3 : Below w1.heap.size w1 w3 := z2.trans (q3.mono z2.size); clear hw3 hbl q3 z2))
  go_ret
  exact ⟨rfl, hB.trans (Below.mono (by first | exact z4 | exact z3) hB.size)⟩
set_option maxRecDepth 100000 in
set_option maxHeartbeats 1000000 in
theorem implHas_3y (s : ByteArray) (q0 : (s.toList == [112, 114, 101, 108, 105, 110, 101, 97, 114]) = false) (q1 : (s.toList == [100, 105, 118, 105, 115, 105, 98, 108, 101]) = false) (q2 : (s.toList == [105, 110, 118, 111, 108, 117, 116, 105, 118, 101]) = false) (q3 : (s.toList == [105, 100, 101, 109, 112, 111, 116, 101, 110, 116]) = true) (a b : Option Addr) (ca cb : Nat) (L : List Int) (T : List (List Int)) (w : World) (hr : Rd w a L) (hT : RdT w b T) (h : algB L T = true) :
    Calls Try.prog 13 #[.string s, .agg #[.slice a L.length ca, .slice b T.length cb]] w fun e w' => e = .returned (.bool (hasB 3 L T)) ∧ Below w.heap.size w w' := by
  obtain ⟨w1, hw1⟩ : ∃ w1, w1 = w.alloc (.cells #[.slice a L.length ca, .slice b T.length cb] 31) := ⟨_, rfl⟩
  have hB : Below w.heap.size w w1 := by rw [hw1]; exact (Below.refl _ _).alloc (Nat.le_refl _) _
  have hx1 : w1.heap[w.heap.size]? = some (.cells #[.slice a L.length ca, .slice b T.length cb] 31 (0, 0)) := by rw [hw1]; exact heap_alloc_new w _
  have Kx := Lib.hid (show ∀ wz, Below w1.heap.size w1 wz → wz.heap[w.heap.size]? = some (.cells #[.slice a L.length ca, .slice b T.length cb] 31 (0, 0)) from fun wz h => (h.block _ (lt_of_block hx1)).trans hx1)
  have KR := Lib.hid (show ∀ wz, Below w1.heap.size w1 wz → Rd wz a L from fun wz h => (hr.below hB).below h)
  have KT := Lib.hid (show ∀ wz, Below w1.heap.size w1 wz → RdT wz b T from fun wz h => (hT.below hB).below h)
  have HA := Lib.hid h
  have z1 : Below w1.heap.size w1 w1 := Below.refl _ _
  have Q0 := Lib.hid q0
  have Q1 := Lib.hid q1
  have Q2 := Lib.hid q2
  have Q3 := Lib.hid q3
  clear q0 q1 q2 q3
  clear h hr hT hx1
  go_enter Try.func13, Try.ntmps13
  go_wp2_with (first
    | go_skip
    | (rw [← hw1]; clear hw1)
    | (go_at_call 37; refine (propertyOf_3 s Q0.out Q1.out Q2.out Q3.out _).mono ?_; rintro e w9 ⟨rfl, rfl⟩)
    | (refine wpList_load_row_w rfl 31 _ rfl w.heap.size rfl _ _ _ _ (Kx.out _ z1) Try.underlying31 rfl (size_Alg _ _) ?_)
    | (go_at_call 24; refine (readAlgebra_yes a b ca cb L T _ (KR.out _ z1) (KT.out _ z1) HA.out).mono ?_; rintro e w2 ⟨rfl, h2⟩; have z2 : Below w1.heap.size w1 w2 := h2; clear h2)
    | (refine wpList_store_row rfl 58 _ _ rfl w2.heap.size (algOf L T) rfl rfl _ _ (heap_alloc_new w2 (.cells zeroAlg 58)) (size_alg _ _ _ _ _ _) rfl (one_alg _ _ _ _ _ _) ?_; rw [World.setRow_alloc_new]; obtain ⟨bl, hbl⟩ : ∃ bl, bl = w2.heap.size := ⟨_, rfl⟩; obtain ⟨w3, hw3⟩ : ∃ x, x = w2.alloc (.cells (algOf L T) 58) := ⟨_, rfl⟩; rw [← hw3, ← hbl]; have q3 : Below w2.heap.size w2 w3 := (by rw [hw3]; exact (Below.refl _ _).alloc (Nat.le_refl _) _); have hA : AlgAt w3 bl L T := (by rw [hw3, hbl]; exact AlgAt.new w2 L T); have z3 : Below w1.heap.size w1 w3 := z2.trans (q3.mono z2.size); clear hw3 hbl q3 z2)
    | (refine wpList_load_row_w rfl 58 _ rfl bl rfl _ _ _ _ hA Try.underlying58 rfl (size_alg _ _ _ _ _ _) ?_)
    | (go_at_call 38; refine (hasProp_any 64 (prQ3 L T) L T w3 HA.out enters_pr3 (fun x y x0 x1 y0 y1 wr => prClo_3 L T x y wr HA.out x0 x1 y0 y1)).mono ?_; rintro e w4 ⟨rfl, h4⟩; have z4 : Below w1.heap.size w1 w4 := z3.trans (h4.mono z3.size); clear z3 h4))
  go_ret
  exact ⟨rfl, hB.trans (Below.mono (by first | exact z4 | exact z3) hB.size)⟩
set_option maxRecDepth 100000 in
set_option maxHeartbeats 1000000 in
theorem implHas_4n (s : ByteArray) (q0 : (s.toList == [112, 114, 101, 108, 105, 110, 101, 97, 114]) = false) (q1 : (s.toList == [100, 105, 118, 105, 115, 105, 98, 108, 101]) = false) (q2 : (s.toList == [105, 110, 118, 111, 108, 117, 116, 105, 118, 101]) = false) (q3 : (s.toList == [105, 100, 101, 109, 112, 111, 116, 101, 110, 116]) = false) (q4 : (s.toList == [98, 111, 111, 108, 101, 97, 110]) = true) (a b : Option Addr) (ca cb : Nat) (L : List Int) (T : List (List Int)) (w : World) (hr : Rd w a L) (hT : RdT w b T) (h : algB L T = false) :
    Calls Try.prog 13 #[.string s, .agg #[.slice a L.length ca, .slice b T.length cb]] w fun e w' => e = .returned (.bool false) ∧ Below w.heap.size w w' := by
  obtain ⟨w1, hw1⟩ : ∃ w1, w1 = w.alloc (.cells #[.slice a L.length ca, .slice b T.length cb] 31) := ⟨_, rfl⟩
  have hB : Below w.heap.size w w1 := by rw [hw1]; exact (Below.refl _ _).alloc (Nat.le_refl _) _
  have hx1 : w1.heap[w.heap.size]? = some (.cells #[.slice a L.length ca, .slice b T.length cb] 31 (0, 0)) := by rw [hw1]; exact heap_alloc_new w _
  have Kx := Lib.hid (show ∀ wz, Below w1.heap.size w1 wz → wz.heap[w.heap.size]? = some (.cells #[.slice a L.length ca, .slice b T.length cb] 31 (0, 0)) from fun wz h => (h.block _ (lt_of_block hx1)).trans hx1)
  have KR := Lib.hid (show ∀ wz, Below w1.heap.size w1 wz → Rd wz a L from fun wz h => (hr.below hB).below h)
  have KT := Lib.hid (show ∀ wz, Below w1.heap.size w1 wz → RdT wz b T from fun wz h => (hT.below hB).below h)
  have HA := Lib.hid h
  have z1 : Below w1.heap.size w1 w1 := Below.refl _ _
  have Q0 := Lib.hid q0
  have Q1 := Lib.hid q1
  have Q2 := Lib.hid q2
  have Q3 := Lib.hid q3
  have Q4 := Lib.hid q4
  clear q0 q1 q2 q3 q4
  clear h hr hT hx1
  go_enter Try.func13, Try.ntmps13
  go_wp2_with (first
    | go_skip
    | (rw [← hw1]; clear hw1)
    | (go_at_call 37; refine (propertyOf_4 s Q0.out Q1.out Q2.out Q3.out Q4.out _).mono ?_; rintro e w9 ⟨rfl, rfl⟩)
    | (refine wpList_load_row_w rfl 31 _ rfl w.heap.size rfl _ _ _ _ (Kx.out _ z1) Try.underlying31 rfl (size_Alg _ _) ?_)
    | (go_at_call 24; refine (readAlgebra_no a b ca cb L T _ (KR.out _ z1) (KT.out _ z1) HA.out).mono ?_; rintro e w2 ⟨rfl, h2⟩; have z2 : Below w1.heap.size w1 w2 := h2; clear h2)
    | (refine wpList_store_row rfl 58 _ _ rfl w2.heap.size (zeroAlg) rfl rfl _ _ (heap_alloc_new w2 (.cells zeroAlg 58)) size_zeroAlg rfl one_zeroAlg ?_; rw [World.setRow_alloc_new]; obtain ⟨bl, hbl⟩ : ∃ bl, bl = w2.heap.size := ⟨_, rfl⟩; obtain ⟨w3, hw3⟩ : ∃ x, x = w2.alloc (.cells (zeroAlg) 58) := ⟨_, rfl⟩; rw [← hw3, ← hbl]; have q3 : Below w2.heap.size w2 w3 := (by rw [hw3]; exact (Below.refl _ _).alloc (Nat.le_refl _) _); have z3 : Below w1.heap.size w1 w3 := z2.trans (q3.mono z2.size); clear hw3 hbl q3 z2))
  go_ret
  exact ⟨rfl, hB.trans (Below.mono (by first | exact z4 | exact z3) hB.size)⟩
set_option maxRecDepth 100000 in
set_option maxHeartbeats 1000000 in
theorem implHas_4y (s : ByteArray) (q0 : (s.toList == [112, 114, 101, 108, 105, 110, 101, 97, 114]) = false) (q1 : (s.toList == [100, 105, 118, 105, 115, 105, 98, 108, 101]) = false) (q2 : (s.toList == [105, 110, 118, 111, 108, 117, 116, 105, 118, 101]) = false) (q3 : (s.toList == [105, 100, 101, 109, 112, 111, 116, 101, 110, 116]) = false) (q4 : (s.toList == [98, 111, 111, 108, 101, 97, 110]) = true) (a b : Option Addr) (ca cb : Nat) (L : List Int) (T : List (List Int)) (w : World) (hr : Rd w a L) (hT : RdT w b T) (h : algB L T = true) :
    Calls Try.prog 13 #[.string s, .agg #[.slice a L.length ca, .slice b T.length cb]] w fun e w' => e = .returned (.bool (hasB 4 L T)) ∧ Below w.heap.size w w' := by
  obtain ⟨w1, hw1⟩ : ∃ w1, w1 = w.alloc (.cells #[.slice a L.length ca, .slice b T.length cb] 31) := ⟨_, rfl⟩
  have hB : Below w.heap.size w w1 := by rw [hw1]; exact (Below.refl _ _).alloc (Nat.le_refl _) _
  have hx1 : w1.heap[w.heap.size]? = some (.cells #[.slice a L.length ca, .slice b T.length cb] 31 (0, 0)) := by rw [hw1]; exact heap_alloc_new w _
  have Kx := Lib.hid (show ∀ wz, Below w1.heap.size w1 wz → wz.heap[w.heap.size]? = some (.cells #[.slice a L.length ca, .slice b T.length cb] 31 (0, 0)) from fun wz h => (h.block _ (lt_of_block hx1)).trans hx1)
  have KR := Lib.hid (show ∀ wz, Below w1.heap.size w1 wz → Rd wz a L from fun wz h => (hr.below hB).below h)
  have KT := Lib.hid (show ∀ wz, Below w1.heap.size w1 wz → RdT wz b T from fun wz h => (hT.below hB).below h)
  have HA := Lib.hid h
  have z1 : Below w1.heap.size w1 w1 := Below.refl _ _
  have Q0 := Lib.hid q0
  have Q1 := Lib.hid q1
  have Q2 := Lib.hid q2
  have Q3 := Lib.hid q3
  have Q4 := Lib.hid q4
  clear q0 q1 q2 q3 q4
  clear h hr hT hx1
  go_enter Try.func13, Try.ntmps13
  go_wp2_with (first
    | go_skip
    | (rw [← hw1]; clear hw1)
    | (go_at_call 37; refine (propertyOf_4 s Q0.out Q1.out Q2.out Q3.out Q4.out _).mono ?_; rintro e w9 ⟨rfl, rfl⟩)
    | (refine wpList_load_row_w rfl 31 _ rfl w.heap.size rfl _ _ _ _ (Kx.out _ z1) Try.underlying31 rfl (size_Alg _ _) ?_)
    | (go_at_call 24; refine (readAlgebra_yes a b ca cb L T _ (KR.out _ z1) (KT.out _ z1) HA.out).mono ?_; rintro e w2 ⟨rfl, h2⟩; have z2 : Below w1.heap.size w1 w2 := h2; clear h2)
    | (refine wpList_store_row rfl 58 _ _ rfl w2.heap.size (algOf L T) rfl rfl _ _ (heap_alloc_new w2 (.cells zeroAlg 58)) (size_alg _ _ _ _ _ _) rfl (one_alg _ _ _ _ _ _) ?_; rw [World.setRow_alloc_new]; obtain ⟨bl, hbl⟩ : ∃ bl, bl = w2.heap.size := ⟨_, rfl⟩; obtain ⟨w3, hw3⟩ : ∃ x, x = w2.alloc (.cells (algOf L T) 58) := ⟨_, rfl⟩; rw [← hw3, ← hbl]; have q3 : Below w2.heap.size w2 w3 := (by rw [hw3]; exact (Below.refl _ _).alloc (Nat.le_refl _) _); have hA : AlgAt w3 bl L T := (by rw [hw3, hbl]; exact AlgAt.new w2 L T); have z3 : Below w1.heap.size w1 w3 := z2.trans (q3.mono z2.size); clear hw3 hbl q3 z2)
    | (refine wpList_load_row_w rfl 58 _ rfl bl rfl _ _ _ _ hA Try.underlying58 rfl (size_alg _ _ _ _ _ _) ?_)
    | (go_at_call 38; refine (hasProp_any 65 (prQ4 L T) L T w3 HA.out enters_pr4 (fun x y x0 x1 y0 y1 wr => prClo_4 L T x y wr HA.out x0 x1 y0 y1)).mono ?_; rintro e w4 ⟨rfl, h4⟩; have z4 : Below w1.heap.size w1 w4 := z3.trans (h4.mono z3.size); clear z3 h4))
  go_ret
  exact ⟨rfl, hB.trans (Below.mono (by first | exact z4 | exact z3) hB.size)⟩
set_option maxRecDepth 100000 in
set_option maxHeartbeats 1000000 in
theorem implHas_5n (s : ByteArray) (q0 : (s.toList == [112, 114, 101, 108, 105, 110, 101, 97, 114]) = false) (q1 : (s.toList == [100, 105, 118, 105, 115, 105, 98, 108, 101]) = false) (q2 : (s.toList == [105, 110, 118, 111, 108, 117, 116, 105, 118, 101]) = false) (q3 : (s.toList == [105, 100, 101, 109, 112, 111, 116, 101, 110, 116]) = false) (q4 : (s.toList == [98, 111, 111, 108, 101, 97, 110]) = false) (a b : Option Addr) (ca cb : Nat) (L : List Int) (T : List (List Int)) (w : World) (hr : Rd w a L) (hT : RdT w b T) (h : algB L T = false) :
    Calls Try.prog 13 #[.string s, .agg #[.slice a L.length ca, .slice b T.length cb]] w fun e w' => e = .returned (.bool false) ∧ Below w.heap.size w w' := by
  obtain ⟨w1, hw1⟩ : ∃ w1, w1 = w.alloc (.cells #[.slice a L.length ca, .slice b T.length cb] 31) := ⟨_, rfl⟩
  have hB : Below w.heap.size w w1 := by rw [hw1]; exact (Below.refl _ _).alloc (Nat.le_refl _) _
  have hx1 : w1.heap[w.heap.size]? = some (.cells #[.slice a L.length ca, .slice b T.length cb] 31 (0, 0)) := by rw [hw1]; exact heap_alloc_new w _
  have Kx := Lib.hid (show ∀ wz, Below w1.heap.size w1 wz → wz.heap[w.heap.size]? = some (.cells #[.slice a L.length ca, .slice b T.length cb] 31 (0, 0)) from fun wz h => (h.block _ (lt_of_block hx1)).trans hx1)
  have KR := Lib.hid (show ∀ wz, Below w1.heap.size w1 wz → Rd wz a L from fun wz h => (hr.below hB).below h)
  have KT := Lib.hid (show ∀ wz, Below w1.heap.size w1 wz → RdT wz b T from fun wz h => (hT.below hB).below h)
  have HA := Lib.hid h
  have z1 : Below w1.heap.size w1 w1 := Below.refl _ _
  have Q0 := Lib.hid q0
  have Q1 := Lib.hid q1
  have Q2 := Lib.hid q2
  have Q3 := Lib.hid q3
  have Q4 := Lib.hid q4
  clear q0 q1 q2 q3 q4
  clear h hr hT hx1
  go_enter Try.func13, Try.ntmps13
  go_wp2_with (first
    | go_skip
    | (rw [← hw1]; clear hw1)
    | (go_at_call 37; refine (propertyOf_5 s Q0.out Q1.out Q2.out Q3.out Q4.out _).mono ?_; rintro e w9 ⟨rfl, rfl⟩)
    | (refine wpList_load_row_w rfl 31 _ rfl w.heap.size rfl _ _ _ _ (Kx.out _ z1) Try.underlying31 rfl (size_Alg _ _) ?_)
    | (go_at_call 24; refine (readAlgebra_no a b ca cb L T _ (KR.out _ z1) (KT.out _ z1) HA.out).mono ?_; rintro e w2 ⟨rfl, h2⟩; have z2 : Below w1.heap.size w1 w2 := h2; clear h2)
    | (refine wpList_store_row rfl 58 _ _ rfl w2.heap.size (zeroAlg) rfl rfl _ _ (heap_alloc_new w2 (.cells zeroAlg 58)) size_zeroAlg rfl one_zeroAlg ?_; rw [World.setRow_alloc_new]; obtain ⟨bl, hbl⟩ : ∃ bl, bl = w2.heap.size := ⟨_, rfl⟩; obtain ⟨w3, hw3⟩ : ∃ x, x = w2.alloc (.cells (zeroAlg) 58) := ⟨_, rfl⟩; rw [← hw3, ← hbl]; have q3 : Below w2.heap.size w2 w3 := (by rw [hw3]; exact (Below.refl _ _).alloc (Nat.le_refl _) _); have z3 : Below w1.heap.size w1 w3 := z2.trans (q3.mono z2.size); clear hw3 hbl q3 z2))
  go_ret
  exact ⟨rfl, hB.trans (Below.mono (by first | exact z4 | exact z3) hB.size)⟩
set_option maxRecDepth 100000 in
set_option maxHeartbeats 1000000 in
theorem implHas_5y (s : ByteArray) (q0 : (s.toList == [112, 114, 101, 108, 105, 110, 101, 97, 114]) = false) (q1 : (s.toList == [100, 105, 118, 105, 115, 105, 98, 108, 101]) = false) (q2 : (s.toList == [105, 110, 118, 111, 108, 117, 116, 105, 118, 101]) = false) (q3 : (s.toList == [105, 100, 101, 109, 112, 111, 116, 101, 110, 116]) = false) (q4 : (s.toList == [98, 111, 111, 108, 101, 97, 110]) = false) (a b : Option Addr) (ca cb : Nat) (L : List Int) (T : List (List Int)) (w : World) (hr : Rd w a L) (hT : RdT w b T) (h : algB L T = true) :
    Calls Try.prog 13 #[.string s, .agg #[.slice a L.length ca, .slice b T.length cb]] w fun e w' => e = .returned (.bool false) ∧ Below w.heap.size w w' := by
  obtain ⟨w1, hw1⟩ : ∃ w1, w1 = w.alloc (.cells #[.slice a L.length ca, .slice b T.length cb] 31) := ⟨_, rfl⟩
  have hB : Below w.heap.size w w1 := by rw [hw1]; exact (Below.refl _ _).alloc (Nat.le_refl _) _
  have hx1 : w1.heap[w.heap.size]? = some (.cells #[.slice a L.length ca, .slice b T.length cb] 31 (0, 0)) := by rw [hw1]; exact heap_alloc_new w _
  have Kx := Lib.hid (show ∀ wz, Below w1.heap.size w1 wz → wz.heap[w.heap.size]? = some (.cells #[.slice a L.length ca, .slice b T.length cb] 31 (0, 0)) from fun wz h => (h.block _ (lt_of_block hx1)).trans hx1)
  have KR := Lib.hid (show ∀ wz, Below w1.heap.size w1 wz → Rd wz a L from fun wz h => (hr.below hB).below h)
  have KT := Lib.hid (show ∀ wz, Below w1.heap.size w1 wz → RdT wz b T from fun wz h => (hT.below hB).below h)
  have HA := Lib.hid h
  have z1 : Below w1.heap.size w1 w1 := Below.refl _ _
  have Q0 := Lib.hid q0
  have Q1 := Lib.hid q1
  have Q2 := Lib.hid q2
  have Q3 := Lib.hid q3
  have Q4 := Lib.hid q4
  clear q0 q1 q2 q3 q4
  clear h hr hT hx1
  go_enter Try.func13, Try.ntmps13
  go_wp2_with (first
    | go_skip
    | (rw [← hw1]; clear hw1)
    | (go_at_call 37; refine (propertyOf_5 s Q0.out Q1.out Q2.out Q3.out Q4.out _).mono ?_; rintro e w9 ⟨rfl, rfl⟩)
    | (refine wpList_load_row_w rfl 31 _ rfl w.heap.size rfl _ _ _ _ (Kx.out _ z1) Try.underlying31 rfl (size_Alg _ _) ?_)
    | (go_at_call 24; refine (readAlgebra_yes a b ca cb L T _ (KR.out _ z1) (KT.out _ z1) HA.out).mono ?_; rintro e w2 ⟨rfl, h2⟩; have z2 : Below w1.heap.size w1 w2 := h2; clear h2)
    | (refine wpList_store_row rfl 58 _ _ rfl w2.heap.size (algOf L T) rfl rfl _ _ (heap_alloc_new w2 (.cells zeroAlg 58)) (size_alg _ _ _ _ _ _) rfl (one_alg _ _ _ _ _ _) ?_; rw [World.setRow_alloc_new]; obtain ⟨bl, hbl⟩ : ∃ bl, bl = w2.heap.size := ⟨_, rfl⟩; obtain ⟨w3, hw3⟩ : ∃ x, x = w2.alloc (.cells (algOf L T) 58) := ⟨_, rfl⟩; rw [← hw3, ← hbl]; have q3 : Below w2.heap.size w2 w3 := (by rw [hw3]; exact (Below.refl _ _).alloc (Nat.le_refl _) _); have hA : AlgAt w3 bl L T := (by rw [hw3, hbl]; exact AlgAt.new w2 L T); have z3 : Below w1.heap.size w1 w3 := z2.trans (q3.mono z2.size); clear hw3 hbl q3 z2))
  go_ret
  exact ⟨rfl, hB.trans (Below.mono (by first | exact z4 | exact z3) hB.size)⟩
/-- what HasProperty answers -/
def hpB (s : ByteArray) (L : List Int) (T : List (List Int)) : Bool := algB L T && (decide (prIx s < 5) && hasB (prIx s) L T)
theorem prIx_0 {s : ByteArray} (q0 : (s.toList == [112, 114, 101, 108, 105, 110, 101, 97, 114]) = true) : prIx s = 0 := by unfold prIx; rw [if_pos q0]
theorem prIx_1 {s : ByteArray} (q0 : (s.toList == [112, 114, 101, 108, 105, 110, 101, 97, 114]) = false) (q1 : (s.toList == [100, 105, 118, 105, 115, 105, 98, 108, 101]) = true) : prIx s = 1 := by unfold prIx; rw [if_neg (by rw [q0]; decide), if_pos q1]
theorem prIx_2 {s : ByteArray} (q0 : (s.toList == [112, 114, 101, 108, 105, 110, 101, 97, 114]) = false) (q1 : (s.toList == [100, 105, 118, 105, 115, 105, 98, 108, 101]) = false) (q2 : (s.toList == [105, 110, 118, 111, 108, 117, 116, 105, 118, 101]) = true) : prIx s = 2 := by unfold prIx; rw [if_neg (by rw [q0]; decide), if_neg (by rw [q1]; decide), if_pos q2]
theorem prIx_3 {s : ByteArray} (q0 : (s.toList == [112, 114, 101, 108, 105, 110, 101, 97, 114]) = false) (q1 : (s.toList == [100, 105, 118, 105, 115, 105, 98, 108, 101]) = false) (q2 : (s.toList == [105, 110, 118, 111, 108, 117, 116, 105, 118, 101]) = false) (q3 : (s.toList == [105, 100, 101, 109, 112, 111, 116, 101, 110, 116]) = true) : prIx s = 3 := by unfold prIx; rw [if_neg (by rw [q0]; decide), if_neg (by rw [q1]; decide), if_neg (by rw [q2]; decide), if_pos q3]
theorem prIx_4 {s : ByteArray} (q0 : (s.toList == [112, 114, 101, 108, 105, 110, 101, 97, 114]) = false) (q1 : (s.toList == [100, 105, 118, 105, 115, 105, 98, 108, 101]) = false) (q2 : (s.toList == [105, 110, 118, 111, 108, 117, 116, 105, 118, 101]) = false) (q3 : (s.toList == [105, 100, 101, 109, 112, 111, 116, 101, 110, 116]) = false) (q4 : (s.toList == [98, 111, 111, 108, 101, 97, 110]) = true) : prIx s = 4 := by unfold prIx; rw [if_neg (by rw [q0]; decide), if_neg (by rw [q1]; decide), if_neg (by rw [q2]; decide), if_neg (by rw [q3]; decide), if_pos q4]
theorem prIx_5 {s : ByteArray} (q0 : (s.toList == [112, 114, 101, 108, 105, 110, 101, 97, 114]) = false) (q1 : (s.toList == [100, 105, 118, 105, 115, 105, 98, 108, 101]) = false) (q2 : (s.toList == [105, 110, 118, 111, 108, 117, 116, 105, 118, 101]) = false) (q3 : (s.toList == [105, 100, 101, 109, 112, 111, 116, 101, 110, 116]) = false) (q4 : (s.toList == [98, 111, 111, 108, 101, 97, 110]) = false) : prIx s = 5 := by unfold prIx; rw [if_neg (by rw [q0]; decide), if_neg (by rw [q1]; decide), if_neg (by rw [q2]; decide), if_neg (by rw [q3]; decide), if_neg (by rw [q4]; decide)]
theorem hp_0 {s : ByteArray} (q0 : (s.toList == [112, 114, 101, 108, 105, 110, 101, 97, 114]) = true) {L : List Int} {T : List (List Int)} (h : algB L T = true) : hpB s L T = hasB 0 L T := by unfold hpB; rw [h, prIx_0 q0]; rfl
theorem hp_1 {s : ByteArray} (q0 : (s.toList == [112, 114, 101, 108, 105, 110, 101, 97, 114]) = false) (q1 : (s.toList == [100, 105, 118, 105, 115, 105, 98, 108, 101]) = true) {L : List Int} {T : List (List Int)} (h : algB L T = true) : hpB s L T = hasB 1 L T := by unfold hpB; rw [h, prIx_1 q0 q1]; rfl
theorem hp_2 {s : ByteArray} (q0 : (s.toList == [112, 114, 101, 108, 105, 110, 101, 97, 114]) = false) (q1 : (s.toList == [100, 105, 118, 105, 115, 105, 98, 108, 101]) = false) (q2 : (s.toList == [105, 110, 118, 111, 108, 117, 116, 105, 118, 101]) = true) {L : List Int} {T : List (List Int)} (h : algB L T = true) : hpB s L T = hasB 2 L T := by unfold hpB; rw [h, prIx_2 q0 q1 q2]; rfl
theorem hp_3 {s : ByteArray} (q0 : (s.toList == [112, 114, 101, 108, 105, 110, 101, 97, 114]) = false) (q1 : (s.toList == [100, 105, 118, 105, 115, 105, 98, 108, 101]) = false) (q2 : (s.toList == [105, 110, 118, 111, 108, 117, 116, 105, 118, 101]) = false) (q3 : (s.toList == [105, 100, 101, 109, 112, 111, 116, 101, 110, 116]) = true) {L : List Int} {T : List (List Int)} (h : algB L T = true) : hpB s L T = hasB 3 L T := by unfold hpB; rw [h, prIx_3 q0 q1 q2 q3]; rfl
theorem hp_4 {s : ByteArray} (q0 : (s.toList == [112, 114, 101, 108, 105, 110, 101, 97, 114]) = false) (q1 : (s.toList == [100, 105, 118, 105, 115, 105, 98, 108, 101]) = false) (q2 : (s.toList == [105, 110, 118, 111, 108, 117, 116, 105, 118, 101]) = false) (q3 : (s.toList == [105, 100, 101, 109, 112, 111, 116, 101, 110, 116]) = false) (q4 : (s.toList == [98, 111, 111, 108, 101, 97, 110]) = true) {L : List Int} {T : List (List Int)} (h : algB L T = true) : hpB s L T = hasB 4 L T := by unfold hpB; rw [h, prIx_4 q0 q1 q2 q3 q4]; rfl
theorem hp_5 {s : ByteArray} (q0 : (s.toList == [112, 114, 101, 108, 105, 110, 101, 97, 114]) = false) (q1 : (s.toList == [100, 105, 118, 105, 115, 105, 98, 108, 101]) = false) (q2 : (s.toList == [105, 110, 118, 111, 108, 117, 116, 105, 118, 101]) = false) (q3 : (s.toList == [105, 100, 101, 109, 112, 111, 116, 101, 110, 116]) = false) (q4 : (s.toList == [98, 111, 111, 108, 101, 97, 110]) = false) {L : List Int} {T : List (List Int)} (h : algB L T = true) : hpB s L T = false := by unfold hpB; rw [h, prIx_5 q0 q1 q2 q3 q4]; rfl
theorem hp_no (s : ByteArray) {L : List Int} {T : List (List Int)} (h : algB L T = false) : hpB s L T = false := by unfold hpB; rw [h]; rfl
/-- impl.HasProperty -/
theorem implHasProperty_any (s : ByteArray) (a b : Option Addr) (ca cb : Nat) (L : List Int) (T : List (List Int)) (w : World) (hr : Rd w a L) (hT : RdT w b T) : Calls Try.prog 13 #[.string s, .agg #[.slice a L.length ca, .slice b T.length cb]] w fun e w' => e = .returned (.bool (hpB s L T)) ∧ Below w.heap.size w w' := by
  cases h : algB L T with
  | false =>
    rw [hp_no s h]
    cases q0 : (s.toList == [112, 114, 101, 108, 105, 110, 101, 97, 114]) with
    | true => exact implHas_0n s q0 a b ca cb L T w hr hT h
    | false =>
      cases q1 : (s.toList == [100, 105, 118, 105, 115, 105, 98, 108, 101]) with
      | true => exact implHas_1n s q0 q1 a b ca cb L T w hr hT h
      | false =>
        cases q2 : (s.toList == [105, 110, 118, 111, 108, 117, 116, 105, 118, 101]) with
        | true => exact implHas_2n s q0 q1 q2 a b ca cb L T w hr hT h
        | false =>
          cases q3 : (s.toList == [105, 100, 101, 109, 112, 111, 116, 101, 110, 116]) with
          | true => exact implHas_3n s q0 q1 q2 q3 a b ca cb L T w hr hT h
          | false =>
            cases q4 : (s.toList == [98, 111, 111, 108, 101, 97, 110]) with
            | true => exact implHas_4n s q0 q1 q2 q3 q4 a b ca cb L T w hr hT h
            | false =>
              exact implHas_5n s q0 q1 q2 q3 q4 a b ca cb L T w hr hT h
  | true =>
    cases q0 : (s.toList == [112, 114, 101, 108, 105, 110, 101, 97, 114]) with
    | true => rw [hp_0 q0 h]; exact implHas_0y s q0 a b ca cb L T w hr hT h
    | false =>
      cases q1 : (s.toList == [100, 105, 118, 105, 115, 105, 98, 108, 101]) with
      | true => rw [hp_1 q0 q1 h]; exact implHas_1y s q0 q1 a b ca cb L T w hr hT h
      | false =>
        cases q2 : (s.toList == [105, 110, 118, 111, 108, 117, 116, 105, 118, 101]) with
        | true => rw [hp_2 q0 q1 q2 h]; exact implHas_2y s q0 q1 q2 a b ca cb L T w hr hT h
        | false =>
          cases q3 : (s.toList == [105, 100, 101, 109, 112, 111, 116, 101, 110, 116]) with
          | true => rw [hp_3 q0 q1 q2 q3 h]; exact implHas_3y s q0 q1 q2 q3 a b ca cb L T w hr hT h
          | false =>
            cases q4 : (s.toList == [98, 111, 111, 108, 101, 97, 110]) with
            | true => rw [hp_4 q0 q1 q2 q3 q4 h]; exact implHas_4y s q0 q1 q2 q3 q4 a b ca cb L T w hr hT h
            | false =>
              rw [hp_5 q0 q1 q2 q3 q4 h]; exact implHas_5y s q0 q1 q2 q3 q4 a b ca cb L T w hr hT h
end Go.Proofs.Ythjbfdoclifhoaa
