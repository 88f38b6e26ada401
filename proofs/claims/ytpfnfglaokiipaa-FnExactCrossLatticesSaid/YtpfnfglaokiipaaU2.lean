import Derived.Test.YtpfnfglaokiipaaU1
import Derived.Test.YtpfnfglaokiipaaT4
namespace Go.Proofs.Ytpfnfglaokiipaa
open Go.RowKit

theorem mul_le36 {x y : Int} (x0 : 0 ≤ x) (x6 : x ≤ 6) (y0 : 0 ≤ y) (y6 : y ≤ 6) : 0 ≤ x * y ∧ x * y ≤ 36 :=
  ⟨Int.mul_nonneg x0 y0, by have := Int.mul_le_mul x6 y6 y0 (by omega : (0 : Int) ≤ 6); omega⟩
def crossI (A B : List Int) : List Int := if latB A && latB B && decide ((A.length : Int) * B.length ≤ 6) then upL (crossG A B) ((A.length : Int) * B.length) else []
theorem crossI_a {A B : List Int} (h : latB A = false) : crossI A B = [] := by unfold crossI; rw [h]; rfl
theorem crossI_b {A B : List Int} (h : latB B = false) : crossI A B = [] := by unfold crossI; rw [h, Bool.and_false]; rfl
theorem crossI_c {A B : List Int} (h : ¬ (A.length : Int) * B.length ≤ 6) : crossI A B = [] := by unfold crossI; rw [decide_eq_false h, Bool.and_false]; rfl
theorem crossI_t {A B : List Int} (h1 : latB A = true) (h2 : latB B = true) (h : (A.length : Int) * B.length ≤ 6) : crossI A B = upL (crossG A B) ((A.length : Int) * B.length) := by unfold crossI; rw [h1, h2, decide_eq_true h]; rfl
theorem upL_len (g : Int → Int → Bool) (n : Int) : (upL g n).length = n.toNat := by simp [upL]
theorem crossI_len (A B : List Int) : (crossI A B).length ≤ 6 := by
  unfold crossI
  split
  · rename_i h
    simp only [Bool.and_eq_true, decide_eq_true_eq] at h
    rw [upL_len]; omega
  · simp
theorem upOf_cross (A B : List Int) (ba bb bn : Nat) (w : World) (hA : LatAt w ba A) (hB : LatAt w bb B) (hn : w.heap[bn]? = some (.cells #[.int .i64 B.length] 3 (0, 0))) (a6 : num A ≤ 6) (b1 : 1 ≤ num B) (b6 : num B ≤ 6) (h0 : 0 ≤ (A.length : Int) * B.length) (h6 : (A.length : Int) * B.length ≤ 6) :
    Calls Try.prog 64 #[.int .i64 ((A.length : Int) * B.length), .func (.func 70) #[] #[.pointer (some ⟨ba, 0, none⟩), .pointer (some ⟨bn, 0, none⟩), .pointer (some ⟨bb, 0, none⟩)]] w fun e w' => e = .returned (.slice (some ⟨w.heap.size, 0, none⟩) ((A.length : Int) * B.length).toNat ((A.length : Int) * B.length).toNat) ∧ Row w' w.heap.size (upL (crossG A B) ((A.length : Int) * B.length)) ∧ Below w.heap.size w w' :=
  upOf_any _ _ _ (crossG A B) w h0 h6 enters_cross fun x y wr x0 x1 y0 y1 hb => by
    rw [append23]
    exact crossClo_any A B ba bb bn x y wr (hA.below hb hA.lt) (hB.below hb hB.lt) ((hb.block _ (lt_of_block hn)).trans hn) a6 b1 b6 x0 x1 y0 y1

set_option maxRecDepth 100000 in
set_option maxHeartbeats 2000000 in
theorem implCross_ff (a b : Option Addr) (ca cb : Nat) (A B : List Int) (w : World) (hrA : Rd w a A) (hrB : Rd w b B) (ha : latB A = false) (hb : latB B = false) :
    Calls Try.prog 40 #[.slice a A.length ca, .slice b B.length cb] w (RetSl w.heap.size (crossI A B) w) := by
  have hv := Lib.hid (crossI_a (B := B) ha)
  have HA := Lib.hid ha
  have HB := Lib.hid hb
  clear ha hb
  go_enter Try.func40, Try.ntmps40
  go_wp2_with (first
    | go_skip
    | (go_at_call 47; refine (readLattice_no b cb B _ hrB2 HB.out).mono ?_; rintro e w3 ⟨rfl, h3⟩; have z3 : Below w.heap.size w w3 := z2.trans (h3.mono z2.size))
    | (go_at_call 47; refine (readLattice_no a ca A _ hrA HA.out).mono ?_; rintro e w1 ⟨rfl, h1⟩)
    | (refine wpList_store_row rfl 45 _ _ rfl w1.heap.size zeroLat rfl rfl _ _ (heap_alloc_new w1 (.cells zeroLat 45)) (size_lat _ _ _ _) rfl (one_lat _ _ _ _) ?_; rw [World.setRow_alloc_new]; obtain ⟨b5, hb5⟩ : ∃ b5, b5 = w1.heap.size := ⟨_, rfl⟩; obtain ⟨w2, hw2⟩ : ∃ w2, w2 = w1.alloc (.cells zeroLat 45) := ⟨_, rfl⟩; rw [← hw2, ← hb5]; have qw2 : Below w1.heap.size w1 w2 := (by rw [hw2]; exact (Below.refl _ _).alloc (Nat.le_refl _) _); clear hw2 hb5; have z2 : Below w.heap.size w w2 := h1.trans (qw2.mono h1.size); have hrB2 := hrB.below z2)
    | (refine wpList_store_row rfl 45 _ _ rfl w3.heap.size zeroLat rfl rfl _ _ (heap_alloc_new w3 (.cells zeroLat 45)) (size_lat _ _ _ _) rfl (one_lat _ _ _ _) ?_; rw [World.setRow_alloc_new]; obtain ⟨b7, hb7⟩ : ∃ b7, b7 = w3.heap.size := ⟨_, rfl⟩; obtain ⟨w4, hw4⟩ : ∃ w4, w4 = w3.alloc (.cells zeroLat 45) := ⟨_, rfl⟩; rw [← hw4, ← hb7]; have qw4 : Below w3.heap.size w3 w4 := (by rw [hw4]; exact (Below.refl _ _).alloc (Nat.le_refl _) _); clear hw4 hb7; have z4 : Below w.heap.size w w4 := z3.trans (qw4.mono z3.size)))
  go_ret
  rw [hv.out]
  exact ⟨none, 0, rfl, Own.nothing _ _, z4⟩

set_option maxRecDepth 100000 in
set_option maxHeartbeats 2000000 in
theorem implCross_ft (a b : Option Addr) (ca cb : Nat) (A B : List Int) (w : World) (hrA : Rd w a A) (hrB : Rd w b B) (ha : latB A = false) (hb : latB B = true) :
    Calls Try.prog 40 #[.slice a A.length ca, .slice b B.length cb] w (RetSl w.heap.size (crossI A B) w) := by
  have hv := Lib.hid (crossI_a (B := B) ha)
  have HA := Lib.hid ha
  have HB := Lib.hid hb
  clear ha hb
  go_enter Try.func40, Try.ntmps40
  go_wp2_with (first
    | go_skip
    | (go_at_call 47; refine (readLattice_yes b cb B _ hrB2 HB.out).mono ?_; rintro e w3 ⟨rfl, h3⟩; have z3 : Below w.heap.size w w3 := z2.trans (h3.mono z2.size))
    | (go_at_call 47; refine (readLattice_no a ca A _ hrA HA.out).mono ?_; rintro e w1 ⟨rfl, h1⟩)
    | (refine wpList_store_row rfl 45 _ _ rfl w1.heap.size zeroLat rfl rfl _ _ (heap_alloc_new w1 (.cells zeroLat 45)) (size_lat _ _ _ _) rfl (one_lat _ _ _ _) ?_; rw [World.setRow_alloc_new]; obtain ⟨b5, hb5⟩ : ∃ b5, b5 = w1.heap.size := ⟨_, rfl⟩; obtain ⟨w2, hw2⟩ : ∃ w2, w2 = w1.alloc (.cells zeroLat 45) := ⟨_, rfl⟩; rw [← hw2, ← hb5]; have qw2 : Below w1.heap.size w1 w2 := (by rw [hw2]; exact (Below.refl _ _).alloc (Nat.le_refl _) _); clear hw2 hb5; have z2 : Below w.heap.size w w2 := h1.trans (qw2.mono h1.size); have hrB2 := hrB.below z2)
    | (refine wpList_store_row rfl 45 _ _ rfl w3.heap.size (latOf B) rfl rfl _ _ (heap_alloc_new w3 (.cells zeroLat 45)) (size_lat _ _ _ _) rfl (one_lat _ _ _ _) ?_; rw [World.setRow_alloc_new]; obtain ⟨b7, hb7⟩ : ∃ b7, b7 = w3.heap.size := ⟨_, rfl⟩; obtain ⟨w4, hw4⟩ : ∃ w4, w4 = w3.alloc (.cells (latOf B) 45) := ⟨_, rfl⟩; rw [← hw4, ← hb7]; have qw4 : Below w3.heap.size w3 w4 := (by rw [hw4]; exact (Below.refl _ _).alloc (Nat.le_refl _) _); have hLB : LatAt w4 b7 B := (by rw [hw4, hb7]; exact LatAt.new w3 B); clear hw4 hb7; have z4 : Below w.heap.size w w4 := z3.trans (qw4.mono z3.size)))
  go_ret
  rw [hv.out]
  exact ⟨none, 0, rfl, Own.nothing _ _, z4⟩

set_option maxRecDepth 100000 in
set_option maxHeartbeats 2000000 in
theorem implCross_tf (a b : Option Addr) (ca cb : Nat) (A B : List Int) (w : World) (hrA : Rd w a A) (hrB : Rd w b B) (ha : latB A = true) (hb : latB B = false) :
    Calls Try.prog 40 #[.slice a A.length ca, .slice b B.length cb] w (RetSl w.heap.size (crossI A B) w) := by
  have hv := Lib.hid (crossI_b (A := A) hb)
  have HA := Lib.hid ha
  have HB := Lib.hid hb
  clear ha hb
  go_enter Try.func40, Try.ntmps40
  go_wp2_with (first
    | go_skip
    | (go_at_call 47; refine (readLattice_no b cb B _ hrB2 HB.out).mono ?_; rintro e w3 ⟨rfl, h3⟩; have z3 : Below w.heap.size w w3 := z2.trans (h3.mono z2.size))
    | (go_at_call 47; refine (readLattice_yes a ca A _ hrA HA.out).mono ?_; rintro e w1 ⟨rfl, h1⟩)
    | (refine wpList_store_row rfl 45 _ _ rfl w1.heap.size (latOf A) rfl rfl _ _ (heap_alloc_new w1 (.cells zeroLat 45)) (size_lat _ _ _ _) rfl (one_lat _ _ _ _) ?_; rw [World.setRow_alloc_new]; obtain ⟨b5, hb5⟩ : ∃ b5, b5 = w1.heap.size := ⟨_, rfl⟩; obtain ⟨w2, hw2⟩ : ∃ w2, w2 = w1.alloc (.cells (latOf A) 45) := ⟨_, rfl⟩; rw [← hw2, ← hb5]; have qw2 : Below w1.heap.size w1 w2 := (by rw [hw2]; exact (Below.refl _ _).alloc (Nat.le_refl _) _); have hLA : LatAt w2 b5 A := (by rw [hw2, hb5]; exact LatAt.new w1 A); clear hw2 hb5; have z2 : Below w.heap.size w w2 := h1.trans (qw2.mono h1.size); have hrB2 := hrB.below z2)
    | (refine wpList_store_row rfl 45 _ _ rfl w3.heap.size zeroLat rfl rfl _ _ (heap_alloc_new w3 (.cells zeroLat 45)) (size_lat _ _ _ _) rfl (one_lat _ _ _ _) ?_; rw [World.setRow_alloc_new]; obtain ⟨b7, hb7⟩ : ∃ b7, b7 = w3.heap.size := ⟨_, rfl⟩; obtain ⟨w4, hw4⟩ : ∃ w4, w4 = w3.alloc (.cells zeroLat 45) := ⟨_, rfl⟩; rw [← hw4, ← hb7]; have qw4 : Below w3.heap.size w3 w4 := (by rw [hw4]; exact (Below.refl _ _).alloc (Nat.le_refl _) _); clear hw4 hb7; have z4 : Below w.heap.size w w4 := z3.trans (qw4.mono z3.size); have hLA4 := (hLA.below h3 hLA.lt).below qw4 (Nat.lt_of_lt_of_le hLA.lt h3.size)))
  go_ret
  rw [hv.out]
  exact ⟨none, 0, rfl, Own.nothing _ _, z4⟩

set_option maxRecDepth 100000 in
set_option maxHeartbeats 2000000 in
theorem implCross_tt_out (a b : Option Addr) (ca cb : Nat) (A B : List Int) (w : World) (hrA : Rd w a A) (hrB : Rd w b B) (ha : latB A = true) (hb : latB B = true) (hm : ¬ (A.length : Int) * B.length ≤ 6) :
    Calls Try.prog 40 #[.slice a A.length ca, .slice b B.length cb] w (RetSl w.heap.size (crossI A B) w) := by
  have hv := Lib.hid (crossI_c (A := A) (B := B) hm)
  have HA := Lib.hid ha
  have HB := Lib.hid hb
  obtain ⟨a1, a6, _⟩ := latB_parts ha
  obtain ⟨b1, b6, _⟩ := latB_parts hb
  have hna : num A = A.length := rfl
  have hnb : num B = B.length := rfl
  obtain ⟨m0, m36⟩ := mul_le36 (x := (A.length : Int)) (y := (B.length : Int)) (by omega) (by omega) (by omega) (by omega)
  have kmul : IntKind.i64.wrap ((A.length : Int) * B.length) = (A.length : Int) * B.length := IntWalk.i64_in _ (by omega)
  have hm2 : decide ((6 : Int) < (A.length : Int) * B.length) = true := decide_eq_true (by omega)
  clear ha hb
  go_enter Try.func40, Try.ntmps40
  go_wp2_with (first
    | go_skip
    | (go_at_call 47; refine (readLattice_yes b cb B _ hrB2 HB.out).mono ?_; rintro e w3 ⟨rfl, h3⟩; have z3 : Below w.heap.size w w3 := z2.trans (h3.mono z2.size))
    | (go_at_call 47; refine (readLattice_yes a ca A _ hrA HA.out).mono ?_; rintro e w1 ⟨rfl, h1⟩)
    | (refine wpList_store_row rfl 45 _ _ rfl w1.heap.size (latOf A) rfl rfl _ _ (heap_alloc_new w1 (.cells zeroLat 45)) (size_lat _ _ _ _) rfl (one_lat _ _ _ _) ?_; rw [World.setRow_alloc_new]; obtain ⟨b5, hb5⟩ : ∃ b5, b5 = w1.heap.size := ⟨_, rfl⟩; obtain ⟨w2, hw2⟩ : ∃ w2, w2 = w1.alloc (.cells (latOf A) 45) := ⟨_, rfl⟩; rw [← hw2, ← hb5]; have qw2 : Below w1.heap.size w1 w2 := (by rw [hw2]; exact (Below.refl _ _).alloc (Nat.le_refl _) _); have hLA : LatAt w2 b5 A := (by rw [hw2, hb5]; exact LatAt.new w1 A); clear hw2 hb5; have z2 : Below w.heap.size w w2 := h1.trans (qw2.mono h1.size); have hrB2 := hrB.below z2)
    | (refine wpList_store_row rfl 45 _ _ rfl w3.heap.size (latOf B) rfl rfl _ _ (heap_alloc_new w3 (.cells zeroLat 45)) (size_lat _ _ _ _) rfl (one_lat _ _ _ _) ?_; rw [World.setRow_alloc_new]; obtain ⟨b7, hb7⟩ : ∃ b7, b7 = w3.heap.size := ⟨_, rfl⟩; obtain ⟨w4, hw4⟩ : ∃ w4, w4 = w3.alloc (.cells (latOf B) 45) := ⟨_, rfl⟩; rw [← hw4, ← hb7]; have qw4 : Below w3.heap.size w3 w4 := (by rw [hw4]; exact (Below.refl _ _).alloc (Nat.le_refl _) _); have hLB : LatAt w4 b7 B := (by rw [hw4, hb7]; exact LatAt.new w3 B); clear hw4 hb7; have z4 : Below w.heap.size w w4 := z3.trans (qw4.mono z3.size); have hLA4 := (hLA.below h3 hLA.lt).below qw4 (Nat.lt_of_lt_of_le hLA.lt h3.size); have c0 := hLA4.size; have c1 := hLB.size; have hlt5 := hLA4.lt; have hlt7 := hLB.lt))
  go_ret
  rw [hv.out]
  exact ⟨none, 0, rfl, Own.nothing _ _, z4⟩

set_option maxRecDepth 100000 in
set_option maxHeartbeats 2000000 in
theorem implCross_tt_in (a b : Option Addr) (ca cb : Nat) (A B : List Int) (w : World) (hrA : Rd w a A) (hrB : Rd w b B) (ha : latB A = true) (hb : latB B = true) (hm : (A.length : Int) * B.length ≤ 6) :
    Calls Try.prog 40 #[.slice a A.length ca, .slice b B.length cb] w (RetSl w.heap.size (crossI A B) w) := by
  have hv := Lib.hid (crossI_t ha hb hm)
  have HA := Lib.hid ha
  have HB := Lib.hid hb
  obtain ⟨a1, a6, _⟩ := latB_parts ha
  obtain ⟨b1, b6, _⟩ := latB_parts hb
  have hna : num A = A.length := rfl
  have hnb : num B = B.length := rfl
  obtain ⟨m0, m36⟩ := mul_le36 (x := (A.length : Int)) (y := (B.length : Int)) (by omega) (by omega) (by omega) (by omega)
  have kmul : IntKind.i64.wrap ((A.length : Int) * B.length) = (A.length : Int) * B.length := IntWalk.i64_in _ (by omega)
  have hm2 : decide ((6 : Int) < (A.length : Int) * B.length) = false := decide_eq_false (by omega)
  clear ha hb
  go_enter Try.func40, Try.ntmps40
  go_wp2_with (first
    | go_skip
    | (go_at_call 47; refine (readLattice_yes b cb B _ hrB2 HB.out).mono ?_; rintro e w3 ⟨rfl, h3⟩; have z3 : Below w.heap.size w w3 := z2.trans (h3.mono z2.size))
    | (go_at_call 47; refine (readLattice_yes a ca A _ hrA HA.out).mono ?_; rintro e w1 ⟨rfl, h1⟩)
    | (refine wpList_store_row rfl 45 _ _ rfl w1.heap.size (latOf A) rfl rfl _ _ (heap_alloc_new w1 (.cells zeroLat 45)) (size_lat _ _ _ _) rfl (one_lat _ _ _ _) ?_; rw [World.setRow_alloc_new]; obtain ⟨b5, hb5⟩ : ∃ b5, b5 = w1.heap.size := ⟨_, rfl⟩; obtain ⟨w2, hw2⟩ : ∃ w2, w2 = w1.alloc (.cells (latOf A) 45) := ⟨_, rfl⟩; rw [← hw2, ← hb5]; have qw2 : Below w1.heap.size w1 w2 := (by rw [hw2]; exact (Below.refl _ _).alloc (Nat.le_refl _) _); have hLA : LatAt w2 b5 A := (by rw [hw2, hb5]; exact LatAt.new w1 A); clear hw2 hb5; have z2 : Below w.heap.size w w2 := h1.trans (qw2.mono h1.size); have hrB2 := hrB.below z2)
    | (refine wpList_store_row rfl 45 _ _ rfl w3.heap.size (latOf B) rfl rfl _ _ (heap_alloc_new w3 (.cells zeroLat 45)) (size_lat _ _ _ _) rfl (one_lat _ _ _ _) ?_; rw [World.setRow_alloc_new]; obtain ⟨b7, hb7⟩ : ∃ b7, b7 = w3.heap.size := ⟨_, rfl⟩; obtain ⟨w4, hw4⟩ : ∃ w4, w4 = w3.alloc (.cells (latOf B) 45) := ⟨_, rfl⟩; rw [← hw4, ← hb7]; have qw4 : Below w3.heap.size w3 w4 := (by rw [hw4]; exact (Below.refl _ _).alloc (Nat.le_refl _) _); have hLB : LatAt w4 b7 B := (by rw [hw4, hb7]; exact LatAt.new w3 B); clear hw4 hb7; have z4 : Below w.heap.size w w4 := z3.trans (qw4.mono z3.size); have hLA4 := (hLA.below h3 hLA.lt).below qw4 (Nat.lt_of_lt_of_le hLA.lt h3.size); have c0 := hLA4.size; have c1 := hLB.size; have hlt5 := hLA4.lt; have hlt7 := hLB.lt)
    | (go_at_call 64; refine (upOf_cross A B b5 b7 w4.heap.size _ (hLA4.below ((Below.refl _ _).alloc (Nat.le_refl _) _) hLA4.lt) (hLB.below ((Below.refl _ _).alloc (Nat.le_refl _) _) hLB.lt) (heap_alloc_new w4 _) a6 b1 b6 m0 hm).mono ?_; rintro e w9 ⟨rfl, hrow, h9⟩))
  go_ret
  rw [hv.out]
  have hz := z4.size
  have hlu := upL_len (crossG A B) ((A.length : Int) * B.length)
  have ho := Own.row (B := w.heap.size) hrow (by simp; omega) (by rw [hlu]; unfold maxLen; omega)
  refine ⟨_, _, by rw [hlu]; rfl, ?_, (z4.alloc z4.size _).trans (h9.mono (by simp; omega))⟩
  have e9 : ∀ o, (w4.alloc o).heap.size = w4.heap.size + 1 := fun o => by simp
  rw [hlu] at ho ⊢
  rw [e9] at ho
  exact ho

theorem implCrossLattices_any (a b : Option Addr) (ca cb : Nat) (A B : List Int) (w : World) (hrA : Rd w a A) (hrB : Rd w b B) :
    Calls Try.prog 40 #[.slice a A.length ca, .slice b B.length cb] w (RetSl w.heap.size (crossI A B) w) := by
  cases ha : latB A <;> cases hb : latB B
  · exact implCross_ff a b ca cb A B w hrA hrB ha hb
  · exact implCross_ft a b ca cb A B w hrA hrB ha hb
  · exact implCross_tf a b ca cb A B w hrA hrB ha hb
  · by_cases hm : (A.length : Int) * B.length ≤ 6
    · exact implCross_tt_in a b ca cb A B w hrA hrB ha hb hm
    · exact implCross_tt_out a b ca cb A B w hrA hrB ha hb hm
end Go.Proofs.Ytpfnfglaokiipaa
