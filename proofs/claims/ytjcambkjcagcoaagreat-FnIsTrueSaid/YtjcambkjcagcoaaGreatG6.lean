import Derived.Test.YtjcambkjcagcoaaGreatK1
import Derived.Test.YtjcambkjcagcoaaGreatL5
import Derived.Test.YtjcambkjcagcoaaGreatH10
namespace Go.Proofs.YtjcambkjcagcoaaGreat
open Go.RowKit

set_option maxRecDepth 100000 in
set_option maxHeartbeats 1000000 in
/-- impl.lattice.greatest -/
theorem greatest_any (L : List Int) (w : World) (n1 : (L.length : Int) ≤ 6) :
    Calls Tryz.prog 101 #[.agg (latOf L)] w fun e w' => e = .returned (.int .i64 (L.length - 1)) ∧ Below w.heap.size w w' := by
  obtain ⟨w1, hw1⟩ : ∃ w1, w1 = w.alloc (.cells (latOf L) 61) := ⟨_, rfl⟩
  have hB : Below w.heap.size w w1 := by rw [hw1]; exact (Below.refl _ _).alloc (Nat.le_refl _) _
  have hL : LatAt w1 w.heap.size L := by rw [hw1]; exact LatAt.new w L
  have c0 := hL.size
  have k1 : IntKind.i64.wrap ((L.length : Int) - 1) = L.length - 1 := IntWalk.i64_in _ (by omega)
  go_enter Tryz.func101, Tryz.ntmps101
  go_wp2_with (rw [← hw1]; clear hw1)
  go_ret
  exact ⟨rfl, hB⟩

end Go.Proofs.YtjcambkjcagcoaaGreat

namespace Go.Proofs.YtjcambkjcagcoaaGreat
open Go.RowKit

def powO (L : List Int) (T : List (List Int)) (x k : Int) : Int := if algIn L T x x && (decide (0 ≤ k) && decide (k ≤ 20)) then powr L T x k else -1
theorem powO_f1 {L : List Int} {T : List (List Int)} {x k : Int} (h : algIn L T x x = false) : powO L T x k = -1 := by unfold powO; rw [h]; rfl
theorem powO_f2 {L : List Int} {T : List (List Int)} {x k : Int} (h : (decide (0 ≤ k) && decide (k ≤ 20)) = false) : powO L T x k = -1 := by unfold powO; rw [h, Bool.and_false]; rfl
theorem powO_t {L : List Int} {T : List (List Int)} {x k : Int} (h : algIn L T x x = true) (hk : (decide (0 ≤ k) && decide (k ≤ 20)) = true) : powO L T x k = powr L T x k := by unfold powO; rw [h, hk]; rfl
set_option maxRecDepth 100000 in
set_option maxHeartbeats 1000000 in
/-- impl.algebra.power -/
theorem powerM_any (L : List Int) (T : List (List Int)) (x k : Int) (w : World) (h : algB L T = true) (x0 : 0 ≤ x) (x1 : x < num L) (k0 : 0 ≤ k) (k1 : k ≤ 64) :
    Calls Tryz.prog 82 #[.agg (algOf L T), .int .i64 x, .int .i64 k] w fun e w' => e = .returned (.int .i64 (powr L T x k)) ∧ Below w.heap.size w w' := by
  obtain ⟨hlat, hsh, _⟩ := algB_parts h
  obtain ⟨n1, n6⟩ := lat_len hlat
  have hn : num L = L.length := rfl
  have n6' : (L.length : Int) ≤ 6 := by omega
  have x6 : x < 6 := by omega
  obtain ⟨w1, hw1⟩ : ∃ w1, w1 = w.alloc (.cells (algOf L T) 63) := ⟨_, rfl⟩
  have hB : Below w.heap.size w w1 := by rw [hw1]; exact (Below.refl _ _).alloc (Nat.le_refl _) _
  have hA : AlgAt w1 w.heap.size L T := by rw [hw1]; exact AlgAt.new w L T
  have HL := Lib.hid hlat
  have HS := Lib.hid hsh
  have HN := Lib.hid hn
  clear hlat hsh h hn
  go_enter Tryz.func82, Tryz.ntmps82
  go_wp2_with (first
    | (rw [← hw1]; clear hw1)
    | (refine wpList_load_mid_w rfl 61 _ rfl w.heap.size 0 rfl _ _ hA.lat Tryz.underlying61 rfl (size_latOf L) ?_)
    | (go_at_call 101; refine (greatest_any L _ n6').mono ?_; rintro e w2 ⟨rfl, h2⟩))
  have hA2 := hA.below h2 hA.lt
  have B2 := hB.trans (h2.mono hB.size)
  clear hA h2 hB
  go_loopw [7, 12] (fun p c wr => ∃ m : Int, 0 ≤ m ∧ m ≤ k ∧ c = .int .i64 m ∧ p = .int .i64 (powr L T x m) ∧ w2 = wr) (fun _ c _ => (64 - intOf c).toNat)
  case atStart => exact ⟨0, by omega, by omega, rfl, by rw [powr_zero, HN.out], rfl⟩
  case round =>
    obtain ⟨m, m0, m1, rfl, rfl, rfl⟩ := hrel
    by_cases hm : m < k
    · obtain ⟨p0, p1⟩ := powr_lt HL.out HS.out x0 x1 m
      have p6 : powr L T x m < 6 := by omega
      have d := hA2.t p0 p6 x0 x6
      rw [timG_in p1 x1] at d
      have hsu := Lib.hid (powr_succ L T x m0)
      go_wp2
      go_roundw
      case rel => exact ⟨m + 1, by omega, by omega, rfl, by rw [hsu.out], trivial⟩
      case measure => simp [intOf]; omega
    · have e : m = k := by omega
      subst e
      go_wp2
      go_ret
      exact ⟨rfl, B2⟩

set_option maxRecDepth 100000 in
set_option maxHeartbeats 1000000 in
theorem implPowerOf_no (a b : Option Addr) (ca cb : Nat) (L : List Int) (T : List (List Int)) (x k : Int) (w : World) (hr : Rd w a L) (hT : RdT w b T) (h : algIn L T x x = false) :
    Calls Tryz.prog 35 #[.agg #[.slice a L.length ca, .slice b T.length cb], .int .i64 x, .int .i64 k] w fun e w' => e = .returned (.int .i64 (-1)) ∧ Below w.heap.size w w' := by
  obtain ⟨w1, hw1⟩ : ∃ w1, w1 = w.alloc (.cells #[.slice a L.length ca, .slice b T.length cb] 26) := ⟨_, rfl⟩
  have hB : Below w.heap.size w w1 := by rw [hw1]; exact (Below.refl _ _).alloc (Nat.le_refl _) _
  have hx : w1.heap[w.heap.size]? = some (.cells #[.slice a L.length ca, .slice b T.length cb] 26 (0, 0)) := by rw [hw1]; exact heap_alloc_new w _
  obtain ⟨c0, c1⟩ := bx_cells hx
  have Kx := Lib.hid (show ∀ wz, Below w1.heap.size w1 wz → wz.heap[w.heap.size]? = some (.cells #[.slice a L.length ca, .slice b T.length cb] 26 (0, 0)) from fun wz h => (h.block _ (lt_of_block hx)).trans hx)
  have KR := Lib.hid (show ∀ wz, Below w1.heap.size w1 wz → Rd wz a L from fun wz h => (hr.below hB).below h)
  have KT := Lib.hid (show ∀ wz, Below w1.heap.size w1 wz → RdT wz b T from fun wz h => (hT.below hB).below h)
  have z1 : Below w1.heap.size w1 w1 := Below.refl _ _
  clear hr hT hx
  have hE : Row (w1.alloc (.cells #[.int .i64 x] 3)) w1.heap.size [x] := heap_alloc_new w1 _
  have zE : Below w1.heap.size w1 (w1.alloc (.cells #[.int .i64 x] 3)) := (Below.refl _ _).alloc (Nat.le_refl _) _
  have HE := Lib.hid hE.rd
  have HAW := Lib.hid (show awB L T [x] = false by rw [aw_one]; exact h)
  clear hE
  go_enter Tryz.func35, Tryz.ntmps35
  go_wp2_with (first
    | go_skip
    | (rw [← hw1]; clear hw1)
    | (refine wpList_load_row_w rfl 26 _ rfl w.heap.size rfl _ _ _ _ (Kx.out _ (by assumption)) Tryz.underlying26 rfl (size_Alg _ _) ?_)
    | (go_at_call 79; refine (readAW1_no _ _ _ _ _ _ L T x _ (KR.out _ zE) (KT.out _ zE) HE.out HAW.out).mono ?_; rintro e w2 ⟨rfl, h2⟩; have z2 : Below w1.heap.size w1 w2 := zE.trans (h2.mono zE.size))
    | (refine wpList_store_row rfl 63 _ _ rfl w2.heap.size zeroAlg rfl rfl _ _ (heap_alloc_new w2 (.cells zeroAlg 63)) size_zeroAlg rfl one_zeroAlg ?_; rw [World.setRow_alloc_new]; obtain ⟨bl, hbl⟩ : ∃ bl, bl = w2.heap.size := ⟨_, rfl⟩; obtain ⟨w9, hw9⟩ : ∃ w9, w9 = w2.alloc (.cells zeroAlg 63) := ⟨_, rfl⟩; rw [← hw9, ← hbl]; have B9 : Below w1.heap.size w1 w9 := (by rw [hw9]; exact z2.alloc z2.size _); clear hw9 hbl))
  go_ret
  exact ⟨rfl, hB.trans (B9.mono hB.size)⟩

set_option maxRecDepth 100000 in
set_option maxHeartbeats 1000000 in
theorem implPowerOf_lo (a b : Option Addr) (ca cb : Nat) (L : List Int) (T : List (List Int)) (x k : Int) (w : World) (hr : Rd w a L) (hT : RdT w b T) (h : algIn L T x x = true) (hk : k < 0) :
    Calls Tryz.prog 35 #[.agg #[.slice a L.length ca, .slice b T.length cb], .int .i64 x, .int .i64 k] w fun e w' => e = .returned (.int .i64 (-1)) ∧ Below w.heap.size w w' := by
  obtain ⟨w1, hw1⟩ : ∃ w1, w1 = w.alloc (.cells #[.slice a L.length ca, .slice b T.length cb] 26) := ⟨_, rfl⟩
  have hB : Below w.heap.size w w1 := by rw [hw1]; exact (Below.refl _ _).alloc (Nat.le_refl _) _
  have hx : w1.heap[w.heap.size]? = some (.cells #[.slice a L.length ca, .slice b T.length cb] 26 (0, 0)) := by rw [hw1]; exact heap_alloc_new w _
  obtain ⟨c0, c1⟩ := bx_cells hx
  have Kx := Lib.hid (show ∀ wz, Below w1.heap.size w1 wz → wz.heap[w.heap.size]? = some (.cells #[.slice a L.length ca, .slice b T.length cb] 26 (0, 0)) from fun wz h => (h.block _ (lt_of_block hx)).trans hx)
  have KR := Lib.hid (show ∀ wz, Below w1.heap.size w1 wz → Rd wz a L from fun wz h => (hr.below hB).below h)
  have KT := Lib.hid (show ∀ wz, Below w1.heap.size w1 wz → RdT wz b T from fun wz h => (hT.below hB).below h)
  have z1 : Below w1.heap.size w1 w1 := Below.refl _ _
  clear hr hT hx
  have hE : Row (w1.alloc (.cells #[.int .i64 x] 3)) w1.heap.size [x] := heap_alloc_new w1 _
  have zE : Below w1.heap.size w1 (w1.alloc (.cells #[.int .i64 x] 3)) := (Below.refl _ _).alloc (Nat.le_refl _) _
  have HE := Lib.hid hE.rd
  have HAW := Lib.hid (show awB L T [x] = true by rw [aw_one]; exact h)
  clear hE
  go_enter Tryz.func35, Tryz.ntmps35
  go_wp2_with (first
    | go_skip
    | (rw [← hw1]; clear hw1)
    | (refine wpList_load_row_w rfl 26 _ rfl w.heap.size rfl _ _ _ _ (Kx.out _ (by assumption)) Tryz.underlying26 rfl (size_Alg _ _) ?_)
    | (go_at_call 79; refine (readAW1_good _ _ _ _ _ _ L T x _ (KR.out _ zE) (KT.out _ zE) HE.out HAW.out).mono ?_; rintro e w2 ⟨rfl, h2⟩; have z2 : Below w1.heap.size w1 w2 := zE.trans (h2.mono zE.size))
    | (refine wpList_store_row rfl 63 _ _ rfl w2.heap.size (algOf L T) rfl rfl _ _ (heap_alloc_new w2 (.cells zeroAlg 63)) (size_alg _ _ _ _ _ _) rfl (one_alg _ _ _ _ _ _) ?_; rw [World.setRow_alloc_new]; obtain ⟨bl, hbl⟩ : ∃ bl, bl = w2.heap.size := ⟨_, rfl⟩; obtain ⟨w9, hw9⟩ : ∃ w9, w9 = w2.alloc (.cells (algOf L T) 63) := ⟨_, rfl⟩; rw [← hw9, ← hbl]; have hA : AlgAt w9 bl L T := (by rw [hw9, hbl]; exact AlgAt.new w2 L T); have B9 : Below w1.heap.size w1 w9 := (by rw [hw9]; exact z2.alloc z2.size _); clear hw9 hbl))
  go_ret
  exact ⟨rfl, hB.trans (B9.mono hB.size)⟩

set_option maxRecDepth 100000 in
set_option maxHeartbeats 1000000 in
theorem implPowerOf_hi (a b : Option Addr) (ca cb : Nat) (L : List Int) (T : List (List Int)) (x k : Int) (w : World) (hr : Rd w a L) (hT : RdT w b T) (h : algIn L T x x = true) (hk0 : 0 ≤ k) (hk : 20 < k) :
    Calls Tryz.prog 35 #[.agg #[.slice a L.length ca, .slice b T.length cb], .int .i64 x, .int .i64 k] w fun e w' => e = .returned (.int .i64 (-1)) ∧ Below w.heap.size w w' := by
  obtain ⟨w1, hw1⟩ : ∃ w1, w1 = w.alloc (.cells #[.slice a L.length ca, .slice b T.length cb] 26) := ⟨_, rfl⟩
  have hB : Below w.heap.size w w1 := by rw [hw1]; exact (Below.refl _ _).alloc (Nat.le_refl _) _
  have hx : w1.heap[w.heap.size]? = some (.cells #[.slice a L.length ca, .slice b T.length cb] 26 (0, 0)) := by rw [hw1]; exact heap_alloc_new w _
  obtain ⟨c0, c1⟩ := bx_cells hx
  have Kx := Lib.hid (show ∀ wz, Below w1.heap.size w1 wz → wz.heap[w.heap.size]? = some (.cells #[.slice a L.length ca, .slice b T.length cb] 26 (0, 0)) from fun wz h => (h.block _ (lt_of_block hx)).trans hx)
  have KR := Lib.hid (show ∀ wz, Below w1.heap.size w1 wz → Rd wz a L from fun wz h => (hr.below hB).below h)
  have KT := Lib.hid (show ∀ wz, Below w1.heap.size w1 wz → RdT wz b T from fun wz h => (hT.below hB).below h)
  have z1 : Below w1.heap.size w1 w1 := Below.refl _ _
  clear hr hT hx
  have hE : Row (w1.alloc (.cells #[.int .i64 x] 3)) w1.heap.size [x] := heap_alloc_new w1 _
  have zE : Below w1.heap.size w1 (w1.alloc (.cells #[.int .i64 x] 3)) := (Below.refl _ _).alloc (Nat.le_refl _) _
  have HE := Lib.hid hE.rd
  have HAW := Lib.hid (show awB L T [x] = true by rw [aw_one]; exact h)
  clear hE
  go_enter Tryz.func35, Tryz.ntmps35
  go_wp2_with (first
    | go_skip
    | (rw [← hw1]; clear hw1)
    | (refine wpList_load_row_w rfl 26 _ rfl w.heap.size rfl _ _ _ _ (Kx.out _ (by assumption)) Tryz.underlying26 rfl (size_Alg _ _) ?_)
    | (go_at_call 79; refine (readAW1_good _ _ _ _ _ _ L T x _ (KR.out _ zE) (KT.out _ zE) HE.out HAW.out).mono ?_; rintro e w2 ⟨rfl, h2⟩; have z2 : Below w1.heap.size w1 w2 := zE.trans (h2.mono zE.size))
    | (refine wpList_store_row rfl 63 _ _ rfl w2.heap.size (algOf L T) rfl rfl _ _ (heap_alloc_new w2 (.cells zeroAlg 63)) (size_alg _ _ _ _ _ _) rfl (one_alg _ _ _ _ _ _) ?_; rw [World.setRow_alloc_new]; obtain ⟨bl, hbl⟩ : ∃ bl, bl = w2.heap.size := ⟨_, rfl⟩; obtain ⟨w9, hw9⟩ : ∃ w9, w9 = w2.alloc (.cells (algOf L T) 63) := ⟨_, rfl⟩; rw [← hw9, ← hbl]; have hA : AlgAt w9 bl L T := (by rw [hw9, hbl]; exact AlgAt.new w2 L T); have B9 : Below w1.heap.size w1 w9 := (by rw [hw9]; exact z2.alloc z2.size _); clear hw9 hbl))
  go_ret
  exact ⟨rfl, hB.trans (B9.mono hB.size)⟩

set_option maxRecDepth 100000 in
set_option maxHeartbeats 1000000 in
theorem implPowerOf_yes (a b : Option Addr) (ca cb : Nat) (L : List Int) (T : List (List Int)) (x k : Int) (w : World) (hr : Rd w a L) (hT : RdT w b T) (h : algIn L T x x = true) (k0 : 0 ≤ k) (k20 : k ≤ 20) :
    Calls Tryz.prog 35 #[.agg #[.slice a L.length ca, .slice b T.length cb], .int .i64 x, .int .i64 k] w fun e w' => e = .returned (.int .i64 (powr L T x k)) ∧ Below w.heap.size w w' := by
  obtain ⟨w1, hw1⟩ : ∃ w1, w1 = w.alloc (.cells #[.slice a L.length ca, .slice b T.length cb] 26) := ⟨_, rfl⟩
  have hB : Below w.heap.size w w1 := by rw [hw1]; exact (Below.refl _ _).alloc (Nat.le_refl _) _
  have hx : w1.heap[w.heap.size]? = some (.cells #[.slice a L.length ca, .slice b T.length cb] 26 (0, 0)) := by rw [hw1]; exact heap_alloc_new w _
  obtain ⟨c0, c1⟩ := bx_cells hx
  have Kx := Lib.hid (show ∀ wz, Below w1.heap.size w1 wz → wz.heap[w.heap.size]? = some (.cells #[.slice a L.length ca, .slice b T.length cb] 26 (0, 0)) from fun wz h => (h.block _ (lt_of_block hx)).trans hx)
  have KR := Lib.hid (show ∀ wz, Below w1.heap.size w1 wz → Rd wz a L from fun wz h => (hr.below hB).below h)
  have KT := Lib.hid (show ∀ wz, Below w1.heap.size w1 wz → RdT wz b T from fun wz h => (hT.below hB).below h)
  have z1 : Below w1.heap.size w1 w1 := Below.refl _ _
  clear hr hT hx
  have hE : Row (w1.alloc (.cells #[.int .i64 x] 3)) w1.heap.size [x] := heap_alloc_new w1 _
  have zE : Below w1.heap.size w1 (w1.alloc (.cells #[.int .i64 x] 3)) := (Below.refl _ _).alloc (Nat.le_refl _) _
  have HE := Lib.hid hE.rd
  have HAW := Lib.hid (show awB L T [x] = true by rw [aw_one]; exact h)
  clear hE
  obtain ⟨ha, x0, x1, _, _⟩ := algIn_parts h
  go_enter Tryz.func35, Tryz.ntmps35
  go_wp2_with (first
    | go_skip
    | (rw [← hw1]; clear hw1)
    | (refine wpList_load_row_w rfl 26 _ rfl w.heap.size rfl _ _ _ _ (Kx.out _ (by assumption)) Tryz.underlying26 rfl (size_Alg _ _) ?_)
    | (go_at_call 79; refine (readAW1_good _ _ _ _ _ _ L T x _ (KR.out _ zE) (KT.out _ zE) HE.out HAW.out).mono ?_; rintro e w2 ⟨rfl, h2⟩; have z2 : Below w1.heap.size w1 w2 := zE.trans (h2.mono zE.size))
    | (refine wpList_store_row rfl 63 _ _ rfl w2.heap.size (algOf L T) rfl rfl _ _ (heap_alloc_new w2 (.cells zeroAlg 63)) (size_alg _ _ _ _ _ _) rfl (one_alg _ _ _ _ _ _) ?_; rw [World.setRow_alloc_new]; obtain ⟨bl, hbl⟩ : ∃ bl, bl = w2.heap.size := ⟨_, rfl⟩; obtain ⟨w9, hw9⟩ : ∃ w9, w9 = w2.alloc (.cells (algOf L T) 63) := ⟨_, rfl⟩; rw [← hw9, ← hbl]; have hA : AlgAt w9 bl L T := (by rw [hw9, hbl]; exact AlgAt.new w2 L T); have B9 : Below w1.heap.size w1 w9 := (by rw [hw9]; exact z2.alloc z2.size _); clear hw9 hbl)
    | (refine wpList_load_row_w rfl 63 _ rfl bl rfl _ _ _ _ hA Tryz.underlying63 rfl (size_alg _ _ _ _ _ _) ?_)
    | (go_at_call 82; refine (powerM_any L T x k _ ha x0 x1 k0 (by omega)).mono ?_; rintro e w10 ⟨rfl, h10⟩; have B10 : Below w1.heap.size w1 w10 := B9.trans (h10.mono B9.size)))
  go_ret
  exact ⟨rfl, hB.trans (B10.mono hB.size)⟩

theorem implPowerOf_any (a b : Option Addr) (ca cb : Nat) (L : List Int) (T : List (List Int)) (x k : Int) (w : World) (hr : Rd w a L) (hT : RdT w b T) :
    Calls Tryz.prog 35 #[.agg #[.slice a L.length ca, .slice b T.length cb], .int .i64 x, .int .i64 k] w fun e w' => e = .returned (.int .i64 (powO L T x k)) ∧ Below w.heap.size w w' := by
  cases h : algIn L T x x with
  | false => rw [powO_f1 h]; exact implPowerOf_no a b ca cb L T x k w hr hT h
  | true =>
    by_cases k0 : 0 ≤ k
    · by_cases k20 : k ≤ 20
      · rw [powO_t h (by rw [decide_eq_true k0, decide_eq_true k20]; rfl)]; exact implPowerOf_yes a b ca cb L T x k w hr hT h k0 k20
      · rw [powO_f2 (by rw [decide_eq_false k20, Bool.and_false])]; exact implPowerOf_hi a b ca cb L T x k w hr hT h k0 (by omega)
    · rw [powO_f2 (by rw [decide_eq_false k0, Bool.false_and])]; exact implPowerOf_lo a b ca cb L T x k w hr hT h (by omega)
end Go.Proofs.YtjcambkjcagcoaaGreat
