import Derived.Test.YtmapofenghjinaaG3
import Derived.BigQuiet
import Derived.Deep.RegionWith
namespace Go.Proofs.Ytmapofenghjinaa
open Go.RowKit

set_option maxHeartbeats 1000000 in
/-- laws.szIntS -/
theorem szIntS_any (a : Option Addr) (n c : Nat) (left : Int) (w : World) (h0 : 0 ≤ left) (h1 : left ≤ 1048576) (hn : (n : Int) ≤ 9223372036854775807) :
    Calls Try.prog 48 #[.slice a n c, .int .i64 left] w fun e w' => (∃ v, e = .returned (.int .i64 v) ∧ v ≤ left ∧ -1 ≤ v ∧ (0 ≤ v → v + n = left)) ∧ w = w' := by
  have k1 : IntKind.i64.wrap (left - n) = left - n := IntWalk.i64_in _ (by omega)
  by_cases hl : left - n < 0
  · go_enter Try.func48, Try.ntmps48
    go_wp2
    go_ret
    exact ⟨⟨-1, rfl, by omega, by omega, fun h => absurd h (by omega)⟩, rfl⟩
  · go_enter Try.func48, Try.ntmps48
    go_wp2
    go_ret
    exact ⟨⟨left - n, rfl, by omega, by omega, fun _ => by omega⟩, rfl⟩

set_option maxRecDepth 100000 in
set_option maxHeartbeats 1000000 in
/-- laws.szIntSS -/
theorem szIntSS_any (b : Option Addr) (c : Nat) (T : List (List Int)) (left : Int) (w : World) (hT : RdT w b T) (h0 : 0 ≤ left) (h1 : left ≤ 1048576) (hm : ∀ j : Nat, j < T.length → ((rowAt T j).length : Int) ≤ 9223372036854775807) (hn : (T.length : Int) ≤ 9223372036854775807) :
    Calls Try.prog 49 #[.slice b T.length c, .int .i64 left] w fun e w' => (∃ v, e = .returned (.int .i64 v) ∧ v ≤ left ∧ -1 ≤ v ∧ (0 ≤ v → (T.length : Int) ≤ left ∧ ∀ j : Nat, j < T.length → ((rowAt T j).length : Int) ≤ left)) ∧ w = w' := by
  have k1 : IntKind.i64.wrap (left - T.length) = left - T.length := IntWalk.i64_in _ (by omega)
  by_cases hl : left - T.length < 0
  · go_enter Try.func49, Try.ntmps49
    go_wp2
    go_ret
    exact ⟨⟨-1, rfl, by omega, by omega, fun h => absurd h (by omega)⟩, rfl⟩
  · have HM := Lib.hid hm
    have HT := Lib.hid hT
    clear hm hT
    go_enter Try.func49, Try.ntmps49
    go_wp2
    clear k1
    go_loopw [1, 5] (fun l i wr => ∃ k v : Int, 0 ≤ k ∧ k ≤ T.length ∧ i = .int .i64 k ∧ l = .int .i64 v ∧ 0 ≤ v ∧ v ≤ left ∧ (∀ j : Nat, (j : Int) < k → ((rowAt T j).length : Int) ≤ left) ∧ w = wr) (fun _ i _ => ((T.length : Int) - intOf i).toNat)
    case atStart => exact ⟨0, left - T.length, by omega, by omega, rfl, rfl, by omega, by omega, fun j hj => by omega, rfl⟩
    case round =>
      obtain ⟨k, v, k0, k1, rfl, rfl, v0, v1, hr, rfl⟩ := hrel
      by_cases hk : k < T.length
      · obtain ⟨B, off, rfl, hc⟩ := HT.out (by intro e; rw [e] at hk; simp at hk; omega)
        obtain ⟨ra, rc, d0, _⟩ := RdT.row hc k0 hk
        have hm2 := HM.out k.toNat (by omega)
        rw [Int.toNat_of_nonneg k0] at hm2
        have HR := Lib.hid hr
        clear hc hr
        go_wp2_with fail
        refine (szIntS_any ra _ rc v w v0 (by omega) hm2).mono ?_
        rintro e w9 ⟨⟨u, rfl, u1, u2, u3⟩, rfl⟩
        by_cases hu : u < 0
        · go_wp2
          go_ret
          exact ⟨⟨-1, rfl, by omega, by omega, fun h => absurd h (by omega)⟩, rfl⟩
        · go_wp2
          go_roundw
          case rel =>
            refine ⟨k + 1, u, by omega, by omega, rfl, rfl, by omega, by omega, fun j hj => ?_, trivial⟩
            by_cases e : (j : Int) = k
            · rw [e]; have := u3 (by omega); omega
            · exact HR.out j (by omega)
          case measure => simp [intOf]; omega
      · go_wp2
        go_ret
        exact ⟨⟨v, rfl, by omega, by omega, fun _ => ⟨by omega, fun j hj => hr j (by omega)⟩⟩, rfl⟩

theorem size_LAlg (x y : Value) : (Try.prog.info? 25).map (·.size) = some (#[x, y] : Array Value).size := by
  have : (Try.prog.info? 25).map (·.size) = some 2 := by kernel_rfl
  rw [this]; rfl
theorem bxL_cells {w : World} {g : Nat} {x y : Value} (h : w.heap[g]? = some (.cells #[x, y] 25 (0, 0))) : w.cell? ⟨g, 0, none⟩ = some x ∧ w.cell? ⟨g, 1, none⟩ = some y :=
  ⟨by rw [cell_of_row w g 0 _ _ _ h]; rfl, by rw [cell_of_row w g 1 _ _ _ h]; rfl⟩
set_option maxRecDepth 100000 in
set_option maxHeartbeats 1000000 in
/-- laws.szAlgebra -/
theorem szAlgebra_any (a b : Option Addr) (ca cb : Nat) (L : List Int) (T : List (List Int)) (left : Int) (w : World) (hT : RdT w b T) (h0 : 0 ≤ left) (h1 : left ≤ 1048576) (hL : (L.length : Int) ≤ 9223372036854775807) (hm : ∀ j : Nat, j < T.length → ((rowAt T j).length : Int) ≤ 9223372036854775807) (hn : (T.length : Int) ≤ 9223372036854775807) :
    Calls Try.prog 15 #[.agg #[.slice a L.length ca, .slice b T.length cb], .int .i64 left] w fun e w' => (∃ v, e = .returned (.int .i64 v) ∧ v ≤ left ∧ -1 ≤ v ∧ (0 ≤ v → (L.length : Int) ≤ left ∧ (T.length : Int) ≤ left ∧ ∀ j : Nat, j < T.length → ((rowAt T j).length : Int) ≤ left)) ∧ Below w.heap.size w w' := by
  have hB : Below w.heap.size w (w.alloc (.cells #[.slice a L.length ca, .slice b T.length cb] 25)) := (Below.refl _ _).alloc (Nat.le_refl _) _
  have hx : (w.alloc (.cells #[.slice a L.length ca, .slice b T.length cb] 25)).heap[w.heap.size]? = some (.cells #[.slice a L.length ca, .slice b T.length cb] 25 (0, 0)) := heap_alloc_new w _
  obtain ⟨w1, hw1⟩ : ∃ w1, w1 = w.alloc (.cells #[.slice a L.length ca, .slice b T.length cb] 25) := ⟨_, rfl⟩
  rw [← hw1] at hB hx
  obtain ⟨c0, c1⟩ := bxL_cells hx
  have hT1 := hT.below hB
  have HM := Lib.hid hm
  have HT := Lib.hid hT1
  clear hm hT hT1 hx
  go_enter Try.func15, Try.ntmps15
  go_wp2_with (rw [← hw1]; clear hw1)
  refine (szIntS_any a _ ca left w1 h0 h1 hL).mono ?_
  rintro e w9 ⟨⟨u, rfl, u1, u2, u3⟩, rfl⟩
  by_cases hu : u < 0
  · go_wp2
    go_ret
    exact ⟨⟨-1, rfl, by omega, by omega, fun h => absurd h (by omega)⟩, hB⟩
  · go_wp2_with fail
    refine (szIntSS_any b cb T u w1 HT.out (by omega) (by omega) HM.out hn).mono ?_
    rintro e w9 ⟨⟨v, rfl, v1, v2, v3⟩, rfl⟩
    by_cases hv : v < 0
    · go_wp2
      go_ret
      exact ⟨⟨-1, rfl, by omega, by omega, fun h => absurd h (by omega)⟩, hB⟩
    · go_wp2
      go_ret
      refine ⟨⟨v, rfl, by omega, by omega, fun _ => ?_⟩, hB⟩
      obtain ⟨q1, q2⟩ := v3 (by omega)
      have := u3 (by omega)
      exact ⟨by omega, by omega, fun j hj => by have := q2 j hj; omega⟩

theorem eqIntS_same (a1 a2 : Option Addr) (c1 c2 : Nat) (A : List Int) (w : World) (h1 : Rd w a1 A) (h2 : Rd w a2 A) (hm : A.length ≤ 1073741824) :
    Calls Try.prog 23 #[.slice a1 A.length c1, .slice a2 A.length c2] w fun e w' => e = .returned (.bool true) ∧ Dr w w' := by
  have h := eqIntS_any a1 a2 c1 c2 A A w h1 h2 hm
  rwa [show eqL A A = true from decide_eq_true rfl] at h
set_option maxRecDepth 100000 in
set_option maxHeartbeats 1000000 in
/-- laws.eqIntSS, of two that read the same -/
theorem eqIntSS_same (b1 b2 : Option Addr) (c1 c2 : Nat) (T : List (List Int)) (w : World) (h1 : RdT w b1 T) (h2 : RdT w b2 T) (hm : ∀ j : Nat, j < T.length → (rowAt T j).length ≤ 1073741824) (hn : T.length ≤ 1073741824) :
    Calls Try.prog 56 #[.slice b1 T.length c1, .slice b2 T.length c2] w fun e w' => e = .returned (.bool true) ∧ Dr w w' := by
  have hne : ((T.length : Int) != (T.length : Int)) = false := by simp
  have HM := Lib.hid hm
  have H1 := Lib.hid h1
  have H2 := Lib.hid h2
  clear hm h1 h2
  go_enter Try.func56, Try.ntmps56
  go_wp2
  go_loopw [5] (fun i wr => ∃ k : Int, 0 ≤ k ∧ k ≤ T.length ∧ i = .int .i64 k ∧ Dr w wr) (fun i _ => ((T.length : Int) - intOf i).toNat)
  case atStart => exact ⟨0, by omega, by omega, rfl, Dr.refl _⟩
  case round =>
    obtain ⟨k, k0, k1, rfl, hd⟩ := hrel
    by_cases hk : k < T.length
    · have hne2 : T ≠ [] := by intro e; rw [e] at hk; simp at hk; omega
      obtain ⟨B1, o1, rfl, q1⟩ := (H1.out.dr hd) hne2
      obtain ⟨B2, o2, rfl, q2⟩ := (H2.out.dr hd) hne2
      obtain ⟨ra1, rc1, d1, r1⟩ := RdT.row q1 k0 hk
      obtain ⟨ra2, rc2, d2, r2⟩ := RdT.row q2 k0 hk
      have hm2 := HM.out k.toNat (by omega)
      rw [Int.toNat_of_nonneg k0] at hm2
      have R1 := Lib.hid r1
      have R2 := Lib.hid r2
      have HM2 := Lib.hid hm2
      clear q1 q2 hne2 r1 r2 hm2
      go_wp2
      go_quiet (first | (go_at_call 23; exact q_dr (eqIntS_same _ _ _ _ _ _ (Dr.rd ⟨_, rfl⟩ R1.out) (Dr.rd ⟨_, rfl⟩ R2.out) HM2.out)))
      go_wp2
      go_roundw
      case rel => exact ⟨k + 1, by omega, by omega, rfl, hd.more _⟩
      case measure => simp [intOf]; omega
    · go_wp2
      go_ret
      exact ⟨rfl, hd⟩

set_option maxRecDepth 100000 in
set_option maxHeartbeats 1000000 in
/-- laws.eqAlgebra, of two that read the same -/
theorem eqAlgebra_same (a1 a2 b1 b2 : Option Addr) (ca1 ca2 cb1 cb2 : Nat) (L : List Int) (T : List (List Int)) (w : World) (h1 : Rd w a1 L) (h2 : Rd w a2 L) (t1 : RdT w b1 T) (t2 : RdT w b2 T) (hL : L.length ≤ 1073741824) (hm : ∀ j : Nat, j < T.length → (rowAt T j).length ≤ 1073741824) (hn : T.length ≤ 1073741824) :
    Calls Try.prog 19 #[.agg #[.slice a1 L.length ca1, .slice b1 T.length cb1], .agg #[.slice a2 L.length ca2, .slice b2 T.length cb2]] w fun e w' => e = .returned (.bool true) ∧ Below w.heap.size w w' := by
  obtain ⟨w1, hw1⟩ : ∃ w1, w1 = (w.alloc (.cells #[.slice a1 L.length ca1, .slice b1 T.length cb1] 28)).alloc (.cells #[.slice a2 L.length ca2, .slice b2 T.length cb2] 28) := ⟨_, rfl⟩
  have hB : Below w.heap.size w w1 := by rw [hw1]; exact ((Below.refl _ _).alloc (Nat.le_refl _) _).alloc (by simp) _
  have x1 : w1.heap[w.heap.size]? = some (.cells #[.slice a1 L.length ca1, .slice b1 T.length cb1] 28 (0, 0)) := by rw [hw1, Below.heap_alloc _ _ _ (by simp)]; exact heap_alloc_new w _
  have x2 : w1.heap[w.heap.size + 1]? = some (.cells #[.slice a2 L.length ca2, .slice b2 T.length cb2] 28 (0, 0)) := by rw [hw1]; exact heap_alloc2_new _ _ _
  obtain ⟨c0, c1⟩ := bx_cells x1
  obtain ⟨c2, c3⟩ := bx_cells x2
  have R1 := Lib.hid (h1.below hB)
  have R2 := Lib.hid (h2.below hB)
  have S1 := Lib.hid (t1.below hB)
  have S2 := Lib.hid (t2.below hB)
  have HM := Lib.hid hm
  clear h1 h2 t1 t2 hm x1 x2
  go_enter Try.func19, Try.ntmps19
  go_wp2_with (first
    | (rw [← hw1]; clear hw1)
    | (go_at_call 23; refine (eqIntS_same _ _ _ _ _ _ R1.out R2.out hL).mono ?_; rintro e w2 ⟨rfl, hd⟩; have c4 := hd.cell c1; have c5 := hd.cell c3)
    | (go_at_call 56; refine (eqIntSS_same _ _ _ _ _ _ (S1.out.dr hd) (S2.out.dr hd) HM.out hn).mono ?_; rintro e w3 ⟨rfl, hd2⟩))
  go_ret
  exact ⟨rfl, hB.trans ((hd.trans hd2).below _)⟩
end Go.Proofs.Ytmapofenghjinaa
