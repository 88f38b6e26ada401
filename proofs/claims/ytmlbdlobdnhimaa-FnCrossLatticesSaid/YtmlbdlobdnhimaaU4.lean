import Derived.Test.YtmlbdlobdnhimaaU3
namespace Go.Proofs.Ytmlbdlobdnhimaa
open Go.RowKit

set_option maxRecDepth 100000 in
set_option maxHeartbeats 1000000 in
theorem specCross_a (a b : Option Addr) (ca cb : Nat) (A B : List Int) (w : World) (hrA : Rd w a A) (ha : latB A = false) :
    Calls Try.prog 48 #[.slice a A.length ca, .slice b B.length cb] w (RetSl w.heap.size (crossI A B) w) := by
  have hv := Lib.hid (crossI_a (B := B) ha)
  go_enter Try.func48, Try.ntmps48
  go_wp2_with (first | go_skip | (go_at_call 60; refine (validLattice_any a ca A _ hrA).mono ?_; rw [ha]; rintro e w1 ⟨rfl, hd⟩))
  go_ret
  rw [hv.out]
  exact ⟨none, 0, rfl, Own.nothing _ _, hd.below _⟩
set_option maxRecDepth 100000 in
set_option maxHeartbeats 1000000 in
theorem specCross_b (a b : Option Addr) (ca cb : Nat) (A B : List Int) (w : World) (hrA : Rd w a A) (hrB : Rd w b B) (ha : latB A = true) (hb : latB B = false) :
    Calls Try.prog 48 #[.slice a A.length ca, .slice b B.length cb] w (RetSl w.heap.size (crossI A B) w) := by
  have hv := Lib.hid (crossI_b (A := A) hb)
  go_enter Try.func48, Try.ntmps48
  go_wp2_with (first | go_skip | (go_at_call 60; refine (validLattice_any b cb B _ (hd.rd hrB)).mono ?_; rw [hb]; rintro e w2 ⟨rfl, hd2⟩) | (go_at_call 60; refine (validLattice_any a ca A _ hrA).mono ?_; rw [ha]; rintro e w1 ⟨rfl, hd⟩))
  go_ret
  rw [hv.out]
  exact ⟨none, 0, rfl, Own.nothing _ _, (hd.trans hd2).below _⟩
set_option maxRecDepth 100000 in
set_option maxHeartbeats 1000000 in
theorem specCross_out (a b : Option Addr) (ca cb : Nat) (A B : List Int) (w : World) (hrA : Rd w a A) (hrB : Rd w b B) (ha : latB A = true) (hb : latB B = true) (hm : ¬ (A.length : Int) * B.length ≤ 6) :
    Calls Try.prog 48 #[.slice a A.length ca, .slice b B.length cb] w (RetSl w.heap.size (crossI A B) w) := by
  have hv := Lib.hid (crossI_c (A := A) (B := B) hm)
  obtain ⟨a1, a6, hsA⟩ := latB_parts ha
  obtain ⟨b1, b6, hsB⟩ := latB_parts hb
  have hna : num A = A.length := rfl
  have hnb : num B = B.length := rfl
  obtain ⟨m0, m36⟩ := mul_le36 (x := (A.length : Int)) (y := (B.length : Int)) (by omega) (by omega) (by omega) (by omega)
  have kmul : IntKind.i64.wrap ((A.length : Int) * B.length) = (A.length : Int) * B.length := IntWalk.i64_in _ (by omega)
  have hm2 : decide ((6 : Int) < (A.length : Int) * B.length) = true := decide_eq_true (by omega)
  obtain ⟨ab, ao, rfl, hcA⟩ := hrA.pos a1
  obtain ⟨bb, bo, rfl, hcB⟩ := hrB.pos b1
  go_enter Try.func48, Try.ntmps48
  go_wp2_with (first | go_skip | (go_at_call 60; refine (validLattice_any (some ⟨bb, bo, none⟩) cb B _ (hd.rd hrB)).mono ?_; rw [hb]; rintro e w2 ⟨rfl, hd2⟩) | (go_at_call 60; refine (validLattice_any (some ⟨ab, ao, none⟩) ca A _ hrA).mono ?_; rw [ha]; rintro e w1 ⟨rfl, hd⟩))
  go_ret
  rw [hv.out]
  exact ⟨none, 0, rfl, Own.nothing _ _, (hd.trans hd2).below _⟩
set_option maxRecDepth 100000 in
set_option maxHeartbeats 1000000 in
theorem specCross_in (a b : Option Addr) (ca cb : Nat) (A B : List Int) (w : World) (hrA : Rd w a A) (hrB : Rd w b B) (ha : latB A = true) (hb : latB B = true) (hm : (A.length : Int) * B.length ≤ 6) :
    Calls Try.prog 48 #[.slice a A.length ca, .slice b B.length cb] w (RetSl w.heap.size (crossI A B) w) := by
  have hv := Lib.hid (crossI_t ha hb hm)
  obtain ⟨a1, a6, hsA⟩ := latB_parts ha
  obtain ⟨b1, b6, hsB⟩ := latB_parts hb
  have hna : num A = A.length := rfl
  have hnb : num B = B.length := rfl
  obtain ⟨m0, m36⟩ := mul_le36 (x := (A.length : Int)) (y := (B.length : Int)) (by omega) (by omega) (by omega) (by omega)
  have kmul : IntKind.i64.wrap ((A.length : Int) * B.length) = (A.length : Int) * B.length := IntWalk.i64_in _ (by omega)
  have hm2 : decide ((6 : Int) < (A.length : Int) * B.length) = false := decide_eq_false (by omega)
  obtain ⟨ab, ao, rfl, hcA⟩ := hrA.pos a1
  obtain ⟨bb, bo, rfl, hcB⟩ := hrB.pos b1
  go_enter Try.func48, Try.ntmps48
  go_wp2_with (first | go_skip | (go_at_call 60; refine (validLattice_any (some ⟨bb, bo, none⟩) cb B _ (hd.rd hrB)).mono ?_; rw [hb]; rintro e w2 ⟨rfl, hd2⟩) | (go_at_call 60; refine (validLattice_any (some ⟨ab, ao, none⟩) ca A _ hrA).mono ?_; rw [ha]; rintro e w1 ⟨rfl, hd⟩) | (go_at_call 85; refine (cross_any ab ao bb bo ca cb A B _ (hd2.cells (hd.cells hcA)) (hd2.cells (hd.cells hcB)) hsA hsB a1 a6 b1 b6 hm).mono ?_; intro e w9 hret; obtain ⟨a9, c9, rfl, ho, h9⟩ := hret.sl))
  go_ret
  rw [hv.out]
  have hz := (hd.trans hd2).below w.heap.size
  exact ⟨a9, c9, rfl, ho.from hz.size, hz.trans (h9.mono hz.size)⟩
theorem specCrossLattices_any (a b : Option Addr) (ca cb : Nat) (A B : List Int) (w : World) (hrA : Rd w a A) (hrB : Rd w b B) :
    Calls Try.prog 48 #[.slice a A.length ca, .slice b B.length cb] w (RetSl w.heap.size (crossI A B) w) := by
  cases ha : latB A
  · exact specCross_a a b ca cb A B w hrA ha
  · cases hb : latB B
    · exact specCross_b a b ca cb A B w hrA hrB ha hb
    · by_cases hm : (A.length : Int) * B.length ≤ 6
      · exact specCross_in a b ca cb A B w hrA hrB ha hb hm
      · exact specCross_out a b ca cb A B w hrA hrB ha hb hm
theorem own_other {B : Nat} {w w1 : World} {v : Value} {L : List Int} {g : Nat} (o : Own B w v L) (hg : w.grownBy w1 (some g)) (h : ∀ q, v.ownBlock = some q → q ≠ g) : Own B w1 v L :=
  World.ownsRow.kept o hg (by
    cases e : v.ownBlock with
    | none => exact .inl rfl
    | some q => right; intro e2; exact h q e (by simpa using e2))

end Go.Proofs.Ytmlbdlobdnhimaa
