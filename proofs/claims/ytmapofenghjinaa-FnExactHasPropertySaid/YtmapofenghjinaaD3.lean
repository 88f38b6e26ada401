import Derived.Test.YtmapofenghjinaaD2
import Derived.Test.YtmapofenghjinaaL5
namespace Go.Proofs.Ytmapofenghjinaa
open Go.RowKit

/-- Nothing that was there has turned but the blocks from lo up to hi. -/
structure Mid (lo hi : Nat) (w w' : World) : Prop where
  os : w'.os = w.os
  tape : w'.tape = w.tape
  output : w'.output = w.output
  size : w.heap.size ≤ w'.heap.size
  block : ∀ k, k < w.heap.size → (k < lo ∨ hi ≤ k) → w'.heap[k]? = w.heap[k]?
section
variable {lo hi : Nat} {w w' : World}
theorem Mid.refl (lo hi : Nat) (w : World) : Mid lo hi w w := ⟨rfl, rfl, rfl, Nat.le_refl _, fun _ _ _ => rfl⟩
theorem Mid.trans {a b c : World} (h : Mid lo hi a b) (k : Mid lo hi b c) : Mid lo hi a c :=
  ⟨k.os.trans h.os, k.tape.trans h.tape, k.output.trans h.output, Nat.le_trans h.size k.size, fun i hi' hne => (k.block i (Nat.lt_of_lt_of_le hi' h.size) hne).trans (h.block i hi' hne)⟩
theorem Mid.wide {lo2 hi2 : Nat} (h : Mid lo hi w w') (h1 : lo2 ≤ lo) (h2 : hi ≤ hi2) : Mid lo2 hi2 w w' :=
  ⟨h.os, h.tape, h.output, h.size, fun k hk hn => h.block k hk (by omega)⟩
theorem Mid.setCell {a : World} (h : Mid lo hi a w) {p : Addr} (h1 : lo ≤ p.block) (h2 : p.block < hi) (v : Value) : Mid lo hi a (w.setCell p v) := by
  have hb : Below p.block w (w.setCell p v) := (Below.refl _ _).setCell (Nat.le_refl _) v
  exact ⟨hb.os.trans h.os, hb.tape.trans h.tape, hb.output.trans h.output, Nat.le_trans h.size hb.size, fun k hk hn => by rw [heap_setCell_other w p k v (by omega)]; exact h.block k hk hn⟩
theorem Mid.of {C : Nat} (h : Below C w w') (hC : w.heap.size ≤ C) : Mid lo hi w w' := ⟨h.os, h.tape, h.output, h.size, fun k hk _ => h.block k (by omega)⟩
theorem Mid.below (h : Mid lo hi w w') {C : Nat} (h1 : C ≤ lo) (h2 : C ≤ w.heap.size) : Below C w w' := ⟨h.os, h.tape, h.output, h.size, fun k hk => h.block k (by omega) (.inl (by omega))⟩
theorem Row.mid {b : Nat} {L : List Int} (h : Row w b L) (hm : Mid lo hi w w') (hb : b < lo ∨ hi ≤ b) : Row w' b L := (hm.block b h.lt hb).trans h
theorem Own.mid {B : Nat} {v : Value} {L : List Int} (h : Own B w v L) (hm : Mid lo hi w w') (hq : ∀ q, v.ownBlock = some q → q < lo ∨ hi ≤ q) : Own B w' v L := by
  obtain ⟨h1, h⟩ := h
  refine ⟨h1, ?_⟩
  rcases h with h | ⟨g, cap, cur, e1, e2, hg, e3, e4, e5, e6⟩
  · exact .inl h
  · exact .inr ⟨g, cap, cur, e1, e2, (hm.block g (lt_of_block hg) (hq g (by rw [e1]; rfl))).trans hg, e3, e4, e5, e6⟩
end

set_option maxHeartbeats 1000000 in
/-- laws.markIntS of a block of its own -/
theorem markRow_any (b : Nat) (L : List Int) (k : Int) (w : World) (hr : Row w b L) (k0 : 0 ≤ k) (k1 : k ≤ 4611686018427387904) (hm : L.length ≤ 1073741824) :
    Calls Try.prog 24 #[.slice (some ⟨b, 0, none⟩) L.length L.length, .int .i64 k] w fun e w' => e = .returned (.int .i64 (k + L.length)) ∧ Row w' b (markL k L.length) ∧ Mid b (b + 1) w w' := by
  go_enter Try.func24, Try.ntmps24
  go_wp2
  go_loopw [1, 5] (fun m i wr => ∃ j : Int, 0 ≤ j ∧ j ≤ L.length ∧ i = .int .i64 j ∧ m = .int .i64 (k + j) ∧ Row wr b (markTo L k j.toNat) ∧ Mid b (b + 1) w wr) (fun _ i _ => ((L.length : Int) - intOf i).toNat)
  case atStart => exact ⟨0, by omega, by omega, rfl, by simp, hr, Mid.refl _ _ _⟩
  case round =>
    obtain ⟨j, j0, j1, rfl, rfl, ho, hg⟩ := hrel
    by_cases hj : j < L.length
    · have hlen := markTo_len L k j.toNat (by omega)
      have c0 := ho.cell j0 (by rw [hlen]; exact hj)
      have f0 := ho.free j.toNat
      have hse := Lib.hid (markTo_set L k j.toNat (by omega))
      clear hlen
      go_wp2
      go_roundw
      case rel =>
        have e := hse.out
        rw [Int.toNat_of_nonneg j0] at e
        exact ⟨j + 1, by omega, by omega, rfl, by rw [Int.add_assoc], by rw [show (j + 1).toNat = j.toNat + 1 by omega, ← e]; exact ho.set _ _, hg.setCell (Nat.le_refl _) (by simp) _⟩
      case measure => simp [intOf]; omega
    · have e : j = L.length := by omega
      subst e
      rw [Int.toNat_natCast, markTo_all] at ho
      go_wp2
      go_ret
      exact ⟨rfl, ho, hg⟩

set_option maxRecDepth 100000 in
set_option maxHeartbeats 1000000 in
/-- laws.markIntSS of a table of the call's own -/
theorem markIntSS_any (lo B : Nat) (R : Nat → Nat) (T : List (List Int)) (k : Int) (w : World) (hown : TabOwn w lo B R T T.length) (hi : Nat) (hR : ∀ j, j < T.length → R j < hi) (k0 : 0 ≤ k) (k1 : k ≤ 1099511627776) (hn : T.length ≤ 1048576) (hm : ∀ j : Nat, j < T.length → (rowAt T j).length ≤ 1048576) :
    Calls Try.prog 65 #[.slice (some ⟨B, 0, none⟩) T.length T.length, .int .i64 k] w fun e w' => (∃ v, e = .returned (.int .i64 v) ∧ k ≤ v) ∧ Mid (B + 1) hi w w' := by
  have HM := Lib.hid hm
  have HO := Lib.hid hown
  have HRR := Lib.hid hR
  clear hm hown hR
  go_enter Try.func65, Try.ntmps65
  go_wp2
  go_loopw [1, 5] (fun m i wr => ∃ j v : Int, 0 ≤ j ∧ j ≤ T.length ∧ i = .int .i64 j ∧ m = .int .i64 v ∧ k ≤ v ∧ v ≤ k + j * 1048576 ∧ (∀ i : Nat, j ≤ i → i < T.length → Row wr (R i) (rowAt T i)) ∧ Mid (B + 1) hi w wr) (fun _ i _ => ((T.length : Int) - intOf i).toNat)
  case atStart => exact ⟨0, k, by omega, by omega, rfl, rfl, by omega, by omega, fun i _ hi => HO.out.row i hi, Mid.refl _ _ _⟩
  case round =>
    obtain ⟨j, v, j0, j1, rfl, rfl, v0, v1, hrows, hg⟩ := hrel
    by_cases hj : j < T.length
    · have hrow := hrows j.toNat (by omega) (by omega)
      have hm2 := HM.out j.toNat (by omega)
      have hup := HO.out.up j.toNat (by omega)
      have hlt := HRR.out j.toNat (by omega)
      rw [Int.toNat_of_nonneg j0] at hrow hm2
      have c0 : wr.cell? ⟨B, j.toNat, none⟩ = some (.slice (some ⟨R j.toNat, 0, none⟩) (rowAt T j).length (rowAt T j).length) := by
        have ht := (hg.block B HO.out.lt (.inl (by omega))).trans HO.out.top
        rw [cell_of_row wr B _ _ _ _ ht, slTo_get _ _ _ _ (by omega), if_pos (by omega), Int.toNat_of_nonneg j0]
      have HR := Lib.hid hrows
      clear hrows
      go_wp2_with fail
      refine (markRow_any _ _ v wr hrow (by omega) (by omega) (by omega)).mono ?_
      rintro e w5 ⟨rfl, _, hm5⟩
      go_wp2
      go_roundw
      case rel =>
        refine ⟨j + 1, v + (rowAt T j).length, by omega, by omega, rfl, rfl, by omega, by omega, fun i hi hi2 => ?_, hg.trans (hm5.wide (by omega) (by omega))⟩
        refine (HR.out i (by omega) hi2).mid hm5 (.inr ?_)
        have := HO.out.inc j.toNat i (by omega) hi2
        omega
      case measure => simp [intOf]; omega
    · go_wp2
      go_ret
      exact ⟨⟨v, rfl, v0⟩, hg⟩

set_option maxRecDepth 100000 in
set_option maxHeartbeats 1000000 in
/-- laws.markAlgebra of an algebra of the call's own -/
theorem markAlgebra_any (bu lo B : Nat) (R : Nat → Nat) (L : List Int) (T : List (List Int)) (k : Int) (w : World) (hrow : Row w bu L) (hb : bu < B) (hown : TabOwn w lo B R T T.length) (hi : Nat) (hR : ∀ j, j < T.length → R j < hi) (hbi : bu < hi) (k0 : 0 ≤ k) (k1 : k ≤ 1073741824) (hL : L.length ≤ 1048576) (hn : T.length ≤ 1048576) (hm : ∀ j : Nat, j < T.length → (rowAt T j).length ≤ 1048576) :
    Calls Try.prog 25 #[.agg #[.slice (some ⟨bu, 0, none⟩) L.length L.length, .slice (some ⟨B, 0, none⟩) T.length T.length], .int .i64 k] w fun e w' => (∃ v, e = .returned (.int .i64 v) ∧ k ≤ v) ∧ Mid bu hi w w' := by
  obtain ⟨w1, hw1⟩ : ∃ w1, w1 = w.alloc (.cells #[.slice (some ⟨bu, 0, none⟩) L.length L.length, .slice (some ⟨B, 0, none⟩) T.length T.length] 28) := ⟨_, rfl⟩
  have hB : Below w.heap.size w w1 := by rw [hw1]; exact (Below.refl _ _).alloc (Nat.le_refl _) _
  have hx : w1.heap[w.heap.size]? = some (.cells #[.slice (some ⟨bu, 0, none⟩) L.length L.length, .slice (some ⟨B, 0, none⟩) T.length T.length] 28 (0, 0)) := by rw [hw1]; exact heap_alloc_new w _
  obtain ⟨c0, c1⟩ := bx_cells hx
  have row1 := hrow.below hB hrow.lt
  have own1 := hown.below hB
  have hlt := hrow.lt
  have hltB := hown.lt
  have HM := Lib.hid hm
  clear hm hrow hown
  go_enter Try.func25, Try.ntmps25
  go_wp2_with (rw [← hw1]; clear hw1)
  refine (markRow_any bu L k w1 row1 k0 (by omega) (by omega)).mono ?_
  rintro e w2 ⟨rfl, _, m2⟩
  have hx2 := (m2.block _ (lt_of_block hx) (.inr (by omega))).trans hx
  have own2 : TabOwn w2 lo B R T T.length := ⟨(m2.block _ own1.lt (.inr (by omega))).trans own1.top, own1.lo, fun j hj => (own1.row j hj).mid m2 (.inr (by have := own1.up j hj; omega)), own1.up, own1.inc⟩
  obtain ⟨d0, d1⟩ := bx_cells hx2
  go_wp2_with fail
  refine (markIntSS_any lo B R T _ w2 own2 hi hR (by omega) (by omega) hn HM.out).mono ?_
  rintro e w3 ⟨⟨v, rfl, hv⟩, m3⟩
  go_wp2
  go_ret
  have hs2 := m2.size
  have hs1 := hB.size
  have hs3 := m3.size
  refine ⟨⟨v, rfl, by omega⟩, m3.os.trans (m2.os.trans hB.os), m3.tape.trans (m2.tape.trans hB.tape), m3.output.trans (m2.output.trans hB.output), by omega, fun i hi2 hne => ?_⟩
  exact (m3.block i (by omega) (by omega)).trans ((m2.block i (by omega) (by omega)).trans (hB.block i hi2))
end Go.Proofs.Ytmapofenghjinaa
