import Derived.Test.YtjcambkjcagcoaaGreatKS1
import Derived.Test.YtjcambkjcagcoaaGreatG9
namespace Go.Proofs.YtjcambkjcagcoaaGreat
open Go.RowKit
set_option linter.unusedVariables false

theorem own_cell {B : Nat} {w : World} {g c : Nat} {Y : List Int} (h : Own B w (.slice (some ⟨g, 0, none⟩) Y.length c) Y) {k : Int} (k0 : 0 ≤ k) (k1 : k < Y.length) : w.cell? ⟨g, k.toNat, none⟩ = some (.int .i64 (nth Y k)) := by
  obtain ⟨b', o', e, hc⟩ := h.rd (fun e => by rw [e] at k1; simp at k1; omega)
  simp only [Option.some.injEq, Addr.mk.injEq] at e
  have := hc.at k k0 (show k < num Y from k1)
  rw [← e.1, ← e.2.1, Nat.zero_add] at this
  exact this
theorem own_frozen {B : Nat} {w : World} {g c n : Nat} {Y : List Int} (h : Own B w (.slice (some ⟨g, 0, none⟩) n c) Y) (k : Nat) : w.frozen? ⟨g, k, none⟩ = false := by
  obtain ⟨_, h⟩ := h
  rcases h with ⟨e, _⟩ | ⟨g', cap, cur, e, _, hg, _⟩
  · simp at e
  · injection e with e1 _ _
    simp only [Option.some.injEq, Addr.mk.injEq, and_true] at e1
    rw [← e1] at hg
    exact frozen_of_row w g k _ _ hg
set_option maxRecDepth 100000 in
set_option maxHeartbeats 4000000 in
/-- slices.insertionSortOrdered, of a slice of the call's own -/
theorem insSort_any (X : List Int) (g c : Nat) (w : World) (B : Nat) (hown : Own B w (.slice (some ⟨g, 0, none⟩) X.length c) X) (h64 : X.length ≤ 64) (hX : 0 < X.length) (hB : B ≤ w.heap.size) :
    Calls Tryz.prog 177 #[.slice (some ⟨g, 0, none⟩) X.length c, .int .i64 0, .int .i64 (X.length : Int)] w fun e w' => e = .returned (.tuple #[]) ∧ ∃ Y, SameAs X Y ∧ UpTo Y ((X.length : Int) - 1) ∧ Own B w' (.slice (some ⟨g, 0, none⟩) X.length c) Y ∧ Below B w w' := by
  have hg : B ≤ g := by
    obtain ⟨_, h⟩ := hown
    rcases h with ⟨e, _⟩ | ⟨g', cap, cur, e, h1, _⟩
    · simp at e
    · injection e with e1 _ _
      simp only [Option.some.injEq, Addr.mk.injEq, and_true] at e1
      omega
  go_enter Tryz.func177, Tryz.ntmps177
  go_wp2
  go_loopw [6, 7] (fun iv _ wr => ∃ (i : Int) (Y : List Int), 1 ≤ i ∧ i ≤ X.length ∧ iv = .int .i64 i ∧ SameAs X Y ∧ UpTo Y (i - 1) ∧ Own B wr (.slice (some ⟨g, 0, none⟩) X.length c) Y ∧ Below B w wr) (fun iv _ _ => ((X.length : Int) - intOf iv).toNat)
  case atStart => exact ⟨1, X, by omega, by omega, rfl, SameAs.refl X, fun a b a0 ab b1 => by omega, hown, Below.refl _ _⟩
  case round =>
    clear hown
    obtain ⟨i, Y, i1, i2, rfl, hS, hU, hO, z⟩ := hrel
    by_cases hi : i < X.length
    · go_wp2
      go_loopw [7] (fun jv wr => ∃ (j : Int) (Y : List Int), 0 ≤ j ∧ j ≤ i ∧ jv = .int .i64 j ∧ SameAs X Y ∧ UpBut Y i j ∧ Own B wr (.slice (some ⟨g, 0, none⟩) X.length c) Y ∧ Below B w wr) (fun jv _ => (intOf jv).toNat)
      case atStart => exact ⟨i, Y, by omega, by omega, rfl, hS, UpBut.start hU, hO, z⟩
      case round =>
        clear hS hU hO z Y
        obtain ⟨j, Y, j0, j1, rfl, hS, hU, hO, z⟩ := hrel
        have hl := hS.len
        have hO' : Own B wr (.slice (some ⟨g, 0, none⟩) Y.length c) Y := by rw [hl]; exact hO
        have sz := z.size
        by_cases hj : 0 < j
        · obtain ⟨k, hk⟩ : ∃ k, k = j - 1 := ⟨_, rfl⟩
          have kw : IntKind.i64.wrap (j - 1) = k := by rw [hk]; exact IntWalk.i64_in _ (by omega)
          have k0 : 0 ≤ k := by omega
          have k1 : k < X.length := by omega
          have j2 : j < X.length := by omega
          have c0 := own_cell hO' j0 (by omega)
          have c1 := own_cell hO' k0 (by omega)
          have C0 := Lib.hid c0
          have C1 := Lib.hid c1
          obtain ⟨u, hu⟩ : ∃ u, u = nth Y j := ⟨_, rfl⟩
          obtain ⟨v, hv⟩ : ∃ v, v = nth Y k := ⟨_, rfl⟩
          rw [← hu] at C0
          rw [← hv] at C1
          have HK := Lib.hid hk
          have HU := Lib.hid hU
          have HS := Lib.hid hS
          have HL := Lib.hid hl
          have HUV := Lib.hid (And.intro hu hv)
          cases hlt : decide (u < v) with
          | false =>
            have HLT := Lib.hid (decide_eq_false_iff_not.1 hlt)
            have HL2 := Lib.hid hlt
            clear c0 c1 hu hv hk hU hS hl hlt
            go_wp2
            refine region_in (Below wr.heap.size wr) (by kernel_rfl) (by kernel_rfl) (Dr.below ⟨1, rfl⟩ _) fun hne => ?_
            have r0 : ∀ s : In (Below wr.heap.size wr), s.w.cell? ⟨g, j.toNat, none⟩ = some (.int .i64 u) := fun s => (s.h.cell (by exact block_lt_of_cell C0.out)).trans C0.out
            have r1 : ∀ s : In (Below wr.heap.size wr), s.w.cell? ⟨g, k.toNat, none⟩ = some (.int .i64 v) := fun s => (s.h.cell (by exact block_lt_of_cell C1.out)).trans C1.out
            repeat (go_big_quiet_step ((go_at_call 183; exact in_same _ (cmpLess_any _ _ _ HL2.out))))
            refine wpQuiet_nil ?_
            intro s
            have z4 : Below B w s.w := z.trans (s.h.mono (by omega))
            have O4 := hO.below s.h
            obtain ⟨w7, hw7⟩ : ∃ x : World, x = s.w := ⟨_, rfl⟩
            rw [← hw7] at z4 O4 ⊢
            clear hw7 r0 r1
            go_wp2
            go_roundw
            case rel => exact ⟨i + 1, Y, by omega, by omega, rfl, HS.out, by rw [show i + 1 - 1 = i by omega]; exact HU.out.done j0 j1 (.inr (by rw [← HK.out, ← HUV.out.1, ← HUV.out.2]; have := HLT.out; omega)), O4, z4⟩
            case measure => simp [intOf]; omega
          | true =>
            have HLT := Lib.hid (decide_eq_true_iff.1 hlt)
            have HL2 := Lib.hid hlt
            clear c0 c1 hu hv hk hU hS hl hlt
            go_wp2
            refine region_in (Below wr.heap.size wr) (by kernel_rfl) (by kernel_rfl) (Dr.below ⟨1, rfl⟩ _) fun hne => ?_
            have r0 : ∀ s : In (Below wr.heap.size wr), s.w.cell? ⟨g, j.toNat, none⟩ = some (.int .i64 u) := fun s => (s.h.cell (by exact block_lt_of_cell C0.out)).trans C0.out
            have r1 : ∀ s : In (Below wr.heap.size wr), s.w.cell? ⟨g, k.toNat, none⟩ = some (.int .i64 v) := fun s => (s.h.cell (by exact block_lt_of_cell C1.out)).trans C1.out
            repeat (go_big_quiet_step ((go_at_call 183; exact in_same _ (cmpLess_any _ _ _ HL2.out))))
            refine wpQuiet_nil ?_
            intro s
            have z4 : Below B w s.w := z.trans (s.h.mono (by omega))
            have O4 := hO.below s.h
            have c0 := r0 s
            have c1 := r1 s
            obtain ⟨w7, hw7⟩ : ∃ x : World, x = s.w := ⟨_, rfl⟩
            rw [← hw7] at z4 O4 c0 c1 ⊢
            clear hw7 r0 r1
            have f0 := own_frozen O4 j.toNat
            have f1 := own_frozen O4 k.toNat
            have hne : ¬ k.toNat = j.toNat := by have := HK.out; omega
            have hne2 : ¬ j.toNat = k.toNat := by have := HK.out; omega
            go_wp2
            go_region
            obtain ⟨w8, hw8⟩ : ∃ x : World, x = ((w7.setCell ⟨g, j.toNat, none⟩ (.int .i64 v)).setCell ⟨g, k.toNat, none⟩ (.int .i64 u)).drew := ⟨_, rfl⟩
            rw [← hw8]
            have O8 : Own B w8 (.slice (some ⟨g, 0, none⟩) X.length c) (sw Y j) := by
              have h1 : Own B w7 (.slice (some ⟨g, 0, none⟩) Y.length c) Y := by rw [HL.out]; exact O4
              have h2 := (h1.stored j.toNat v).1
              have h3 := (h2.stored k.toNat u).1
              rw [hw8]
              have e : (Y.set j.toNat v).set k.toNat u = sw Y j := by unfold sw; rw [← HK.out, ← HUV.out.1, ← HUV.out.2]
              rw [e, sw_len, HL.out] at h3
              exact h3
            have z8 : Below B w w8 := by rw [hw8]; exact ((z4.setCell (by exact hg) _).setCell (by exact hg) _).drew
            clear hw8 c0 c1 f0 f1 O4 z4 hne hne2
            go_wp2
            go_roundw
            case rel => exact ⟨j - 1, sw Y j, by omega, by omega, by rw [HK.out], HS.out.swp (by omega) (by rw [HL.out]; exact j2), HU.out.step (by omega) j1 (by rw [HL.out]; omega) (by rw [← HK.out, ← HUV.out.1, ← HUV.out.2]; exact HLT.out), O8, z8⟩
            case measure => simp [intOf]; have := HK.out; omega
        · have e : j = 0 := by omega
          subst e
          have HU := Lib.hid hU
          have HS := Lib.hid hS
          clear hU hS hl
          go_wp2
          refine region_in (Below wr.heap.size wr) (by kernel_rfl) (by kernel_rfl) (Dr.below ⟨1, rfl⟩ _) fun hne => ?_
          repeat (go_big_quiet_step (fail))
          refine wpQuiet_nil ?_
          intro s
          have z4 : Below B w s.w := z.trans (s.h.mono (by omega))
          have O4 := hO.below s.h
          obtain ⟨w7, hw7⟩ : ∃ x : World, x = s.w := ⟨_, rfl⟩
          rw [← hw7] at z4 O4 ⊢
          clear hw7
          go_wp2
          go_roundw
          case rel => exact ⟨i + 1, Y, by omega, by omega, rfl, HS.out, by rw [show i + 1 - 1 = i by omega]; exact HU.out.done j0 j1 (.inl rfl), O4, z4⟩
          case measure => simp [intOf]; omega
    · have e : i = X.length := by omega
      subst e
      go_wp2
      go_end0
      exact ⟨rfl, Y, hS, hU, hO, z⟩
theorem small_len (n : Int) (n0 : 0 ≤ n) (n1 : n ≤ 12) : n = 0 ∨ n = 1 ∨ n = 2 ∨ n = 3 ∨ n = 4 ∨ n = 5 ∨ n = 6 ∨ n = 7 ∨ n = 8 ∨ n = 9 ∨ n = 10 ∨ n = 11 ∨ n = 12 := by omega
set_option maxRecDepth 100000 in
set_option maxHeartbeats 4000000 in
theorem len64_any (n : Int) (n0 : 0 ≤ n) (n1 : n ≤ 12) (w : World) : Calls Tryz.prog 187 #[.int .u64 n] w fun e w' => ∃ k, e = .returned (.int .i64 k) ∧ w = w' := by
  rcases small_len n n0 n1 with rfl | rfl | rfl | rfl | rfl | rfl | rfl | rfl | rfl | rfl | rfl | rfl | rfl
  all_goals
    go_enter Tryz.func187, Tryz.ntmps187
    go_wp2
    go_ret
    exact ⟨_, rfl, rfl⟩
set_option maxRecDepth 100000 in
set_option maxHeartbeats 1000000 in
theorem bitsLen_any (n : Int) (n0 : 0 ≤ n) (n1 : n ≤ 12) (w : World) : Calls Tryz.prog 175 #[.int .u64 n] w fun e w' => ∃ k, e = .returned (.int .i64 k) ∧ w = w' := by
  go_enter Tryz.func175, Tryz.ntmps175
  go_wp2_with (go_at_call 187; refine (len64_any n n0 n1 _).mono ?_; rintro e w' ⟨k, rfl, rfl⟩)
  go_ret
  exact ⟨_, rfl, rfl⟩
end Go.Proofs.YtjcambkjcagcoaaGreat
