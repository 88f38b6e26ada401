import Derived.Test.YtpfnfglaokiipaaU3
namespace Go.Proofs.Ytpfnfglaokiipaa
open Go.RowKit

set_option maxRecDepth 100000 in
set_option maxHeartbeats 1000000 in
theorem specCross_a (a b : Option Addr) (ca cb : Nat) (A B : List Int) (w : World) (hrA : Rd w a A) (ha : latB A = false) :
    Calls Try.prog 39 #[.slice a A.length ca, .slice b B.length cb] w (RetSl w.heap.size (crossI A B) w) := by
  have hv := Lib.hid (crossI_a (B := B) ha)
  go_enter Try.func39, Try.ntmps39
  go_wp2_with (first | go_skip | (go_at_call 46; refine (validLattice_any a ca A _ hrA).mono ?_; rw [ha]; rintro e w1 ⟨rfl, hd⟩))
  go_ret
  rw [hv.out]
  exact ⟨none, 0, rfl, Own.nothing _ _, hd.below _⟩
set_option maxRecDepth 100000 in
set_option maxHeartbeats 1000000 in
theorem specCross_b (a b : Option Addr) (ca cb : Nat) (A B : List Int) (w : World) (hrA : Rd w a A) (hrB : Rd w b B) (ha : latB A = true) (hb : latB B = false) :
    Calls Try.prog 39 #[.slice a A.length ca, .slice b B.length cb] w (RetSl w.heap.size (crossI A B) w) := by
  have hv := Lib.hid (crossI_b (A := A) hb)
  go_enter Try.func39, Try.ntmps39
  go_wp2_with (first | go_skip | (go_at_call 46; refine (validLattice_any b cb B _ (hd.rd hrB)).mono ?_; rw [hb]; rintro e w2 ⟨rfl, hd2⟩) | (go_at_call 46; refine (validLattice_any a ca A _ hrA).mono ?_; rw [ha]; rintro e w1 ⟨rfl, hd⟩))
  go_ret
  rw [hv.out]
  exact ⟨none, 0, rfl, Own.nothing _ _, (hd.trans hd2).below _⟩
set_option maxRecDepth 100000 in
set_option maxHeartbeats 1000000 in
theorem specCross_out (a b : Option Addr) (ca cb : Nat) (A B : List Int) (w : World) (hrA : Rd w a A) (hrB : Rd w b B) (ha : latB A = true) (hb : latB B = true) (hm : ¬ (A.length : Int) * B.length ≤ 6) :
    Calls Try.prog 39 #[.slice a A.length ca, .slice b B.length cb] w (RetSl w.heap.size (crossI A B) w) := by
  have hv := Lib.hid (crossI_c (A := A) (B := B) hm)
  obtain ⟨a1, a6, hsA⟩ := latB_parts ha
  obtain ⟨b1, b6, hsB⟩ := latB_parts hb
  have hna : num A = A.length := rfl
  have hnb : num B = B.length := rfl
  obtain ⟨m0, m36⟩ := mul_le36 (x := (A.length : Int)) (y := (B.length : Int)) (by omega) (by omega) (by omega) (by omega)
  have kmul : IntKind.i64.wrap ((A.length : Int) * B.length) = (A.length : Int) * B.length := IntWalk.i64_in _ (by omega)
  have hm2 : decide ((6 : Int) < (A.length : Int) * B.length) = true := decide_eq_true (by omega)
  obtain ⟨ab, ao, rfl, hcA⟩ := hrA.pos a1
  obtain ⟨bb, bo, rfl, hcB⟩ := hrB.pos b1
  go_enter Try.func39, Try.ntmps39
  go_wp2_with (first | go_skip | (go_at_call 46; refine (validLattice_any (some ⟨bb, bo, none⟩) cb B _ (hd.rd hrB)).mono ?_; rw [hb]; rintro e w2 ⟨rfl, hd2⟩) | (go_at_call 46; refine (validLattice_any (some ⟨ab, ao, none⟩) ca A _ hrA).mono ?_; rw [ha]; rintro e w1 ⟨rfl, hd⟩))
  go_ret
  rw [hv.out]
  exact ⟨none, 0, rfl, Own.nothing _ _, (hd.trans hd2).below _⟩
set_option maxRecDepth 100000 in
set_option maxHeartbeats 1000000 in
theorem specCross_in (a b : Option Addr) (ca cb : Nat) (A B : List Int) (w : World) (hrA : Rd w a A) (hrB : Rd w b B) (ha : latB A = true) (hb : latB B = true) (hm : (A.length : Int) * B.length ≤ 6) :
    Calls Try.prog 39 #[.slice a A.length ca, .slice b B.length cb] w (RetSl w.heap.size (crossI A B) w) := by
  have hv := Lib.hid (crossI_t ha hb hm)
  obtain ⟨a1, a6, hsA⟩ := latB_parts ha
  obtain ⟨b1, b6, hsB⟩ := latB_parts hb
  have hna : num A = A.length := rfl
  have hnb : num B = B.length := rfl
  obtain ⟨m0, m36⟩ := mul_le36 (x := (A.length : Int)) (y := (B.length : Int)) (by omega) (by omega) (by omega) (by omega)
  have kmul : IntKind.i64.wrap ((A.length : Int) * B.length) = (A.length : Int) * B.length := IntWalk.i64_in _ (by omega)
  have hm2 : decide ((6 : Int) < (A.length : Int) * B.length) = false := decide_eq_false (by omega)
  obtain ⟨ab, ao, rfl, hcA⟩ := hrA.pos a1
  obtain ⟨bb, bo, rfl, hcB⟩ := hrB.pos b1
  go_enter Try.func39, Try.ntmps39
  go_wp2_with (first | go_skip | (go_at_call 46; refine (validLattice_any (some ⟨bb, bo, none⟩) cb B _ (hd.rd hrB)).mono ?_; rw [hb]; rintro e w2 ⟨rfl, hd2⟩) | (go_at_call 46; refine (validLattice_any (some ⟨ab, ao, none⟩) ca A _ hrA).mono ?_; rw [ha]; rintro e w1 ⟨rfl, hd⟩) | (go_at_call 69; refine (cross_any ab ao bb bo ca cb A B _ (hd2.cells (hd.cells hcA)) (hd2.cells (hd.cells hcB)) hsA hsB a1 a6 b1 b6 hm).mono ?_; intro e w9 hret; obtain ⟨a9, c9, rfl, ho, h9⟩ := hret.sl))
  go_ret
  rw [hv.out]
  have hz := (hd.trans hd2).below w.heap.size
  exact ⟨a9, c9, rfl, ho.from hz.size, hz.trans (h9.mono hz.size)⟩
theorem specCrossLattices_any (a b : Option Addr) (ca cb : Nat) (A B : List Int) (w : World) (hrA : Rd w a A) (hrB : Rd w b B) :
    Calls Try.prog 39 #[.slice a A.length ca, .slice b B.length cb] w (RetSl w.heap.size (crossI A B) w) := by
  cases ha : latB A
  · exact specCross_a a b ca cb A B w hrA ha
  · cases hb : latB B
    · exact specCross_b a b ca cb A B w hrA hrB ha hb
    · by_cases hm : (A.length : Int) * B.length ≤ 6
      · exact specCross_in a b ca cb A B w hrA hrB ha hb hm
      · exact specCross_out a b ca cb A B w hrA hrB ha hb hm
theorem own_other {B : Nat} {w w1 : World} {v : Value} {L : List Int} {g : Nat} (o : Own B w v L) (hg : w.grownBy w1 (some g)) (h : ∀ q, v.ownBlock = some q → q ≠ g) : Own B w1 v L :=
  World.ownsRow.kept o hg (by
    cases e : v.ownBlock with
    | none => exact .inl rfl
    | some q => right; intro e2; exact h q e (by simpa using e2))

set_option maxRecDepth 100000 in
set_option maxHeartbeats 4000000 in
/-- the law -/
theorem lawCrossLattices (a b : Option Addr) (ca cb : Nat) (A B : List Int) (w : World) (hrA : Rd w a A) (hrB : Rd w b B) (hmA : A.length ≤ maxLen) (hmB : B.length ≤ maxLen) :
    Calls Try.prog 13 #[.slice a A.length ca, .slice b B.length cb] w fun e w' => e = .returned (.bool true) ∧ Below w.heap.size w w' := by
  have hmA' := hmA
  have hmB' := hmB
  unfold maxLen at hmA hmB
  by_cases hbA : 1048576 < A.length
  · go_enter Try.func13, Try.ntmps13
    go_wp2
    go_ret
    exact ⟨rfl, Below.refl _ _⟩
  by_cases hbB : 1048576 < B.length
  · have hsA2 : (A.length : Int) ≤ 1048576 := by omega
    go_enter Try.func13, Try.ntmps13
    go_wp2
    go_ret
    exact ⟨rfl, Below.refl _ _⟩
  have hsA : A.length ≤ 1048576 := by omega
  have hsB : B.length ≤ 1048576 := by omega
  have hsA2 : (A.length : Int) ≤ 1048576 := by omega
  have hsB2 : (B.length : Int) ≤ 1048576 := by omega
  obtain ⟨V, hV⟩ : ∃ V, V = crossI A B := ⟨_, rfl⟩
  have hlen : V.length ≤ 6 := by rw [hV]; exact crossI_len A B
  have HS := Lib.hid (show ∀ (a b : Option Addr) (ca cb : Nat) (w : World), Rd w a A → Rd w b B → Calls Try.prog 39 #[.slice a A.length ca, .slice b B.length cb] w (RetSl w.heap.size V w) from fun a b ca cb w h1 h2 => by rw [hV]; exact specCrossLattices_any a b ca cb A B w h1 h2)
  have HI := Lib.hid (show ∀ (a b : Option Addr) (ca cb : Nat) (w : World), Rd w a A → Rd w b B → Calls Try.prog 40 #[.slice a A.length ca, .slice b B.length cb] w (RetSl w.heap.size V w) from fun a b ca cb w h1 h2 => by rw [hV]; exact implCrossLattices_any a b ca cb A B w h1 h2)
  have KA := Lib.hid (show ∀ wz, Below w.heap.size w wz → Rd wz a A from fun wz h => hrA.below h)
  have KB := Lib.hid (show ∀ wz, Below w.heap.size w wz → Rd wz b B from fun wz h => hrB.below h)
  have eqA : eqL A A = true := decide_eq_true rfl
  have eqB : eqL B B = true := decide_eq_true rfl
  have eqV : eqL V V = true := decide_eq_true rfl
  clear hV hrA hrB
  go_enter Try.func13, Try.ntmps13
  go_wp2_with fail
  refine (toIntS_any a ca A _ (KA.out _ (Below.refl _ _)) hsA).mono ?_
  rintro e w1 ⟨rfl, r1, z1⟩
  go_wp2_with fail
  refine (toIntS_any b cb B _ (KB.out _ z1) hsB).mono ?_
  rintro e w2 ⟨rfl, r2, h2⟩
  have r1b := r1.below h2 r1.lt
  have z2 : Below w.heap.size w w2 := z1.trans (h2.mono z1.size)
  clear r1 h2
  go_wp2_with fail
  refine (HS.out _ _ _ _ _ r1b.rd r2.rd).mono ?_
  rintro e w3 ⟨a3, c3, rfl, o3, h3⟩
  have l3 := World.ownsRow.lt (Own.from o3 z2.size)
  replace o3 := o3.from z2.size
  have z3 : Below w.heap.size w w3 := z2.trans (h3.mono z2.size)
  clear r1b r2 h3 z2 z1
  go_wp2_with fail
  refine (toIntS_any a ca A _ (KA.out _ z3) hsA).mono ?_
  rintro e w4 ⟨rfl, r4, h4⟩
  have o4 := o3.below h4
  have z4 : Below w.heap.size w w4 := z3.trans (h4.mono z3.size)
  have hz3 := z3.size
  clear o3 h4 z3
  go_wp2_with fail
  refine (toIntS_any b cb B _ (KB.out _ z4) hsB).mono ?_
  rintro e w5 ⟨rfl, r5, h5⟩
  have q45 : w3.heap.size < w4.heap.size := r4.lt
  have q3w : w.heap.size ≤ w3.heap.size := by omega
  have r4b := r4.below h5 r4.lt
  have o5 := o4.below h5
  have z5 : Below w.heap.size w w5 := z4.trans (h5.mono z4.size)
  have q5 := r5.lt
  clear r4 o4 h5 z4 hz3
  go_wp2_with fail
  refine (HI.out _ _ _ _ _ r4b.rd r5.rd).mono ?_
  rintro e w6 ⟨a6, c6, rfl, p6, h6⟩
  have r4c := r4b.below h6 r4b.lt
  have r5b := r5.below h6 r5.lt
  have o6 := o5.below h6
  have z6 : Below w.heap.size w w6 := z5.trans (h6.mono z5.size)
  have hz5 := z5.size
  clear r4b r5 o5 h6 z5
  go_wp2_with fail
  refine (eqIntS_any _ _ _ _ V V _ p6.rd o6.rd (by omega)).mono ?_
  rw [eqV]
  rintro e w7 ⟨rfl, hd7⟩
  have r4d := r4c.dr hd7
  have r5c := r5b.dr hd7
  have o7 := o6.below (hd7.below _)
  have p7 := p6.below (hd7.below _)
  have z7 := z6.trans (hd7.below w.heap.size)
  clear r4c r5b o6 p6 z6 hd7
  go_wp2_with fail
  refine (toIntS_any a ca A _ (KA.out _ z7) hsA).mono ?_
  rintro e w8 ⟨rfl, r8, h8⟩
  have r4e := r4d.below h8 r4d.lt
  have r5d := r5c.below h8 r5c.lt
  have o8 := o7.below h8
  have p8 := p7.below h8
  have z8 : Below w.heap.size w w8 := z7.trans (h8.mono z7.size)
  clear r4d r5c o7 p7 z7 h8
  go_wp2_with fail
  refine (eqIntS_any _ _ _ _ A A _ r4e.rd r8.rd (by omega)).mono ?_
  rw [eqA]
  rintro e w9 ⟨rfl, hd9⟩
  have r4f := r4e.dr hd9
  have r5e := r5d.dr hd9
  have o9 := o8.below (hd9.below _)
  have p9 := p8.below (hd9.below _)
  have z9 := z8.trans (hd9.below w.heap.size)
  clear r4e r5d o8 p8 z8 hd9 r8
  go_wp2_with fail
  refine (toIntS_any b cb B _ (KB.out _ z9) hsB).mono ?_
  rintro e w10 ⟨rfl, r10, h10⟩
  have r4g := r4f.below h10 r4f.lt
  have r5f := r5e.below h10 r5e.lt
  have o10 := o9.below h10
  have p10 := p9.below h10
  have z10 : Below w.heap.size w w10 := z9.trans (h10.mono z9.size)
  clear r4f r5e o9 p9 z9 h10
  go_wp2_with fail
  refine (eqIntS_any _ _ _ _ B B _ r5f.rd r10.rd (by omega)).mono ?_
  rw [eqB]
  rintro e w11 ⟨rfl, hd11⟩
  have x11 : Own w3.heap.size w11 (.slice (some ⟨w3.heap.size, 0, none⟩) A.length A.length) A := Own.row (r4g.dr hd11) (Nat.le_refl _) hmA'
  have y11 : Own w4.heap.size w11 (.slice (some ⟨w4.heap.size, 0, none⟩) B.length B.length) B := Own.row (r5f.dr hd11) (Nat.le_refl _) hmB'
  have o11 := o10.below (hd11.below _)
  have p11 := p10.below (hd11.below _)
  have z11 := z10.trans (hd11.below w.heap.size)
  clear r4g r5f o10 p10 z10 hd11 r10
  go_wp2_with fail
  refine (markIntS_any _ _ A _ _ x11 (by omega) (by omega) (by omega)).mono ?_
  rintro e w12 ⟨rfl, _, hg12⟩
  have y12 := own_other y11 hg12 (fun q hq => by have e : w4.heap.size = q := (by simpa [Value.ownBlock] using hq); show q ≠ w3.heap.size; omega)
  have o12 := own_other o11 hg12 (fun q hq => by have := (l3 q hq).2; show q ≠ w3.heap.size; omega)
  have p12 := own_other p11 hg12 (fun q hq => by have := (World.ownsRow.lt p11 q hq).1; show q ≠ w3.heap.size; omega)
  have z12 : Below w.heap.size w w12 := z11.grown hg12 z11.size (fun k hk => by have e : w3.heap.size = k := (by simpa [Value.ownBlock] using hk); omega)
  clear x11 y11 o11 p11 z11 hg12
  go_wp2_with fail
  refine (markIntS_any _ _ B _ _ y12 (by omega) (by omega) (by omega)).mono ?_
  rintro e w13 ⟨rfl, _, hg13⟩
  have o13 := own_other o12 hg13 (fun q hq => by have := (l3 q hq).2; show q ≠ w4.heap.size; omega)
  have p13 := own_other p12 hg13 (fun q hq => by have := (World.ownsRow.lt p12 q hq).1; show q ≠ w4.heap.size; omega)
  have z13 : Below w.heap.size w w13 := z12.grown hg13 z12.size (fun k hk => by have e : w4.heap.size = k := (by simpa [Value.ownBlock] using hk); omega)
  clear y12 o12 p12 z12 hg13
  go_wp2_with fail
  refine (eqIntS_any _ _ _ _ V V _ p13.rd o13.rd (by omega)).mono ?_
  rw [eqV]
  rintro e w14 ⟨rfl, hd14⟩
  have o14 := o13.below (hd14.below _)
  have p14 := p13.below (hd14.below _)
  have z14 := z13.trans (hd14.below w.heap.size)
  clear o13 p13 z13 hd14
  go_wp2_with fail
  refine (markIntS_any _ _ V _ _ p14 (by omega) (by omega) (by omega)).mono ?_
  rintro e w15 ⟨rfl, p15, hg15⟩
  have o15 := own_apart (C := w5.heap.size) (fun q hq => ⟨(l3 q hq).1, by have := (l3 q hq).2; omega⟩) p14 o14 hg15
  have z15 : Below w.heap.size w w15 := z14.grown hg15 z14.size (fun k hk => by have := (World.ownsRow.lt p14 k hk).1; omega)
  have t15 : Rd w15 a6 (markL 1 V.length) := Own.rd (B := w5.heap.size) (cap := c6) (by rw [markL_len]; exact p15)
  clear o14 p14 z14 hg15 p15
  go_wp2_with fail
  refine (heldIntS_any _ _ _ _ _ t15 (by omega) (by omega) (by omega)).mono ?_
  rintro e w16 ⟨rfl, rfl⟩
  have hne : ((1 : Int) + (V.length : Int) != 1 + (V.length : Int)) = false := by simp
  go_wp2_with fail
  refine (toIntS_any a ca A _ (KA.out _ z15) hsA).mono ?_
  rintro e w17 ⟨rfl, r17, h17⟩
  have o17 := o15.below h17
  have t17 := t15.below h17
  have z17 : Below w.heap.size w w17 := z15.trans (h17.mono z15.size)
  clear o15 t15 z15 h17
  go_wp2_with fail
  refine (toIntS_any b cb B _ (KB.out _ z17) hsB).mono ?_
  rintro e w18 ⟨rfl, r18, h18⟩
  have r17b := r17.below h18 r17.lt
  have o18 := o17.below h18
  have t18 := t17.below h18
  have z18 : Below w.heap.size w w18 := z17.trans (h18.mono z17.size)
  clear r17 o17 t17 z17 h18
  go_wp2_with fail
  refine (HI.out _ _ _ _ _ r17b.rd r18.rd).mono ?_
  rintro e w19 ⟨a19, c19, rfl, p19, h19⟩
  have o19 := o18.below h19
  have t19 := t18.below h19
  have z19 : Below w.heap.size w w19 := z18.trans (h19.mono z18.size)
  clear r17b r18 o18 t18 z18 h19
  go_wp2_with fail
  refine (eqIntS_any _ _ _ _ V V _ p19.rd o19.rd (by omega)).mono ?_
  rw [eqV]
  rintro e w20 ⟨rfl, hd20⟩
  have t20 := hd20.rd t19
  have z20 := z19.trans (hd20.below w.heap.size)
  clear o19 t19 z19 p19 hd20
  go_wp2_with fail
  refine (heldIntS_any _ _ _ _ _ t20 (by omega) (by omega) (by omega)).mono ?_
  rintro e w21 ⟨rfl, rfl⟩
  go_wp2
  go_ret
  exact ⟨rfl, z20⟩
end Go.Proofs.Ytpfnfglaokiipaa
