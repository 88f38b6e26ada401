import Derived.Test.YtidbilgnclfplaaTP5
import Derived.Laws.AppendOwnNone
namespace Go.Proofs.Ytidbilgnclfplaa
open Go.RowKit
set_option linter.unusedVariables false

/-- what is read of a text from a place on -/
def RetRq (n i : Nat) (o : Option (List Int × List UInt8)) (w : World) (e : Ending) (w' : World) : Prop :=
  ∃ t a c v, e = .returned (.tuple #[.slice a t.length c, .int .i64 v]) ∧ Own w.heap.size w' (.slice a t.length c) t ∧ t.length ≤ n - i ∧ Below w.heap.size w w' ∧
    ((∃ r : List UInt8, o = some (t, r) ∧ r.length ≤ n ∧ v = ((n - r.length : Nat) : Int)) ∨ (o = none ∧ v = -1))
theorem RetRq.none {n i : Nat} {w w' : World} (h : Below w.heap.size w w') : RetRq n i none w (.returned (.tuple #[.slice none 0 0, .int .i64 (-1)])) w' :=
  ⟨[], Option.none, 0, -1, rfl, Own.nothing _ _, Nat.zero_le _, h, .inr ⟨rfl, rfl⟩⟩
theorem byte_all : ∀ n : Fin 256, (let c := UInt8.ofNat n.1; (isLf (ltN c) = true → c = 120 ∨ c = 121 ∨ c = 122 ∨ c = 48 ∨ c = 49) ∧ (ltN c = 12 → c = 45) ∧ (isSg (ltN c) = true → c = 38 ∨ c = 124 ∨ c = 42 ∨ c = 62)) := by decide +kernel
theorem byte_one (c : UInt8) : (isLf (ltN c) = true → c = 120 ∨ c = 121 ∨ c = 122 ∨ c = 48 ∨ c = 49) ∧ (ltN c = 12 → c = 45) ∧ (isSg (ltN c) = true → c = 38 ∨ c = 124 ∨ c = 42 ∨ c = 62) := by
  have h := byte_all ⟨c.toNat, c.toNat_lt⟩
  have e : UInt8.ofNat c.toNat = c := by simp
  simp only [e] at h
  exact h
theorem data_drop (s : ByteArray) {i : Nat} (h : i < s.size) : s.data.toList.drop i = s[i] :: s.data.toList.drop (i + 1) := by
  have hl : i < s.data.toList.length := by rw [txt_size]; exact h
  rw [List.drop_eq_getElem_cons hl]
  rfl
theorem rd_rest {s : ByteArray} {i : Nat} {t : List Int} {r : List UInt8} (hi : i ≤ s.size) (h : rdA (s.data.toList.drop i) = some (t, r)) : r.length ≤ s.size ∧ r = s.data.toList.drop (s.size - r.length) ∧ i + t.length ≤ s.size - r.length ∧ 1 ≤ t.length := by
  have hd := rdT_len h
  have hl := txt_size s
  rw [List.length_drop, hl] at hd
  obtain ⟨h1, h2, h3, h4⟩ := hd
  refine ⟨by omega, ?_, by omega, h1⟩
  conv => lhs; rw [h4]
  rw [List.drop_drop]
  congr 1
  omega
theorem u8_ne {c d : UInt8} (h : c ≠ d) : ((c.toNat : Int) == (d.toNat : Int)) = false := by rw [u8_eq, beq_eq_false_iff_ne]; exact h
set_option maxRecDepth 100000 in
set_option maxHeartbeats 2000000 in
/-- spec.read -/
theorem read_any (s : ByteArray) (hs : s.size ≤ 60) : ∀ (m i : Nat) (w : World), s.size ≤ i + m → i ≤ s.size →
    Calls Try.prog 90 #[.string s, .int .i64 (i : Int)] w (RetRq s.size i (rdA (s.data.toList.drop i)) w) := by
  obtain ⟨i0, hi, hz0, hz1, hz2⟩ := info_parts info_int
  have hsz : s.data.toList.length = s.size := txt_size s
  have HB := Lib.hid byte_one
  intro m
  induction m with
  | zero =>
    intro i w h1 h2
    have hn : rdA (s.data.toList.drop i) = none := by rw [List.drop_eq_nil_of_le (by omega)]; rfl
    rw [hn]
    have i1 : ¬ (i : Int) < 0 := by omega
    have i2 : (i : Int) ≥ s.size := by omega
    clear hn
    go_enter Try.func90, Try.ntmps90
    go_wp2_with go_skip
    go_ret2
    exact RetRq.none (Below.refl _ _)
  | succ m ih =>
    intro i w h1 h2
    have i1 : ¬ (i : Int) < 0 := by omega
    by_cases hin : i = s.size
    · have hn : rdA (s.data.toList.drop i) = none := by rw [List.drop_eq_nil_of_le (by omega)]; rfl
      rw [hn]
      have i2 : (i : Int) ≥ s.size := by omega
      clear hn hin ih
      go_enter Try.func90, Try.ntmps90
      go_wp2_with go_skip
      go_ret2
      exact RetRq.none (Below.refl _ _)
    · have i2 : ¬ (i : Int) ≥ s.size := by omega
      have i3 : (i : Int) < s.size := by omega
      have i0' : (0 : Int) ≤ i := by omega
      have hil : i < s.size := by omega
      have hw1 : IntKind.i64.wrap ((i : Int) + 1) = (i : Int) + 1 := IntWalk.i64_in _ (by omega)
      have hdr := data_drop s hil
      obtain ⟨c, hc⟩ : ∃ c, s[i] = c := ⟨_, rfl⟩
      obtain ⟨L, hL⟩ : ∃ L, L = s.data.toList.drop (i + 1) := ⟨_, rfl⟩
      rw [hc, ← hL] at hdr
      rw [hdr]
      have HI := Lib.hid (show ∀ (j : Nat) (w : World), i ≤ j → j < s.size → Calls Try.prog 90 #[.string s, .int .i64 ((j : Int) + 1)] w (RetRq s.size (j + 1) (rdA (s.data.toList.drop (j + 1))) w) from fun j w h3 h4 => ih (j + 1) w (by omega) (by omega))
      have HI1 := Lib.hid (show Calls Try.prog 90 #[.string s, .int .i64 ((i : Int) + 1)] w (RetRq s.size (i + 1) (rdA L) w) from hL ▸ HI.out i w (Nat.le_refl _) hil)
      have HL := Lib.hid hL
      have HLL := Lib.hid (show L.length = s.size - (i + 1) by rw [hL, List.length_drop, hsz])
      clear ih hdr hL hin h1 h2
      by_cases hlf : isLf (ltN c) = true
      · have hA : rdA (c :: L) = some ([ltN c], L) := rdA_leaf hlf
        have hEnd : ∀ x : Int, x = ltN c → RetRq s.size i (rdA (c :: L)) w (.returned (.tuple #[.slice (some ⟨w.heap.size, 0, none⟩) 1 1, .int .i64 ((i : Int) + 1)])) (w.alloc (.cells #[.int .i64 x] 3)) := fun x hx => by
          refine ⟨[x], some ⟨w.heap.size, 0, none⟩, 1, (i : Int) + 1, rfl, Own.row (L := [x]) (heap_alloc_new w _) (Nat.le_refl _) (by unfold maxLen; simp), by simp; omega, (Below.refl _ _).alloc (Nat.le_refl _) _, .inl ⟨L, ?_, ?_, ?_⟩⟩
          · rw [hA, hx]
          · rw [HLL.out]; omega
          · rw [HLL.out]; omega
        have HE := Lib.hid hEnd
        clear hA hEnd
        rcases (HB.out c).1 hlf with rfl | rfl | rfl | rfl | rfl
        all_goals
          go_enter Try.func90, Try.ntmps90
          go_wp2_with go_skip
          go_ret2
          exact HE.out _ rfl
      · have HLF := Lib.hid (show isLf (ltN c) = false by simpa using hlf)
        clear hlf
        by_cases e45 : c = 45
        · have HA := Lib.hid (show rdA (c :: L) = (match rdA L with | none => none | some p => some (12 :: p.1, p.2)) from rdA_opp (by rw [e45]; decide))
          subst e45
          go_enter Try.func90, Try.ntmps90
          go_wp2_with (first | go_skip | (go_at_call 90; refine HI1.out.mono ?_))
          rintro e w2 ⟨t, a, c1, v, rfl, ho, htl, hb, hr⟩
          have HR := Lib.hid hr
          have hs2 := hb.size
          clear hr
          have hoA : Own w2.heap.size (w2.alloc (.cells #[.int .i64 12] 3)) (.slice (some ⟨w2.heap.size, 0, none⟩) 1 1) [12] := Own.row (heap_alloc_new w2 _) (Nat.le_refl _) (by unfold maxLen; simp)
          have hEnd : ∀ (v3 : Value) (w3 : World), Own w.heap.size w3 v3 ([12] ++ t) → Below w2.heap.size w2 w3 → RetRq s.size i (rdA (45 :: L)) w (.returned (.tuple #[v3, .int .i64 v])) w3 := fun v3 w3 h1 h2 => by
            obtain ⟨a3, c3, rfl, _⟩ := h1.slice
            refine ⟨12 :: t, a3, c3, v, rfl, h1, by simp; omega, hb.trans (h2.mono hb.size), ?_⟩
            rw [HA.out]
            rcases HR.out with ⟨r, e1, e2, e3⟩ | ⟨e1, e3⟩
            · exact .inl ⟨r, by rw [e1], e2, e3⟩
            · exact .inr ⟨by rw [e1], e3⟩
          have HE := Lib.hid hEnd
          clear hEnd
          rcases ho.shape with ⟨ha, rfl⟩ | ⟨gb, cb, e1, _, _⟩
          · injection ha with ha _ hc
            subst ha hc
            go_wp2_with (at_builtin; refine wpList_append_own_none rfl _ _ 22 rfl w2.heap.size 3 i0 1 Try.underlying22 hi _ _ _ rfl hoA rfl ?_)
            go_ret2
            exact HE.out _ _ (hoA.from hs2) ((Below.refl _ _).alloc (Nat.le_refl _) _)
          · injection e1 with e1 _ e2
            subst e1 e2
            have HN := Lib.hid (old_newsZ (.cells #[.int .i64 12] 3) (rd_cells ho.rd))
            have ht60 : t.length ≤ 60 := by omega
            clear ho
            go_wp2_with (at_builtin; refine wpList_append_own _ rfl _ _ 22 rfl w2.heap.size 3 i0 (.int .i64 0) 1 8 Try.underlying22 hi hz0 hz1 hz2 rfl (by decide) _ _ _ rfl (hoA) ⟨gb, 0, none⟩ t.length c1 (t.map fun x => Value.int .i64 x) rfl (by simp) (HN.out) (fun x hx => by simp at hx; obtain ⟨y, _, rfl⟩ := hx; rfl) (by unfold maxLen; first | omega | (simp; omega)) (by first | omega | (simp; omega)) (by first | omega | (simp; omega) | simp) ?_; intro v3 w3 hown hgrow _; have ho3 : Own w2.heap.size w3 v3 ([12] ++ t) := (by unfold Own; rw [List.map_append, List.length_append]; exact hown); have hb3 : Below w2.heap.size w2 w3 := ((Below.refl _ _).alloc (Nat.le_refl _) _).grown hgrow (by simp) (fun q hq => (World.ownsRow.lt hoA q hq).1); clear hown hgrow)
            go_ret2
            exact HE.out _ _ (ho3.from hs2) hb3
        · have HL12 := Lib.hid (show ltN c ≠ 12 from fun e => e45 ((HB.out c).2.1 e))
          by_cases e40 : c = 40
          · subst e40
            have HA := Lib.hid (show rdA (40 :: L) = rdC rdA L from rdA_com)
            clear HL12 HLF e45
            go_enter Try.func90, Try.ntmps90
            go_wp2_with (first | go_skip | (go_at_call 90; refine HI1.out.mono ?_))
            rintro e w2 ⟨t, a, c1, v, rfl, ho, htl, hb, (⟨r, hr, hrn, rfl⟩ | ⟨hr, rfl⟩)⟩
            · have HR := Lib.hid hr
              obtain ⟨q1, q2, q3, q4⟩ := rd_rest (s := s) (i := i + 1) (by omega) (by rw [← HL.out]; exact hr)
              obtain ⟨j, hj⟩ : ∃ j, j = s.size - r.length := ⟨_, rfl⟩
              rw [← hj] at q2 q3 ⊢
              have HQ2 := Lib.hid q2
              have j0 : ¬ (j : Int) < 0 := by omega
              have j00 : (0 : Int) ≤ j := by omega
              have hs2 := hb.size
              have ht60 : t.length ≤ 60 := by omega
              obtain ⟨gb, cb, e1, _, _⟩ := ho.shape.resolve_left (fun h => by have := h.2; rw [this] at q4; simp at q4)
              injection e1 with e1 _ e2
              subst e1 e2
              clear hr q2
              cases hrr : r with
              | nil =>
                have j1 : (j : Int) ≥ s.size := by rw [hrr] at hj; simp at hj; omega
                have HNO := Lib.hid (show rdA (40 :: L) = none by rw [HA.out]; exact rdC_nosign HR.out (by rw [hrr]; decide))
                clear hrr hj
                go_wp2_with go_skip
                go_ret2
                rw [HNO.out]
                exact RetRq.none hb
              | cons d r2 =>
                have hjl : j < s.size := by rw [hrr] at hj; simp at hj; have : r2.length + 1 ≤ s.size := by rw [hrr] at q1; exact q1
                                            omega
                have j1 : ¬ (j : Int) ≥ s.size := by omega
                have j2 : (j : Int) < s.size := by omega
                have hdj := data_drop s hjl
                rw [← HQ2.out, hrr] at hdj
                injection hdj with hd1 hd2
                have hjw : IntKind.i64.wrap ((j : Int) + 1) = (j : Int) + 1 := IntWalk.i64_in _ (by omega)
                have HR1 : rdA L = some (t, d :: r2) := by rw [← hrr]; exact HR.out
                have HRR := Lib.hid HR1
                have hd1' : s[j] = d := hd1.symm
                clear HR hrr HR1 HQ2 hj hd1
                by_cases hsg : isSg (ltN d) = true
                · have HSG := Lib.hid hsg
                  have HI2 := Lib.hid (show ∀ w : World, Calls Try.prog 90 #[.string s, .int .i64 ((j : Int) + 1)] w (RetRq s.size (j + 1) (rdA r2) w) from fun w => hd2 ▸ HI.out j w (by omega) hjl)
                  have hdd := (HB.out d).2.2 hsg
                  have HDL := Lib.hid hd2
                  clear HI hd2 hsg
                  rcases hdd with rfl | rfl | rfl | rfl
                  · go_wp2_with (first | go_skip | (go_at_call 90; refine (HI2.out _).mono ?_))
                    rintro e w3 ⟨t2, a2, c2, v2, rfl, ho2, htl2, hb2, (⟨r', hr', hrn', rfl⟩ | ⟨hr', rfl⟩)⟩
                    · have HR' := Lib.hid hr'
                      obtain ⟨p1, p2, p3, p4⟩ := rd_rest (s := s) (i := j + 1) (by omega) (by rw [← HDL.out]; exact hr')
                      obtain ⟨k, hk⟩ : ∃ k, k = s.size - r'.length := ⟨_, rfl⟩
                      rw [← hk] at p2 p3 ⊢
                      have HP2 := Lib.hid p2
                      have k0 : ¬ (k : Int) < 0 := by omega
                      have k00 : (0 : Int) ≤ k := by omega
                      have hs3 := hb2.size
                      have ht62 : t2.length ≤ 60 := by omega
                      obtain ⟨gd, cd, e1, _, hgd⟩ := ho2.shape.resolve_left (fun h => by have := h.2; rw [this] at p4; simp at p4)
                      injection e1 with e1 _ e2
                      subst e1 e2
                      clear hr' p2
                      cases hrr : r' with
                      | nil =>
                        have k1 : (k : Int) ≥ s.size := by rw [hrr] at hk; simp at hk; omega
                        have HNO := Lib.hid (show rdA (40 :: L) = none by rw [HA.out]; exact rdC_noclose HRR.out HR'.out (by rw [hrr]; decide))
                        clear hrr hk
                        go_wp2_with go_skip
                        go_ret2
                        rw [HNO.out]
                        exact RetRq.none (hb.trans (hb2.mono hs2))
                      | cons f r3 =>
                        have hr3 : r3.length + 1 ≤ s.size := by rw [hrr] at p1; exact p1
                        have hkl : k < s.size := by rw [hrr] at hk; simp at hk; omega
                        have hk3 : k + 1 = s.size - r3.length := by rw [hrr] at hk; simp at hk; omega
                        have k1 : ¬ (k : Int) ≥ s.size := by omega
                        have k2 : (k : Int) < s.size := by omega
                        have hdk := data_drop s hkl
                        rw [← HP2.out, hrr] at hdk
                        injection hdk with hf1 hf2
                        have hkw : IntKind.i64.wrap ((k : Int) + 1) = (k : Int) + 1 := IntWalk.i64_in _ (by omega)
                        have hf1' : s[k] = f := hf1.symm
                        by_cases e41 : f = 41
                        · subst e41
                          have HX := Lib.hid (show rdA (40 :: L) = some (13 :: (t ++ t2), r3) by rw [HA.out]; exact rdC_of HRR.out HSG.out (by rw [← hrr]; exact HR'.out))
                          clear hrr hk hf1 hf2
                          have hoA : Own w3.heap.size (w3.alloc (.cells #[.int .i64 13] 3)) (.slice (some ⟨w3.heap.size, 0, none⟩) 1 1) [13] := Own.row (heap_alloc_new w3 _) (Nat.le_refl _) (by unfold maxLen; simp)
                          have ho13 := ho.below hb2
                          have HN := Lib.hid (old_newsZ (.cells #[.int .i64 13] 3) (rd_cells ho13.rd))
                          have KO := Lib.hid (show ∀ wz, Below w3.heap.size w3 wz → Own w2.heap.size wz (.slice (some ⟨gd, 0, none⟩) t2.length c2) t2 from fun wz hz => ho2.below hz)
                          have hEnd : ∀ (v5 : Value) (w5 : World), Own w3.heap.size w5 v5 (([13] ++ t) ++ t2) → Below w3.heap.size w3 w5 → RetRq s.size i (rdA (40 :: L)) w (.returned (.tuple #[v5, .int .i64 ((k : Int) + 1)])) w5 := fun v5 w5 h1 h2 => by
                            obtain ⟨a5, c5, rfl, _⟩ := h1.slice
                            have hlt : (13 :: (t ++ t2) : List Int).length ≤ s.size - i := by rw [List.length_cons, List.length_append]; omega
                            have hlb := hb.trans ((hb2.mono hs2).trans (h2.mono (Nat.le_trans hs2 hs3)))
                            exact ⟨13 :: (t ++ t2), a5, c5, (k : Int) + 1, rfl, (show Own w3.heap.size w5 _ (13 :: (t ++ t2)) from h1).from (Nat.le_trans hs2 hs3), hlt, hlb, .inl ⟨r3, HX.out, by omega, by omega⟩⟩
                          have HE := Lib.hid hEnd
                          clear hEnd ho ho2 ho13 hoA
                          have hoA : Own w3.heap.size (w3.alloc (.cells #[.int .i64 13] 3)) (.slice (some ⟨w3.heap.size, 0, none⟩) 1 1) [13] := Own.row (heap_alloc_new w3 _) (Nat.le_refl _) (by unfold maxLen; simp)
                          go_wp2_with (first
                            | (at_builtin; refine wpList_append_own _ rfl _ _ 22 rfl w3.heap.size 3 i0 (.int .i64 0) 1 8 Try.underlying22 hi hz0 hz1 hz2 rfl (by decide) _ _ _ rfl (hoA) ⟨gb, 0, none⟩ t.length c1 (t.map fun x => Value.int .i64 x) rfl (by simp) (HN.out) (fun x hx => by simp at hx; obtain ⟨y, _, rfl⟩ := hx; rfl) (by unfold maxLen; first | omega | (simp; omega)) (by first | omega | (simp; omega)) (by first | omega | (simp; omega) | simp) ?_; intro v4 w4 hown hgrow _; have ho4 : Own w3.heap.size w4 v4 ([13] ++ t) := (by unfold Own; rw [List.map_append, List.length_append]; exact hown); have hb4 : Below w3.heap.size w3 w4 := ((Below.refl _ _).alloc (Nat.le_refl _) _).grown hgrow (by simp) (fun q hq => (World.ownsRow.lt hoA q hq).1); clear hown hgrow hoA; obtain ⟨R, hR⟩ : ∃ R, R = [13] ++ t := ⟨_, rfl⟩; have hRl : R.length = t.length + 1 := (by rw [hR]; simp); rw [← hR] at ho4; rw [← hR] at HE; clear hR; have hs4 := hb4.size; have HN2 := Lib.hid (rd_cells (KO.out _ hb4).rd))
                            | (at_builtin; refine wpList_append_own _ rfl _ _ 22 rfl w3.heap.size 3 i0 (.int .i64 0) 1 8 Try.underlying22 hi hz0 hz1 hz2 rfl (by decide) _ _ _ rfl (ho4) ⟨gd, 0, none⟩ t2.length c2 (t2.map fun x => Value.int .i64 x) rfl (by simp) (HN2.out) (fun x hx => by simp at hx; obtain ⟨y, _, rfl⟩ := hx; rfl) (by unfold maxLen; first | omega | (simp; omega)) (by first | omega | (simp; omega)) (by first | omega | (simp; omega) | simp) ?_; intro v5 w5 hown hgrow _; have ho5 : Own w3.heap.size w5 v5 (R ++ t2) := (by unfold Own; rw [List.map_append, List.length_append]; exact hown); have hb5 : Below w3.heap.size w3 w5 := hb4.grown hgrow hs4 (fun q hq => (World.ownsRow.lt ho4 q hq).1); clear hown hgrow))
                          go_ret2
                          exact HE.out _ _ ho5 hb5
                        · have q41' : ((f.toNat : Int) == 41) = false := u8_ne (c := f) (d := 41) e41
                          have q41 : ((f.toNat : Int) != 41) = true := by rw [bne, q41']; rfl
                          have HNO := Lib.hid (show rdA (40 :: L) = none by rw [HA.out]; exact rdC_noclose HRR.out HR'.out (by rw [hrr]; exact e41))
                          clear hrr hk hf1 hf2 e41
                          go_wp2_with go_skip
                          go_ret2
                          rw [HNO.out]
                          exact RetRq.none (hb.trans (hb2.mono hs2))
                    · have HNO := Lib.hid (show rdA (40 :: L) = none by
                        rw [HA.out]
                        unfold rdC
                        rw [HRR.out]
                        dsimp only
                        rw [if_pos HSG.out, hr'])
                      clear hr'
                      go_wp2_with go_skip
                      go_ret2
                      rw [HNO.out]
                      exact RetRq.none (hb.trans (hb2.mono hs2))
                  · go_wp2_with (first | go_skip | (go_at_call 90; refine (HI2.out _).mono ?_))
                    rintro e w3 ⟨t2, a2, c2, v2, rfl, ho2, htl2, hb2, (⟨r', hr', hrn', rfl⟩ | ⟨hr', rfl⟩)⟩
                    · have HR' := Lib.hid hr'
                      obtain ⟨p1, p2, p3, p4⟩ := rd_rest (s := s) (i := j + 1) (by omega) (by rw [← HDL.out]; exact hr')
                      obtain ⟨k, hk⟩ : ∃ k, k = s.size - r'.length := ⟨_, rfl⟩
                      rw [← hk] at p2 p3 ⊢
                      have HP2 := Lib.hid p2
                      have k0 : ¬ (k : Int) < 0 := by omega
                      have k00 : (0 : Int) ≤ k := by omega
                      have hs3 := hb2.size
                      have ht62 : t2.length ≤ 60 := by omega
                      obtain ⟨gd, cd, e1, _, hgd⟩ := ho2.shape.resolve_left (fun h => by have := h.2; rw [this] at p4; simp at p4)
                      injection e1 with e1 _ e2
                      subst e1 e2
                      clear hr' p2
                      cases hrr : r' with
                      | nil =>
                        have k1 : (k : Int) ≥ s.size := by rw [hrr] at hk; simp at hk; omega
                        have HNO := Lib.hid (show rdA (40 :: L) = none by rw [HA.out]; exact rdC_noclose HRR.out HR'.out (by rw [hrr]; decide))
                        clear hrr hk
                        go_wp2_with go_skip
                        go_ret2
                        rw [HNO.out]
                        exact RetRq.none (hb.trans (hb2.mono hs2))
                      | cons f r3 =>
                        have hr3 : r3.length + 1 ≤ s.size := by rw [hrr] at p1; exact p1
                        have hkl : k < s.size := by rw [hrr] at hk; simp at hk; omega
                        have hk3 : k + 1 = s.size - r3.length := by rw [hrr] at hk; simp at hk; omega
                        have k1 : ¬ (k : Int) ≥ s.size := by omega
                        have k2 : (k : Int) < s.size := by omega
                        have hdk := data_drop s hkl
                        rw [← HP2.out, hrr] at hdk
                        injection hdk with hf1 hf2
                        have hkw : IntKind.i64.wrap ((k : Int) + 1) = (k : Int) + 1 := IntWalk.i64_in _ (by omega)
                        have hf1' : s[k] = f := hf1.symm
                        by_cases e41 : f = 41
                        · subst e41
                          have HX := Lib.hid (show rdA (40 :: L) = some (14 :: (t ++ t2), r3) by rw [HA.out]; exact rdC_of HRR.out HSG.out (by rw [← hrr]; exact HR'.out))
                          clear hrr hk hf1 hf2
                          have hoA : Own w3.heap.size (w3.alloc (.cells #[.int .i64 14] 3)) (.slice (some ⟨w3.heap.size, 0, none⟩) 1 1) [14] := Own.row (heap_alloc_new w3 _) (Nat.le_refl _) (by unfold maxLen; simp)
                          have ho13 := ho.below hb2
                          have HN := Lib.hid (old_newsZ (.cells #[.int .i64 14] 3) (rd_cells ho13.rd))
                          have KO := Lib.hid (show ∀ wz, Below w3.heap.size w3 wz → Own w2.heap.size wz (.slice (some ⟨gd, 0, none⟩) t2.length c2) t2 from fun wz hz => ho2.below hz)
                          have hEnd : ∀ (v5 : Value) (w5 : World), Own w3.heap.size w5 v5 (([14] ++ t) ++ t2) → Below w3.heap.size w3 w5 → RetRq s.size i (rdA (40 :: L)) w (.returned (.tuple #[v5, .int .i64 ((k : Int) + 1)])) w5 := fun v5 w5 h1 h2 => by
                            obtain ⟨a5, c5, rfl, _⟩ := h1.slice
                            have hlt : (14 :: (t ++ t2) : List Int).length ≤ s.size - i := by rw [List.length_cons, List.length_append]; omega
                            have hlb := hb.trans ((hb2.mono hs2).trans (h2.mono (Nat.le_trans hs2 hs3)))
                            exact ⟨14 :: (t ++ t2), a5, c5, (k : Int) + 1, rfl, (show Own w3.heap.size w5 _ (14 :: (t ++ t2)) from h1).from (Nat.le_trans hs2 hs3), hlt, hlb, .inl ⟨r3, HX.out, by omega, by omega⟩⟩
                          have HE := Lib.hid hEnd
                          clear hEnd ho ho2 ho13 hoA
                          have hoA : Own w3.heap.size (w3.alloc (.cells #[.int .i64 14] 3)) (.slice (some ⟨w3.heap.size, 0, none⟩) 1 1) [14] := Own.row (heap_alloc_new w3 _) (Nat.le_refl _) (by unfold maxLen; simp)
                          go_wp2_with (first
                            | (at_builtin; refine wpList_append_own _ rfl _ _ 22 rfl w3.heap.size 3 i0 (.int .i64 0) 1 8 Try.underlying22 hi hz0 hz1 hz2 rfl (by decide) _ _ _ rfl (hoA) ⟨gb, 0, none⟩ t.length c1 (t.map fun x => Value.int .i64 x) rfl (by simp) (HN.out) (fun x hx => by simp at hx; obtain ⟨y, _, rfl⟩ := hx; rfl) (by unfold maxLen; first | omega | (simp; omega)) (by first | omega | (simp; omega)) (by first | omega | (simp; omega) | simp) ?_; intro v4 w4 hown hgrow _; have ho4 : Own w3.heap.size w4 v4 ([14] ++ t) := (by unfold Own; rw [List.map_append, List.length_append]; exact hown); have hb4 : Below w3.heap.size w3 w4 := ((Below.refl _ _).alloc (Nat.le_refl _) _).grown hgrow (by simp) (fun q hq => (World.ownsRow.lt hoA q hq).1); clear hown hgrow hoA; obtain ⟨R, hR⟩ : ∃ R, R = [14] ++ t := ⟨_, rfl⟩; have hRl : R.length = t.length + 1 := (by rw [hR]; simp); rw [← hR] at ho4; rw [← hR] at HE; clear hR; have hs4 := hb4.size; have HN2 := Lib.hid (rd_cells (KO.out _ hb4).rd))
                            | (at_builtin; refine wpList_append_own _ rfl _ _ 22 rfl w3.heap.size 3 i0 (.int .i64 0) 1 8 Try.underlying22 hi hz0 hz1 hz2 rfl (by decide) _ _ _ rfl (ho4) ⟨gd, 0, none⟩ t2.length c2 (t2.map fun x => Value.int .i64 x) rfl (by simp) (HN2.out) (fun x hx => by simp at hx; obtain ⟨y, _, rfl⟩ := hx; rfl) (by unfold maxLen; first | omega | (simp; omega)) (by first | omega | (simp; omega)) (by first | omega | (simp; omega) | simp) ?_; intro v5 w5 hown hgrow _; have ho5 : Own w3.heap.size w5 v5 (R ++ t2) := (by unfold Own; rw [List.map_append, List.length_append]; exact hown); have hb5 : Below w3.heap.size w3 w5 := hb4.grown hgrow hs4 (fun q hq => (World.ownsRow.lt ho4 q hq).1); clear hown hgrow))
                          go_ret2
                          exact HE.out _ _ ho5 hb5
                        · have q41' : ((f.toNat : Int) == 41) = false := u8_ne (c := f) (d := 41) e41
                          have q41 : ((f.toNat : Int) != 41) = true := by rw [bne, q41']; rfl
                          have HNO := Lib.hid (show rdA (40 :: L) = none by rw [HA.out]; exact rdC_noclose HRR.out HR'.out (by rw [hrr]; exact e41))
                          clear hrr hk hf1 hf2 e41
                          go_wp2_with go_skip
                          go_ret2
                          rw [HNO.out]
                          exact RetRq.none (hb.trans (hb2.mono hs2))
                    · have HNO := Lib.hid (show rdA (40 :: L) = none by
                        rw [HA.out]
                        unfold rdC
                        rw [HRR.out]
                        dsimp only
                        rw [if_pos HSG.out, hr'])
                      clear hr'
                      go_wp2_with go_skip
                      go_ret2
                      rw [HNO.out]
                      exact RetRq.none (hb.trans (hb2.mono hs2))
                  · go_wp2_with (first | go_skip | (go_at_call 90; refine (HI2.out _).mono ?_))
                    rintro e w3 ⟨t2, a2, c2, v2, rfl, ho2, htl2, hb2, (⟨r', hr', hrn', rfl⟩ | ⟨hr', rfl⟩)⟩
                    · have HR' := Lib.hid hr'
                      obtain ⟨p1, p2, p3, p4⟩ := rd_rest (s := s) (i := j + 1) (by omega) (by rw [← HDL.out]; exact hr')
                      obtain ⟨k, hk⟩ : ∃ k, k = s.size - r'.length := ⟨_, rfl⟩
                      rw [← hk] at p2 p3 ⊢
                      have HP2 := Lib.hid p2
                      have k0 : ¬ (k : Int) < 0 := by omega
                      have k00 : (0 : Int) ≤ k := by omega
                      have hs3 := hb2.size
                      have ht62 : t2.length ≤ 60 := by omega
                      obtain ⟨gd, cd, e1, _, hgd⟩ := ho2.shape.resolve_left (fun h => by have := h.2; rw [this] at p4; simp at p4)
                      injection e1 with e1 _ e2
                      subst e1 e2
                      clear hr' p2
                      cases hrr : r' with
                      | nil =>
                        have k1 : (k : Int) ≥ s.size := by rw [hrr] at hk; simp at hk; omega
                        have HNO := Lib.hid (show rdA (40 :: L) = none by rw [HA.out]; exact rdC_noclose HRR.out HR'.out (by rw [hrr]; decide))
                        clear hrr hk
                        go_wp2_with go_skip
                        go_ret2
                        rw [HNO.out]
                        exact RetRq.none (hb.trans (hb2.mono hs2))
                      | cons f r3 =>
                        have hr3 : r3.length + 1 ≤ s.size := by rw [hrr] at p1; exact p1
                        have hkl : k < s.size := by rw [hrr] at hk; simp at hk; omega
                        have hk3 : k + 1 = s.size - r3.length := by rw [hrr] at hk; simp at hk; omega
                        have k1 : ¬ (k : Int) ≥ s.size := by omega
                        have k2 : (k : Int) < s.size := by omega
                        have hdk := data_drop s hkl
                        rw [← HP2.out, hrr] at hdk
                        injection hdk with hf1 hf2
                        have hkw : IntKind.i64.wrap ((k : Int) + 1) = (k : Int) + 1 := IntWalk.i64_in _ (by omega)
                        have hf1' : s[k] = f := hf1.symm
                        by_cases e41 : f = 41
                        · subst e41
                          have HX := Lib.hid (show rdA (40 :: L) = some (15 :: (t ++ t2), r3) by rw [HA.out]; exact rdC_of HRR.out HSG.out (by rw [← hrr]; exact HR'.out))
                          clear hrr hk hf1 hf2
                          have hoA : Own w3.heap.size (w3.alloc (.cells #[.int .i64 15] 3)) (.slice (some ⟨w3.heap.size, 0, none⟩) 1 1) [15] := Own.row (heap_alloc_new w3 _) (Nat.le_refl _) (by unfold maxLen; simp)
                          have ho13 := ho.below hb2
                          have HN := Lib.hid (old_newsZ (.cells #[.int .i64 15] 3) (rd_cells ho13.rd))
                          have KO := Lib.hid (show ∀ wz, Below w3.heap.size w3 wz → Own w2.heap.size wz (.slice (some ⟨gd, 0, none⟩) t2.length c2) t2 from fun wz hz => ho2.below hz)
                          have hEnd : ∀ (v5 : Value) (w5 : World), Own w3.heap.size w5 v5 (([15] ++ t) ++ t2) → Below w3.heap.size w3 w5 → RetRq s.size i (rdA (40 :: L)) w (.returned (.tuple #[v5, .int .i64 ((k : Int) + 1)])) w5 := fun v5 w5 h1 h2 => by
                            obtain ⟨a5, c5, rfl, _⟩ := h1.slice
                            have hlt : (15 :: (t ++ t2) : List Int).length ≤ s.size - i := by rw [List.length_cons, List.length_append]; omega
                            have hlb := hb.trans ((hb2.mono hs2).trans (h2.mono (Nat.le_trans hs2 hs3)))
                            exact ⟨15 :: (t ++ t2), a5, c5, (k : Int) + 1, rfl, (show Own w3.heap.size w5 _ (15 :: (t ++ t2)) from h1).from (Nat.le_trans hs2 hs3), hlt, hlb, .inl ⟨r3, HX.out, by omega, by omega⟩⟩
                          have HE := Lib.hid hEnd
                          clear hEnd ho ho2 ho13 hoA
                          have hoA : Own w3.heap.size (w3.alloc (.cells #[.int .i64 15] 3)) (.slice (some ⟨w3.heap.size, 0, none⟩) 1 1) [15] := Own.row (heap_alloc_new w3 _) (Nat.le_refl _) (by unfold maxLen; simp)
                          go_wp2_with (first
                            | (at_builtin; refine wpList_append_own _ rfl _ _ 22 rfl w3.heap.size 3 i0 (.int .i64 0) 1 8 Try.underlying22 hi hz0 hz1 hz2 rfl (by decide) _ _ _ rfl (hoA) ⟨gb, 0, none⟩ t.length c1 (t.map fun x => Value.int .i64 x) rfl (by simp) (HN.out) (fun x hx => by simp at hx; obtain ⟨y, _, rfl⟩ := hx; rfl) (by unfold maxLen; first | omega | (simp; omega)) (by first | omega | (simp; omega)) (by first | omega | (simp; omega) | simp) ?_; intro v4 w4 hown hgrow _; have ho4 : Own w3.heap.size w4 v4 ([15] ++ t) := (by unfold Own; rw [List.map_append, List.length_append]; exact hown); have hb4 : Below w3.heap.size w3 w4 := ((Below.refl _ _).alloc (Nat.le_refl _) _).grown hgrow (by simp) (fun q hq => (World.ownsRow.lt hoA q hq).1); clear hown hgrow hoA; obtain ⟨R, hR⟩ : ∃ R, R = [15] ++ t := ⟨_, rfl⟩; have hRl : R.length = t.length + 1 := (by rw [hR]; simp); rw [← hR] at ho4; rw [← hR] at HE; clear hR; have hs4 := hb4.size; have HN2 := Lib.hid (rd_cells (KO.out _ hb4).rd))
                            | (at_builtin; refine wpList_append_own _ rfl _ _ 22 rfl w3.heap.size 3 i0 (.int .i64 0) 1 8 Try.underlying22 hi hz0 hz1 hz2 rfl (by decide) _ _ _ rfl (ho4) ⟨gd, 0, none⟩ t2.length c2 (t2.map fun x => Value.int .i64 x) rfl (by simp) (HN2.out) (fun x hx => by simp at hx; obtain ⟨y, _, rfl⟩ := hx; rfl) (by unfold maxLen; first | omega | (simp; omega)) (by first | omega | (simp; omega)) (by first | omega | (simp; omega) | simp) ?_; intro v5 w5 hown hgrow _; have ho5 : Own w3.heap.size w5 v5 (R ++ t2) := (by unfold Own; rw [List.map_append, List.length_append]; exact hown); have hb5 : Below w3.heap.size w3 w5 := hb4.grown hgrow hs4 (fun q hq => (World.ownsRow.lt ho4 q hq).1); clear hown hgrow))
                          go_ret2
                          exact HE.out _ _ ho5 hb5
                        · have q41' : ((f.toNat : Int) == 41) = false := u8_ne (c := f) (d := 41) e41
                          have q41 : ((f.toNat : Int) != 41) = true := by rw [bne, q41']; rfl
                          have HNO := Lib.hid (show rdA (40 :: L) = none by rw [HA.out]; exact rdC_noclose HRR.out HR'.out (by rw [hrr]; exact e41))
                          clear hrr hk hf1 hf2 e41
                          go_wp2_with go_skip
                          go_ret2
                          rw [HNO.out]
                          exact RetRq.none (hb.trans (hb2.mono hs2))
                    · have HNO := Lib.hid (show rdA (40 :: L) = none by
                        rw [HA.out]
                        unfold rdC
                        rw [HRR.out]
                        dsimp only
                        rw [if_pos HSG.out, hr'])
                      clear hr'
                      go_wp2_with go_skip
                      go_ret2
                      rw [HNO.out]
                      exact RetRq.none (hb.trans (hb2.mono hs2))
                  · go_wp2_with (first | go_skip | (go_at_call 90; refine (HI2.out _).mono ?_))
                    rintro e w3 ⟨t2, a2, c2, v2, rfl, ho2, htl2, hb2, (⟨r', hr', hrn', rfl⟩ | ⟨hr', rfl⟩)⟩
                    · have HR' := Lib.hid hr'
                      obtain ⟨p1, p2, p3, p4⟩ := rd_rest (s := s) (i := j + 1) (by omega) (by rw [← HDL.out]; exact hr')
                      obtain ⟨k, hk⟩ : ∃ k, k = s.size - r'.length := ⟨_, rfl⟩
                      rw [← hk] at p2 p3 ⊢
                      have HP2 := Lib.hid p2
                      have k0 : ¬ (k : Int) < 0 := by omega
                      have k00 : (0 : Int) ≤ k := by omega
                      have hs3 := hb2.size
                      have ht62 : t2.length ≤ 60 := by omega
                      obtain ⟨gd, cd, e1, _, hgd⟩ := ho2.shape.resolve_left (fun h => by have := h.2; rw [this] at p4; simp at p4)
                      injection e1 with e1 _ e2
                      subst e1 e2
                      clear hr' p2
                      cases hrr : r' with
                      | nil =>
                        have k1 : (k : Int) ≥ s.size := by rw [hrr] at hk; simp at hk; omega
                        have HNO := Lib.hid (show rdA (40 :: L) = none by rw [HA.out]; exact rdC_noclose HRR.out HR'.out (by rw [hrr]; decide))
                        clear hrr hk
                        go_wp2_with go_skip
                        go_ret2
                        rw [HNO.out]
                        exact RetRq.none (hb.trans (hb2.mono hs2))
                      | cons f r3 =>
                        have hr3 : r3.length + 1 ≤ s.size := by rw [hrr] at p1; exact p1
                        have hkl : k < s.size := by rw [hrr] at hk; simp at hk; omega
                        have hk3 : k + 1 = s.size - r3.length := by rw [hrr] at hk; simp at hk; omega
                        have k1 : ¬ (k : Int) ≥ s.size := by omega
                        have k2 : (k : Int) < s.size := by omega
                        have hdk := data_drop s hkl
                        rw [← HP2.out, hrr] at hdk
                        injection hdk with hf1 hf2
                        have hkw : IntKind.i64.wrap ((k : Int) + 1) = (k : Int) + 1 := IntWalk.i64_in _ (by omega)
                        have hf1' : s[k] = f := hf1.symm
                        by_cases e41 : f = 41
                        · subst e41
                          have HX := Lib.hid (show rdA (40 :: L) = some (16 :: (t ++ t2), r3) by rw [HA.out]; exact rdC_of HRR.out HSG.out (by rw [← hrr]; exact HR'.out))
                          clear hrr hk hf1 hf2
                          have hoA : Own w3.heap.size (w3.alloc (.cells #[.int .i64 16] 3)) (.slice (some ⟨w3.heap.size, 0, none⟩) 1 1) [16] := Own.row (heap_alloc_new w3 _) (Nat.le_refl _) (by unfold maxLen; simp)
                          have ho13 := ho.below hb2
                          have HN := Lib.hid (old_newsZ (.cells #[.int .i64 16] 3) (rd_cells ho13.rd))
                          have KO := Lib.hid (show ∀ wz, Below w3.heap.size w3 wz → Own w2.heap.size wz (.slice (some ⟨gd, 0, none⟩) t2.length c2) t2 from fun wz hz => ho2.below hz)
                          have hEnd : ∀ (v5 : Value) (w5 : World), Own w3.heap.size w5 v5 (([16] ++ t) ++ t2) → Below w3.heap.size w3 w5 → RetRq s.size i (rdA (40 :: L)) w (.returned (.tuple #[v5, .int .i64 ((k : Int) + 1)])) w5 := fun v5 w5 h1 h2 => by
                            obtain ⟨a5, c5, rfl, _⟩ := h1.slice
                            have hlt : (16 :: (t ++ t2) : List Int).length ≤ s.size - i := by rw [List.length_cons, List.length_append]; omega
                            have hlb := hb.trans ((hb2.mono hs2).trans (h2.mono (Nat.le_trans hs2 hs3)))
                            exact ⟨16 :: (t ++ t2), a5, c5, (k : Int) + 1, rfl, (show Own w3.heap.size w5 _ (16 :: (t ++ t2)) from h1).from (Nat.le_trans hs2 hs3), hlt, hlb, .inl ⟨r3, HX.out, by omega, by omega⟩⟩
                          have HE := Lib.hid hEnd
                          clear hEnd ho ho2 ho13 hoA
                          have hoA : Own w3.heap.size (w3.alloc (.cells #[.int .i64 16] 3)) (.slice (some ⟨w3.heap.size, 0, none⟩) 1 1) [16] := Own.row (heap_alloc_new w3 _) (Nat.le_refl _) (by unfold maxLen; simp)
                          go_wp2_with (first
                            | (at_builtin; refine wpList_append_own _ rfl _ _ 22 rfl w3.heap.size 3 i0 (.int .i64 0) 1 8 Try.underlying22 hi hz0 hz1 hz2 rfl (by decide) _ _ _ rfl (hoA) ⟨gb, 0, none⟩ t.length c1 (t.map fun x => Value.int .i64 x) rfl (by simp) (HN.out) (fun x hx => by simp at hx; obtain ⟨y, _, rfl⟩ := hx; rfl) (by unfold maxLen; first | omega | (simp; omega)) (by first | omega | (simp; omega)) (by first | omega | (simp; omega) | simp) ?_; intro v4 w4 hown hgrow _; have ho4 : Own w3.heap.size w4 v4 ([16] ++ t) := (by unfold Own; rw [List.map_append, List.length_append]; exact hown); have hb4 : Below w3.heap.size w3 w4 := ((Below.refl _ _).alloc (Nat.le_refl _) _).grown hgrow (by simp) (fun q hq => (World.ownsRow.lt hoA q hq).1); clear hown hgrow hoA; obtain ⟨R, hR⟩ : ∃ R, R = [16] ++ t := ⟨_, rfl⟩; have hRl : R.length = t.length + 1 := (by rw [hR]; simp); rw [← hR] at ho4; rw [← hR] at HE; clear hR; have hs4 := hb4.size; have HN2 := Lib.hid (rd_cells (KO.out _ hb4).rd))
                            | (at_builtin; refine wpList_append_own _ rfl _ _ 22 rfl w3.heap.size 3 i0 (.int .i64 0) 1 8 Try.underlying22 hi hz0 hz1 hz2 rfl (by decide) _ _ _ rfl (ho4) ⟨gd, 0, none⟩ t2.length c2 (t2.map fun x => Value.int .i64 x) rfl (by simp) (HN2.out) (fun x hx => by simp at hx; obtain ⟨y, _, rfl⟩ := hx; rfl) (by unfold maxLen; first | omega | (simp; omega)) (by first | omega | (simp; omega)) (by first | omega | (simp; omega) | simp) ?_; intro v5 w5 hown hgrow _; have ho5 : Own w3.heap.size w5 v5 (R ++ t2) := (by unfold Own; rw [List.map_append, List.length_append]; exact hown); have hb5 : Below w3.heap.size w3 w5 := hb4.grown hgrow hs4 (fun q hq => (World.ownsRow.lt ho4 q hq).1); clear hown hgrow))
                          go_ret2
                          exact HE.out _ _ ho5 hb5
                        · have q41' : ((f.toNat : Int) == 41) = false := u8_ne (c := f) (d := 41) e41
                          have q41 : ((f.toNat : Int) != 41) = true := by rw [bne, q41']; rfl
                          have HNO := Lib.hid (show rdA (40 :: L) = none by rw [HA.out]; exact rdC_noclose HRR.out HR'.out (by rw [hrr]; exact e41))
                          clear hrr hk hf1 hf2 e41
                          go_wp2_with go_skip
                          go_ret2
                          rw [HNO.out]
                          exact RetRq.none (hb.trans (hb2.mono hs2))
                    · have HNO := Lib.hid (show rdA (40 :: L) = none by
                        rw [HA.out]
                        unfold rdC
                        rw [HRR.out]
                        dsimp only
                        rw [if_pos HSG.out, hr'])
                      clear hr'
                      go_wp2_with go_skip
                      go_ret2
                      rw [HNO.out]
                      exact RetRq.none (hb.trans (hb2.mono hs2))
                · have hsf : isSg (ltN d) = false := by simpa using hsg
                  have q0 : ((d.toNat : Int) == 38) = false := u8_ne (c := d) (d := 38) fun e => by rw [e] at hsf; exact absurd hsf (by decide)
                  have q1' : ((d.toNat : Int) == 124) = false := u8_ne (c := d) (d := 124) fun e => by rw [e] at hsf; exact absurd hsf (by decide)
                  have q2 : ((d.toNat : Int) == 42) = false := u8_ne (c := d) (d := 42) fun e => by rw [e] at hsf; exact absurd hsf (by decide)
                  have q3' : ((d.toNat : Int) == 62) = false := u8_ne (c := d) (d := 62) fun e => by rw [e] at hsf; exact absurd hsf (by decide)
                  have HNO := Lib.hid (show rdA (40 :: L) = none by rw [HA.out]; exact rdC_nosign HRR.out hsf)
                  clear hsf hsg hd2
                  go_wp2_with go_skip
                  go_ret2
                  rw [HNO.out]
                  exact RetRq.none hb
            · have HNO := Lib.hid (show rdA (40 :: L) = none by rw [HA.out]; unfold rdC; rw [hr])
              clear hr
              go_wp2_with go_skip
              go_ret2
              rw [HNO.out]
              exact RetRq.none hb
          · have HNO := Lib.hid (show rdA (c :: L) = none from rdA_no HLF.out HL12.out e40)
            have q0 : ((c.toNat : Int) == 120) = false := u8_ne (c := c) (d := 120) fun e => by rw [e] at HLF; exact absurd HLF.out (by decide)
            have q1 : ((c.toNat : Int) == 121) = false := u8_ne (c := c) (d := 121) fun e => by rw [e] at HLF; exact absurd HLF.out (by decide)
            have q2 : ((c.toNat : Int) == 122) = false := u8_ne (c := c) (d := 122) fun e => by rw [e] at HLF; exact absurd HLF.out (by decide)
            have q3 : ((c.toNat : Int) == 48) = false := u8_ne (c := c) (d := 48) fun e => by rw [e] at HLF; exact absurd HLF.out (by decide)
            have q4 : ((c.toNat : Int) == 49) = false := u8_ne (c := c) (d := 49) fun e => by rw [e] at HLF; exact absurd HLF.out (by decide)
            have q5 : ((c.toNat : Int) == 45) = false := u8_ne (c := c) (d := 45) e45
            have q6 : ((c.toNat : Int) == 40) = false := u8_ne (c := c) (d := 40) e40
            rw [HNO.out]
            clear HNO HL12 HLF e45 e40 HI HI1
            go_enter Try.func90, Try.ntmps90
            go_wp2_with go_skip
            go_ret2
            exact RetRq.none (Below.refl _ _)
end Go.Proofs.Ytidbilgnclfplaa
