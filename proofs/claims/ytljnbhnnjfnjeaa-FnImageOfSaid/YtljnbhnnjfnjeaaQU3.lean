import Derived.Test.YtljnbhnnjfnjeaaQU2
namespace Go.Proofs.Ytljnbhnnjfnjeaa
open Go.RowKit
set_option linter.unusedVariables false

/-- the numbers of the classes, and how many there are -/
def RetNumQ (L : List Int) (T : List (List Int)) (f : Int) (w : World) (e : Ending) (w' : World) : Prop :=
  ∃ (a : Option Addr) (c : Nat), e = .returned (.tuple #[.slice a (quT L T f).length c, .int .i64 ((quW L T f).length : Int)]) ∧ Own w.heap.size w' (.slice a (quT L T f).length c) (quT L T f) ∧ Below w.heap.size w w'
/-- the model's list under way -/
def exL (L : List Int) (T : List (List Int)) (f x i : Int) : List Int := lstTo (quC L T f) x ++ if quC L T f x < i then [quC L T f x] else []
theorem exL_zero {L : List Int} {T : List (List Int)} {f x : Int} (h : 0 ≤ quC L T f x) : exL L T f x 0 = lstTo (quC L T f) x := by
  unfold exL; rw [if_neg (by omega)]; simp
theorem exL_hit {L : List Int} {T : List (List Int)} {f x i : Int} (h : i = quC L T f x) : exL L T f x (i + 1) = exL L T f x i ++ [i] := by
  unfold exL; rw [if_pos (by omega), if_neg (by omega), ← h]; simp
theorem exL_miss {L : List Int} {T : List (List Int)} {f x i : Int} (h : i ≠ quC L T f x) : exL L T f x (i + 1) = exL L T f x i := by
  unfold exL
  by_cases e : quC L T f x < i
  · rw [if_pos (by omega), if_pos e]
  · rw [if_neg (by omega), if_neg e]
theorem exL_end {L : List Int} {T : List (List Int)} {f x i : Int} (x0 : 0 ≤ x) (h : quC L T f x < i) : exL L T f x i = lstTo (quC L T f) (x + 1) := by
  unfold exL; rw [if_pos h, lstTo_succ _ _ x0]
theorem exL_len {L : List Int} {T : List (List Int)} {f x i : Int} (x0 : 0 ≤ x) : (exL L T f x i).length ≤ x.toNat + 1 := by
  have := lstTo_len (quC L T f) x x0
  unfold exL
  rw [List.length_append]
  split <;> simp <;> omega
set_option maxRecDepth 100000 in
set_option maxHeartbeats 8000000 in
/-- spec.numbersOf -/
theorem numbersOfQ_any (a b : Option Addr) (ca cb : Nat) (L : List Int) (T : List (List Int)) (f : Int) (w : World) (hr : Rd w a L) (hT : RdT w b T) (h : afB L T f = true) : Calls Try.prog 81 #[.agg #[.slice a L.length ca, .slice b T.length cb], .int .i64 f] w (RetNumQ L T f w) := by
  obtain ⟨ha, hf, f0, f6⟩ := afB_parts h
  obtain ⟨l1, l6⟩ := lat_len (alg_lat ha)
  have n1 : (1 : Int) ≤ L.length := l1
  have n6 : (L.length : Int) ≤ 6 := l6
  obtain ⟨i0, hi, hz0, hz1, hz2⟩ := info_parts info_int
  obtain ⟨w1, hw1⟩ : ∃ w1, w1 = w.alloc (.cells #[.slice a L.length ca, .slice b T.length cb] 26) := ⟨_, rfl⟩
  have hB : Below w.heap.size w w1 := by rw [hw1]; exact (Below.refl _ _).alloc (Nat.le_refl _) _
  have hx : w1.heap[w.heap.size]? = some (.cells #[.slice a L.length ca, .slice b T.length cb] 26 (0, 0)) := by rw [hw1]; exact heap_alloc_new w _
  obtain ⟨c0, c1⟩ := bx_cells hx
  have Kx := Lib.hid (show ∀ wz, Below w1.heap.size w1 wz → wz.heap[w.heap.size]? = some (.cells #[.slice a L.length ca, .slice b T.length cb] 26 (0, 0)) from fun wz h => (h.block _ (lt_of_block hx)).trans hx)
  have KR := Lib.hid (show ∀ wz, Below w1.heap.size w1 wz → Rd wz a L from fun wz h => (hr.below hB).below h)
  have KT := Lib.hid (show ∀ wz, Below w1.heap.size w1 wz → RdT wz b T from fun wz h => (hT.below hB).below h)
  have z1 : Below w1.heap.size w1 w1 := Below.refl _ _
  have s1 := hB.size
  have HN := Lib.hid h
  have hcl : (((lstTo (clsI L T f) (num L)).length : Nat) : Int) = L.length := by have := lstTo_len (clsI L T f) (num L) (by omega); have e : num L = L.length := rfl; omega
  have HCN := Lib.hid (show ∀ x, El L x → nth (lstTo (clsI L T f) (num L)) x = clsI L T f x from fun x hx => lstTo_nth _ hx.1 hx.2)
  have HQ := Lib.hid (show ∀ x, El L x → 0 ≤ quC L T f x ∧ quC L T f x < (quW L T f).length ∧ nth (quW L T f) (quC L T f x) = clsI L T f x from fun x hx => ⟨(quC_ok ha hf hx).1, (quC_ok ha hf hx).2.1, (quC_ok ha hf hx).2.2.1⟩)
  have HU := Lib.hid (show ∀ x i : Int, El L x → 0 ≤ i → i < (quW L T f).length → nth (quW L T f) i = clsI L T f x → i = quC L T f x from fun x i hx i0 i1 e => quC_uniq ha hf hx i0 i1 e)
  obtain ⟨Z, hZ⟩ : ∃ Z, Z = quZ L T f := ⟨_, rfl⟩
  have HQQ := Lib.hid (show ∀ x, 1 ≤ x → quQ L T f x = (clsI L T f x == x && Z != x) from fun x hx => by rw [hZ]; exact quQ_is hx)
  have HNM := Lib.hid (show (0 :: filtTo (quQ L T f) (L.length : Int)) ++ (if Z != 0 then [Z] else []) = (quW L T f) from by rw [hZ]; exact names_is ha hf)
  have HF1 := Lib.hid (show filtTo (quQ L T f) 1 = [] from by
    rw [show (1 : Int) = 0 + 1 by rfl, filtTo_succ _ 0 (by omega), show quQ L T f 0 = false by unfold quQ; simp]; rfl)
  have hlast : nth (lstTo (clsI L T f) (num L)) ((L.length : Int) - 1) = Z := by show nth (lstTo (clsI L T f) (num L)) (num L - 1) = Z; rw [HCN.out _ (el_t (alg_lat ha)), hZ]; rfl
  have W6 := quW_6 h
  have W0 := quW_pos (L := L) (T := T) (f := f)
  have HTE := Lib.hid (show lstTo (quC L T f) (L.length : Int) = quT L T f from rfl)
  clear hr hT hx h ha hf l1 l6 hZ
  go_enter Try.func81, Try.ntmps81
  go_wp2_with (first
    | go_skip
    | (rw [← hw1]; clear hw1)
    | (refine wpList_load_row_w rfl 26 _ rfl w.heap.size rfl _ _ _ _ (Kx.out _ (by assumption)) Try.underlying26 rfl (size_Alg _ _) ?_)
    | (go_at_call 106; refine (specClasses_any _ _ _ _ L T f _ (KR.out _ z1) (KT.out _ z1) HN.out).mono ?_; rintro e w2 ⟨a2, c2, rfl, o2, h2⟩; have z2 : Below w1.heap.size w1 w2 := h2; have s2 := h2.size; obtain ⟨gc, rfl, lc, tc, hcC⟩ := own_ix o2 (by omega); have KC := Lib.hid hcC; clear hcC h2 o2 c0 c1))
  have HCL := Lib.hid hcl
  have kz : Below w2.heap.size w2 w2 := Below.refl _ _
  go_loopw [8, 9] (fun lv xv wr => ∃ x : Int, 1 ≤ x ∧ x ≤ L.length ∧ xv = .int .i64 x ∧ Own w2.heap.size wr lv (0 :: filtTo (quQ L T f) x) ∧ Below w2.heap.size w2 wr) (fun _ xv _ => (6 - intOf xv).toNat)
  case atStart => exact ⟨1, by omega, by omega, rfl, by rw [HF1.out]; exact Own.row (L := [0]) (heap_alloc_new w2 _) (Nat.le_refl _) (by decide), kz.alloc (Nat.le_refl _) _⟩
  case round =>
    clear kz
    obtain ⟨x, x0, x1, rfl, hown, z⟩ := hrel
    have hfl := filtTo_len (quQ L T f) x
    obtain ⟨la, lc2, rfl, _⟩ := hown.slice
    have sz := z.size
    by_cases hx : x < L.length
    · have q0 := KC.out _ z x (by omega) (by omega)
      have q1 := KC.out _ z ((L.length : Int) - 1) (by omega) (by omega)
      rw [HCN.out x ⟨by omega, hx⟩] at q0
      rw [hlast, show ((L.length : Int) - 1).toNat = L.length - 1 by omega] at q1
      have hsu := filtTo_succ (quQ L T f) x (by omega)
      rw [HQQ.out x x0] at hsu
      obtain ⟨v, hv⟩ : ∃ v, v = clsI L T f x := ⟨_, rfl⟩
      obtain ⟨NL, hNL⟩ : ∃ N, N = 0 :: filtTo (quQ L T f) x := ⟨_, rfl⟩
      rw [← hv] at q0 hsu
      have hn7 : NL.length ≤ 7 := by rw [hNL, List.length_cons]; omega
      rw [← hNL] at hown ⊢
      have kw : IntKind.i64.wrap ((L.length : Int) - 1) = (L.length : Int) - 1 := IntWalk.i64_in _ (by omega)
      have kx : x < (lstTo (clsI L T f) (num L)).length := by omega
      have kl : (L.length : Int) - 1 < (lstTo (clsI L T f) (num L)).length := by omega
      have x00 : 0 ≤ x := by omega
      have k0 : (0 : Int) ≤ (L.length : Int) - 1 := by omega
      clear hv hfl
      cases h1 : (v == x) with
      | false =>
        have HS := Lib.hid (show 0 :: filtTo (quQ L T f) (x + 1) = NL by rw [hsu, h1, hNL]; rfl)
        clear hsu q1 hNL
        go_wp2_with (first | go_skip)
        exact ⟨⟨x + 1, by omega, by omega, rfl, by rw [HS.out]; exact hown, z⟩, by simp [intOf]; omega⟩
      | true =>
        cases h2 : (Z != x) with
        | false =>
          have HS := Lib.hid (show 0 :: filtTo (quQ L T f) (x + 1) = NL by rw [hsu, h1, h2, hNL]; rfl)
          clear hsu hNL
          go_wp2_with (first | go_skip)
          exact ⟨⟨x + 1, by omega, by omega, rfl, by rw [HS.out]; exact hown, z⟩, by simp [intOf]; omega⟩
        | true =>
          have HS := Lib.hid (show 0 :: filtTo (quQ L T f) (x + 1) = NL ++ [x] by rw [hsu, h1, h2, hNL]; rfl)
          clear hsu hNL
          go_wp2_with (first | go_skip | (at_builtin; refine wpList_append_own _ rfl _ _ 23 rfl w2.heap.size 3 i0 (.int .i64 0) 1 8 Try.underlying23 hi hz0 hz1 hz2 rfl (by decide) _ _ _ rfl (World.ownsRow.alloc hown _) ⟨wr.heap.size, 0, none⟩ 1 1 [.int .i64 x] rfl rfl (cell_one_new _ _ _) (fun x hx => by simp at hx; subst hx; rfl) (by unfold maxLen; omega) (by omega) (by simp; omega) ?_; intro v5 w5 hown5 hgrow5 _))
          go_roundw
          case rel => exact ⟨x + 1, by omega, by omega, rfl, by unfold Own; rw [HS.out, List.map_append, List.length_append]; exact hown5, (z.alloc sz _).grown hgrow5 (by simp; omega) (fun q hq => (World.ownsRow.lt hown q hq).1)⟩
          case measure => simp [intOf]; omega
    · have e : x = L.length := by omega
      subst e
      have q1 := KC.out _ z ((L.length : Int) - 1) (by omega) (by omega)
      rw [hlast, show ((L.length : Int) - 1).toNat = L.length - 1 by omega] at q1
      have kw : IntKind.i64.wrap ((L.length : Int) - 1) = (L.length : Int) - 1 := IntWalk.i64_in _ (by omega)
      have kl : (L.length : Int) - 1 < (lstTo (clsI L T f) (num L)).length := by omega
      have k0 : (0 : Int) ≤ (L.length : Int) - 1 := by omega
      obtain ⟨NL, hNL⟩ : ∃ N, N = 0 :: filtTo (quQ L T f) (L.length : Int) := ⟨_, rfl⟩
      have hn7 : NL.length ≤ 7 := by rw [hNL, List.length_cons]; omega
      rw [← hNL] at hown ⊢
      have HN2 := Lib.hid (show NL ++ (if Z != 0 then [Z] else []) = (quW L T f) from by rw [hNL]; exact HNM.out)
      clear hNL hfl
      go_upto_if 49 with (fail)
      go_cut [8] (fun nv wx => ∃ (an : Option Addr) (cn : Nat), nv = .slice an (quW L T f).length cn ∧ Own w2.heap.size wx (.slice an (quW L T f).length cn) (quW L T f) ∧ Below w2.heap.size w2 wx)
      case first =>
        cases hz : (Z != 0) with
        | false =>
          have HE := Lib.hid (show NL = (quW L T f) from by have := HN2.out; rw [hz] at this; simpa using this)
          go_wp2
          go_meet
          case rel => exact ⟨la, lc2, by rw [← HE.out], by rw [← HE.out]; exact hown, z⟩
        | true =>
          have HE := Lib.hid (show NL ++ [Z] = (quW L T f) from by have := HN2.out; rw [hz] at this; simpa using this)
          go_wp2_with (at_builtin; refine wpList_append_own _ rfl _ _ 23 rfl w2.heap.size 3 i0 (.int .i64 0) 1 8 Try.underlying23 hi hz0 hz1 hz2 rfl (by decide) _ _ _ rfl (World.ownsRow.alloc hown _) ⟨wr.heap.size, 0, none⟩ 1 1 [.int .i64 Z] rfl rfl (cell_one_new _ _ _) (fun x hx => by simp at hx; subst hx; rfl) (by unfold maxLen; omega) (by omega) (by simp; omega) ?_; intro v5 w5 hown5 hgrow5 _)
          go_meet
          case rel =>
            have ho : Own w2.heap.size w5 v5 (quW L T f) := by rw [← HE.out]; unfold Own; rw [List.map_append, List.length_append]; exact hown5
            obtain ⟨av, cv, rfl, _⟩ := ho.slice
            exact ⟨av, cv, rfl, ho, (z.alloc sz _).grown hgrow5 (by simp; omega) (fun q hq => (World.ownsRow.lt hown q hq).1)⟩
      case rest =>
        clear hown q1 kw kl k0 hn7 HN2 z sz
        obtain ⟨an, cn, rfl, hnm, zc⟩ := hcut
        obtain ⟨gn, rfl, lgn, tgn, hcN⟩ := own_ix hnm W0
        have KN := Lib.hid hcN
        have sc := zc.size
        have KC2 := Lib.hid (show ∀ wz, Below wc.heap.size wc wz → ∀ k : Int, 0 ≤ k → k < (lstTo (clsI L T f) (num L)).length → wz.cell? ⟨gc, k.toNat, none⟩ = some (.int .i64 (nth (lstTo (clsI L T f) (num L)) k)) from fun wz hb => KC.out _ (zc.trans (hb.mono sc)))
        have FIN := Lib.hid (show ∀ wz, Below wc.heap.size wc wz → Below w.heap.size w wz from fun wz hb => hB.trans ((z2.trans (zc.mono z2.size)).trans (hb.mono (by have := z2.size; omega)) |>.mono hB.size))
        have swc : w.heap.size ≤ wc.heap.size := by have := z2.size; omega
        clear hnm hcN hcl
        go_wp2
        go_loopw [10, 11, 12] (fun ov xv _ wr => ∃ x : Int, 0 ≤ x ∧ x ≤ L.length ∧ xv = .int .i64 x ∧ Own wc.heap.size wr ov (lstTo (quC L T f) x) ∧ Below wc.heap.size wc wr) (fun _ xv _ _ => (6 - intOf xv).toNat)
        case atStart => exact ⟨0, by omega, by omega, rfl, Own.row (L := []) (heap_alloc_new wc _) (Nat.le_refl _) (Nat.zero_le _), (Below.refl _ _).alloc (Nat.le_refl _) _⟩
        case round =>
          clear zc sc lgn tgn
          obtain ⟨x, x0, x1, rfl, hown, z⟩ := hrel
          by_cases hx : x < L.length
          · have hEx : El L x := ⟨x0, hx⟩
            obtain ⟨c0, c1, c2⟩ := HQ.out x hEx
            have HUx := Lib.hid (HU.out x)
            go_wp2
            go_loopw [10, 12] (fun ov iv wr => ∃ i : Int, 0 ≤ i ∧ i ≤ (quW L T f).length ∧ iv = .int .i64 i ∧ Own wc.heap.size wr ov (exL L T f x i) ∧ Below wc.heap.size wc wr) (fun _ iv _ => (7 - intOf iv).toNat)
            case atStart => exact ⟨0, by omega, by omega, rfl, by rw [exL_zero c0]; exact hown, z⟩
            case round =>
              clear hown z
              obtain ⟨i, j0, j1, rfl, hown, z⟩ := hrel
              obtain ⟨oa, oc, rfl, _⟩ := hown.slice
              have hxl := exL_len (L := L) (T := T) (f := f) (i := i) x0
              have sz := z.size
              by_cases hi2 : i < (quW L T f).length
              · obtain ⟨cv, hcv⟩ : ∃ c, c = clsI L T f x := ⟨_, rfl⟩
                have hxc : x < (lstTo (clsI L T f) (num L)).length := by have := HCL.out; omega
                have hclx := HCN.out x hEx
                rw [← hcv] at hclx
                cases hq : (nth (quW L T f) i == cv) with
                | false =>
                  have hm := Lib.hid (exL_miss (L := L) (T := T) (f := f) (x := x) (i := i) (fun e => by rw [beq_eq_false_iff_ne] at hq; apply hq; rw [e, hcv]; exact c2))
                  clear hcv
                  go_wp2
                  refine region_in (Below wr.heap.size wr) (by kernel_rfl) (by kernel_rfl) (Dr.below ⟨1, rfl⟩ _) fun hne => ?_
                  have r1 : ∀ s : In (Below wr.heap.size wr), s.w.cell? ⟨gn, i.toNat, none⟩ = some (.int .i64 (nth (quW L T f) i)) := fun s => KN.out _ (in_trans z s) i j0 hi2
                  have r2 : ∀ s : In (Below wr.heap.size wr), s.w.cell? ⟨gc, x.toNat, none⟩ = some (.int .i64 cv) := fun s => by have := KC2.out _ (in_trans z s) x x0 hxc; rwa [hclx] at this
                  repeat go_big_quiet_step (fail)
                  refine wpQuiet_nil ?_
                  intro s
                  have z4 := in_trans z s
                  have y4 := s.h
                  obtain ⟨w7, hw7⟩ : ∃ x : World, x = s.w := ⟨_, rfl⟩
                  rw [← hw7] at z4 y4 ⊢
                  clear hw7 r1 r2
                  go_wp2
                  go_roundw
                  case rel => exact ⟨i + 1, by omega, by omega, rfl, by rw [hm.out]; exact hown.below y4, z4⟩
                  case measure => simp [intOf]; omega
                | true =>
                  have hm := Lib.hid (exL_hit (L := L) (T := T) (f := f) (x := x) (i := i) (HU.out x i hEx j0 hi2 (by rw [beq_iff_eq] at hq; rw [hq, hcv])))
                  clear hcv
                  go_wp2
                  refine region_in (Below wr.heap.size wr) (by kernel_rfl) (by kernel_rfl) (Dr.below ⟨1, rfl⟩ _) fun hne => ?_
                  have r1 : ∀ s : In (Below wr.heap.size wr), s.w.cell? ⟨gn, i.toNat, none⟩ = some (.int .i64 (nth (quW L T f) i)) := fun s => KN.out _ (in_trans z s) i j0 hi2
                  have r2 : ∀ s : In (Below wr.heap.size wr), s.w.cell? ⟨gc, x.toNat, none⟩ = some (.int .i64 cv) := fun s => by have := KC2.out _ (in_trans z s) x x0 hxc; rwa [hclx] at this
                  repeat go_big_quiet_step (fail)
                  refine wpQuiet_nil ?_
                  intro s
                  have z4 := in_trans z s
                  have hown4 := hown.below s.h
                  obtain ⟨w7, hw7⟩ : ∃ x : World, x = s.w := ⟨_, rfl⟩
                  rw [← hw7] at z4 hown4 ⊢
                  have s4 := z4.size
                  clear hw7 r1 r2 hown
                  go_wp2_with (at_builtin; refine wpList_append_own _ rfl _ _ 23 rfl wc.heap.size 3 i0 (.int .i64 0) 1 8 Try.underlying23 hi hz0 hz1 hz2 rfl (by decide) _ _ _ rfl (World.ownsRow.alloc hown4 _) ⟨w7.heap.size, 0, none⟩ 1 1 [.int .i64 i] rfl rfl (cell_one_new _ _ _) (fun x hx => by simp at hx; subst hx; rfl) (by unfold maxLen; omega) (by omega) (by simp; omega) ?_; intro v5 w5 hown5 hgrow5 _)
                  go_roundw
                  case rel => exact ⟨i + 1, by omega, by omega, rfl, by unfold Own; rw [hm.out, List.map_append, List.length_append]; exact hown5, (z4.alloc s4 _).grown hgrow5 (by simp; omega) (fun q hq => (World.ownsRow.lt hown4 q hq).1)⟩
                  case measure => simp [intOf]; omega
              · have e : i = (quW L T f).length := by omega
                have he := Lib.hid (exL_end (L := L) (T := T) (f := f) (x := x) (i := i) x0 (by omega))
                go_wp2
                go_roundw
                case rel => exact ⟨x + 1, by omega, by omega, rfl, by rw [← he.out]; exact hown, z⟩
                case measure => simp [intOf]; omega
          · have e : x = L.length := by omega
            subst e
            have ho : Own wc.heap.size wr _ (quT L T f) := hown
            obtain ⟨oa, oc, rfl, _⟩ := ho.slice
            go_wp2
            refine bodyPost_ret (results_tmp2 rfl _ _ _) rfl ?_
            exact ⟨_, _, rfl, ho.from swc, FIN.out _ z⟩
end Go.Proofs.Ytljnbhnnjfnjeaa
