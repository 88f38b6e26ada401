import Derived.Test.YtljnbhnnjfnjeaaMF1
import Derived.Test.YtljnbhnnjfnjeaaB12
import Derived.Test.YtljnbhnnjfnjeaaZ8
namespace Go.Proofs.Ytljnbhnnjfnjeaa
open Go.RowKit
set_option linter.unusedVariables false

theorem nthM_left {A B : List Int} {i : Int} (i0 : 0 ≤ i) (h : i < A.length) : nth (A ++ B) i = nth A i := by
  unfold nth
  rw [List.getD_eq_getElem?_getD, List.getD_eq_getElem?_getD, List.getElem?_append_left (by omega)]
theorem nthM_last {A : List Int} {x : Int} : nth (A ++ [x]) (A.length : Int) = x := by
  unfold nth
  rw [Int.toNat_natCast, List.getD_eq_getElem?_getD, List.getElem?_append_right (Nat.le_refl _), Nat.sub_self]
  rfl
/-- rows of one length are handed back -/
def RetRw (n m : Nat) (w : World) (e : Ending) (w' : World) : Prop := ∃ R : List (List Int), (∀ r ∈ R, r.length = n) ∧ R.length ≤ m ∧ RetRows w.heap.size R w e w'
set_option maxRecDepth 100000 in
set_option maxHeartbeats 4000000 in
/-- spec.mapsFrom at a whole list -/
theorem mapsF_end (ab ao ca tb to cb : Nat) (mb mo cma ub uo cub : Nat) (L M : List Int) (T U : List (List Int)) (h : algB L T = true) (h2 : algB M U = true) (b off cap : Nat) (H : List Int) (w : World) (hlen : H.length = L.length) (hr : Rd w (some ⟨ab, ao, none⟩) L) (hT : RdT w (some ⟨tb, to, none⟩) T) (hr2 : Rd w (some ⟨mb, mo, none⟩) M) (hT2 : RdT w (some ⟨ub, uo, none⟩) U) (hrH : Rd w (some ⟨b, off, none⟩) H) :
    Calls Try.prog 53 #[.agg #[.slice (some ⟨ab, ao, none⟩) L.length ca, .slice (some ⟨tb, to, none⟩) T.length cb], .agg #[.slice (some ⟨mb, mo, none⟩) M.length cma, .slice (some ⟨ub, uo, none⟩) U.length cub], .slice (some ⟨b, off, none⟩) H.length cap] w (RetRw L.length 1 w) := by
  obtain ⟨i0, hi, hz0, hz1, hz2⟩ := info_parts info_int
  obtain ⟨i1, hi1, hy0, hy1, hy2⟩ := info_parts info_ints
  obtain ⟨w1, hw1⟩ : ∃ w1, w1 = (w.alloc (.cells #[.slice (some ⟨ab, ao, none⟩) L.length ca, .slice (some ⟨tb, to, none⟩) T.length cb] 26)).alloc (.cells #[.slice (some ⟨mb, mo, none⟩) M.length cma, .slice (some ⟨ub, uo, none⟩) U.length cub] 26) := ⟨_, rfl⟩
  have hB : Below w.heap.size w w1 := by rw [hw1]; exact ((Below.refl _ _).alloc (Nat.le_refl _) _).alloc (by simp) _
  have x1 : w1.heap[w.heap.size]? = some (.cells #[.slice (some ⟨ab, ao, none⟩) L.length ca, .slice (some ⟨tb, to, none⟩) T.length cb] 26 (0, 0)) := by rw [hw1, Below.heap_alloc _ _ _ (by simp)]; exact heap_alloc_new w _
  have x2 : w1.heap[w.heap.size + 1]? = some (.cells #[.slice (some ⟨mb, mo, none⟩) M.length cma, .slice (some ⟨ub, uo, none⟩) U.length cub] 26 (0, 0)) := by rw [hw1]; exact heap_alloc2_new _ _ _
  have KXA := Lib.hid (show ∀ wz, Below w1.heap.size w1 wz → wz.heap[w.heap.size]? = some (.cells #[.slice (some ⟨ab, ao, none⟩) L.length ca, .slice (some ⟨tb, to, none⟩) T.length cb] 26 (0, 0)) from fun wz h => (h.block _ (lt_of_block x1)).trans x1)
  have KXB := Lib.hid (show ∀ wz, Below w1.heap.size w1 wz → wz.heap[w.heap.size + 1]? = some (.cells #[.slice (some ⟨mb, mo, none⟩) M.length cma, .slice (some ⟨ub, uo, none⟩) U.length cub] 26 (0, 0)) from fun wz h => (h.block _ (lt_of_block x2)).trans x2)
  have KR := Lib.hid (show ∀ wz, Below w1.heap.size w1 wz → Rd wz (some ⟨ab, ao, none⟩) L ∧ RdT wz (some ⟨tb, to, none⟩) T ∧ Rd wz (some ⟨mb, mo, none⟩) M ∧ RdT wz (some ⟨ub, uo, none⟩) U from fun wz h => ⟨(hr.below hB).below h, (hT.below hB).below h, (hr2.below hB).below h, (hT2.below hB).below h⟩)
  have KH := Lib.hid (show ∀ wz, Below w1.heap.size w1 wz → Rd wz (some ⟨b, off, none⟩) H from fun wz h => (hrH.below hB).below h)
  have HA := Lib.hid h
  have HA2 := Lib.hid h2
  have z : Below w1.heap.size w1 w1 := Below.refl _ _
  obtain ⟨c0, c1⟩ := bx_cells x1
  obtain ⟨n1, n6, _⟩ := latB_parts (alg_lat h)
  obtain ⟨m1, m6, _⟩ := latB_parts (alg_lat h2)
  have nL : num L = L.length := rfl
  have nM : num M = M.length := rfl
  have l6 : L.length ≤ 6 := by omega
  have ml6 : M.length ≤ 6 := by omega
  have hq : ((H.length : Int) == (L.length : Int)) = true := by rw [hlen]; simp
  have h6 : H.length ≤ 6 := by omega
  have HLEN := Lib.hid hlen
  obtain ⟨V, hV⟩ : ∃ V, V = mpB L T M U H := ⟨_, rfl⟩
  have HN := Lib.hid (show Calls Try.prog 28 #[.agg #[.slice (some ⟨ab, ao, none⟩) L.length ca, .slice (some ⟨tb, to, none⟩) T.length cb], .agg #[.slice (some ⟨mb, mo, none⟩) M.length cma, .slice (some ⟨ub, uo, none⟩) U.length cub], .slice (some ⟨b, off, none⟩) H.length cap] w1 fun e w' => e = .returned (.bool V) ∧ Below w1.heap.size w1 w' from by rw [hV]; exact specIsMapM_any (some ⟨ab, ao, none⟩) (some ⟨tb, to, none⟩) ca cb L T (some ⟨mb, mo, none⟩) (some ⟨ub, uo, none⟩) cma cub M U (some ⟨b, off, none⟩) cap H w1 (KR.out _ z).1 (KR.out _ z).2.1 (KR.out _ z).2.2.1 (KR.out _ z).2.2.2 (KH.out _ z) h h2)
  clear x1 x2 hr hT hr2 hT2 hrH h h2 hlen hV n1 n6 m1 m6
  cases V with
  | false =>
    go_enter Try.func53, Try.ntmps53
    go_wp2_with (first
        | (rw [← hw1]; clear hw1)
        | (refine wpList_load_row_w rfl 26 _ rfl w.heap.size rfl _ _ _ _ (KXA.out _ (by first | assumption)) Try.underlying26 rfl (size_Alg _ _) ?_)
        | (refine wpList_load_row_w rfl 26 _ rfl (w.heap.size + 1) rfl _ _ _ _ (KXB.out _ (by first | assumption)) Try.underlying26 rfl (size_Alg _ _) ?_)
        | (go_at_call 28; refine HN.out.mono ?_; rintro e w2 ⟨rfl, hb⟩))
    go_ret
    have hb2 := hB.trans (hb.mono hB.size)
    exact ⟨[], fun r hr => absurd hr (by simp), by simp, _, rfl, rows_none _ hb2.size, by simp, hb2.alloc hb2.size _⟩
  | true =>
    go_enter Try.func53, Try.ntmps53
    go_wp2_with (first
        | (rw [← hw1]; clear hw1)
        | (refine wpList_load_row_w rfl 26 _ rfl w.heap.size rfl _ _ _ _ (KXA.out _ (by first | assumption)) Try.underlying26 rfl (size_Alg _ _) ?_)
        | (refine wpList_load_row_w rfl 26 _ rfl (w.heap.size + 1) rfl _ _ _ _ (KXB.out _ (by first | assumption)) Try.underlying26 rfl (size_Alg _ _) ?_)
        | (go_at_call 28; refine HN.out.mono ?_; rintro e w2 ⟨rfl, hb⟩; have z2 := z.trans (hb.mono z.size))
        | (at_builtin; refine wpList_append_own _ rfl _ _ 23 rfl w2.heap.size 3 i0 (.int .i64 0) 1 8 Try.underlying23 hi hz0 hz1 hz2 rfl (by decide) _ _ _ rfl (Own.row (L := []) (heap_alloc_new w2 _) (Nat.le_refl _) (Nat.zero_le _)) ⟨b, off, none⟩ H.length cap (H.map fun x => Value.int .i64 x) rfl (by simp) (old_newsZ _ (rd_cells (KH.out _ z2))) (fun x hx => by simp at hx; obtain ⟨y, _, rfl⟩ := hx; rfl) (by unfold maxLen; simp; omega) (by simp; omega) (by simp) ?_; intro v w3 hown hgrow _; have ho : Own w2.heap.size w3 v H := (by unfold Own; simpa using hown); have hb3 : Below w2.heap.size w2 w3 := ((Below.refl _ _).alloc (Nat.le_refl _) _).grown hgrow (by simp) (fun q hq => (by have hq' : some w2.heap.size = some q := hq; injection hq' with hq'; omega)); clear hown hgrow; obtain ⟨va, vc, rfl, _⟩ := ho.slice))
    go_ret
    have hb2 := hB.trans (hb.mono hB.size)
    have hbF := hb2.trans (hb3.mono hb2.size)
    exact ⟨[H], fun r hr => by rw [List.mem_singleton.1 hr]; exact HLEN.out, by simp, _, rfl, rows_one (ho.from hb2.size) hbF.size, by simp, hbF.alloc hbF.size _⟩
set_option maxRecDepth 100000 in
set_option maxHeartbeats 8000000 in
/-- spec.mapsFrom -/
theorem mapsF_some (ab ao ca tb to cb : Nat) (mb mo cma ub uo cub : Nat) (L M : List Int) (T U : List (List Int)) (h : algB L T = true) (h2 : algB M U = true) : ∀ (k : Nat) (b off cap : Nat) (H : List Int) (w : World), H.length + k = L.length → (∀ i : Int, 0 ≤ i → i < H.length → El M (nth H i)) → Rd w (some ⟨ab, ao, none⟩) L → RdT w (some ⟨tb, to, none⟩) T → Rd w (some ⟨mb, mo, none⟩) M → RdT w (some ⟨ub, uo, none⟩) U → Rd w (some ⟨b, off, none⟩) H →
    Calls Try.prog 53 #[.agg #[.slice (some ⟨ab, ao, none⟩) L.length ca, .slice (some ⟨tb, to, none⟩) T.length cb], .agg #[.slice (some ⟨mb, mo, none⟩) M.length cma, .slice (some ⟨ub, uo, none⟩) U.length cub], .slice (some ⟨b, off, none⟩) H.length cap] w (RetRw L.length (6 ^ k) w) := by
  intro k
  induction k with
  | zero => intro b off cap H w hlen _ h1 h3 h4 h5 h6; exact mapsF_end ab ao ca tb to cb mb mo cma ub uo cub L M T U h h2 b off cap H w (by omega) h1 h3 h4 h5 h6
  | succ k ih =>
    intro b off cap H w hlen hEl hr hT hr2 hT2 hrH
    obtain ⟨i0, hi, hz0, hz1, hz2⟩ := info_parts info_int
    obtain ⟨i1, hi1, hy0, hy1, hy2⟩ := info_parts info_ints
    obtain ⟨w1, hw1⟩ : ∃ w1, w1 = (w.alloc (.cells #[.slice (some ⟨ab, ao, none⟩) L.length ca, .slice (some ⟨tb, to, none⟩) T.length cb] 26)).alloc (.cells #[.slice (some ⟨mb, mo, none⟩) M.length cma, .slice (some ⟨ub, uo, none⟩) U.length cub] 26) := ⟨_, rfl⟩
    have hB : Below w.heap.size w w1 := by rw [hw1]; exact ((Below.refl _ _).alloc (Nat.le_refl _) _).alloc (by simp) _
    have x1 : w1.heap[w.heap.size]? = some (.cells #[.slice (some ⟨ab, ao, none⟩) L.length ca, .slice (some ⟨tb, to, none⟩) T.length cb] 26 (0, 0)) := by rw [hw1, Below.heap_alloc _ _ _ (by simp)]; exact heap_alloc_new w _
    have x2 : w1.heap[w.heap.size + 1]? = some (.cells #[.slice (some ⟨mb, mo, none⟩) M.length cma, .slice (some ⟨ub, uo, none⟩) U.length cub] 26 (0, 0)) := by rw [hw1]; exact heap_alloc2_new _ _ _
    have KXA := Lib.hid (show ∀ wz, Below w1.heap.size w1 wz → wz.heap[w.heap.size]? = some (.cells #[.slice (some ⟨ab, ao, none⟩) L.length ca, .slice (some ⟨tb, to, none⟩) T.length cb] 26 (0, 0)) from fun wz h => (h.block _ (lt_of_block x1)).trans x1)
    have KXB := Lib.hid (show ∀ wz, Below w1.heap.size w1 wz → wz.heap[w.heap.size + 1]? = some (.cells #[.slice (some ⟨mb, mo, none⟩) M.length cma, .slice (some ⟨ub, uo, none⟩) U.length cub] 26 (0, 0)) from fun wz h => (h.block _ (lt_of_block x2)).trans x2)
    have KR := Lib.hid (show ∀ wz, Below w1.heap.size w1 wz → Rd wz (some ⟨ab, ao, none⟩) L ∧ RdT wz (some ⟨tb, to, none⟩) T ∧ Rd wz (some ⟨mb, mo, none⟩) M ∧ RdT wz (some ⟨ub, uo, none⟩) U from fun wz h => ⟨(hr.below hB).below h, (hT.below hB).below h, (hr2.below hB).below h, (hT2.below hB).below h⟩)
    have KH := Lib.hid (show ∀ wz, Below w1.heap.size w1 wz → Rd wz (some ⟨b, off, none⟩) H from fun wz h => (hrH.below hB).below h)
    have HA := Lib.hid h
    have HA2 := Lib.hid h2
    have z : Below w1.heap.size w1 w1 := Below.refl _ _
    obtain ⟨c0, c1⟩ := bx_cells x1
    obtain ⟨n1, n6, _⟩ := latB_parts (alg_lat h)
    obtain ⟨m1, m6, _⟩ := latB_parts (alg_lat h2)
    have nL : num L = L.length := rfl
    have nM : num M = M.length := rfl
    have l6 : L.length ≤ 6 := by omega
    have ml6 : M.length ≤ 6 := by omega
    have hne : ((H.length : Int) == (L.length : Int)) = false := by rw [beq_eq_false_iff_ne]; omega
    have h6 : H.length ≤ 5 := by omega
    have HI := Lib.hid ih
    have HEL := Lib.hid hEl
    have HLEN := Lib.hid hlen
    have kk : 6 ^ k ≤ 7776 := by
      have h1 : 6 ^ k ≤ 6 ^ 5 := Nat.pow_le_pow_right (by decide) (by omega)
      have h3 : 6 ^ 5 = 7776 := by decide
      omega
    have hps := Lib.hid (Nat.pow_succ 6 k)
    obtain ⟨K, hK⟩ : ∃ K, K = 6 ^ k := ⟨_, rfl⟩
    rw [← hK] at HI kk hps
    clear x1 x2 hr hT hr2 hT2 hrH h h2 hEl hlen ih hK n1 n6 m1 m6
    go_enter Try.func53, Try.ntmps53
    go_wp2_with (rw [← hw1]; clear hw1)
    go_loopw [7, 8, 9] (fun ov yv _ wr => ∃ (j : Nat) (R : List (List Int)), j ≤ M.length ∧ yv = .int .i64 (j : Int) ∧ (∀ r ∈ R, r.length = L.length) ∧ R.length ≤ j * K ∧ RowsAt w1.heap.size wr ov R ∧ ov ≠ .slice none 0 0 ∧ Below w1.heap.size w1 wr) (fun _ yv _ _ => (7 - intOf yv).toNat)
    case atStart => exact ⟨0, [], by omega, rfl, fun r hr => absurd hr (by simp), by simp, rows_none _ (Nat.le_refl _), by simp, (Below.refl _ _).alloc (Nat.le_refl _) _⟩
    case round =>
      clear c0 c1
      obtain ⟨j, R, jM, rfl, hRn, hRl, hrows, hnn, hbr⟩ := hrel
      have c0 := (bx_cells (KXB.out _ hbr)).1
      by_cases hj : (j : Int) < M.length
      · have ki : IntKind.i64.wrap ((j : Int) + 1) = (j : Int) + 1 := IntWalk.i64_in _ (by omega)
        have hz := hbr.size
        have hjm : j < M.length := by omega
        have hR5 : R.length ≤ 46656 := by
          have h1 : j * K ≤ 6 * 7776 := Nat.mul_le_mul (by omega) kk
          omega
        obtain ⟨G, hG⟩ : ∃ G, G = H ++ [(j : Int)] := ⟨_, rfl⟩
        have LG1 := Lib.hid (show H.length + 1 = G.length by rw [hG]; simp)
        have LG := Lib.hid (show G.length + k = L.length by rw [hG, List.length_append]; have := HLEN.out; simp; omega)
        have HGE := Lib.hid (show ∀ i : Int, 0 ≤ i → i < G.length → El M (nth G i) from fun i i0 i1 => by
          rw [hG, List.length_append] at i1
          rw [hG]
          by_cases hi' : i < H.length
          · rw [nthM_left i0 hi']; exact HEL.out i i0 hi'
          · have e : i = (H.length : Int) := by simp at i1; omega
            rw [e, nthM_last]; exact ⟨by omega, hj⟩)
        have HG := Lib.hid hG
        have HRN := Lib.hid hRn
        have HRL := Lib.hid hRl
        have HROW := Lib.hid hrows
        have HJ := Lib.hid (show (j + 1) * K = j * K + K from Nat.succ_mul j K)
        have kg : G.length ≤ 6 := by have := LG.out; omega
        obtain ⟨vs, r1, r2⟩ := HROW.out
        have R2 := Lib.hid r2
        clear r2
        clear hG hRn hRl hrows
        go_wp2_with (first
          | (at_builtin; refine wpList_append_own _ rfl _ _ 23 rfl wr.heap.size 3 i0 (.int .i64 0) 1 8 Try.underlying23 hi hz0 hz1 hz2 rfl (by decide) _ _ _ rfl (Own.row (L := []) (heap_alloc_new wr _) (Nat.le_refl _) (Nat.zero_le _)) ⟨b, off, none⟩ H.length cap (H.map fun x => Value.int .i64 x) rfl (by simp) (old_newsZ _ (rd_cells (KH.out _ hbr))) (fun x hx => by simp at hx; obtain ⟨y, _, rfl⟩ := hx; rfl) (by unfold maxLen; simp; omega) (by simp; omega) (by simp) ?_; intro v w3 hown hgrow _; have ho : Own wr.heap.size w3 v H := (by unfold Own; simpa using hown); have hb3 : Below wr.heap.size wr w3 := ((Below.refl _ _).alloc (Nat.le_refl _) _).grown hgrow (by simp) (fun q hq => (by have hq' : some wr.heap.size = some q := hq; injection hq' with hq'; omega)); clear hown hgrow; obtain ⟨va, vc, rfl, _⟩ := ho.slice)
          | (at_builtin; refine wpList_append_own _ rfl _ _ 23 rfl wr.heap.size 3 i0 (.int .i64 0) 1 8 Try.underlying23 hi hz0 hz1 hz2 rfl (by decide) _ _ _ rfl (World.ownsRow.alloc ho _) ⟨w3.heap.size, 0, none⟩ 1 1 [.int .i64 (j : Int)] rfl rfl (cell_one_new _ _ _) (fun x hx => by simp at hx; subst hx; rfl) (by unfold maxLen; omega) (by omega) (by have := hb3.size; simp; omega) ?_; intro v4 w4 hown hgrow _; have hb4 : Below wr.heap.size wr w4 := (hb3.alloc hb3.size _).grown hgrow (by have := hb3.size; simp; omega) (fun q hq => (World.ownsRow.lt ho q hq).1); have ho4 : Own wr.heap.size w4 v4 G := (by unfold Own; rw [HG.out, List.map_append, List.length_append]; exact hown); clear hown hgrow; obtain ⟨va4, vc4, rfl, hrd4⟩ := ho4.slice; obtain ⟨vg, vo, rfl, _⟩ := hrd4 (fun e => by have := LG1.out; rw [e] at this; simp at this); have zB : Below w1.heap.size w1 w4 := hbr.trans (hb4.mono hz); have hrd4 := ho4.rd)
          | (refine wpList_load_row_w rfl 26 _ rfl w.heap.size rfl _ _ _ _ (KXA.out _ (by first | assumption | exact zB)) Try.underlying26 rfl (size_Alg _ _) ?_)
          | (refine wpList_load_row_w rfl 26 _ rfl (w.heap.size + 1) rfl _ _ _ _ (KXB.out _ (by first | assumption | exact zB)) Try.underlying26 rfl (size_Alg _ _) ?_)
          | (go_at_call 86; refine (specFits_some ab ao ca tb to cb mb mo cma ub uo cub L M T U vg vo vc4 G w4 HA.out HA2.out (KR.out _ zB).1 (KR.out _ zB).2.1 (KR.out _ zB).2.2.1 (KR.out _ zB).2.2.2 hrd4 (by have := LG1.out; omega) (by have := LG.out; omega) HGE.out).mono ?_; rintro e w5 ⟨q, rfl, hb5⟩; have zC : Below w1.heap.size w1 w5 := zB.trans (hb5.mono zB.size); have hrd5 := hrd4.below hb5)
          | (go_at_call 53; refine (HI.out vg vo vc4 G w5 LG.out HGE.out (KR.out _ zC).1 (KR.out _ zC).2.1 (KR.out _ zC).2.2.1 (KR.out _ zC).2.2.2 hrd5).mono ?_; rintro e w6 ⟨S, hSn, hSl, u, rfl, hsub, hun, hb6⟩; obtain ⟨us, s1, s2⟩ := hsub; have S2 := Lib.hid s2; clear s2; obtain ⟨ug, uc, rfl, ugl, ucells⟩ := rows_shape s1 hun; have b6 : Below wr.heap.size wr w6 := (hb4.trans (hb5.mono hb4.size)).trans (hb6.mono (by have := hb4.size; have := hb5.size; omega)); have r6 := ownsRow_below r1 b6; have s1l := s1.1)
          | (at_builtin; refine wpList_append_own _ rfl _ _ 24 rfl w1.heap.size 23 i1 (.slice none 0 0) 1 24 Try.underlying24 hi1 hy0 hy1 hy2 rfl (by decide) _ _ _ rfl r6 ⟨ug, 0, none⟩ S.length uc us rfl (by omega) ucells (rows_cells S2.out s1.1) (by unfold maxLen; omega) (by omega) (by have := (hbr.trans (b6.mono hz)).size; omega) ?_; intro v7 w7 hown7 hgrow7 hnil7))
        rotate_left
        · go_roundw
          case rel => exact ⟨j + 1, R, by omega, by simp, HRN.out, by have := HRL.out; have := HJ.out; omega, HROW.out.below (hb4.trans (hb5.mono hb4.size)), hnn, zC⟩
          case measure => simp [intOf]; omega
        · have b7 : Below w1.heap.size w1 w7 := (hbr.trans (b6.mono hz)).grown hgrow7 (by have := (hbr.trans (b6.mono hz)).size; omega) (fun q hq => (World.ownsRow.lt r6 q hq).1)
          have hc := RowsAt.cat r6 (fun i hi => by obtain ⟨u, hu, ho⟩ := R2.out i hi; exact ⟨u, hu, ho.below b6⟩) (by have := s1.1; omega) (fun i hi => by obtain ⟨u, hu, ho⟩ := S2.out i hi; exact ⟨u, hu, ho.from (by have := hb4.size; have := hb5.size; omega)⟩) hown7 hgrow7
          have HC := Lib.hid hc
          have hv7 : v7 ≠ .slice none 0 0 := fun e => hnn (hnil7.1 e).1
          clear hc hown7 hgrow7 r6 r1 hnil7
          go_roundw
          case rel => exact ⟨j + 1, R ++ S, by omega, by simp, fun r hr => by rcases List.mem_append.1 hr with hr | hr; exact HRN.out r hr; exact hSn r hr, by rw [List.length_append]; have := HRL.out; have := HJ.out; omega, HC.out, hv7, b7⟩
          case measure => simp [intOf]; omega
      · have e : j = M.length := by omega
        subst e
        go_wp2
        go_ret
        exact ⟨R, hRn, by have h1 : M.length * K ≤ 6 * K := Nat.mul_le_mul_right _ ml6; have := hps.out; omega, _, rfl, RowsAt.from hrows hB.size, hnn, hB.trans (hbr.mono hB.size)⟩
end Go.Proofs.Ytljnbhnnjfnjeaa
