import Derived.Test.YtjcambkjcagcoaaNU1
import Derived.Test.YtjcambkjcagcoaaZ8
import Derived.Test.YtjcambkjcagcoaaB5
import Derived.Test.YtjcambkjcagcoaaY1
import Derived.Deep.AppendLies
import Derived.Deep.RegionHeld3
namespace Go.Proofs.Ytjcambkjcagcoaa
open Go.RowKit
set_option linter.unusedVariables false

theorem nth_append_left' {A B : List Int} {i : Int} (i0 : 0 ≤ i) (h : i < A.length) : nth (A ++ B) i = nth A i := by
  unfold nth
  rw [List.getD_eq_getElem?_getD, List.getD_eq_getElem?_getD, List.getElem?_append_left (by omega)]
theorem nth_append_last' {A : List Int} {x : Int} : nth (A ++ [x]) (A.length : Int) = x := by
  unfold nth
  rw [Int.toNat_natCast, List.getD_eq_getElem?_getD, List.getElem?_append_right (Nat.le_refl _), Nat.sub_self]
  rfl
/-- an append onto a list that was made, at a step of a region -/
theorem step_append_made {P : Program} {w : World} {ops : Array Oper} {o : Oper} {a : Act} {K : Act → World → Prop} {Q : Exit → Act → World → Prop} {E : Prop} (hgd : o.guard = none) (s x : Operand) (t : TypeId)
    (ho : o.op = .call { callee := .builtin .append, args := #[s, x], argTypes := #[t, t] })
    (base : Nat) (e : TypeId) (i : TypeInfo) (z : Value) (size bytes : Nat) (ht : P.underlying t = some (.slice e)) (hi : P.info? e = some i) (hz : i.zero = some z)
    (hsize : i.size = size) (hby : i.bytes = bytes) (hzs : z.cells.size = size) (hsz : 0 < size)
    (v : Value) (n : Nat) (xs : List Value) (hs : a.eval s = v) (hown : w.ownsRow base e size v n xs)
    (ad : Addr) (m c : Nat) (news : List Value) (hx : a.eval x = .slice (some ad) m c) (hl : news.length = m * size) (hnews : ∀ j u, news[j]? = some u → w.cell? (ad.add j) = some u) (h1 : ∀ u ∈ news, u.oneCell' = true)
    (hv : v ≠ .slice none 0 0) (h63 : n + m ≤ maxLen) (hbytes : (n + m) * bytes ≤ 140737488355328) (hbase : base ≤ w.heap.size)
    (h : ∀ g cap w', w'.ownsRow base e size (.slice (some ⟨g, 0, none⟩) (n + m) cap) (n + m) (xs ++ news) → w.grownBy w' v.ownBlock → g < w'.heap.size → K (a.put o.dst (.slice (some ⟨g, 0, none⟩) (n + m) cap)) w') :
    if Region.wanted o (yielded ops a.tmps) = true then Oper.wp P o a w K Q else E := by
  have hw : Region.wanted o (yielded ops a.tmps) = true := by simp [Region.wanted, hgd]
  rw [if_pos hw]
  obtain ⟨v', w', hr, h2, h3, h4, _⟩ := run_append_own_at (P := P) w base t o.type e i z size bytes ht hi hz hsize hby hzs hsz v n xs hown ad m c news hl hnews h1 h63 hbytes hbase
  unfold Oper.wp execOp
  simp only [ho, resolve, invoke, builtin, Sem.run_bind, Sem.run_pure, Result.andThen_ok, List.map_toArray, List.map_cons, List.map_nil, hs, hx, hr]
  rcases h2.2 with ⟨e1, _⟩ | ⟨g, cap, cur, e1, _, hg, _⟩
  · exact absurd (h4.1 e1).1 hv
  · subst e1
    exact h g cap w' h2 h3 (lt_of_block hg)
set_option maxRecDepth 100000 in
set_option maxHeartbeats 2000000 in
/-- spec.nucleiFrom at a whole list -/
theorem nucF_end (L : List Int) (T : List (List Int)) (ab ao ca : Nat) (tb : Option Addr) (cb : Nat) (h : algB L T = true) (b off cap : Nat) (H : List Int) (w : World) (hlen : H.length = L.length) (hrL : Rd w (some ⟨ab, ao, none⟩) L) (hrT : RdT w tb T) (hr : Rd w (some ⟨b, off, none⟩) H) :
    Calls Try.prog 156 #[.agg #[.slice (some ⟨ab, ao, none⟩) L.length ca, .slice tb T.length cb], .slice (some ⟨b, off, none⟩) H.length cap] w (RetRows w.heap.size (nucF L T 0 H) w) := by
  obtain ⟨i0, hi, hz0, hz1, hz2⟩ := info_parts info_int
  have hl := alg_lat h
  obtain ⟨n1, n6, hs⟩ := latB_parts hl
  obtain ⟨w1, hw1⟩ : ∃ w1, w1 = w.alloc (.cells #[.slice (some ⟨ab, ao, none⟩) L.length ca, .slice tb T.length cb] 26) := ⟨_, rfl⟩
  have hB : Below w.heap.size w w1 := by rw [hw1]; exact (Below.refl _ _).alloc (Nat.le_refl _) _
  have hx1 : w1.heap[w.heap.size]? = some (.cells #[.slice (some ⟨ab, ao, none⟩) L.length ca, .slice tb T.length cb] 26 (0, 0)) := by rw [hw1]; exact heap_alloc_new w _
  have KX := Lib.hid (show ∀ wz, Below w1.heap.size w1 wz → wz.heap[w.heap.size]? = some (.cells #[.slice (some ⟨ab, ao, none⟩) L.length ca, .slice tb T.length cb] 26 (0, 0)) from fun wz h => (h.block _ (lt_of_block hx1)).trans hx1)
  have KR := Lib.hid (show ∀ wz, Below w1.heap.size w1 wz → Rd wz (some ⟨ab, ao, none⟩) L from fun wz h => (hrL.below hB).below h)
  have KT := Lib.hid (show ∀ wz, Below w1.heap.size w1 wz → RdT wz tb T from fun wz h => (hrT.below hB).below h)
  have KH := Lib.hid (show ∀ wz, Below w1.heap.size w1 wz → Rd wz (some ⟨b, off, none⟩) H from fun wz h => (hr.below hB).below h)
  have z : Below w1.heap.size w1 w1 := Below.refl _ _
  have HA := Lib.hid h
  have l6 : L.length ≤ 6 := by have : num L = L.length := rfl; omega
  have HN := Lib.hid (specIsNuc_any (some ⟨ab, ao, none⟩) tb ca cb L T (some ⟨b, off, none⟩) cap H w1 (KR.out _ z) (KT.out _ z) (KH.out _ z) h)
  obtain ⟨c0, c1⟩ := bx_cells hx1
  have hq : ((H.length : Int) == (L.length : Int)) = true := by rw [hlen]; simp
  have h6 : H.length ≤ 6 := by omega
  clear hx1 hrL hrT hr h hlen hl n1 n6 hs
  cases hv : snB L T H with
  | false =>
    have HV := Lib.hid (show nucF L T 0 H = [] by show (if snB L T H then [H] else []) = []; rw [hv]; rfl)
    rw [hv] at HN
    clear hv
    go_enter Try.func156, Try.ntmps156
    go_wp2_with (first | (rw [← hw1]; clear hw1) | (refine wpList_load_row_w rfl 26 _ rfl w.heap.size rfl _ _ _ _ (KX.out _ z) Try.underlying26 rfl (size_Alg _ _) ?_) | (go_at_call 58; refine HN.out.mono ?_; rintro e w2 ⟨rfl, hb⟩))
    go_ret
    rw [HV.out]
    have hb2 := hB.trans (hb.mono hB.size)
    exact ⟨_, rfl, rows_none _ hb2.size, by simp, hb2.alloc hb2.size _⟩
  | true =>
    have HV := Lib.hid (show nucF L T 0 H = [H] by show (if snB L T H then [H] else []) = [H]; rw [hv]; rfl)
    rw [hv] at HN
    clear hv
    go_enter Try.func156, Try.ntmps156
    go_wp2_with (first | (rw [← hw1]; clear hw1) | (refine wpList_load_row_w rfl 26 _ rfl w.heap.size rfl _ _ _ _ (KX.out _ z) Try.underlying26 rfl (size_Alg _ _) ?_) | (go_at_call 58; refine HN.out.mono ?_; rintro e w2 ⟨rfl, hb⟩; have z2 := z.trans (hb.mono z.size)) | (at_builtin; refine wpList_append_own _ rfl _ _ 23 rfl w2.heap.size 3 i0 (.int .i64 0) 1 8 Try.underlying23 hi hz0 hz1 hz2 rfl (by decide) _ _ _ rfl (Own.row (L := []) (heap_alloc_new w2 _) (Nat.le_refl _) (Nat.zero_le _)) ⟨b, off, none⟩ H.length cap (H.map fun x => Value.int .i64 x) rfl (by simp) (old_newsZ _ (rd_cells (KH.out _ z2))) (fun x hx => by simp at hx; obtain ⟨y, _, rfl⟩ := hx; rfl) (by unfold maxLen; simp; omega) (by simp; omega) (by simp) ?_; intro v w3 hown hgrow _; have ho : Own w2.heap.size w3 v H := (by unfold Own; simpa using hown); have hb3 : Below w2.heap.size w2 w3 := ((Below.refl _ _).alloc (Nat.le_refl _) _).grown hgrow (by simp) (fun q hq => (by have hq' : some w2.heap.size = some q := hq; injection hq' with hq'; omega)); clear hown hgrow; obtain ⟨va, vc, rfl, _⟩ := ho.slice))
    go_ret
    rw [HV.out]
    have hb2 := hB.trans (hb.mono hB.size)
    have hbF := hb2.trans (hb3.mono hb2.size)
    exact ⟨_, rfl, rows_one (ho.from hb2.size) hbF.size, by simp, hbF.alloc hbF.size _⟩
theorem allI_next {p : Int → Bool} {z : Int} (z0 : 0 ≤ z) (h : allI z p = true) : allI (z + 1) p = p z := by
  cases e : p z with
  | true =>
    rw [allI_iff] at h ⊢
    intro i i0 i1
    by_cases hi : i < z
    · exact h i i0 hi
    · have : i = z := by omega
      rw [this]; exact e
  | false => exact allI_false z z0 (by omega) e
set_option maxRecDepth 100000 in
set_option maxHeartbeats 4000000 in
/-- spec.nucleiFrom -/
theorem nucF_any (L : List Int) (T : List (List Int)) (ab ao ca : Nat) (tb : Option Addr) (cb : Nat) (h : algB L T = true) : ∀ (k : Nat) (b off cap : Nat) (H : List Int) (w : World), H.length + k = L.length → (∀ i : Int, 0 ≤ i → i < H.length → El L (nth H i)) → Rd w (some ⟨ab, ao, none⟩) L → RdT w tb T → Rd w (some ⟨b, off, none⟩) H →
    Calls Try.prog 156 #[.agg #[.slice (some ⟨ab, ao, none⟩) L.length ca, .slice tb T.length cb], .slice (some ⟨b, off, none⟩) H.length cap] w (RetRows w.heap.size (nucF L T k H) w) := by
  intro k
  induction k with
  | zero => intro b off cap H w hlen _ h1 h2 h3; exact nucF_end L T ab ao ca tb cb h b off cap H w (by omega) h1 h2 h3
  | succ k ih =>
    intro b off cap H w hlen hEl hrL hrT hr
    obtain ⟨i0, hi, hz0, hz1, hz2⟩ := info_parts info_int
    obtain ⟨i1, hi1, hy0, hy1, hy2⟩ := info_parts info_ints
    have hl := alg_lat h
    obtain ⟨n1, n6, hs⟩ := latB_parts hl
    obtain ⟨w1, hw1⟩ : ∃ w1, w1 = w.alloc (.cells #[.slice (some ⟨ab, ao, none⟩) L.length ca, .slice tb T.length cb] 26) := ⟨_, rfl⟩
    have hB : Below w.heap.size w w1 := by rw [hw1]; exact (Below.refl _ _).alloc (Nat.le_refl _) _
    have hx1 : w1.heap[w.heap.size]? = some (.cells #[.slice (some ⟨ab, ao, none⟩) L.length ca, .slice tb T.length cb] 26 (0, 0)) := by rw [hw1]; exact heap_alloc_new w _
    have KX := Lib.hid (show ∀ wz, Below w1.heap.size w1 wz → wz.heap[w.heap.size]? = some (.cells #[.slice (some ⟨ab, ao, none⟩) L.length ca, .slice tb T.length cb] 26 (0, 0)) from fun wz h => (h.block _ (lt_of_block hx1)).trans hx1)
    have KR := Lib.hid (show ∀ wz, Below w1.heap.size w1 wz → Rd wz (some ⟨ab, ao, none⟩) L from fun wz h => (hrL.below hB).below h)
    have KT := Lib.hid (show ∀ wz, Below w1.heap.size w1 wz → RdT wz tb T from fun wz h => (hrT.below hB).below h)
    have KH := Lib.hid (show ∀ wz, Below w1.heap.size w1 wz → Rd wz (some ⟨b, off, none⟩) H from fun wz h => (hr.below hB).below h)
    have z : Below w1.heap.size w1 w1 := Below.refl _ _
    have HA := Lib.hid h
    have hn : num L = L.length := rfl
    have l6 : L.length ≤ 6 := by omega
    have l6i : (L.length : Int) ≤ 6 := by omega
    have hlt : (H.length : Int) < L.length := by omega
    have hne : ((H.length : Int) == (L.length : Int)) = false := by rw [beq_eq_false_iff_ne]; omega
    have hF : nucF L T (k + 1) H = catTo (fun y => if nfQ L H y then nucF L T k (H ++ [y]) else []) 0 L.length := rfl
    have HF := Lib.hid hF; clear hF
    have hbd : ∀ j : Nat, j ≤ 6 → (catTo (fun y => if nfQ L H y then nucF L T k (H ++ [y]) else []) 0 j).length ≤ 46656 := fun j hj => by
      have h1 := catTo_len (f := (fun y => if nfQ L H y then nucF L T k (H ++ [y]) else [])) (a := 0) (B := 6 ^ k) (fun i => by
        split
        · exact nucF_bound l6 k _
        · exact Nat.zero_le _) j
      have h2 : 6 ^ k ≤ 6 ^ 5 := Nat.pow_le_pow_right (by decide) (by omega)
      have h3 : j * 6 ^ k ≤ 6 * 6 ^ 5 := Nat.mul_le_mul (by omega) h2
      have h4 : 6 * 6 ^ 5 = 46656 := by decide
      omega
    have hsb : ∀ H' : List Int, (nucF L T k H').length ≤ 46656 := fun H' => by
      have h1 := nucF_bound (L := L) (T := T) l6 k H'
      have h2 : 6 ^ k ≤ 6 ^ 5 := Nat.pow_le_pow_right (by decide) (by omega)
      have h4 : 6 ^ 5 = 7776 := by decide
      omega
    have HB := Lib.hid hbd; clear hbd
    have HSB := Lib.hid hsb; clear hsb
    have HI := Lib.hid ih; clear ih
    have HEL := Lib.hid hEl
    have HS := Lib.hid hs
    have HLEN := Lib.hid hlen
    have KC := Lib.hid (show ∀ wz, Below w1.heap.size w1 wz → Cells wz ab ao L from fun wz hz => by
      obtain ⟨b', o', e, hc⟩ := (KR.out _ hz) (fun e => absurd (show L.length = 0 by rw [e]; rfl) (by omega))
      simp only [Option.some.injEq, Addr.mk.injEq] at e
      rw [e.1, e.2.1]; exact hc)
    have KHC := Lib.hid (show ∀ wz, Below w1.heap.size w1 wz → Cells wz b off H from fun wz hz => by
      by_cases hH : H = []
      · subst hH; intro j hj; simp at hj
      · obtain ⟨b', o', e, hc⟩ := (KH.out _ hz) hH
        simp only [Option.some.injEq, Addr.mk.injEq] at e
        rw [e.1, e.2.1]; exact hc)
    obtain ⟨c0, c1⟩ := bx_cells hx1
    clear hx1 hrL hrT hr h hEl hs hlen hl
    go_enter Try.func156, Try.ntmps156
    go_wp2_with (rw [← hw1]; clear hw1)
    go_loopw [6, 7, 8, 9] (fun ov yv _ _ wr => ∃ j : Int, 0 ≤ j ∧ j ≤ L.length ∧ yv = .int .i64 j ∧ RowsAt w1.heap.size wr ov (catTo (fun y => if nfQ L H y then nucF L T k (H ++ [y]) else []) 0 j.toNat) ∧ ov ≠ .slice none 0 0 ∧ Below w1.heap.size w1 wr) (fun _ yv _ _ _ => (6 - intOf yv).toNat)
    case atStart => exact ⟨0, by omega, by omega, rfl, rows_none _ (Nat.le_refl _), by simp, (Below.refl _ _).alloc (Nat.le_refl _) _⟩
    case round =>
      clear c0 c1
      obtain ⟨j, j0, j1, rfl, hrows, hnn, hbel⟩ := hrel
      have c0 := (bx_cells (KX.out _ hbel)).1
      have c1 := (bx_cells (KX.out _ hbel)).2
      by_cases hj : j < L.length
      · have hz := hbel.size
        obtain ⟨wr0, rfl⟩ : ∃ wr0 : World, wr0 = wr := ⟨_, rfl⟩
        have hsu := catTo_succ (fun y => if nfQ L H y then nucF L T k (H ++ [y]) else []) 0 j0
        rw [Int.zero_add] at hsu
        have HSU := Lib.hid hsu; clear hsu
        obtain ⟨q0, hq0⟩ : ∃ q0, bl L H.length j = q0 := ⟨_, rfl⟩
        have HQ0 := Lib.hid hq0
        go_wp2_with (go_at_call 108; refine (below_is _ _ _ L _ _ _ (KC.out _ hbel) HS.out (by omega) (by omega) j0 (by omega) HQ0.out).mono ?_; rintro e w' ⟨rfl, rfl⟩)
        go_loopw [8, 9] (fun kv zv wz => ∃ (z : Int) (q : Bool), 0 ≤ z ∧ z ≤ H.length ∧ zv = .int .i64 z ∧ kv = .bool q ∧ q = (bl L H.length j && allI z (nfZ L H H.length j)) ∧ Below wr0.heap.size wr0 wz) (fun _ zv _ => (6 - intOf zv).toNat)
        case atStart => exact ⟨0, q0, by omega, by omega, rfl, rfl, by rw [HQ0.out, show allI 0 (nfZ L H H.length j) = true from rfl, Bool.and_true], Below.refl _ _⟩
        case round =>
          obtain ⟨z, q, z0, z1, rfl, rfl, hq, hbi⟩ := hrel
          have hb' := hbel.trans (hbi.mono hz)
          have d0 := (bx_cells (KX.out _ hb')).1
          have d1 := (bx_cells (KX.out _ hb')).2
          cases q with
          | false =>
            have hnf : nfQ L H j = false := by
              cases e : nfQ L H j with
              | false => rfl
              | true =>
                unfold nfQ at e
                rw [Bool.and_eq_true, allI_iff] at e
                rw [e.1, Bool.true_and, (show allI z (nfZ L H H.length j) = true from (allI_iff _ _).2 fun i i0 i1 => e.2 i i0 (by omega))] at hq
                cases hq
            have HS2 := Lib.hid (show catTo (fun y => if nfQ L H y then nucF L T k (H ++ [y]) else []) 0 (j + 1).toNat = catTo (fun y => if nfQ L H y then nucF L T k (H ++ [y]) else []) 0 j.toNat by rw [HSU.out, hnf]; exact List.append_nil _)
            clear hnf hq c0 c1
            by_cases hzl : z < H.length
            · go_wp2
              go_roundw
              case rel => exact ⟨j + 1, by omega, by omega, rfl, by rw [HS2.out]; exact hrows.below hbi, hnn, hb'⟩
              case measure => simp [intOf]; omega
            · go_wp2
              go_roundw
              case rel => exact ⟨j + 1, by omega, by omega, rfl, by rw [HS2.out]; exact hrows.below hbi, hnn, hb'⟩
              case measure => simp [intOf]; omega
          | true =>
            by_cases hzl : z < H.length
            · have hcL := KC.out _ hb'
              have hcH := (KHC.out _ hb').at z z0 (by unfold num; omega)
              obtain ⟨he0, he1⟩ := HEL.out z z0 hzl
              have HQ := Lib.hid hq
              have hall : ∀ r, nfZ L H H.length j z = r → r = (bl L H.length j && allI (z + 1) (nfZ L H H.length j)) := fun r hr => by
                rw [Bool.and_comm] at hq
                have h1 : allI z (nfZ L H H.length j) = true ∧ bl L H.length j = true := by
                  rw [← Bool.and_eq_true]; exact hq.symm
                rw [h1.2, Bool.true_and, allI_next z0 h1.1, hr]
              have HALL := Lib.hid hall
              clear hall hq c0 c1
              cases h1 : bl L z H.length with
              | false =>
                have P1 := Lib.hid h1
                have HC1 := Lib.hid (fun n => q_same (below_is ab ao ca L z H.length (wr.drewN n) (Cells.drewN hcL n) HS.out z0 (by omega) (by omega) (by omega) P1.out))
                have HR := Lib.hid (HALL.out true (by unfold nfZ; rw [h1]; rfl))
                clear h1
                go_wp2
                go_quiet (first | (go_at_call 108; with_reducible exact HC1.out _) | (go_at_call 108; with_reducible exact HC2.out _))
                go_wp2
                go_roundw
                case rel => exact ⟨z + 1, true, by omega, by omega, rfl, rfl, HR.out, hbi.trans (Dr.below ⟨_, rfl⟩ _)⟩
                case measure => simp [intOf]; omega
              | true =>
                have P1 := Lib.hid h1
                obtain ⟨q2, hq2⟩ : ∃ q2, bl L (nth H z) j = q2 := ⟨_, rfl⟩
                have P2 := Lib.hid hq2
                have HC1 := Lib.hid (fun n => q_same (below_is ab ao ca L z H.length (wr.drewN n) (Cells.drewN hcL n) HS.out z0 (by omega) (by omega) (by omega) P1.out))
                have HC2 := Lib.hid (fun n => q_same (below_is ab ao ca L (nth H z) j (wr.drewN n) (Cells.drewN hcL n) HS.out he0 he1 j0 (by omega) P2.out))
                have HR := Lib.hid (HALL.out q2 (by unfold nfZ; rw [h1, hq2]; rfl))
                clear h1 hq2
                go_wp2
                go_quiet (first | (go_at_call 108; with_reducible exact HC1.out _) | (go_at_call 108; with_reducible exact HC2.out _))
                go_wp2
                go_roundw
                case rel => exact ⟨z + 1, q2, by omega, by omega, rfl, rfl, HR.out, hbi.trans (Dr.below ⟨_, rfl⟩ _)⟩
                case measure => simp [intOf]; omega
            · have e : z = H.length := by omega
              subst e
              have hyes : nfQ L H j = true := by unfold nfQ; exact hq.symm
              have HS2 := Lib.hid (show catTo (fun y => if nfQ L H y then nucF L T k (H ++ [y]) else []) 0 (j + 1).toNat = catTo (fun y => if nfQ L H y then nucF L T k (H ++ [y]) else []) 0 j.toNat ++ nucF L T k (H ++ [j]) by rw [HSU.out, if_pos hyes])
              clear hyes hq c0 c1
              have hrows' := hrows.below hbi
              have hbel2 := hb'
              have hz2 := hb'.size
              have B1 := HB.out j.toNat (by omega)
              have B2 := HSB.out (H ++ [j])
              obtain ⟨Tc, hT⟩ : ∃ Tc, Tc = catTo (fun y => if nfQ L H y then nucF L T k (H ++ [y]) else []) 0 j.toNat := ⟨_, rfl⟩
              obtain ⟨G, hG⟩ : ∃ G, G = H ++ [j] := ⟨_, rfl⟩
              rw [← hG] at B2
              obtain ⟨U, hU⟩ : ∃ U, U = nucF L T k G := ⟨_, rfl⟩
              rw [← hT] at hrows' B1
              rw [← hU] at B2
              have HT := Lib.hid hT
              have HU := Lib.hid hU
              have HG := Lib.hid hG
              have LG1 := Lib.hid (show H.length + 1 = G.length by rw [hG]; simp)
              have LG := Lib.hid (show G.length + k = L.length by rw [hG, List.length_append]; have := HLEN.out; simp; omega)
              have HGE := Lib.hid (show ∀ i : Int, 0 ≤ i → i < G.length → El L (nth G i) from fun i i0 i1 => by
                rw [hG, List.length_append] at i1
                rw [hG]
                by_cases hi' : i < H.length
                · rw [nth_append_left' i0 hi']; exact HEL.out i i0 hi'
                · have e : i = (H.length : Int) := by simp at i1; omega
                  rw [e, nth_append_last']; exact ⟨j0, hj⟩)
              clear hT hU hG
              obtain ⟨vs, r1, r2⟩ := hrows'
              have R2 := Lib.hid r2
              have hoE1 : Own wr.heap.size (wr.alloc (.cells #[] 3)).drew (.slice (some ⟨wr.heap.size, 0, none⟩) 0 0) [] := Own.row (L := []) (heap_alloc_new wr _) (Nat.le_refl _) (Nat.zero_le _)
              have hoE2 : Own wr.heap.size ((wr.alloc (.cells #[] 3)).alloc (.cells #[.int .i64 j] 3)).drew (.slice (some ⟨wr.heap.size, 0, none⟩) 0 0) [] := World.ownsRow.drew (World.ownsRow.alloc (Own.row (L := []) (heap_alloc_new wr (.cells #[] 3)) (Nat.le_refl _) (Nat.zero_le _)) (.cells #[.int .i64 j] 3))
              have hyE2 : ((wr.alloc (.cells #[] 3)).alloc (.cells #[.int .i64 j] 3)).drew.heap[wr.heap.size + 1]? = some (.cells #[.int .i64 j] 3 (0, 0)) := heap_alloc2_new wr _ _
              have hoE3 : Own wr.heap.size ((wr.alloc (.cells #[.int .i64 j] 3)).alloc (.cells #[] 3)).drew (.slice (some ⟨wr.heap.size + 1, 0, none⟩) 0 0) [] := Own.row (L := []) (heap_alloc2_new wr _ _) (Nat.le_succ _) (Nat.zero_le _)
              have hyE3 : ((wr.alloc (.cells #[.int .i64 j] 3)).alloc (.cells #[] 3)).drew.heap[wr.heap.size]? = some (.cells #[.int .i64 j] 3 (0, 0)) := (Below.heap_alloc (wr.alloc (.cells #[.int .i64 j] 3)) (.cells #[] 3) wr.heap.size (by simp)).trans (heap_alloc_new wr (.cells #[.int .i64 j] 3))
              have bE1 : Below wr.heap.size wr (wr.alloc (.cells #[] 3)).drew := ((Below.refl _ _).alloc (Nat.le_refl _) _).drew
              have bE2 : Below wr.heap.size wr ((wr.alloc (.cells #[] 3)).alloc (.cells #[.int .i64 j] 3)).drew := (((Below.refl _ _).alloc (Nat.le_refl _) _).alloc (by simp) _).drew
              have bE3 : Below wr.heap.size wr ((wr.alloc (.cells #[.int .i64 j] 3)).alloc (.cells #[] 3)).drew := (((Below.refl _ _).alloc (Nat.le_refl _) _).alloc (by simp) _).drew
              have h6 : H.length ≤ 6 := by omega
              clear r2 hrows hbi hbel hz
              have hbel := hbel2
              have hz := hz2
              clear hbel2 hz2 hb'
              go_wp2
              go_region_held3 (fun w' => w'.cell? ⟨w.heap.size, 0, none⟩ = some (.slice (some ⟨ab, ao, none⟩) L.length ca) ∧ w'.cell? ⟨w.heap.size, 1, none⟩ = some (.slice tb T.length cb))
                (first | go_keep | exact ⟨e0, e1⟩ | exact ⟨f0, f1⟩)
                (first
                  | (refine step_append_made (by rfl) _ _ _ (by rfl) w1.heap.size 23 i1 (.slice none 0 0) 1 24 Try.underlying24 hi1 hy0 hy1 hy2 rfl (by decide) _ _ _ (by rfl) r4 ⟨ug, 0, none⟩ U.length uc us (by rfl) (by omega) ucells (rows_cells S2.out s1.1) hnn (by unfold maxLen; omega) (by omega) (by have := (hbel.trans (b4.mono hz)).size; omega) ?_; intro g5 c5 w5 hown5 hgrow5 hlt5; have b5 : Below w1.heap.size w1 w5 := (hbel.trans (b4.mono hz)).grown hgrow5 (by have := (hbel.trans (b4.mono hz)).size; omega) (fun q hq => (World.ownsRow.lt r4 q hq).1); have f0 := (bx_cells (KX.out _ b5)).1; have f1 := (bx_cells (KX.out _ b5)).2)
                  | (go_simp; go_at_call 156; (with_reducible refine (HI.out gg 0 cg G w3 LG.out HGE.out (KR.out _ (hbel.trans (b3.mono hz))) (KT.out _ (hbel.trans (b3.mono hz))) o3.rd).mono ?_); rintro e w4 ⟨u, rfl, hsub, hun, hb4⟩; rw [← HU.out] at hsub; obtain ⟨us, s1, s2⟩ := hsub; have S2 := Lib.hid s2; clear s2; obtain ⟨ug, uc, rfl, ugl, ucells⟩ := rows_shape s1 hun; have b4 : Below wr.heap.size wr w4 := b3.trans (hb4.mono b3.size); have r4 := ownsRow_below r1 b4; have s1l := s1.1; have e0 := (bx_cells (KX.out _ (hbel.trans (b4.mono hz)))).1; have e1 := (bx_cells (KX.out _ (hbel.trans (b4.mono hz)))).2)
                  | (refine step_append_made (by rfl) _ _ _ (by rfl) wr.heap.size 3 i0 (.int .i64 0) 1 8 Try.underlying23 hi hz0 hz1 hz2 rfl (by decide) _ _ _ (by rfl) (oxa) ⟨w2.heap.size, 0, none⟩ 1 1 [.int .i64 j] (by rfl) (by rfl) (World.news_of_block (cs := #[.int .i64 j]) (t := 3) (fr := (0, 0)) (heap_alloc_new w2 _)) (by simp [Value.oneCell']) (by simp) (by unfold maxLen; omega) (by omega) (bxa.size) ?_; intro gg cg w3 hown hgrow hlt3; have o3 : Own wr.heap.size w3 (.slice (some ⟨gg, 0, none⟩) (H.length + 1) cg) G := (by unfold Own; rw [HG.out, List.map_append, List.length_append]; exact hown); have b3 : Below wr.heap.size wr w3 := bxa.grown hgrow bxa.size (fun q hq => (World.ownsRow.lt (oxa) q hq).1); rw [show H.length + 1 = G.length from LG1.out] at o3 ⊢; clear hown hgrow; have e0 := (bx_cells (KX.out _ (hbel.trans (b3.mono hz)))).1; have e1 := (bx_cells (KX.out _ (hbel.trans (b3.mono hz)))).2)
                  | (refine step_append_made (by rfl) _ _ _ (by rfl) wr.heap.size 3 i0 (.int .i64 0) 1 8 Try.underlying23 hi hz0 hz1 hz2 rfl (by decide) _ _ _ (by rfl) (o2) ⟨wr.heap.size + 1, 0, none⟩ 1 1 [.int .i64 j] (by rfl) (by rfl) (World.news_of_block (cs := #[.int .i64 j]) (t := 3) (fr := (0, 0)) (hyb)) (by simp [Value.oneCell']) (by simp) (by unfold maxLen; omega) (by omega) (b2.size) ?_; intro gg cg w3 hown hgrow hlt3; have o3 : Own wr.heap.size w3 (.slice (some ⟨gg, 0, none⟩) (H.length + 1) cg) G := (by unfold Own; rw [HG.out, List.map_append, List.length_append]; exact hown); have b3 : Below wr.heap.size wr w3 := b2.grown hgrow b2.size (fun q hq => (World.ownsRow.lt (o2) q hq).1); rw [show H.length + 1 = G.length from LG1.out] at o3 ⊢; clear hown hgrow; have e0 := (bx_cells (KX.out _ (hbel.trans (b3.mono hz)))).1; have e1 := (bx_cells (KX.out _ (hbel.trans (b3.mono hz)))).2)
                  | (refine step_append_made (by rfl) _ _ _ (by rfl) wr.heap.size 3 i0 (.int .i64 0) 1 8 Try.underlying23 hi hz0 hz1 hz2 rfl (by decide) _ _ _ (by rfl) (o2) ⟨wr.heap.size, 0, none⟩ 1 1 [.int .i64 j] (by rfl) (by rfl) (World.news_of_block (cs := #[.int .i64 j]) (t := 3) (fr := (0, 0)) (hyc)) (by simp [Value.oneCell']) (by simp) (by unfold maxLen; omega) (by omega) (b2.size) ?_; intro gg cg w3 hown hgrow hlt3; have o3 : Own wr.heap.size w3 (.slice (some ⟨gg, 0, none⟩) (H.length + 1) cg) G := (by unfold Own; rw [HG.out, List.map_append, List.length_append]; exact hown); have b3 : Below wr.heap.size wr w3 := b2.grown hgrow b2.size (fun q hq => (World.ownsRow.lt (o2) q hq).1); rw [show H.length + 1 = G.length from LG1.out] at o3 ⊢; clear hown hgrow; have e0 := (bx_cells (KX.out _ (hbel.trans (b3.mono hz)))).1; have e1 := (bx_cells (KX.out _ (hbel.trans (b3.mono hz)))).2)
                  | (refine step_append_made (by rfl) _ _ _ (by rfl) wr.heap.size 3 i0 (.int .i64 0) 1 8 Try.underlying23 hi hz0 hz1 hz2 rfl (by decide) _ _ _ (by rfl) (hoE1) ⟨b, off, none⟩ H.length cap (H.map fun x => Value.int .i64 x) (by rfl) (by simp) (rd_cells (KH.out _ (hbel.trans (bE1.mono hz)))) (fun x hx => by simp at hx; obtain ⟨y, _, rfl⟩ := hx; rfl) (by simp) (by unfold maxLen; first | omega | (simp; omega)) (by first | omega | (simp; omega)) (bE1.size) ?_; intro gh ch w2 hown hgrow hlt2; have o2 : Own wr.heap.size w2 (.slice (some ⟨gh, 0, none⟩) (0 + H.length) ch) H := (by unfold Own; simpa using hown); have b2 : Below wr.heap.size wr w2 := bE1.grown hgrow bE1.size (fun q hq => (World.ownsRow.lt (hoE1) q hq).1); rw [Nat.zero_add] at o2; (try simp only [List.length_nil, Nat.zero_add]); have bxa := b2.alloc b2.size (.cells #[.int .i64 j] 3); have oxa := o2.alloc (.cells #[.int .i64 j] 3); clear hown hgrow; have e0 := (bx_cells (KX.out _ (hbel.trans (b2.mono hz)))).1; have e1 := (bx_cells (KX.out _ (hbel.trans (b2.mono hz)))).2)
                  | (refine step_append_made (by rfl) _ _ _ (by rfl) wr.heap.size 3 i0 (.int .i64 0) 1 8 Try.underlying23 hi hz0 hz1 hz2 rfl (by decide) _ _ _ (by rfl) (hoE2) ⟨b, off, none⟩ H.length cap (H.map fun x => Value.int .i64 x) (by rfl) (by simp) (rd_cells (KH.out _ (hbel.trans (bE2.mono hz)))) (fun x hx => by simp at hx; obtain ⟨y, _, rfl⟩ := hx; rfl) (by simp) (by unfold maxLen; first | omega | (simp; omega)) (by first | omega | (simp; omega)) (bE2.size) ?_; intro gh ch w2 hown hgrow hlt2; have o2 : Own wr.heap.size w2 (.slice (some ⟨gh, 0, none⟩) (0 + H.length) ch) H := (by unfold Own; simpa using hown); have b2 : Below wr.heap.size wr w2 := bE2.grown hgrow bE2.size (fun q hq => (World.ownsRow.lt (hoE2) q hq).1); rw [Nat.zero_add] at o2; (try simp only [List.length_nil, Nat.zero_add]); have hyb := (hgrow.block (wr.heap.size + 1) (lt_of_block hyE2) (fun e => by have e2 : some (wr.heap.size + 1) = some wr.heap.size := e; injection e2 with e2; omega)).trans hyE2; clear hown hgrow; have ybx := hyb; have e0 := (bx_cells (KX.out _ (hbel.trans (b2.mono hz)))).1; have e1 := (bx_cells (KX.out _ (hbel.trans (b2.mono hz)))).2)
                  | (refine step_append_made (by rfl) _ _ _ (by rfl) wr.heap.size 3 i0 (.int .i64 0) 1 8 Try.underlying23 hi hz0 hz1 hz2 rfl (by decide) _ _ _ (by rfl) (hoE3) ⟨b, off, none⟩ H.length cap (H.map fun x => Value.int .i64 x) (by rfl) (by simp) (rd_cells (KH.out _ (hbel.trans (bE3.mono hz)))) (fun x hx => by simp at hx; obtain ⟨y, _, rfl⟩ := hx; rfl) (by simp) (by unfold maxLen; first | omega | (simp; omega)) (by first | omega | (simp; omega)) (bE3.size) ?_; intro gh ch w2 hown hgrow hlt2; have o2 : Own wr.heap.size w2 (.slice (some ⟨gh, 0, none⟩) (0 + H.length) ch) H := (by unfold Own; simpa using hown); have b2 : Below wr.heap.size wr w2 := bE3.grown hgrow bE3.size (fun q hq => (World.ownsRow.lt (hoE3) q hq).1); rw [Nat.zero_add] at o2; (try simp only [List.length_nil, Nat.zero_add]); have hyc := (hgrow.block wr.heap.size (lt_of_block hyE3) (fun e => by have e2 : some wr.heap.size = some (wr.heap.size + 1) := e; injection e2 with e2; omega)).trans hyE3; clear hown hgrow; have e0 := (bx_cells (KX.out _ (hbel.trans (b2.mono hz)))).1; have e1 := (bx_cells (KX.out _ (hbel.trans (b2.mono hz)))).2))
              all_goals
                have hc := RowsAt.cat r4 (fun i hi => by obtain ⟨u, hu, ho⟩ := R2.out i hi; exact ⟨u, hu, ho.below b4⟩) (by have := s1.1; omega) (fun i hi => by obtain ⟨u, hu, ho⟩ := S2.out i hi; exact ⟨u, hu, ho.from (Nat.le_trans hz b3.size)⟩) hown5 hgrow5
                rw [show Tc ++ U = catTo (fun y => if nfQ L H y then nucF L T k (H ++ [y]) else []) 0 (j + 1).toNat from by rw [HT.out, HU.out, HG.out]; exact HS2.out.symm] at hc
                have HC := Lib.hid hc
                clear hc hown5 hgrow5 r4 r1
                go_wp2
                go_roundw
                case rel => exact ⟨j + 1, by omega, by omega, rfl, HC.out, by simp, b5⟩
                case measure => simp [intOf]; omega
      · have e : j = L.length := by omega
        subst e
        rw [Int.toNat_natCast, ← HF.out] at hrows
        go_wp2
        go_ret
        exact ⟨_, rfl, RowsAt.from hrows hB.size, hnn, hB.trans (hbel.mono hB.size)⟩
end Go.Proofs.Ytjcambkjcagcoaa
