import Derived.Test.YtidbilgnclfplaaTM9
namespace Go.Proofs.Ytidbilgnclfplaa
open Go.RowKit
set_option linter.unusedVariables false

def nmR (L N : List Int) (x : Int) : Bool := decide (0 ≤ nth N x) && decide (nth N x ≤ num L - 1)
/-- elements are given to all names -/
def nmB (L N : List Int) : Bool := allI (num N) (nmR L N) && decide ((N.length : Int) = 3)
set_option maxRecDepth 100000 in
set_option maxHeartbeats 2000000 in
/-- spec.validNames -/
theorem specValidNames_any (a b : Option Addr) (ca cb : Nat) (L : List Int) (T : List (List Int)) (an : Option Addr) (cn : Nat) (N : List Int) (w : World) (hr : Rd w a L) (hT : RdT w b T) (hn : Rd w an N) (l6 : (L.length : Int) ≤ 6) (hm : N.length ≤ 1048576) :
    Calls Try.prog 56 #[.agg #[.slice a L.length ca, .slice b T.length cb], .slice an N.length cn] w fun e w' => e = .returned (.bool (nmB L N)) ∧ Below w.heap.size w w' := by
  obtain ⟨w1, hw1⟩ : ∃ w1, w1 = w.alloc (.cells #[.slice a L.length ca, .slice b T.length cb] 33) := ⟨_, rfl⟩
  have hB : Below w.heap.size w w1 := by rw [hw1]; exact (Below.refl _ _).alloc (Nat.le_refl _) _
  have hx1 : w1.heap[w.heap.size]? = some (.cells #[.slice a L.length ca, .slice b T.length cb] 33 (0, 0)) := by rw [hw1]; exact heap_alloc_new w _
  have KX := Lib.hid (show ∀ wz, Below w1.heap.size w1 wz → wz.heap[w.heap.size]? = some (.cells #[.slice a L.length ca, .slice b T.length cb] 33 (0, 0)) from fun wz h => (h.block _ (lt_of_block hx1)).trans hx1)
  have KN := Lib.hid (show ∀ wz, Below w1.heap.size w1 wz → Rd wz an N from fun wz h => (hn.below hB).below h)
  have z : Below w1.heap.size w1 w1 := Below.refl _ _
  have hnn : num N = N.length := rfl
  clear hr hT hn hx1
  go_enter Try.func56, Try.ntmps56
  go_wp2_with (rw [← hw1]; clear hw1)
  go_loopw [5] (fun kv wr => ∃ k : Int, 0 ≤ k ∧ k ≤ N.length ∧ kv = .int .i64 k ∧ (∀ j, 0 ≤ j → j < k → nmR L N j = true) ∧ Below w1.heap.size w1 wr) (fun kv _ => ((N.length : Int) - intOf kv).toNat)
  case atStart => exact ⟨0, by omega, by omega, rfl, fun j j0 j1 => by omega, z⟩
  case round =>
    obtain ⟨k, k0, k1, rfl, hall, z⟩ := hrel
    have HALL := Lib.hid hall
    clear hall
    by_cases hk : k < N.length
    · obtain ⟨nb, no, rfl, hcN⟩ := (KN.out _ z) (fun e => by rw [e] at hk; simp at hk; omega)
      have c1 := hcN.at k k0 hk
      have HC1 := Lib.hid c1
      have kx := (bx_cells (KX.out _ z)).1
      have HKX := Lib.hid kx
      clear hcN c1 kx
      obtain ⟨v, hv⟩ : ∃ v, v = nmR L N k := ⟨_, rfl⟩
      have HV := Lib.hid hv
      have hI := Lib.hid (show ∀ w : World, Calls Try.prog 94 #[.int .i64 (nth N k), .int .i64 0, .int .i64 ((L.length : Int) - 1)] w fun e w' => e = .returned (.bool v) ∧ w = w' from fun w => by rw [hv]; exact inRange_any _ _ _ w)
      clear hv
      cases v
      all_goals
        go_wp2
        refine region_in (Below wr.heap.size wr) (by kernel_rfl) (by kernel_rfl) (Dr.below ⟨1, rfl⟩ _) fun hne => ?_
        have r0 : ∀ s : In (Below wr.heap.size wr), s.w.cell? ⟨nb, no + k.toNat, none⟩ = some (.int .i64 (nth N k)) := fun s => by rw [s.h.cell (by exact block_lt_of_cell HC1.out)]; exact HC1.out
        have r1 : ∀ s : In (Below wr.heap.size wr), s.w.cell? ⟨w.heap.size, 0, none⟩ = some (.slice a L.length ca) := fun s => (bx_cells (KX.out _ (in_transT z s))).1
        repeat (go_big_quiet_step ((go_at_call 94; exact in_below _ (Nat.le_refl _) ((hI.out _).mono fun _ _ h => ⟨h.1, h.2 ▸ Below.refl _ _⟩))))
        refine wpQuiet_nil ?_
        intro s
        have z7 := in_transT z s
        obtain ⟨w7, hw7⟩ : ∃ x : World, x = s.w := ⟨_, rfl⟩
        rw [← hw7] at z7 ⊢
        clear hw7 r0 r1
        go_wp2
      · go_ret
        exact ⟨ret_bool (by
          have : allI (num N) (nmR L N) = false := by
            rw [Bool.eq_false_iff]
            intro hh
            rw [allI_iff] at hh
            have := hh k k0 hk
            rw [← HV.out] at this
            cases this
          unfold nmB; rw [this]; rfl), hB.trans (z7.mono hB.size)⟩
      · go_roundw
        case rel => exact ⟨k + 1, by omega, by omega, rfl, fun j j0 j1 => by
          by_cases e : j = k
          · rw [e]; exact HV.out.symm
          · exact HALL.out j j0 (by omega), z7⟩
        case measure => simp [intOf]; omega
    · have hall : allI (num N) (nmR L N) = true := by
        rw [allI_iff]
        intro j j0 j1
        exact HALL.out j j0 (by omega)
      have HQ := Lib.hid (show nmB L N = decide ((N.length : Int) = 3) by unfold nmB; rw [hall]; rfl)
      clear hall
      go_wp2
      go_ret
      exact ⟨ret_bool (by rw [HQ.out]; first | rfl | simp), hB.trans (z.mono hB.size)⟩
/-- the value of numbers -/
def vofI (L : List Int) (T : List (List Int)) (t N : List Int) : Int := if algB L T && (vtB t && nmB L N) then vlI L T N t.length t else -1
theorem nmB_parts {L N : List Int} (h : nmB L N = true) : N.length = 3 ∧ ∀ i, 0 ≤ i → i < 3 → El L (nth N i) := by
  unfold nmB at h
  rw [Bool.and_eq_true, decide_eq_true_eq, allI_iff] at h
  refine ⟨by omega, fun i i0 i1 => ?_⟩
  have := h.1 i i0 (by show i < (N.length : Int); omega)
  unfold nmR at this
  rw [Bool.and_eq_true, decide_eq_true_eq, decide_eq_true_eq] at this
  exact ⟨this.1, by omega⟩
theorem rd_some {w : World} {a : Option Addr} {L : List Int} (h : Rd w a L) (hn : L ≠ []) : ∃ b o, a = some ⟨b, o, none⟩ := by
  obtain ⟨b, o, e, _⟩ := h hn
  exact ⟨b, o, e⟩
theorem rdT_some {w : World} {b : Option Addr} {T : List (List Int)} {L : List Int} (h : RdT w b T) (ha : algB L T = true) : ∃ b' o, b = some ⟨b', o, none⟩ := by
  obtain ⟨B, off, e, _⟩ := tab_of h (alg_shape ha) (lat_len (alg_lat ha)).1
  exact ⟨B, off, e⟩
set_option maxRecDepth 100000 in
set_option maxHeartbeats 4000000 in
/-- spec.ValueOf -/
theorem specValueOf_any (a b : Option Addr) (ca cb : Nat) (L : List Int) (T : List (List Int)) (at_ : Option Addr) (ct : Nat) (t : List Int) (an : Option Addr) (cn : Nat) (N : List Int) (w : World) (hr : Rd w a L) (hT : RdT w b T) (ht : Rd w at_ t) (hn : Rd w an N) (hmt : t.length ≤ 1048576) (hm : N.length ≤ 1048576) :
    Calls Try.prog 22 #[.agg #[.slice a L.length ca, .slice b T.length cb], .slice at_ t.length ct, .slice an N.length cn] w fun e w' => e = .returned (.int .i64 (vofI L T t N)) ∧ Below w.heap.size w w' := by
  obtain ⟨w1, hw1⟩ : ∃ w1, w1 = w.alloc (.cells #[.slice a L.length ca, .slice b T.length cb] 33) := ⟨_, rfl⟩
  have hB : Below w.heap.size w w1 := by rw [hw1]; exact (Below.refl _ _).alloc (Nat.le_refl _) _
  have hx1 : w1.heap[w.heap.size]? = some (.cells #[.slice a L.length ca, .slice b T.length cb] 33 (0, 0)) := by rw [hw1]; exact heap_alloc_new w _
  have KX := Lib.hid (show ∀ wz, Below w1.heap.size w1 wz → wz.heap[w.heap.size]? = some (.cells #[.slice a L.length ca, .slice b T.length cb] 33 (0, 0)) from fun wz h => (h.block _ (lt_of_block hx1)).trans hx1)
  have KL := Lib.hid (show ∀ wz, Below w1.heap.size w1 wz → Rd wz a L from fun wz h => (hr.below hB).below h)
  have KT := Lib.hid (show ∀ wz, Below w1.heap.size w1 wz → RdT wz b T from fun wz h => (hT.below hB).below h)
  have Kt := Lib.hid (show ∀ wz, Below w1.heap.size w1 wz → Rd wz at_ t from fun wz h => (ht.below hB).below h)
  have KN := Lib.hid (show ∀ wz, Below w1.heap.size w1 wz → Rd wz an N from fun wz h => (hn.below hB).below h)
  have z : Below w1.heap.size w1 w1 := Below.refl _ _
  clear hr hT ht hn hx1
  cases hA : algB L T with
  | false =>
    have HV := Lib.hid (show vofI L T t N = -1 by unfold vofI; rw [hA]; rfl)
    go_enter Try.func22, Try.ntmps22
    go_wp2_with (first | go_skip | (rw [← hw1]; clear hw1) | (refine wpList_load_row_w rfl 33 _ rfl w.heap.size rfl _ _ _ _ (KX.out _ z) Try.underlying33 rfl (size_Alg _ _) ?_) | (go_at_call 54; refine (ret_toT (validAlgebra_any _ _ _ _ L T _ (KL.out _ z) (KT.out _ z)) (congrArg Value.bool hA)).mono ?_; rintro e w2 ⟨rfl, hb⟩; replace z := z.trans (hb.mono z.size)))
    go_ret
    exact ⟨by rw [HV.out]; rfl, hB.trans (z.mono hB.size)⟩
  | true =>
    cases hv : vtB t with
    | false =>
      have HV := Lib.hid (show vofI L T t N = -1 by unfold vofI; rw [hA, hv]; rfl)
      go_enter Try.func22, Try.ntmps22
      go_wp2_with (first | go_skip | (rw [← hw1]; clear hw1) | (refine wpList_load_row_w rfl 33 _ rfl w.heap.size rfl _ _ _ _ (KX.out _ z) Try.underlying33 rfl (size_Alg _ _) ?_) | (go_at_call 54; refine (ret_toT (validAlgebra_any _ _ _ _ L T _ (KL.out _ z) (KT.out _ z)) (congrArg Value.bool hA)).mono ?_; rintro e w2 ⟨rfl, hb⟩; replace z := z.trans (hb.mono z.size)) | (go_at_call 55; refine (specValid_any _ _ t _ (Kt.out _ z) hmt).mono ?_; rintro e w' ⟨rfl, rfl⟩))
      go_ret
      exact ⟨by rw [HV.out]; rfl, hB.trans (z.mono hB.size)⟩
    | true =>
      have l6 : (L.length : Int) ≤ 6 := (lat_len (alg_lat hA)).2
      cases hq : nmB L N with
      | false =>
        have HV := Lib.hid (show vofI L T t N = -1 by unfold vofI; rw [hA, hv, hq]; rfl)
        go_enter Try.func22, Try.ntmps22
        go_wp2_with (first | go_skip | (rw [← hw1]; clear hw1) | (refine wpList_load_row_w rfl 33 _ rfl w.heap.size rfl _ _ _ _ (KX.out _ z) Try.underlying33 rfl (size_Alg _ _) ?_) | (go_at_call 54; refine (ret_toT (validAlgebra_any _ _ _ _ L T _ (KL.out _ z) (KT.out _ z)) (congrArg Value.bool hA)).mono ?_; rintro e w2 ⟨rfl, hb⟩; replace z := z.trans (hb.mono z.size)) | (go_at_call 55; refine (specValid_any _ _ t _ (Kt.out _ z) hmt).mono ?_; rintro e w' ⟨rfl, rfl⟩) | (go_at_call 56; refine (ret_toT (specValidNames_any _ _ _ _ L T _ _ N _ (KL.out _ z) (KT.out _ z) (KN.out _ z) l6 hm) (congrArg Value.bool hq)).mono ?_; rintro e w2 ⟨rfl, hb⟩; replace z := z.trans (hb.mono z.size)))
        go_ret
        exact ⟨by rw [HV.out]; rfl, hB.trans (z.mono hB.size)⟩
      | true =>
        have HV := Lib.hid (show vofI L T t N = vlI L T N t.length t by unfold vofI; rw [hA, hv, hq]; rfl)
        obtain ⟨hN3, hNe⟩ := nmB_parts hq
        obtain ⟨l15, htm⟩ := vtB_parts hv
        obtain ⟨ab, ao, rfl⟩ := rd_some (KL.out _ z) (fun e => absurd (show L.length = 0 by rw [e]; rfl) (by have := (lat_len (alg_lat hA)).1; have : num L = L.length := rfl; omega))
        obtain ⟨tb, to, rfl⟩ := rdT_some (KT.out _ z) hA
        obtain ⟨eb, eo, rfl⟩ := rd_some (Kt.out _ z) (fun e => by rw [e] at htm; cases htm)
        obtain ⟨nb, no, rfl⟩ := rd_some (KN.out _ z) (fun e => by rw [e] at hN3; cases hN3)
        have HS := Lib.hid (show ∀ wz, Below w1.heap.size w1 wz → Calls Try.prog 57 #[.agg #[.slice (some ⟨ab, ao, none⟩) L.length ca, .slice (some ⟨tb, to, none⟩) T.length cb], .slice (some ⟨eb, eo, none⟩) t.length ct, .int .i64 0, .slice (some ⟨nb, no, none⟩) N.length cn] wz fun e w' => e = .returned (.int .i64 (vlI L T N t.length t)) ∧ Below wz.heap.size wz w' from fun wz hz => specValue_any L T ab ao ca tb to cb t eb eo ct N nb no cn hN3 hA hNe l15 t.length 0 [] wz (KL.out _ hz) (KT.out _ hz) (Kt.out _ hz) (KN.out _ hz) htm)
        clear hN3 hNe l15 htm
        go_enter Try.func22, Try.ntmps22
        go_wp2_with (first | go_skip | (rw [← hw1]; clear hw1) | (refine wpList_load_row_w rfl 33 _ rfl w.heap.size rfl _ _ _ _ (KX.out _ z) Try.underlying33 rfl (size_Alg _ _) ?_) | (go_at_call 54; refine (ret_toT (validAlgebra_any _ _ _ _ L T _ (KL.out _ z) (KT.out _ z)) (congrArg Value.bool hA)).mono ?_; rintro e w2 ⟨rfl, hb⟩; replace z := z.trans (hb.mono z.size)) | (go_at_call 55; refine (specValid_any _ _ t _ (Kt.out _ z) hmt).mono ?_; rintro e w' ⟨rfl, rfl⟩) | (go_at_call 56; refine (ret_toT (specValidNames_any _ _ _ _ L T _ _ N _ (KL.out _ z) (KT.out _ z) (KN.out _ z) l6 hm) (congrArg Value.bool hq)).mono ?_; rintro e w2 ⟨rfl, hb⟩; replace z := z.trans (hb.mono z.size)) | (go_at_call 57; refine (HS.out _ z).mono ?_; rintro e w2 ⟨rfl, hb⟩; replace z := z.trans (hb.mono z.size)))
        go_ret
        exact ⟨by rw [HV.out]; rfl, hB.trans (z.mono hB.size)⟩
end Go.Proofs.Ytidbilgnclfplaa
