import Derived.Test.YtpophjloedpcfaaGreatDoorY1
import Derived.Test.YtpophjloedpcfaaGreatDoorTX10
namespace Go.Proofs.YtpophjloedpcfaaGreatDoor
open Go.RowKit

/-- rows cut out of one block -/
def winA (P m n : Nat) : Array Value := ((List.range n).map fun (x : Nat) => Value.slice (some ⟨P, x * m, none⟩) m m).toArray
theorem winA_get {P m n x : Nat} (h : x < n) : (winA P m n)[x]? = some (.slice (some ⟨P, x * m, none⟩) m m) := by
  unfold winA
  rw [List.getElem?_toArray, List.getElem?_map, List.getElem?_range h]; rfl
/-- a window of a row, marked so far -/
def mkW (F : List Int) (off : Nat) (k : Int) (j : Nat) : List Int := F.take off ++ (markL k j ++ F.drop (off + j))
theorem mkW_len {F : List Int} {off j : Nat} (k : Int) (h : off + j ≤ F.length) : (mkW F off k j).length = F.length := by
  unfold mkW; simp [markL_len]; omega
theorem mkW_zero (F : List Int) (off : Nat) (k : Int) : mkW F off k 0 = F := by
  unfold mkW markL; simp
theorem markL_snoc (k : Int) (j : Nat) : markL k (j + 1) = markL k j ++ [k + j] := by
  unfold markL; rw [List.range_succ, List.map_append]; rfl
theorem mkW_set {F : List Int} {off j : Nat} (k : Int) (h : off + j < F.length) : (mkW F off k j).set (off + j) (k + j) = mkW F off k (j + 1) := by
  unfold mkW
  rw [List.set_append_right (h := by rw [List.length_take]; omega), List.length_take, Nat.min_eq_left (by omega), Nat.add_sub_cancel_left,
    List.set_append_right (h := by rw [markL_len]; exact Nat.le_refl _), markL_len, Nat.sub_self, List.drop_eq_getElem_cons h, markL_snoc]
  simp [Nat.add_assoc]
theorem markL_app (k : Int) (a b : Nat) : markL k a ++ markL (k + a) b = markL k (a + b) := by
  induction b with
  | zero => simp [markL]
  | succ b ih => rw [markL_snoc, ← List.append_assoc, ih, ← Nat.add_assoc, markL_snoc]; congr 2; omega
theorem mkW_next {F : List Int} {a m : Nat} (k : Int) : mkW (mkW F 0 k a) a (k + a) m = mkW F 0 k (a + m) := by
  unfold mkW
  have e1 : (markL k a ++ F.drop a).take a = markL k a := by rw [List.take_append_of_le_length (by rw [markL_len]; exact Nat.le_refl _), List.take_of_length_le (by rw [markL_len]; exact Nat.le_refl _)]
  have e2 : (markL k a ++ F.drop a).drop (a + m) = F.drop (a + m) := by rw [List.drop_append, List.drop_of_length_le (by rw [markL_len]; omega), markL_len, List.nil_append, List.drop_drop]; congr 1; omega
  simp only [List.take_zero, List.nil_append, Nat.zero_add]
  rw [e1, e2, ← List.append_assoc, markL_app]
theorem mkW_all (F : List Int) (k : Int) : mkW F 0 k F.length = markL k F.length := by
  unfold mkW; simp
theorem Row.cellN {w : World} {b : Nat} {L : List Int} (h : Row w b L) {j : Nat} (hj : j < L.length) : w.cell? ⟨b, j, none⟩ = some (.int .i64 (nth L j)) := by
  rw [cell_of_row w b j _ _ _ h]; exact IL_get L j hj
set_option maxHeartbeats 1000000 in
/-- laws.markIntS of a window -/
theorem markIntS_W (P off m c : Nat) (F : List Int) (k : Int) (w : World) (hrow : Row w P F) (hl : off + m ≤ F.length) (hm : m ≤ 1000) (k0 : 0 ≤ k) (k1 : k ≤ 1125899906842624) :
    Calls Tryz.prog 57 #[.slice (some ⟨P, off, none⟩) m c, .int .i64 k] w fun e w' => e = .returned (.int .i64 (k + m)) ∧ Row w' P (mkW F off k m) ∧ Mid P (P + 1) w w' := by
  have hml : (m : Int) ≤ 1000 := by omega
  go_enter Tryz.func57, Tryz.ntmps57
  go_wp2
  go_loopw [1, 5] (fun mv i wr => ∃ j : Int, 0 ≤ j ∧ j ≤ m ∧ i = .int .i64 j ∧ mv = .int .i64 (k + j) ∧ Row wr P (mkW F off k j.toNat) ∧ Mid P (P + 1) w wr) (fun _ i _ => ((m : Int) - intOf i).toNat)
  case atStart => exact ⟨0, by omega, by omega, rfl, by simp, by rw [show (0 : Int).toNat = 0 from rfl, mkW_zero]; exact hrow, Mid.refl _ _ _⟩
  case round =>
    obtain ⟨j, j0, j1, rfl, rfl, ho, hg⟩ := hrel
    by_cases hj : j < m
    · have hlen := mkW_len (F := F) (off := off) (j := j.toNat) k (by omega)
      have c0 := ho.cellN (j := off + j.toNat) (by omega)
      have f0 := ho.free (off + j.toNat)
      have hst := Lib.hid (ho.set (off + j.toNat) (k + j))
      have hse := Lib.hid (mkW_set (F := F) (off := off) (j := j.toNat) k (by omega))
      have HG := Lib.hid (hg.setCell (p := ⟨P, off + j.toNat, none⟩) (Nat.le_refl _) (Nat.lt_succ_self _) (.int .i64 (k + j)))
      have h1 : (1 : Int) ≤ m := by omega
      clear hlen hrow ho hg
      go_wp2
      go_roundw
      case rel =>
        have s1 := hst.out
        have e := hse.out
        rw [Int.toNat_of_nonneg j0] at e
        rw [e] at s1
        exact ⟨j + 1, by omega, by omega, rfl, by rw [Int.add_assoc], by rw [show (j + 1).toNat = j.toNat + 1 by omega]; exact s1, HG.out⟩
      case measure => simp [intOf]; omega
    · have e : j = m := by omega
      subst e
      have HO := Lib.hid (show Row wr P (mkW F off k m) by rwa [Int.toNat_natCast] at ho)
      clear ho hrow
      go_wp2
      go_ret
      exact ⟨rfl, HO.out, hg⟩
set_option maxHeartbeats 1000000 in
/-- laws.markIntSS of windows -/
theorem markIntSS_W (B P m : Nat) (F : List Int) (k : Int) (w : World) (hB : w.heap[B]? = some (.cells (winA P m m) 23 (0, 0))) (hrow : Row w P F) (hF : F.length = m * m) (hne : B ≠ P) (hm : m ≤ 6) (k0 : 0 ≤ k) (k1 : k ≤ 1125899905842624) :
    Calls Tryz.prog 58 #[.slice (some ⟨B, 0, none⟩) m m, .int .i64 k] w fun e w' => e = .returned (.int .i64 (k + (m * m : Nat))) ∧ Row w' P (markL k (m * m)) ∧ Mid P (P + 1) w w' := by
  have hml : (m : Int) ≤ 6 := by omega
  have HF := Lib.hid hF
  have HBB := Lib.hid hB
  clear hF hB
  go_enter Tryz.func58, Tryz.ntmps58
  go_wp2
  go_loopw [1, 5] (fun mv i wr => ∃ j v : Int, 0 ≤ j ∧ j ≤ m ∧ i = .int .i64 j ∧ mv = .int .i64 v ∧ v = k + (j.toNat * m : Nat) ∧ Row wr P (mkW F 0 k (j.toNat * m)) ∧ Mid P (P + 1) w wr) (fun _ i _ => ((m : Int) - intOf i).toNat)
  case atStart => exact ⟨0, k, by omega, by omega, rfl, rfl, by simp, by rw [show (0 : Int).toNat * m = 0 by simp, mkW_zero]; exact hrow, Mid.refl _ _ _⟩
  case round =>
    obtain ⟨j, v, j0, j1, rfl, rfl, hv, ho, hg⟩ := hrel
    by_cases hj : j < m
    · have c0 : wr.cell? ⟨B, j.toNat, none⟩ = some (.slice (some ⟨P, j.toNat * m, none⟩) m m) := by
        have ht := (hg.block B (lt_of_block HBB.out) (by omega)).trans HBB.out
        rw [cell_of_row wr B _ _ _ _ ht, winA_get (by omega)]
      have hb : (j.toNat + 1) * m ≤ m * m := Nat.mul_le_mul_right m (by omega)
      have hs : (j.toNat + 1) * m = j.toNat * m + m := Nat.succ_mul _ _
      have h36 : m * m ≤ 6 * 6 := Nat.mul_le_mul hm hm
      have hFo := HF.out
      obtain ⟨a, ha⟩ : ∃ a, a = j.toNat * m := ⟨_, rfl⟩
      rw [← ha] at c0 hs hv ho
      have hln := mkW_len (F := F) (off := 0) (j := a) k (by omega)
      have HN := Lib.hid (mkW_next (F := F) (a := a) (m := m) k)
      have HM := Lib.hid (show ∀ w, Row w P (mkW F 0 k a) → Calls Tryz.prog 57 #[.slice (some ⟨P, a, none⟩) m m, .int .i64 v] w fun e w' => e = .returned (.int .i64 (v + m)) ∧ Row w' P (mkW F 0 k (a + m)) ∧ Mid P (P + 1) w w' from fun w hr => by
        rw [hv, ← HN.out]
        exact markIntS_W P a m m _ (k + a) w hr (by omega) (by omega) (by omega) (by omega))
      have HV := Lib.hid hv
      have HS := Lib.hid hs
      have HO := Lib.hid ho
      have HA := Lib.hid ha
      clear hv hs ho ha hln hb h36 hFo hrow
      go_wp2_with fail
      refine (HM.out wr HO.out).mono ?_
      rintro e w5 ⟨rfl, hr5, hm5⟩
      go_wp2
      go_roundw
      case rel =>
        have e1 : (j + 1).toNat * m = a + m := by rw [show (j + 1).toNat = j.toNat + 1 by omega]; exact HS.out
        exact ⟨j + 1, v + m, by omega, by omega, rfl, rfl, by rw [e1, HV.out]; omega, by rw [e1]; exact hr5, hg.trans hm5⟩
      case measure => simp [intOf]; omega
    · have e : j.toNat = m := by omega
      rw [e] at hv ho
      rw [← HF.out, mkW_all, HF.out] at ho
      have HV := Lib.hid hv
      have HO := Lib.hid ho
      clear hv ho hrow
      go_wp2
      go_ret
      exact ⟨ret_int (HV.out.trans (by rw [Int.natCast_mul])), HO.out, hg⟩
theorem row_win {w : World} {P m : Nat} {F : List Int} (h : Row w P F) {off : Nat} {R : List Int} (hR : (F.drop off).take m = R) (hl : R.length = m) : Rd w (some ⟨P, off, none⟩) R := fun hne => by
  refine ⟨P, off, rfl, fun j hj => ?_⟩
  have hlen := congrArg List.length hR
  rw [List.length_take, List.length_drop] at hlen
  rw [h.cellN (by omega)]
  have e : nth F (off + j : Nat) = nth R j := by
    rw [nth_at hj, nth_at (by omega)]
    subst hR
    simp
  rw [e]
set_option maxHeartbeats 1000000 in
/-- laws.heldIntSS of windows -/
theorem heldIntSS_W (B P m : Nat) (k : Int) (w : World) (hB : w.heap[B]? = some (.cells (winA P m m) 23 (0, 0))) (hrow : Row w P (markL k (m * m))) (hm : m ≤ 6) (k0 : 0 ≤ k) (k1 : k ≤ 1048576) :
    Calls Tryz.prog 60 #[.slice (some ⟨B, 0, none⟩) m m, .int .i64 k] w fun e w' => e = .returned (.int .i64 (k + (m * m : Nat))) ∧ w = w' := by
  have hml : (m : Int) ≤ 6 := by omega
  have HBB := Lib.hid hB
  have HRR := Lib.hid hrow
  clear hB hrow
  go_enter Tryz.func60, Tryz.ntmps60
  go_wp2
  go_loopw [1, 5] (fun mv i wr => ∃ j v : Int, 0 ≤ j ∧ j ≤ m ∧ i = .int .i64 j ∧ mv = .int .i64 v ∧ v = k + (j.toNat * m : Nat) ∧ w = wr) (fun _ i _ => ((m : Int) - intOf i).toNat)
  case atStart => exact ⟨0, k, by omega, by omega, rfl, rfl, by simp, rfl⟩
  case round =>
    obtain ⟨j, v, j0, j1, rfl, rfl, hv, rfl⟩ := hrel
    by_cases hj : j < m
    · have c0 : w.cell? ⟨B, j.toNat, none⟩ = some (.slice (some ⟨P, j.toNat * m, none⟩) m m) := by
        rw [cell_of_row w B _ _ _ _ HBB.out, winA_get (by omega)]
      have hb : (j.toNat + 1) * m ≤ m * m := Nat.mul_le_mul_right m (by omega)
      have hs : (j.toNat + 1) * m = j.toNat * m + m := Nat.succ_mul _ _
      have h36 : m * m ≤ 6 * 6 := Nat.mul_le_mul hm hm
      obtain ⟨a, ha⟩ : ∃ a, a = j.toNat * m := ⟨_, rfl⟩
      rw [← ha] at c0 hs hv
      have v0 : 0 ≤ v := by omega
      have v9 : ¬ v + m < 0 := by omega
      have hR : Rd w (some ⟨P, a, none⟩) (markL v m) := by
        refine row_win (m := m) HRR.out (R := markL v m) ?_ (markL_len _ _)
        rw [hv]
        have e : m * m = a + (m * m - a) := by omega
        have e2 : m * m - a = m + (m * m - a - m) := by omega
        rw [e, ← markL_app, List.drop_append, List.drop_of_length_le (by rw [markL_len]; omega), markL_len, Nat.sub_self, List.drop_zero, List.nil_append, e2, ← markL_app, List.take_append_of_le_length (by rw [markL_len]; omega), List.take_of_length_le (by rw [markL_len]; omega)]
      have HM := Lib.hid (heldIntS_any (some ⟨P, a, none⟩) m m v w hR v0 (by omega) (by omega))
      have HV := Lib.hid hv
      have HS := Lib.hid hs
      clear hv hs hb h36 ha hR
      go_wp2_with fail
      refine HM.out.mono ?_
      rintro e w5 ⟨rfl, rfl⟩
      go_wp2
      go_roundw
      case rel =>
        have e1 : (j + 1).toNat * m = a + m := by rw [show (j + 1).toNat = j.toNat + 1 by omega]; exact HS.out
        exact ⟨j + 1, v + m, by omega, by omega, rfl, rfl, by rw [e1, HV.out]; omega, by trivial⟩
      case measure => simp [intOf]; omega
    · have e : j.toNat = m := by omega
      rw [e] at hv
      have HV := Lib.hid hv
      clear hv
      go_wp2
      go_ret
      exact ⟨ret_int (HV.out.trans (by rw [Int.natCast_mul])), rfl⟩
theorem cum_sq {T : List (List Int)} {m : Nat} (h : ∀ j : Nat, j < m → (rowAt T j).length = m) : ∀ j : Nat, j ≤ m → cum T j = (j * m : Nat)
  | 0, _ => by simp [cum]
  | j + 1, hj => by
    have := cum_sq h j (by omega)
    have hs : (j + 1) * m = j * m + m := Nat.succ_mul _ _
    show cum T j + (rowAt T j).length = _
    rw [this, h j (by omega), hs]; omega
theorem flat_rowAt {T : List (List Int)} {m : Nat} (hl : T.length = m) (h : ∀ j : Nat, j < m → (rowAt T j).length = m) : (∀ R ∈ T, R.length = m) ∧ T.flatten.length = m * m := by
  have h1 : ∀ R ∈ T, R.length = m := fun R hR => by
    obtain ⟨i, hi, rfl⟩ := List.getElem_of_mem hR
    have := h i (by omega)
    rwa [rowAt_at hi] at this
  exact ⟨h1, by rw [flat_len h1, hl]⟩
/-- a table whose rows are windows of one block of its own -/
def GTW (lo hi : Nat) (w : World) (t : Value) (T : List (List Int)) : Prop :=
  (t = .slice none 0 0 ∧ T = []) ∨
  ∃ B P m, t = .slice (some ⟨B, 0, none⟩) m m ∧ T.length = m ∧ (∀ j : Nat, j < m → (rowAt T j).length = m) ∧ m ≤ 6 ∧ lo ≤ B ∧ B < hi ∧ lo ≤ P ∧ P < hi ∧ B ≠ P ∧ w.heap[B]? = some (.cells (winA P m m) 23 (0, 0)) ∧ Row w P T.flatten
def MTW (w : World) (t : Value) (T : List (List Int)) (k : Int) : Prop :=
  (t = .slice none 0 0 ∧ T = []) ∨
  ∃ B P m, t = .slice (some ⟨B, 0, none⟩) m m ∧ T.length = m ∧ (∀ j : Nat, j < m → (rowAt T j).length = m) ∧ m ≤ 6 ∧ w.heap[B]? = some (.cells (winA P m m) 23 (0, 0)) ∧ Row w P (markL k (m * m))
section
variable {lo hi : Nat} {w w' : World} {t : Value} {T : List (List Int)}
theorem GTW.keep (h : GTW lo hi w t T) (hk : Keep lo hi w w') : GTW lo hi w' t T := by
  rcases h with h | ⟨B, P, m, h1, h2, h3, h4, h5, h6, h7, h8, h9, h10, h11⟩
  · exact .inl h
  · exact .inr ⟨B, P, m, h1, h2, h3, h4, h5, h6, h7, h8, h9, (hk B h5 h6 (lt_of_block h10)).trans h10, h11.keep hk h7 h8⟩
theorem GTW.below (h : GTW lo hi w t T) (hb : Below w.heap.size w w') : GTW lo hi w' t T := h.keep (Keep.below hb)
theorem GTW.mid (h : GTW lo hi w t T) {a b : Nat} (hm : Mid a b w w') (hd : hi ≤ a ∨ b ≤ lo) : GTW lo hi w' t T := h.keep (Keep.mid hm hd)
theorem GTW.rd (h : GTW lo hi w t T) : ∃ b c, t = .slice b T.length c ∧ RdT w b T := by
  rcases h with ⟨rfl, rfl⟩ | ⟨B, P, m, h1, h2, h3, h4, h5, h6, h7, h8, h9, h10, h11⟩
  · exact ⟨none, 0, rfl, fun h => absurd rfl h⟩
  · refine ⟨_, _, by rw [h1, h2], fun _ => ⟨B, 0, rfl, fun j hj => ⟨some ⟨P, j * m, none⟩, m, ?_, ?_⟩⟩⟩
    · rw [Nat.zero_add, cell_of_row w B _ _ _ _ h10, winA_get (by omega), h3 j (by omega)]
    · refine row_win (m := m) h11 ?_ (h3 j (by omega))
      rw [rowAt_at hj]
      exact flat_row (flat_rowAt h2 h3).1 j hj
theorem MTW.below {k : Int} (h : MTW w t T k) (hb : Below w.heap.size w w') : MTW w' t T k := by
  rcases h with h | ⟨B, P, m, h1, h2, h3, h4, h5, h6⟩
  · exact .inl h
  · exact .inr ⟨B, P, m, h1, h2, h3, h4, (hb.block _ (lt_of_block h5)).trans h5, h6.below hb h6.lt⟩
end
/-- an algebra of blocks of its own, or the zero value -/
def GAW (lo hi : Nat) (w : World) (s t : Value) (L : List Int) (T : List (List Int)) : Prop :=
  ∃ l1 h1 l2 h2, lo ≤ l1 ∧ h1 ≤ hi ∧ lo ≤ l2 ∧ h2 ≤ hi ∧ (h1 ≤ l2 ∨ h2 ≤ l1) ∧ GS l1 h1 w s L ∧ GTW l2 h2 w t T
/-- the same, marked -/
def MAW (w : World) (s t : Value) (L : List Int) (T : List (List Int)) (k : Int) : Prop := MS w s L k ∧ MTW w t T (k + L.length)
section
variable {lo hi : Nat} {w w' : World} {s t : Value} {L : List Int} {T : List (List Int)}
theorem GAW.keep (h : GAW lo hi w s t L T) (hk : Keep lo hi w w') : GAW lo hi w' s t L T := by
  obtain ⟨l1, h1, l2, h2, e1, e2, e3, e4, e5, gs, gt⟩ := h
  exact ⟨l1, h1, l2, h2, e1, e2, e3, e4, e5, gs.keep fun k a b c => hk k (by omega) (by omega) c, gt.keep fun k a b c => hk k (by omega) (by omega) c⟩
theorem GAW.below (h : GAW lo hi w s t L T) (hb : Below w.heap.size w w') : GAW lo hi w' s t L T := h.keep (Keep.below hb)
theorem GAW.mid (h : GAW lo hi w s t L T) {a b : Nat} (hm : Mid a b w w') (hd : hi ≤ a ∨ b ≤ lo) : GAW lo hi w' s t L T := h.keep (Keep.mid hm hd)
theorem GAW.rd (h : GAW lo hi w s t L T) : RA w s t L T := by
  obtain ⟨l1, h1, l2, h2, e1, e2, e3, e4, e5, gs, gt⟩ := h
  obtain ⟨a, c, x1, x2⟩ := gs.rd
  obtain ⟨b, d, y1, y2⟩ := gt.rd
  exact ⟨a, c, b, d, x1, y1, x2, y2⟩
theorem GAW.zero (lo hi : Nat) (h : lo ≤ hi) (w : World) : GAW lo hi w (.slice none 0 0) (.slice none 0 0) [] [] := ⟨lo, lo, lo, hi, Nat.le_refl _, h, Nat.le_refl _, Nat.le_refl _, .inl (Nat.le_refl _), GS.zero _ _ _, .inl ⟨rfl, rfl⟩⟩
theorem MAW.below {k : Int} (h : MAW w s t L T k) (hb : Below w.heap.size w w') : MAW w' s t L T k := ⟨h.1.below hb, h.2.below hb⟩
end
def RetGAbW (L : List Int) (T : List (List Int)) (V : Bool) (w : World) (e : Ending) (w' : World) : Prop :=
  ∃ (a : Option Addr) (n c : Nat) (b : Option Addr) (m d : Nat), e = .returned (.tuple #[.agg #[.slice a n c, .slice b m d], .bool V]) ∧ GAW w.heap.size w'.heap.size w' (.slice a n c) (.slice b m d) L T ∧ Below w.heap.size w w'
theorem markIntSS_GW (lo hi : Nat) (t : Value) (T : List (List Int)) (k : Int) (w : World) (h : GTW lo hi w t T) (k0 : 0 ≤ k) (k1 : k ≤ 1125899905842624) :
    Calls Tryz.prog 58 #[t, .int .i64 k] w fun e w' => e = .returned (.int .i64 (k + cum T T.length)) ∧ MTW w' t T k ∧ Mid lo hi w w' := by
  rcases h with ⟨rfl, rfl⟩ | ⟨B, P, m, rfl, h2, h3, h4, h5, h6, h7, h8, h9, h10, h11⟩
  · refine (markIntSS_nil k w).mono fun e w' ⟨he, hw⟩ => ⟨?_, .inl ⟨rfl, rfl⟩, by rw [← hw]; exact Mid.refl _ _ _⟩
    rw [he]; simp [cum]
  · refine (markIntSS_W B P m T.flatten k w h10 h11 (flat_rowAt h2 h3).2 h9 h4 k0 k1).mono fun e w' ⟨he, hr, hmid⟩ => ⟨?_, .inr ⟨B, P, m, rfl, h2, h3, h4, (hmid.block B (lt_of_block h10) (by omega)).trans h10, hr⟩, hmid.wide h7 (by omega)⟩
    rw [he, h2, cum_sq h3 m (Nat.le_refl _)]
theorem heldIntSS_GW (t : Value) (T : List (List Int)) (k : Int) (w : World) (h : MTW w t T k) (k0 : 0 ≤ k) (k1 : k ≤ 1048576) :
    Calls Tryz.prog 60 #[t, .int .i64 k] w fun e w' => e = .returned (.int .i64 (k + cum T T.length)) ∧ Below w.heap.size w w' := by
  rcases h with ⟨rfl, rfl⟩ | ⟨B, P, m, rfl, h2, h3, h4, h5, h6⟩
  · refine (heldIntSS_nil k w).mono fun e w' ⟨he, hw⟩ => ⟨?_, by rw [← hw]; exact Below.refl _ _⟩
    rw [he]; simp [cum]
  · refine (heldIntSS_W B P m k w h5 h6 h4 k0 k1).mono fun e w' ⟨he, hw⟩ => ⟨?_, by rw [← hw]; exact Below.refl _ _⟩
    rw [he, h2, cum_sq h3 m (Nat.le_refl _)]
set_option maxRecDepth 100000 in
set_option maxHeartbeats 1000000 in
theorem markAlgebra_GW (lo hi : Nat) (a : Option Addr) (n c : Nat) (b : Option Addr) (m d : Nat) (L : List Int) (T : List (List Int)) (k : Int) (w : World) (h : GAW lo hi w (.slice a n c) (.slice b m d) L T) (hhi : hi ≤ w.heap.size) (hs : Sm L T) (k0 : 0 ≤ k) (k1 : k ≤ 1125899904794048) :
    Calls Tryz.prog 21 #[.agg #[.slice a n c, .slice b m d], .int .i64 k] w fun e w' => e = .returned (.int .i64 (k + wtA L T)) ∧ MAW w' (.slice a n c) (.slice b m d) L T k ∧ Mid lo hi w w' := by
  obtain ⟨w1, hw1⟩ : ∃ w1, w1 = w.alloc (.cells #[.slice a n c, .slice b m d] 26) := ⟨_, rfl⟩
  have hB : Below w.heap.size w w1 := by rw [hw1]; exact (Below.refl _ _).alloc (Nat.le_refl _) _
  have hx : w1.heap[w.heap.size]? = some (.cells #[.slice a n c, .slice b m d] 26 (0, 0)) := by rw [hw1]; exact heap_alloc_new w _
  obtain ⟨c0, c1⟩ := bx_cells hx
  obtain ⟨l1, h1, l2, h2, e1, e2, e3, e4, e5, gs, gt⟩ := h
  have gs1 := Lib.hid (gs.below hB)
  have gt1 := Lib.hid (gt.below hB)
  have M3 := Lib.hid hs.2.2
  have hL := hs.1
  have hT := hs.2.1
  clear gs gt hs
  go_enter Tryz.func21, Tryz.ntmps21
  go_wp2_with (rw [← hw1]; clear hw1)
  refine (markIntS_G l1 h1 _ L k w1 gs1.out hL k0 (by omega)).mono ?_
  rintro e w2 ⟨rfl, ms2, m2⟩
  have hx2 := (m2.block _ (lt_of_block hx) (.inr (by omega))).trans hx
  have gt2 := Lib.hid (gt1.out.mid m2 e5.symm)
  obtain ⟨d0, d1⟩ := bx_cells hx2
  go_wp2_with fail
  refine (markIntSS_GW l2 h2 _ T _ w2 gt2.out (by omega) (by omega)).mono ?_
  rintro e w3 ⟨rfl, mt3, m3⟩
  have MT3 := Lib.hid mt3
  have MS2 := Lib.hid ms2
  clear mt3 ms2
  go_wp2
  go_ret
  have hs1 := hB.size
  have hs2 := m2.size
  have hs3 := m3.size
  refine ⟨by unfold wtA; rw [Int.add_assoc]; rfl, ⟨MS2.out.keep fun g hg => ?_, MT3.out⟩, m3.os.trans (m2.os.trans hB.os), m3.tape.trans (m2.tape.trans hB.tape), m3.output.trans (m2.output.trans hB.output), by omega, fun i hi2 hne => ?_⟩
  · have hq := gs1.out.2.2 g hg
    have hq2 := World.ownsRow.lt gs1.out.2.1 g hg
    exact m3.block g (by omega) (by omega)
  · exact (m3.block i (by omega) (by omega)).trans ((m2.block i (by omega) (by omega)).trans (hB.block i hi2))
set_option maxRecDepth 100000 in
set_option maxHeartbeats 1000000 in
theorem heldAlgebra_GW (a : Option Addr) (n c : Nat) (b : Option Addr) (m d : Nat) (L : List Int) (T : List (List Int)) (k : Int) (w : World) (h : MAW w (.slice a n c) (.slice b m d) L T k) (hs : Ti L T) (k0 : 0 ≤ k) (k1 : k ≤ 1024) :
    Calls Tryz.prog 22 #[.agg #[.slice a n c, .slice b m d], .int .i64 k] w fun e w' => e = .returned (.int .i64 (k + wtA L T)) ∧ Below w.heap.size w w' := by
  obtain ⟨w1, hw1⟩ : ∃ w1, w1 = w.alloc (.cells #[.slice a n c, .slice b m d] 26) := ⟨_, rfl⟩
  have hB : Below w.heap.size w w1 := by rw [hw1]; exact (Below.refl _ _).alloc (Nat.le_refl _) _
  have hx : w1.heap[w.heap.size]? = some (.cells #[.slice a n c, .slice b m d] 26 (0, 0)) := by rw [hw1]; exact heap_alloc_new w _
  have Kx := Lib.hid (show ∀ wz, Below w1.heap.size w1 wz → wz.heap[w.heap.size]? = some (.cells #[.slice a n c, .slice b m d] 26 (0, 0)) from fun wz h => (h.block _ (lt_of_block hx)).trans hx)
  obtain ⟨c0, c1⟩ := bx_cells hx
  have H1 := Lib.hid (h.below hB)
  have M3 := Lib.hid hs.2.2
  have hL := hs.1
  have hT := hs.2.1
  have hcu := (cum_le T (fun j hj => by have := hs.2.2 j hj; omega) T.length (Nat.le_refl _)).1
  have g1 : ¬ k + (L.length : Int) < 0 := by omega
  have g2 : ¬ k + (L.length : Int) + cum T T.length < 0 := by omega
  clear h hs hx
  go_enter Tryz.func22, Tryz.ntmps22
  go_wp2_with (rw [← hw1]; clear hw1)
  refine (heldIntS_G _ L k w1 H1.out.1 (by omega) k0 (by omega)).mono ?_
  rintro e w2 ⟨rfl, hb2⟩
  obtain ⟨d0, d1⟩ := bx_cells (Kx.out _ hb2)
  go_wp2_with fail
  refine (heldIntSS_GW _ T _ w2 (H1.out.2.below hb2) (by omega) (by omega)).mono ?_
  rintro e w3 ⟨rfl, hb3⟩
  go_wp2
  go_ret
  exact ⟨by unfold wtA; rw [Int.add_assoc]; rfl, hB.trans ((hb2.trans (hb3.mono hb2.size)).mono hB.size)⟩
end Go.Proofs.YtpophjloedpcfaaGreatDoor
