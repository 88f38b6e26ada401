import Derived.Test.YtpophjloedpcfaaGreatDoorTX4
import Derived.Test.YtpophjloedpcfaaGreatDoorTX5
namespace Go.Proofs.YtpophjloedpcfaaGreatDoor
open Go.RowKit

theorem dgs_len (L : List Int) : (dgs L).length = L.length := by unfold dgs; rw [List.length_map]
theorem rws_len (T : List (List Int)) : (rws T).length = T.length := by unfold rws; rw [List.length_map]
theorem rwB_size {R : List Int} (h : ∀ y : Int, 0 ≤ y → y < R.length → 0 ≤ nth R y ∧ nth R y < 100) : (rwB R).size ≤ 2 * R.length := by
  have := appN_size (p := ⟨#[]⟩) (R := R) R.length (fun j hj => (h j (by omega) (by omega)).2)
  have e : (ByteArray.mk #[]).size = 0 := rfl
  unfold rwB; omega
/-- Join of what decimals makes -/
theorem joinDg (L : List Int) (sep r : ByteArray) (bk : Nat) (w : World) (h : StR w bk (dgs L)) (hl : L.length ≤ 1000) (hr : (⟨(Lib.join ((dgs L).map (·.data.toList)) sep.data.toList).toArray⟩ : ByteArray) = r) (hs : r.size ≤ 1000000) :
    Calls Tryz.prog 28 #[.slice (some ⟨bk, 0, none⟩) L.length L.length, .string sep] w fun e w' => e = .returned (.string r) ∧ Below w.heap.size w w' := by
  have := strJoin_any bk (dgs L).length (dgs L) sep r w (fun j x hx => h.cell hx) h.lt (by rw [dgs_len]; exact hl) (Nat.le_refl _) hr hs
  rwa [dgs_len] at this
theorem joinRw (T : List (List Int)) (sep r : ByteArray) (bk : Nat) (w : World) (h : StR w bk (rws T)) (hl : T.length ≤ 1000) (hr : (⟨(Lib.join ((rws T).map (·.data.toList)) sep.data.toList).toArray⟩ : ByteArray) = r) (hs : r.size ≤ 1000000) :
    Calls Tryz.prog 28 #[.slice (some ⟨bk, 0, none⟩) T.length T.length, .string sep] w fun e w' => e = .returned (.string r) ∧ Below w.heap.size w w' := by
  have := strJoin_any bk (rws T).length (rws T) sep r w (fun j x hx => h.cell hx) h.lt (by rw [rws_len]; exact hl) (Nat.le_refl _) hr hs
  rwa [rws_len] at this
set_option maxRecDepth 100000 in
set_option maxHeartbeats 2000000 in
theorem implAlgebraText_no (a b : Option Addr) (ca cb : Nat) (L : List Int) (T : List (List Int)) (w : World) (hr : Rd w a L) (hT : RdT w b T) (h : algB L T = false) :
    Calls Tryz.prog 9 #[.agg #[.slice a L.length ca, .slice b T.length cb]] w fun e w' => e = .returned (.string (atI L T)) ∧ Below w.heap.size w w' := by
  obtain ⟨w1, hw1⟩ : ∃ w1, w1 = w.alloc (.cells #[.slice a L.length ca, .slice b T.length cb] 26) := ⟨_, rfl⟩
  have hB : Below w.heap.size w w1 := by rw [hw1]; exact (Below.refl _ _).alloc (Nat.le_refl _) _
  have hx : w1.heap[w.heap.size]? = some (.cells #[.slice a L.length ca, .slice b T.length cb] 26 (0, 0)) := by rw [hw1]; exact heap_alloc_new w _
  have KR := Lib.hid (hr.below hB)
  have KT := Lib.hid (hT.below hB)
  have HG := Lib.hid (atI_f h)
  clear hr hT
  go_enter Tryz.func9, Tryz.ntmps9
  go_wp2_with (first
    | (rw [← hw1]; clear hw1)
    | (refine wpList_load_row_w rfl 26 _ rfl w.heap.size rfl _ _ _ _ hx Tryz.underlying26 rfl (size_Alg _ _) ?_)
    | (go_at_call 11; refine (implValidAlgebra_any _ _ _ _ L T _ KR.out KT.out).mono ?_; rintro e w2 ⟨rfl, h2⟩))
  go_ret
  exact ⟨ret_str HG.out.symm, hB.trans (h2.mono hB.size)⟩
set_option maxRecDepth 100000 in
set_option maxHeartbeats 4000000 in
theorem implAlgebraText_yes (a b : Option Addr) (ca cb : Nat) (L : List Int) (T : List (List Int)) (w : World) (hr : Rd w a L) (hT : RdT w b T) (h : algB L T = true) :
    Calls Tryz.prog 9 #[.agg #[.slice a L.length ca, .slice b T.length cb]] w fun e w' => e = .returned (.string (atI L T)) ∧ Below w.heap.size w w' := by
  obtain ⟨w1, hw1⟩ : ∃ w1, w1 = w.alloc (.cells #[.slice a L.length ca, .slice b T.length cb] 26) := ⟨_, rfl⟩
  have hB : Below w.heap.size w w1 := by rw [hw1]; exact (Below.refl _ _).alloc (Nat.le_refl _) _
  have hx : w1.heap[w.heap.size]? = some (.cells #[.slice a L.length ca, .slice b T.length cb] 26 (0, 0)) := by rw [hw1]; exact heap_alloc_new w _
  obtain ⟨c0, c1⟩ := bx_cells hx
  have Kx := Lib.hid (show ∀ wz, Below w1.heap.size w1 wz → wz.heap[w.heap.size]? = some (.cells #[.slice a L.length ca, .slice b T.length cb] 26 (0, 0)) from fun wz h => (h.block _ (lt_of_block hx)).trans hx)
  have KR := Lib.hid (show ∀ wz, Below w1.heap.size w1 wz → Rd wz a L from fun wz h => (hr.below hB).below h)
  have KT := Lib.hid (show ∀ wz, Below w1.heap.size w1 wz → RdT wz b T from fun wz h => (hT.below hB).below h)
  have z1 : Below w1.heap.size w1 w1 := Below.refl _ _
  have HG := Lib.hid (atI_t h)
  clear hr hT hx
  have hl := (algB_parts h).1
  have t6 := tab_len6 h
  have HU := Lib.hid (fun k k0 k1 => up_lt (L := L) (k := k) hl k0 k1)
  have HC := Lib.hid (fun x y x0 x1 y0 y1 => row_el (x := x) (y := y) h x0 x1 y0 y1)
  have HL := Lib.hid (fun j hj => row_len6 (j := j) h hj)
  have hsX := ltxN_size (L := L) L.length (fun j hj => (HU.out j (by omega) (by omega)).2)
  have hsY := tbN_size6 (T := T) HL.out HC.out T.length t6.1
  have hTl : (T.length : Int) ≤ 6 := by omega
  have HJ1 := Lib.hid (show ∀ bk w, StR w bk (dgs L) → Calls Tryz.prog 28 #[.slice (some ⟨bk, 0, none⟩) L.length L.length, .string ⟨#[44]⟩] w fun e w' => e = .returned (.string (ltxN L L.length)) ∧ Below w.heap.size w w' from fun bk w hs => joinDg L _ _ bk w hs (by omega) (join_lt (by intro e; rw [e] at t6; simp at t6)) (by omega))
  have HJ2 := Lib.hid (show ∀ bk w, StR w bk (rws T) → Calls Tryz.prog 28 #[.slice (some ⟨bk, 0, none⟩) T.length T.length, .string ⟨#[47]⟩] w fun e w' => e = .returned (.string (tbN T T.length)) ∧ Below w.heap.size w w' from fun bk w hs => joinRw T _ _ bk w hs (by omega) (join_tb (by intro e; rw [e] at t6; simp at t6; omega)) (by omega))
  obtain ⟨X, hX⟩ : ∃ X, X = ltxN L L.length := ⟨_, rfl⟩
  obtain ⟨Y, hY⟩ : ∃ Y, Y = tbN T T.length := ⟨_, rfl⟩
  rw [← hX] at hsX HG HJ1
  rw [← hY] at hsY HG HJ2
  have e58 : (ByteArray.mk #[58]).size = 1 := rfl
  have s1 : ∀ w : World, (Op.stringOp .add X ⟨#[58]⟩).run Tryz.prog w = .ok (.string (X ++ ⟨#[58]⟩)) w := fun w => strAdd _ _ w (by omega)
  have s2 : ∀ w : World, (Op.stringOp .add (X ++ ⟨#[58]⟩) Y).run Tryz.prog w = .ok (.string (X ++ ⟨#[58]⟩ ++ Y)) w := fun w => strAdd _ _ w (by rw [ba_app_size]; omega)
  have hmk := run_make_strs T.length (by omega)
  have hL6 := t6.2.1
  clear hX hY hsX hsY e58 t6
  go_enter Tryz.func9, Tryz.ntmps9
  go_wp2_with (first
    | (rw [← hw1]; clear hw1)
    | (refine wpList_load_row_w rfl 26 _ rfl w.heap.size rfl _ _ _ _ (Kx.out _ (by assumption)) Tryz.underlying26 rfl (size_Alg _ _) ?_)
    | (go_at_call 11; refine (implValidAlgebra_yes _ _ _ _ L T _ (KR.out _ z1) (KT.out _ z1) h).mono ?_; rintro e w2 ⟨rfl, h2⟩; clear c0 c1; obtain ⟨c0, c1⟩ := bx_cells (Kx.out _ h2); obtain ⟨c2, c3⟩ := bx_cells (Kx.out _ (h2.alloc h2.size (.cells (SLs (List.replicate T.length ⟨#[]⟩)) 9)))))
  clear hmk
  obtain ⟨bs, hbs⟩ : ∃ bs, bs = w2.heap.size := ⟨_, rfl⟩
  obtain ⟨w3, hw3⟩ : ∃ w3, w3 = w2.alloc (.cells (SLs (List.replicate T.length ⟨#[]⟩)) 9) := ⟨_, rfl⟩
  have hS3 : StR w3 bs (mixS (rws T) 0) := by rw [hw3, hbs, show mixS (rws T) 0 = List.replicate T.length ⟨#[]⟩ from by simp [mixS, rws]]; exact heap_alloc_new w2 _
  have h3 : Below w1.heap.size w1 w3 := by rw [hw3]; exact h2.alloc h2.size _
  have hbs1 : w1.heap.size ≤ bs := by rw [hbs]; exact h2.size
  rw [← hw3, ← hbs]
  clear hw3 hbs
  clear c2 c3
  go_loopw [4, 5, 16] (fun _ _ i wr => ∃ k : Int, 0 ≤ k ∧ k ≤ T.length ∧ i = .int .i64 k ∧ StR wr bs (mixS (rws T) k.toNat) ∧ Below w1.heap.size w1 wr) (fun _ _ i _ => ((T.length : Int) - intOf i).toNat)
  case atStart => exact ⟨0, by omega, by omega, rfl, hS3, h3⟩
  case round =>
    obtain ⟨k, k0, k1, rfl, hrow, hbel⟩ := hrel
    clear c0 c1 hS3
    by_cases hk : k < T.length
    · obtain ⟨B, off, rfl, hcT⟩ := KT.out _ hbel (by intro e; rw [e] at hk; simp at hk; omega)
      obtain ⟨ra, rc, hcell, hrd⟩ := RdT.row hcT k0 hk
      have hlen := HL.out k.toNat (by omega)
      rw [Int.toNat_of_nonneg k0] at hlen
      have HE := Lib.hid (show ∀ y : Int, 0 ≤ y → y < (rowAt T k).length → 0 ≤ nth (rowAt T k) y ∧ nth (rowAt T k) y < 100 from fun y y0 y1 => HC.out k y k0 hk y0 y1)
      have hd : (rws T)[k.toNat]? = some (rwB (rowAt T k)) := by
        have := rowAt_at (T := T) (k := k.toNat) (by omega)
        rw [Int.toNat_of_nonneg k0] at this
        unfold rws
        rw [List.getElem?_map, List.getElem?_eq_getElem (by omega), this]; rfl
      have HS := Lib.hid (mixS_set _ _ _ hd)
      have hat := mixS_at (rws T) k.toNat (by rw [rws_len]; omega)
      obtain ⟨R, hR⟩ : ∃ R, R = rowAt T k := ⟨_, rfl⟩
      rw [← hR] at hcell hrd hlen HE HS
      have hz := rwB_size HE.out
      obtain ⟨D, hD⟩ : ∃ D, D = rwB R := ⟨_, rfl⟩
      have HJ := Lib.hid (show ∀ bk w, StR w bk (dgs R) → Calls Tryz.prog 28 #[.slice (some ⟨bk, 0, none⟩) R.length R.length, .string ⟨#[]⟩] w fun e w' => e = .returned (.string D) ∧ Below w.heap.size w w' from fun bk w hs => joinDg R _ _ bk w hs (by omega) (by rw [hD]; exact join_rw R) (by rw [hD]; omega))
      have HD := Lib.hid (show ∀ w, Below wr.heap.size wr w → Calls Tryz.prog 29 #[.slice ra R.length rc] w fun e w' => e = .returned (.slice (some ⟨w.heap.size, 0, none⟩) R.length R.length) ∧ StR w' w.heap.size (dgs R) ∧ Below w.heap.size w w' from fun w hb => decimals_any ra rc R w (hrd.below hb) (by omega) HE.out)
      rw [← hD] at HS
      clear hd hR hD hz hlen hrd
      have hbb := hrow.lt
      go_wp2_with (first
        | (go_at_call 29; with_reducible refine (HD.out _ (Below.refl _ _)).mono ?_; rintro e w4 ⟨rfl, hs4, h4⟩)
        | (go_at_call 28; with_reducible refine (HJ.out _ _ hs4).mono ?_; rintro e w5 ⟨rfl, h5⟩; have h45 : Below wr.heap.size wr w5 := h4.trans (h5.mono h4.size); have hrow5 := hrow.below h45 hbb; have q1 := hrow5.cell hat; have q2 := hrow5.free k.toNat))
      go_roundw
      case rel => exact ⟨k + 1, by omega, by omega, rfl, by rw [show (k + 1).toNat = k.toNat + 1 by omega, ← HS.out]; exact hrow5.set _ _, (hbel.trans (h45.mono hbel.size)).setCell (by simp; omega) _⟩
      case measure => simp [intOf]; omega
    · have e := mixS_all (rws T) k.toNat (by rw [rws_len]; omega)
      rw [e] at hrow
      clear e
      obtain ⟨c0, c1⟩ := bx_cells (Kx.out _ hbel)
      have HD := Lib.hid (show ∀ w, Below wr.heap.size wr w → Calls Tryz.prog 29 #[.slice a L.length ca] w fun e w' => e = .returned (.slice (some ⟨w.heap.size, 0, none⟩) L.length L.length) ∧ StR w' w.heap.size (dgs L) ∧ Below w.heap.size w w' from fun w hb => decimals_any a ca L w (KR.out _ (hbel.trans (hb.mono hbel.size))) (by omega) HU.out)
      have hbb := hrow.lt
      go_wp2_with (first
        | (go_at_call 29; with_reducible refine (HD.out _ (Below.refl _ _)).mono ?_; rintro e w4 ⟨rfl, hs4, h4⟩)
        | (go_at_call_of 28 (Value.string ⟨#[44]⟩); with_reducible refine (HJ1.out _ _ hs4).mono ?_; rintro e w5 ⟨rfl, h5⟩; have h45 : Below wr.heap.size wr w5 := h4.trans (h5.mono h4.size); have hrow5 := hrow.below h45 hbb)
        | (go_at_call_of 28 (Value.string ⟨#[47]⟩); with_reducible refine (HJ2.out _ _ hrow5).mono ?_; rintro e w6 ⟨rfl, h6⟩; have h46 : Below wr.heap.size wr w6 := h45.trans (h6.mono h45.size)))
      go_ret
      exact ⟨ret_str HG.out.symm, hB.trans ((hbel.trans (h46.mono hbel.size)).mono hB.size)⟩
theorem implAlgebraText_any (a b : Option Addr) (ca cb : Nat) (L : List Int) (T : List (List Int)) (w : World) (hr : Rd w a L) (hT : RdT w b T) :
    Calls Tryz.prog 9 #[.agg #[.slice a L.length ca, .slice b T.length cb]] w fun e w' => e = .returned (.string (atI L T)) ∧ Below w.heap.size w w' := by
  cases h : algB L T with
  | false => exact implAlgebraText_no a b ca cb L T w hr hT h
  | true => exact implAlgebraText_yes a b ca cb L T w hr hT h
end Go.Proofs.YtpophjloedpcfaaGreatDoor
