import Derived.Test.YtpophjloedpcfaaGreatDoorTX3
import Derived.Test.YtpophjloedpcfaaGreatDoorH10
import Derived.BigQuiet
namespace Go.Proofs.YtpophjloedpcfaaGreatDoor
open Go.RowKit

theorem up_lt {L : List Int} (h : latB L = true) {k : Int} (k0 : 0 ≤ k) (k1 : k < L.length) : 0 ≤ nth L k ∧ nth L k < 100 := by
  have hn := lat_len h
  have e : num L = L.length := rfl
  unfold latB at h
  rw [Bool.and_eq_true] at h
  have hv := h.1
  unfold voB at hv
  simp only [Bool.and_eq_true, decide_eq_true_eq] at hv
  have := (allI_iff _ _).1 hv.1.2 k k0 (by omega)
  unfold inR at this
  simp only [Bool.and_eq_true, decide_eq_true_eq] at this
  have hp := pw_mono (num L) 6 hn.2
  have h6 : pw 6 = 64 := rfl
  omega
theorem row_el {L : List Int} {T : List (List Int)} (h : algB L T = true) {x y : Int} (x0 : 0 ≤ x) (x1 : x < T.length) (y0 : 0 ≤ y) (y1 : y < (rowAt T x).length) : 0 ≤ tv T x y ∧ tv T x y < 100 := by
  have hs := (algB_parts h).2.1
  have hl := shape_len hs
  have hr := shape_row hs x0 (by omega)
  have := shape_cell hs x0 (by omega) y0 (by omega)
  have := lat_len (algB_parts h).1
  omega
theorem row_len6 {L : List Int} {T : List (List Int)} (h : algB L T = true) {j : Nat} (hj : j < T.length) : (rowAt T j).length ≤ 6 := by
  have hs := (algB_parts h).2.1
  have hl := shape_len hs
  have hr := shape_row hs (x := j) (by omega) (by omega)
  have := lat_len (algB_parts h).1
  omega
theorem tab_len6 {L : List Int} {T : List (List Int)} (h : algB L T = true) : T.length ≤ 6 ∧ L.length ≤ 6 ∧ 1 ≤ L.length ∧ T.length = L.length := by
  have hl := shape_len (algB_parts h).2.1
  have := lat_len (algB_parts h).1
  have e : num L = L.length := rfl
  omega
set_option maxRecDepth 100000 in
set_option maxHeartbeats 2000000 in
/-- spec.AlgebraText -/
theorem specAlgebraText_any (a b : Option Addr) (ca cb : Nat) (L : List Int) (T : List (List Int)) (w : World) (hr : Rd w a L) (hT : RdT w b T) :
    Calls Tryz.prog 10 #[.agg #[.slice a L.length ca, .slice b T.length cb]] w fun e w' => e = .returned (.string (atI L T)) ∧ Below w.heap.size w w' := by
  obtain ⟨w1, hw1⟩ : ∃ w1, w1 = w.alloc (.cells #[.slice a L.length ca, .slice b T.length cb] 26) := ⟨_, rfl⟩
  have hB : Below w.heap.size w w1 := by rw [hw1]; exact (Below.refl _ _).alloc (Nat.le_refl _) _
  have hx : w1.heap[w.heap.size]? = some (.cells #[.slice a L.length ca, .slice b T.length cb] 26 (0, 0)) := by rw [hw1]; exact heap_alloc_new w _
  obtain ⟨c0, c1⟩ := bx_cells hx
  have Kx := Lib.hid (show ∀ wz, Below w1.heap.size w1 wz → wz.heap[w.heap.size]? = some (.cells #[.slice a L.length ca, .slice b T.length cb] 26 (0, 0)) from fun wz h => (h.block _ (lt_of_block hx)).trans hx)
  have KR := Lib.hid (show ∀ wz, Below w1.heap.size w1 wz → Rd wz a L from fun wz h => (hr.below hB).below h)
  have KT := Lib.hid (show ∀ wz, Below w1.heap.size w1 wz → RdT wz b T from fun wz h => (hT.below hB).below h)
  have z1 : Below w1.heap.size w1 w1 := Below.refl _ _
  have HV : Hid (algB L T = true → atI L T = ltxN L L.length ++ ⟨#[58]⟩ ++ tbN T T.length) := atI_t
  have HF : Hid (algB L T = false → atI L T = ⟨#[]⟩) := atI_f
  clear hr hT hx
  cases h : algB L T with
  | false =>
    have HG := Lib.hid (HF.out h)
    go_enter Tryz.func10, Tryz.ntmps10
    go_wp2_with (first
      | (rw [← hw1]; clear hw1)
      | (refine wpList_load_row_w rfl 26 _ rfl w.heap.size rfl _ _ _ _ (Kx.out _ (by assumption)) Tryz.underlying26 rfl (size_Alg _ _) ?_)
      | (go_at_call 30; refine (validAlgebra_any _ _ _ _ L T _ (KR.out _ z1) (KT.out _ z1)).mono ?_; rintro e w2 ⟨rfl, h2⟩))
    go_ret
    exact ⟨ret_str HG.out.symm, hB.trans (h2.mono hB.size)⟩
  | true =>
    have HG := Lib.hid (HV.out h)
    have hl := (algB_parts h).1
    have t6 := tab_len6 h
    have HU := Lib.hid (fun k k0 k1 => up_lt (L := L) (k := k) hl k0 k1)
    have HC := Lib.hid (fun x y x0 x1 y0 y1 => row_el (x := x) (y := y) h x0 x1 y0 y1)
    have HL := Lib.hid (fun j hj => row_len6 (j := j) h hj)
    have hsX := ltxN_size (L := L) L.length (fun j hj => (HU.out j (by omega) (by omega)).2)
    have hsY := tbN_size6 (T := T) HL.out HC.out T.length t6.1
    obtain ⟨X, hX⟩ : ∃ X, X = ltxN L L.length := ⟨_, rfl⟩
    obtain ⟨Y, hY⟩ : ∃ Y, Y = tbN T T.length := ⟨_, rfl⟩
    rw [← hX] at hsX HG
    rw [← hY] at hsY HG
    have H6 := Lib.hid t6
    have e58 : (ByteArray.mk #[58]).size = 1 := rfl
    have s1 : ∀ w : World, (Op.stringOp .add X ⟨#[58]⟩).run Tryz.prog w = .ok (.string (X ++ ⟨#[58]⟩)) w := fun w => strAdd _ _ w (by omega)
    have s2 : ∀ w : World, (Op.stringOp .add (X ++ ⟨#[58]⟩) Y).run Tryz.prog w = .ok (.string (X ++ ⟨#[58]⟩ ++ Y)) w := fun w => strAdd _ _ w (by rw [ba_app_size]; omega)
    have N1 := Lib.hid (show ∀ w, Below w1.heap.size w1 w → Calls Tryz.prog 31 #[.slice a L.length ca] w fun e w' => e = .returned (.string X) ∧ w = w' from fun w hb => by rw [hX]; exact listText_any a ca L w (KR.out _ hb) (by omega) HU.out)
    have N2 := Lib.hid (show ∀ w, Below w1.heap.size w1 w → Calls Tryz.prog 32 #[.slice b T.length cb] w fun e w' => e = .returned (.string Y) ∧ w = w' from fun w hb => by rw [hY]; exact tableText_any b cb T w (KT.out _ hb) t6.1 HL.out HC.out)
    clear hX hY hsX hsY e58 t6
    go_enter Tryz.func10, Tryz.ntmps10
    go_wp2_with (first
      | (rw [← hw1]; clear hw1)
      | (refine wpList_load_row_w rfl 26 _ rfl w.heap.size rfl _ _ _ _ (Kx.out _ (by assumption)) Tryz.underlying26 rfl (size_Alg _ _) ?_)
      | (go_at_call 30; refine (validAlgebra_any _ _ _ _ L T _ (KR.out _ z1) (KT.out _ z1)).mono ?_; rintro e w2 ⟨rfl, h2⟩; clear c0 c1; obtain ⟨c0, c1⟩ := bx_cells (Kx.out _ h2)))
    go_quiet (first
      | (go_at_call 31; exact q_same (N1.out _ (h2.trans ((Dr.below ⟨_, rfl⟩ _).mono h2.size))))
      | (go_at_call 32; exact q_same (N2.out _ (h2.trans ((Dr.below ⟨_, rfl⟩ _).mono h2.size)))))
    go_wp2
    go_ret
    exact ⟨ret_str HG.out.symm, hB.trans ((h2.trans ((Dr.below ⟨_, rfl⟩ _).mono h2.size)).mono hB.size)⟩
end Go.Proofs.YtpophjloedpcfaaGreatDoor
