import Derived.Test.YtpophjloedpcfaaGreatDoorTX13
import Derived.Test.YtpophjloedpcfaaGreatDoorTX6
import Derived.Test.YtpophjloedpcfaaGreatDoorY1
namespace Go.Proofs.YtpophjloedpcfaaGreatDoor
open Go.RowKit

/-! the algebra of a text, if there is one -/
open Classical in
noncomputable def pO (s : ByteArray) : Option (List Int × List (List Int)) := if h : ∃ p : List Int × List (List Int), algB p.1 p.2 = true ∧ atI p.1 p.2 = s then some h.choose else none
theorem at_inj {L M : List Int} {T U : List (List Int)} (h1 : algB L T = true) (h2 : algB M U = true) (e : atI L T = atI M U) : L = M ∧ T = U := by
  obtain ⟨p1, p2, p3⟩ := at_pcs h1
  obtain ⟨q1, q2, q3⟩ := at_pcs h2
  rw [e, q1] at p1
  simp only [List.cons.injEq, and_true] at p1
  rw [p1.1, p1.2] at q1
  rw [p1.1] at q2
  rw [p1.2] at q3
  exact ⟨p2.symm.trans q2, p3.symm.trans q3⟩
theorem pO_yes {L : List Int} {T : List (List Int)} {s : ByteArray} (h : algB L T = true) (e : atI L T = s) : pO s = some (L, T) := by
  have hx : ∃ p : List Int × List (List Int), algB p.1 p.2 = true ∧ atI p.1 p.2 = s := ⟨(L, T), h, e⟩
  unfold pO
  rw [dif_pos hx]
  obtain ⟨h1, h2⟩ := hx.choose_spec
  obtain ⟨e1, e2⟩ := at_inj h1 h (h2.trans e.symm)
  congr 1
  exact Prod.ext e1 e2
theorem pO_no {s : ByteArray} (h : ∀ L T, algB L T = true → atI L T ≠ s) : pO s = none := by
  unfold pO
  rw [dif_neg]
  rintro ⟨p, h1, h2⟩
  exact h p.1 p.2 h1 h2
theorem pO_some {s : ByteArray} {p : List Int × List (List Int)} (h : pO s = some p) : algB p.1 p.2 = true ∧ atI p.1 p.2 = s := by
  unfold pO at h
  split at h
  · rename_i hx
    simp only [Option.some.injEq] at h
    rw [← h]; exact hx.choose_spec
  · cases h
noncomputable def pL (s : ByteArray) : List Int := match pO s with | some p => p.1 | none => []
noncomputable def pT (s : ByteArray) : List (List Int) := match pO s with | some p => p.2 | none => []
noncomputable def pB (s : ByteArray) : Bool := (pO s).isSome
theorem pP_no {s : ByteArray} (h : pO s = none) : pL s = [] ∧ pT s = [] ∧ pB s = false := by unfold pL pT pB; rw [h]; exact ⟨rfl, rfl, rfl⟩
theorem pP_yes {s : ByteArray} {L : List Int} {T : List (List Int)} (h : pO s = some (L, T)) : pL s = L ∧ pT s = T ∧ pB s = true := by unfold pL pT pB; rw [h]; exact ⟨rfl, rfl, rfl⟩
/-- strings.Cut at a colon -/
theorem cutW (s : ByteArray) (w : World) (hG : GV w) (hs : s.size ≤ 1048576) :
    Calls Tryz.prog 34 #[.string s, .string ⟨#[58]⟩] w fun e w' => e = .returned (.tuple #[.string ⟨(Lib.cut s.data.toList [58]).1.toArray⟩, .string ⟨(Lib.cut s.data.toList [58]).2.1.toArray⟩, .bool (Lib.cut s.data.toList [58]).2.2]) ∧ Below w.heap.size w w' := by
  obtain ⟨m, hm⟩ := hG.ml
  have := Any.strings_Cut Tryz.lays145 s ⟨#[58]⟩ m w (by omega) hm
  refine Calls.mono this fun e w' ⟨he, n, hw⟩ => ⟨he, ?_⟩
  rw [hw]; exact Dr.below ⟨n, rfl⟩ _
theorem cut_size (s : List UInt8) : (Lib.cut s [58]).1.length ≤ s.length ∧ (Lib.cut s [58]).2.1.length ≤ s.length := by
  unfold Lib.cut
  split
  · simp; omega
  · simp
theorem ctR_len (F : List Int) (m : Nat) : (ctR F m).length = m := by unfold ctR; simp
theorem ctR_row {F : List Int} {m x : Nat} (h : x < m) : rowAt (ctR F m) x = (F.drop (x * m)).take m := by
  rw [rowAt_at (by rw [ctR_len]; exact h)]
  unfold ctR
  rw [List.getElem_map, List.getElem_range]
theorem ctR_rowlen {F : List Int} {m x : Nat} (h : x < m) (hF : F.length = m * m) : (rowAt (ctR F m) x).length = m := by
  rw [ctR_row h, List.length_take, List.length_drop]
  have : (x + 1) * m ≤ m * m := Nat.mul_le_mul_right m (by omega)
  have e : (x + 1) * m = x * m + m := Nat.succ_mul _ _
  omega
theorem ctR_rd {w : World} {B P m : Nat} {F : List Int} (hB : w.heap[B]? = some (.cells (winA P m m) 23 (0, 0))) (hP : Row w P F) (hF : F.length = m * m) : RdT w (some ⟨B, 0, none⟩) (ctR F m) := fun _ => by
  refine ⟨B, 0, rfl, fun j hj => ⟨some ⟨P, j * m, none⟩, m, ?_, ?_⟩⟩
  · rw [ctR_len] at hj
    rw [Nat.zero_add, cell_of_row w B _ _ _ _ hB, winA_get hj, ctR_rowlen hj hF]
  · rw [ctR_len] at hj
    exact row_win (m := m) hP (ctR_row hj).symm (ctR_rowlen hj hF)
/-- a text that is no text of an algebra, by what the program reads -/
theorem pO_bad {s : ByteArray} (h : ∀ L T, algB L T = true → atI L T = s → False) : pO s = none := pO_no fun L T h1 h2 => h L T h1 h2
set_option maxRecDepth 100000 in
set_option maxHeartbeats 4000000 in
theorem implParse_bad (s : ByteArray) (w : World) (hG : GV w) (hs : s.size ≤ 1048576) (h : atoL (pcs 44 (Lib.cut s.data.toList [58]).1) = none) :
    Calls Tryz.prog 12 #[.string s] w (RetNo w) := by
  obtain ⟨w1, hw1⟩ : ∃ w1, w1 = w.alloc (.cells #[.slice none 0 0, .slice none 0 0] 26) := ⟨_, rfl⟩
  have hB : Below w.heap.size w w1 := by rw [hw1]; exact (Below.refl _ _).alloc (Nat.le_refl _) _
  have hz : w1.heap[w.heap.size]? = some (.cells #[.slice none 0 0, .slice none 0 0] 26 (0, 0)) := by rw [hw1]; exact heap_alloc_new w _
  have Kz := Lib.hid (show ∀ wz, Below w1.heap.size w1 wz → wz.heap[w.heap.size]? = some (.cells #[.slice none 0 0, .slice none 0 0] 26 (0, 0)) from fun wz h => (h.block _ (lt_of_block hz)).trans hz)
  have HG := Lib.hid (fun wz (hz : Below w1.heap.size w1 wz) => hG.below (hB.trans (hz.mono hB.size)))
  have hcs := cut_size s.data.toList
  rw [← ba_size] at hcs
  have z1 : Below w1.heap.size w1 w1 := Below.refl _ _
  have HC := Lib.hid (cutW s w1 (HG.out _ z1) hs)
  obtain ⟨x, y, fb, hcut⟩ : ∃ x y fb, Lib.cut s.data.toList [58] = (x, y, fb) := ⟨_, _, _, rfl⟩
  rw [hcut] at HC hcs h
  simp only at HC hcs h
  have HX := Lib.hid (show ∀ wz, Below w1.heap.size w1 wz → Calls Tryz.prog 35 #[.string ⟨x.toArray⟩] wz fun e w' => e = .returned (.tuple #[.slice none 0 0, .bool false]) ∧ Below wz.heap.size wz w' from fun wz hz => Calls.mono (readNumbers_any ⟨x.toArray⟩ wz (HG.out _ hz) (by show x.length ≤ _; omega)) fun e w' ⟨hb, hr⟩ => by
    rcases hr with ⟨L, g, e1, _⟩ | ⟨_, he⟩
    · rw [show (⟨x.toArray⟩ : ByteArray).data.toList = x from rfl, h] at e1; cases e1
    · exact ⟨he, hb⟩)
  have HY := Lib.hid (show ∀ wz, Below w1.heap.size w1 wz → Calls Tryz.prog 36 #[.string ⟨y.toArray⟩, .int .i64 0] wz fun e w' => ∃ (a : Option Addr) (b : Bool), e = .returned (.tuple #[.slice a 0 0, .bool b]) ∧ Below wz.heap.size wz w' from fun wz hz => by
    by_cases hd : ((⟨y.toArray⟩ : ByteArray).data.toList.filter (fun b => b != 47)).length = 0 * 0
    · exact Calls.mono (readRows_yes ⟨y.toArray⟩ 0 _ wz (HG.out _ hz) (by show y.length ≤ _; omega) rfl hd) fun e w' ⟨B, P, he, _, _, _, _, hb⟩ => ⟨_, _, he, hb⟩
    · exact Calls.mono (readRows_no ⟨y.toArray⟩ 0 wz (HG.out _ hz) (by show y.length ≤ _; omega) (by omega) hd) fun e w' ⟨he, hb⟩ => ⟨_, _, he, hb⟩)
  have hsz := lt_of_block hz
  clear hcut hcs h hz
  go_enter Tryz.func12, Tryz.ntmps12
  go_wp2_with (first
    | go_skip
    | (rw [← hw1]; clear hw1)
    | (go_at_call 34; with_reducible refine HC.out.mono ?_; rintro e w2 ⟨rfl, h2⟩)
    | (go_at_call 35; with_reducible refine (HX.out _ h2).mono ?_; rintro e w3 ⟨rfl, h3⟩; have z3 := h2.trans (h3.mono h2.size))
    | (go_at_call 36; with_reducible refine (HY.out _ z3).mono ?_; rintro e w4 ⟨ra, rb, rfl, h4⟩; have z4 := z3.trans (h4.mono z3.size); have z5 := z4.alloc z4.size (.cells #[.slice none 0 0, .slice ra 0 0] 26); have y5 := Kz.out _ z5)
    | (refine wpList_store_row rfl 26 _ _ rfl w.heap.size #[.slice none 0 0, .slice none 0 0] rfl rfl _ _ y5 (size_Alg _ _) rfl (one_sl2 _ _ _ _ _ _) ?_))
  exact bodyPost_ret (v := .tuple #[.agg #[.slice none 0 0, .slice none 0 0], .bool false]) (results_Alg_tmp rfl _ _ w.heap.size rfl _ _ (setRow_heap _ _ _ _ _ _ y5) rfl) rfl ⟨rfl, below_setRow' (hB.trans (z5.mono hB.size)) (Nat.le_refl _) _⟩
end Go.Proofs.YtpophjloedpcfaaGreatDoor
