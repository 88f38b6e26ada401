import Derived.Test.YtpophjloedpcfaaGreatDoorTX17
import Derived.Test.YtpophjloedpcfaaGreatDoorTX16
namespace Go.Proofs.YtpophjloedpcfaaGreatDoor
open Go.RowKit

theorem pcs_two {s : ByteArray} {x y : List UInt8} (h : pcs 58 s.data.toList = [x, y]) : s.data.toList = x ++ 58 :: y := by
  rw [← pcs_join 58 s.data.toList, h, Lib.join_cons]
  simp [Lib.joinTail]
/-- what spec.parseAlgebra hands back: the algebra of the text, or something and false -/
def RetPa (s : ByteArray) (w : World) (e : Ending) (w' : World) : Prop :=
  ∃ (a : Option Addr) (n c : Nat) (b : Option Addr) (m d : Nat), e = .returned (.tuple #[.agg #[.slice a n c, .slice b m d], .bool (pB s)]) ∧ Below w.heap.size w w' ∧ (pB s = true → OA w.heap.size w' (.slice a n c) (.slice b m d) (pL s) (pT s))
theorem specParse_any (s : ByteArray) (w : World) (hs : s.size ≤ 1048576) : Calls Tryz.prog 42 #[.string s] w (RetPa s w) := by
  by_cases h : (pcs 58 s.data.toList).length = 2
  · obtain ⟨x, y, hxy⟩ : ∃ x y, pcs 58 s.data.toList = [x, y] := by
      match hp : pcs 58 s.data.toList, h with
      | [x, y], _ => exact ⟨x, y, rfl⟩
    have hc := specParse_two s x y w hs hxy
    cases ha : algB (prxL x) (prxT y) with
    | true =>
      have he : atI (prxL x) (prxT y) = s := ba_ext (by rw [prs_text ha, pcs_two hxy])
      obtain ⟨e1, e2, e3⟩ := pP_yes (pO_yes ha he)
      rw [ha] at hc
      exact Calls.mono hc fun e w' ⟨a, n, c, b, m, d, he, ho, hb⟩ => ⟨a, n, c, b, m, d, by rw [he, e3], hb, fun _ => by rw [e1, e2]; exact ho⟩
    | false =>
      have hn : pO s = none := pO_no fun L T h1 h2 => by
        obtain ⟨q1, q2, q3⟩ := at_pcs h1
        rw [h2, hxy] at q1
        simp only [List.cons.injEq, and_true] at q1
        rw [q1.1, q1.2, q2, q3, h1] at ha
        cases ha
      obtain ⟨e1, e2, e3⟩ := pP_no hn
      rw [ha] at hc
      exact Calls.mono hc fun e w' ⟨a, n, c, b, m, d, he, ho, hb⟩ => ⟨a, n, c, b, m, d, by rw [he, e3], hb, fun h => by rw [e3] at h; cases h⟩
  · have hn : pO s = none := pO_no fun L T h1 h2 => by
      obtain ⟨q1, _, _⟩ := at_pcs h1
      rw [h2] at q1
      rw [q1] at h
      exact h rfl
    obtain ⟨e1, e2, e3⟩ := pP_no hn
    exact Calls.mono (specParse_no s w hs h) fun e w' ⟨he, hb⟩ => ⟨none, 0, 0, none, 0, 0, by rw [he, e3], hb, fun h => by rw [e3] at h; cases h⟩
set_option maxRecDepth 100000 in
set_option maxHeartbeats 4000000 in
/-- spec.ParseAlgebra -/
theorem specParseAlgebra_any (s : ByteArray) (w : World) (hs : s.size ≤ 1048576) : Calls Tryz.prog 15 #[.string s] w (RetSAb (pL s) (pT s) (pB s) w) := by
  obtain ⟨w1, hw1⟩ : ∃ w1, w1 = w.alloc (.cells #[.slice none 0 0, .slice none 0 0] 26) := ⟨_, rfl⟩
  have hB : Below w.heap.size w w1 := by rw [hw1]; exact (Below.refl _ _).alloc (Nat.le_refl _) _
  have hz : w1.heap[w.heap.size]? = some (.cells #[.slice none 0 0, .slice none 0 0] 26 (0, 0)) := by rw [hw1]; exact heap_alloc_new w _
  have Kz := Lib.hid (show ∀ wz, Below w1.heap.size w1 wz → wz.heap[w.heap.size]? = some (.cells #[.slice none 0 0, .slice none 0 0] 26 (0, 0)) from fun wz h => (h.block _ (lt_of_block hz)).trans hz)
  have hsz := lt_of_block hz
  have hS := specParse_any s w1 hs
  clear hz
  cases hb : pB s with
  | false =>
    have HN := Lib.hid (show pL s = [] ∧ pT s = [] from by
      unfold pB at hb
      cases h : pO s with
      | none => exact ⟨(pP_no h).1, (pP_no h).2.1⟩
      | some p => rw [h] at hb; cases hb)
    have HS := Lib.hid (show Calls Tryz.prog 42 #[.string s] w1 fun e w' => ∃ (a : Option Addr) (n c : Nat) (b : Option Addr) (m d : Nat), e = .returned (.tuple #[.agg #[.slice a n c, .slice b m d], .bool false]) ∧ Below w1.heap.size w1 w' from Calls.mono hS fun e w' ⟨a, n, c, b, m, d, he, h2, _⟩ => ⟨a, n, c, b, m, d, by rw [he, hb], h2⟩)
    clear hb hS
    go_enter Tryz.func15, Tryz.ntmps15
    go_wp2_with (first
      | (rw [← hw1]; clear hw1)
      | (go_at_call 42; with_reducible refine HS.out.mono ?_; rintro e w2 ⟨a, n, c, b, m, d, rfl, h2⟩; have z3 := h2.alloc h2.size (.cells #[.slice a n c, .slice b m d] 26); have y3 := Kz.out _ z3)
      | (refine wpList_store_row rfl 26 _ _ rfl w2.heap.size #[.slice a n c, .slice b m d] rfl rfl _ _ (heap_alloc_new w2 (.cells #[.slice none 0 0, .slice none 0 0] 26)) (size_Alg _ _) rfl (one_sl2 _ _ _ _ _ _) ?_; rw [World.setRow_alloc_new])
      | (refine wpList_store_row rfl 26 _ _ rfl w.heap.size #[.slice none 0 0, .slice none 0 0] rfl rfl _ _ y3 (size_Alg _ _) rfl (one_sl2 _ _ _ _ _ _) ?_))
    refine bodyPost_ret (v := .tuple #[.agg #[.slice none 0 0, .slice none 0 0], .bool false]) (results_Alg_tmp rfl _ _ w.heap.size rfl _ _ (setRow_heap _ _ _ _ _ _ y3) rfl) rfl ?_
    rw [HN.out.1, HN.out.2]
    exact ⟨_, _, _, _, _, _, rfl, OA.zero _ _, below_setRow' (hB.trans (z3.mono hB.size)) (Nat.le_refl _) _⟩
  | true =>
    have HS := Lib.hid (show Calls Tryz.prog 42 #[.string s] w1 fun e w' => ∃ (a : Option Addr) (n c : Nat) (b : Option Addr) (m d : Nat), e = .returned (.tuple #[.agg #[.slice a n c, .slice b m d], .bool true]) ∧ Below w1.heap.size w1 w' ∧ OA w1.heap.size w' (.slice a n c) (.slice b m d) (pL s) (pT s) from Calls.mono hS fun e w' ⟨a, n, c, b, m, d, he, h2, h3⟩ => ⟨a, n, c, b, m, d, by rw [he, hb], h2, h3 hb⟩)
    clear hb hS
    go_enter Tryz.func15, Tryz.ntmps15
    go_wp2_with (first
      | (rw [← hw1]; clear hw1)
      | (go_at_call 42; with_reducible refine HS.out.mono ?_; rintro e w2 ⟨a, n, c, b, m, d, rfl, h2, ho⟩; have HO := Lib.hid ho; clear ho; have z3 := h2.alloc h2.size (.cells #[.slice a n c, .slice b m d] 26); have y3 := Kz.out _ z3)
      | (refine wpList_store_row rfl 26 _ _ rfl w2.heap.size #[.slice a n c, .slice b m d] rfl rfl _ _ (heap_alloc_new w2 (.cells #[.slice none 0 0, .slice none 0 0] 26)) (size_Alg _ _) rfl (one_sl2 _ _ _ _ _ _) ?_; rw [World.setRow_alloc_new])
      | (refine wpList_load_row_w rfl 26 _ rfl w2.heap.size rfl _ _ _ _ (heap_alloc_new w2 _) Tryz.underlying26 rfl (size_Alg _ _) ?_)
      | (refine wpList_store_row rfl 26 _ _ rfl w.heap.size #[.slice a n c, .slice b m d] rfl rfl _ _ y3 (size_Alg _ _) rfl (one_sl2 _ _ _ _ _ _) ?_))
    refine bodyPost_ret (v := .tuple #[.agg #[.slice a n c, .slice b m d], .bool true]) (results_Alg_tmp rfl _ _ w.heap.size rfl _ _ (setRow_heap _ _ _ _ _ _ y3) rfl) rfl ?_
    have ho3 : OA w1.heap.size (w2.alloc (.cells #[.slice a n c, .slice b m d] 26)) (.slice a n c) (.slice b m d) (pL s) (pT s) := HO.out.below ((Below.refl _ _).alloc (Nat.le_refl _) _)
    have ho4 := OA.other (w' := (w2.alloc (.cells #[.slice a n c, .slice b m d] 26)).setRow w.heap.size #[.slice a n c, .slice b m d]) ho3 y3 (by decide) (by decide) (fun k hk => setRow_other _ _ k _ hk)
    refine ⟨_, _, _, _, _, _, rfl, ?_, below_setRow' (hB.trans (z3.mono hB.size)) (Nat.le_refl _) _⟩
    obtain ⟨a', ca, b', cb, e1, e2, h1, h2'⟩ := ho4
    exact ⟨a', ca, b', cb, e1, e2, h1.from hB.size, RowsAt.from h2' hB.size⟩
end Go.Proofs.YtpophjloedpcfaaGreatDoor
