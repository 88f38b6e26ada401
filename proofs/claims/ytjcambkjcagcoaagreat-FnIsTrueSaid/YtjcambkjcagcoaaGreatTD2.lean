import Derived.Test.YtjcambkjcagcoaaGreatTD1
import Derived.Test.YtjcambkjcagcoaaGreatTM6
import Derived.Test.YtjcambkjcagcoaaGreatSA11
namespace Go.Proofs.YtjcambkjcagcoaaGreat
open Go.RowKit
set_option linter.unusedVariables false

theorem lwV_len (s : ByteArray) : (lwV s).length ≤ 9 := by
  unfold lwV
  repeat' split
  all_goals decide
set_option maxRecDepth 100000 in
set_option maxHeartbeats 2000000 in
/-- spec.lawOrTerm -/
theorem lawOrTerm_any (C g : Nat) (m : Int) (w : World) (hr : Rdr w C g m) (m1 : m ≤ 60000) :
    Calls Tryz.prog 118 #[.pointer (some ⟨g, 0, none⟩)] w (RetNum C g (m + 50) w) := by
  go_enter Tryz.func118, Tryz.ntmps118
  go_wp2_with fail
  refine (pick_any C g m 3 w hr (by omega) (by omega) (by omega)).mono ?_
  rintro e w1 ⟨k, rfl, k0, k1, hg1, hr1⟩
  by_cases e0 : k = 0
  · subst e0
    go_wp2_with fail
    refine (aProperty_any C g (m + 1) w1 hr1 (by omega)).mono ?_
    rintro e w2 ⟨s, hs, rfl, hg2', hr2⟩
    have hg2 := grown_trans hg1 hg2'
    go_wp2_with fail
    refine (speclaw_any s w2).mono ?_
    rintro e w3 ⟨a, c, rfl, ho, hb⟩
    have hl := lwV_len s
    have hr3 := hr2.below hb
    have hg3 := grown_new hg2 hb
    obtain ⟨V, hV⟩ : ∃ V, V = lwV s := ⟨_, rfl⟩
    rw [← hV] at ho hl ⊢
    clear hV
    by_cases h0 : 0 < V.length
    · have h0I : (0 : Int) < V.length := by omega
      go_wp2
      go_ret
      exact ⟨V, a, c, rfl, ry_of ho, ownCapT ho, by omega, hg3, hr3.more (by omega)⟩
    · have h0I : ¬ (0 : Int) < V.length := by omega
      go_wp2_with fail
      refine (someTerm_any C g (m + 2) w3 (hr3.more (by omega)) (by omega)).mono ?_
      rintro e w4 ⟨L, va, vc, rfl, hry, hcp, hl2, hg4, hr4⟩
      go_wp2
      go_ret
      exact ⟨L, va, vc, rfl, hry, hcp, hl2, grown_trans hg3 hg4, hr4.more (by omega)⟩
  · have f0 : (k == 0) = false := by rw [beq_eq_false_iff_ne]; exact e0
    go_wp2_with fail
    refine (someTerm_any C g (m + 1) w1 hr1 (by omega)).mono ?_
    rintro e w4 ⟨L, va, vc, rfl, hry, hcp, hl2, hg4, hr4⟩
    go_wp2
    go_ret
    exact ⟨L, va, vc, rfl, hry, hcp, hl2, grown_trans hg1 hg4, hr4.more (by omega)⟩
/-- an algebra and a term are drawn -/
def RetDAt (w : World) (e : Ending) (w' : World) : Prop := ∃ (L : List Int) (T : List (List Int)) (a : Option Addr) (ca : Nat) (b : Option Addr) (cb : Nat) (t : List Int) (at_ : Option Addr) (ct : Nat), e = .returned (.tuple #[.agg #[.slice a L.length ca, .slice b T.length cb], .slice at_ t.length ct]) ∧ DrA w L T a b w' ∧ Rd w' at_ t ∧ t.length ≤ ct ∧ t.length ≤ 40
set_option maxRecDepth 100000 in
set_option maxHeartbeats 2000000 in
/-- spec.DrawRefuteTerm -/
theorem drawRefuteTerm_any (a : Option Addr) (n cap : Nat) (w : World) (hy : RdY w a n w.heap.size) (hc : n ≤ cap) (hm : n ≤ 1048576) :
    Calls Tryz.prog 62 #[.slice a n cap] w (RetDAt w) := by
  obtain ⟨w0, hw0⟩ : ∃ w0, w0 = w.alloc (.cells #[.slice none 0 0, .slice none 0 0] 26) := ⟨_, rfl⟩
  have hB : Below w.heap.size w w0 := by rw [hw0]; exact (Below.refl _ _).alloc (Nat.le_refl _) _
  have hz0 : w0.heap[w.heap.size]? = some (.cells #[.slice none 0 0, .slice none 0 0] 26 (0, 0)) := by rw [hw0]; exact heap_alloc_new w _
  have lz := lt_of_block hz0
  have hy0 := hy.up hB hB.size
  clear hy
  go_enter Tryz.func62, Tryz.ntmps62
  go_wp2_with (rw [← hw0]; clear hw0)
  refine (newReader_any a n cap w0 hy0 hc hm).mono ?_
  rintro e w1 ⟨rfl, hb1, hr1⟩
  have hs1 := hb1.size
  obtain ⟨g, hg⟩ : ∃ g : Nat, g = w0.heap.size := ⟨_, rfl⟩
  rw [← hg] at hr1 ⊢
  have lg : w.heap.size < g := by omega
  have hz1 := (hb1.block _ lz).trans hz0
  have hB1 : Below w.heap.size w w1 := hB.trans (hb1.mono hB.size)
  clear hg hz0 hb1 hy0
  go_wp2_with fail
  refine (someAlgebra_any g g 0 w1 hr1 (by omega)).mono ?_
  rintro e w2 ⟨L, T, va, vca, vb, vcb, rfl, hP, hR2, hT2, hg2, hr2⟩
  have hz2 := box_drawn hz1 (by omega) hg2
  go_wp2_with fail
  refine (lawOrTerm_any g g (0 + 12) w2 (hr2.more (by omega)) (by omega)).mono ?_
  rintro e w3 ⟨t, ta, tc, rfl, hry, hcp, hl, hg3, hr3⟩
  have hz := box_drawn hz2 (by omega) hg3
  have hk3 := kp_drawn hr2 hg3
  have hgg := grown_trans hg2 hg3
  have hk := kp_row hz (w' := w3.setRow w.heap.size #[.slice va L.length vca, .slice vb T.length vcb]) (fun k hk => setRow_other w3 _ k _ hk)
  have HD := Lib.hid (show DrA w L T va vb (w3.setRow w.heap.size #[.slice va L.length vca, .slice vb T.length vcb]) from ⟨hP, ((hR2.kp hk3).kp hk).rd, ((hT2.kp hk3).kp hk).rd, below_setRow' (hB1.trans (grown_below hgg (by omega) hB1.size)) (Nat.le_refl _) _⟩)
  have HT := Lib.hid (hry.kp hk).rd
  clear hP hR2 hT2 hk hry hk3
  go_wp2_with (refine wpList_store_row rfl 26 _ _ rfl w.heap.size #[.slice va L.length vca, .slice vb T.length vcb] rfl rfl _ _ hz (size_Alg _ _) rfl (one_sl2 _ _ _ _ _ _) ?_)
  refine bodyPost_ret (v := .tuple #[.agg #[.slice va L.length vca, .slice vb T.length vcb], .slice ta t.length tc]) (results_Alg_tmp rfl _ _ w.heap.size rfl _ _ (setRow_heap _ _ _ _ _ _ hz) rfl) rfl ?_
  exact ⟨L, T, va, vca, vb, vcb, t, ta, tc, rfl, HD.out, HT.out, hcp, by omega⟩
end Go.Proofs.YtjcambkjcagcoaaGreat
