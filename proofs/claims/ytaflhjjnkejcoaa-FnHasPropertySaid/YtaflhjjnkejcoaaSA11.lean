import Derived.Test.YtaflhjjnkejcoaaSA7
namespace Go.Proofs.Ytaflhjjnkejcoaa
open Go.RowKit

set_option maxRecDepth 100000 in
set_option maxHeartbeats 2000000 in
/-- spec.of -/
theorem of_any (C g : Nat) (m : Int) (q : Nat) (S : List ByteArray) (w : World) (hr : Rdr w C g m) (m1 : m ≤ 100000) (hq : w.heap[q]? = some (.cells (S.map Value.string).toArray 9 (0, 0))) (nq : q ≠ g) (l1 : 1 ≤ S.length) (l2 : S.length ≤ 1000) :
    Calls Try.prog 127 #[.pointer (some ⟨g, 0, none⟩), .slice (some ⟨q, 0, none⟩) S.length S.length] w fun e w' => ∃ s ∈ S, e = .returned (.string s) ∧ w.grownBy w' (some g) ∧ Rdr w' C g (m + 1) := by
  have l3 : (1 : Int) ≤ S.length := by omega
  have l4 : (S.length : Int) ≤ 1073741824 := by omega
  go_enter Try.func127, Try.ntmps127
  go_wp2_with fail
  refine (pick_any C g m S.length w hr m1 l3 l4).mono ?_
  rintro e w1 ⟨k, rfl, k0, k1, hg, hr1⟩
  have hq1 := box_drawn2 (b := q) hg nq hq
  have c1 : w1.cell? ⟨q, k.toNat, none⟩ = some (.string (S.getD k.toNat ⟨#[]⟩)) := by
    rw [cell_of_row w1 q _ _ _ _ hq1]
    simp [List.getElem?_eq_getElem (show k.toNat < S.length by omega)]
  have hm : S.getD k.toNat ⟨#[]⟩ ∈ S := by
    rw [List.getD_eq_getElem?_getD, List.getElem?_eq_getElem (show k.toNat < S.length by omega)]
    exact List.getElem_mem _
  obtain ⟨s, hs⟩ : ∃ s, s = S.getD k.toNat ⟨#[]⟩ := ⟨_, rfl⟩
  rw [← hs] at c1 hm
  clear hs hq hq1
  go_wp2
  go_ret
  exact ⟨s, hm, rfl, hg, hr1⟩
def prNames : List ByteArray := [(⟨#[112, 114, 101, 108, 105, 110, 101, 97, 114]⟩ : ByteArray), (⟨#[100, 105, 118, 105, 115, 105, 98, 108, 101]⟩ : ByteArray), (⟨#[105, 110, 118, 111, 108, 117, 116, 105, 118, 101]⟩ : ByteArray), (⟨#[105, 100, 101, 109, 112, 111, 116, 101, 110, 116]⟩ : ByteArray), (⟨#[98, 111, 111, 108, 101, 97, 110]⟩ : ByteArray), (⟨#[100, 105, 118, 105, 115, 105, 98, 108, 101]⟩ : ByteArray), (⟨#[105, 110, 118, 111, 108, 117, 116, 105, 118, 101]⟩ : ByteArray), (⟨#[]⟩ : ByteArray)]
set_option maxRecDepth 100000 in
set_option maxHeartbeats 2000000 in
/-- spec.aProperty -/
theorem aProperty_any (C g : Nat) (m : Int) (w : World) (hr : Rdr w C g m) (m1 : m ≤ 90000) :
    Calls Try.prog 76 #[.pointer (some ⟨g, 0, none⟩)] w fun e w' => ∃ s ∈ prNames, e = .returned (.string s) ∧ w.grownBy w' (some g) ∧ Rdr w' C g (m + 1) := by
  have gl := hr.lt
  go_enter Try.func76, Try.ntmps76
  go_wp2_with fail
  have hq := heap_alloc_new w (.cells #[.string ⟨#[112, 114, 101, 108, 105, 110, 101, 97, 114]⟩, .string ⟨#[100, 105, 118, 105, 115, 105, 98, 108, 101]⟩, .string ⟨#[105, 110, 118, 111, 108, 117, 116, 105, 118, 101]⟩, .string ⟨#[105, 100, 101, 109, 112, 111, 116, 101, 110, 116]⟩, .string ⟨#[98, 111, 111, 108, 101, 97, 110]⟩, .string ⟨#[100, 105, 118, 105, 115, 105, 98, 108, 101]⟩, .string ⟨#[105, 110, 118, 111, 108, 117, 116, 105, 118, 101]⟩, .string ⟨#[]⟩] 9)
  refine (of_any C g m w.heap.size prNames _ (hr.alloc (.cells #[.string ⟨#[112, 114, 101, 108, 105, 110, 101, 97, 114]⟩, .string ⟨#[100, 105, 118, 105, 115, 105, 98, 108, 101]⟩, .string ⟨#[105, 110, 118, 111, 108, 117, 116, 105, 118, 101]⟩, .string ⟨#[105, 100, 101, 109, 112, 111, 116, 101, 110, 116]⟩, .string ⟨#[98, 111, 111, 108, 101, 97, 110]⟩, .string ⟨#[100, 105, 118, 105, 115, 105, 98, 108, 101]⟩, .string ⟨#[105, 110, 118, 111, 108, 117, 116, 105, 118, 101]⟩, .string ⟨#[]⟩] 9)) (by omega) hq (by omega) (by decide) (by decide)).mono ?_
  rintro e w' ⟨s, hs, rfl, hg, hr'⟩
  go_wp2
  go_ret
  exact ⟨s, hs, rfl, grown_trans (grown_alloc (grown_refl w _) _) hg, hr'⟩
def RetDAs (w : World) (e : Ending) (w' : World) : Prop := ∃ (L : List Int) (T : List (List Int)) (a : Option Addr) (ca : Nat) (b : Option Addr) (cb : Nat) (s : ByteArray), e = .returned (.tuple #[.string s, .agg #[.slice a L.length ca, .slice b T.length cb]]) ∧ s ∈ prNames ∧ DrA w L T a b w'
theorem results_tmp_Alg {fn : Func} {p u : Tmp} (h : fn.results = #[.tmp u, .cell p 26]) (tmps : Array Value) (w : World) (g : Nat) (hp : tmps.getD p undef = .pointer (some ⟨g, 0, none⟩))
    (s t : Value) {v : Value} (hg : w.heap[g]? = some (.cells #[s, t] 26 (0, 0))) (hu : tmps.getD u undef = v) :
    (results fn tmps).run Try.prog w = .ok (.tuple #[v, .agg #[s, t]]) w := by
  have hp' : tmps[p]?.getD undef = .pointer (some ⟨g, 0, none⟩) := by simpa using hp
  have hu' : tmps[u]?.getD undef = v := by simpa using hu
  have hl := run_loadVar_row (P := Try.prog) w g _ 26 _ _ _ hg Try.underlying26 rfl (size_Alg _ _)
  simp [results, h, hp', hu', asAddr, hl]
set_option maxRecDepth 100000 in
set_option maxHeartbeats 2000000 in
/-- spec.DrawHasProperty -/
theorem drawHasProperty_any (a : Option Addr) (n cap : Nat) (w : World) (hy : RdY w a n w.heap.size) (hc : n ≤ cap) (hm : n ≤ 1048576) :
    Calls Try.prog 18 #[.slice a n cap] w (RetDAs w) := by
  obtain ⟨w0, hw0⟩ : ∃ w0, w0 = w.alloc (.cells #[.slice none 0 0, .slice none 0 0] 26) := ⟨_, rfl⟩
  have hB : Below w.heap.size w w0 := by rw [hw0]; exact (Below.refl _ _).alloc (Nat.le_refl _) _
  have hz0 : w0.heap[w.heap.size]? = some (.cells #[.slice none 0 0, .slice none 0 0] 26 (0, 0)) := by rw [hw0]; exact heap_alloc_new w _
  have lz := lt_of_block hz0
  have hy0 := hy.up hB hB.size
  clear hy
  go_enter Try.func18, Try.ntmps18
  go_wp2_with (rw [← hw0]; clear hw0)
  refine (newReader_any a n cap w0 hy0 hc hm).mono ?_
  rintro e w1 ⟨rfl, hb1, hr1⟩
  have hs1 := hb1.size
  obtain ⟨g, hg⟩ : ∃ g : Nat, g = w0.heap.size := ⟨_, rfl⟩
  rw [← hg] at hr1 ⊢
  have lg : w.heap.size < g := by omega
  have hz1 := (hb1.block _ lz).trans hz0
  have hB1 : Below w.heap.size w w1 := hB.trans (hb1.mono hB.size)
  clear hg hz0 hb1 hy0
  go_wp2_with fail
  refine (aProperty_any g g 0 w1 hr1 (by omega)).mono ?_
  rintro e w3 ⟨s, hs, rfl, hg3, hr3⟩
  go_wp2_with fail
  refine (someAlgebra_any g g (0 + 1) w3 hr3 (by omega)).mono ?_
  rintro e w2 ⟨L, T, va, vca, vb, vcb, rfl, hP, hR2, hT2, hg2', hr2⟩
  have hg2 := grown_trans hg3 hg2'
  have hz := box_drawn hz1 (by omega) hg2
  have hk := kp_row hz (w' := w2.setRow w.heap.size #[.slice va L.length vca, .slice vb T.length vcb]) (fun k hk => setRow_other w2 _ k _ hk)
  have HD := Lib.hid (show DrA w L T va vb (w2.setRow w.heap.size #[.slice va L.length vca, .slice vb T.length vcb]) from ⟨hP, (hR2.kp hk).rd, (hT2.kp hk).rd, below_setRow' (hB1.trans (grown_below hg2 (by omega) hB1.size)) (Nat.le_refl _) _⟩)
  have HS := Lib.hid hs
  clear hP hR2 hT2 hk hs
  go_wp2_with (refine wpList_store_row rfl 26 _ _ rfl w.heap.size #[.slice va L.length vca, .slice vb T.length vcb] rfl rfl _ _ hz (size_Alg _ _) rfl (one_sl2 _ _ _ _ _ _) ?_)
  refine bodyPost_ret (v := .tuple #[.string s, .agg #[.slice va L.length vca, .slice vb T.length vcb]]) (results_tmp_Alg rfl _ _ w.heap.size rfl _ _ (setRow_heap _ _ _ _ _ _ hz) rfl) rfl ?_
  exact ⟨L, T, va, vca, vb, vcb, s, rfl, HS.out, HD.out⟩
end Go.Proofs.Ytaflhjjnkejcoaa
