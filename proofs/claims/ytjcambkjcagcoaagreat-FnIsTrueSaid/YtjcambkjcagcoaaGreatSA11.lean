import Derived.Test.YtjcambkjcagcoaaGreatSA7
namespace Go.Proofs.YtjcambkjcagcoaaGreat
open Go.RowKit

set_option maxRecDepth 100000 in
set_option maxHeartbeats 2000000 in
/-- spec.of -/
theorem of_any (C g : Nat) (m : Int) (q : Nat) (S : List ByteArray) (w : World) (hr : Rdr w C g m) (m1 : m ≤ 100000) (hq : w.heap[q]? = some (.cells (S.map Value.string).toArray 9 (0, 0))) (nq : q ≠ g) (l1 : 1 ≤ S.length) (l2 : S.length ≤ 1000) :
    Calls Tryz.prog 171 #[.pointer (some ⟨g, 0, none⟩), .slice (some ⟨q, 0, none⟩) S.length S.length] w fun e w' => ∃ s ∈ S, e = .returned (.string s) ∧ w.grownBy w' (some g) ∧ Rdr w' C g (m + 1) := by
  have l3 : (1 : Int) ≤ S.length := by omega
  have l4 : (S.length : Int) ≤ 1073741824 := by omega
  go_enter Tryz.func171, Tryz.ntmps171
  go_wp2_with fail
  refine (pick_any C g m S.length w hr m1 l3 l4).mono ?_
  rintro e w1 ⟨k, rfl, k0, k1, hg, hr1⟩
  have hq1 := box_drawn2 (b := q) hg nq hq
  have c1 : w1.cell? ⟨q, k.toNat, none⟩ = some (.string (S.getD k.toNat ⟨#[]⟩)) := by
    rw [cell_of_row w1 q _ _ _ _ hq1]
    simp [List.getElem?_eq_getElem (show k.toNat < S.length by omega)]
  have hm : S.getD k.toNat ⟨#[]⟩ ∈ S := by
    rw [List.getD_eq_getElem?_getD, List.getElem?_eq_getElem (show k.toNat < S.length by omega)]
    exact List.getElem_mem _
  obtain ⟨s, hs⟩ : ∃ s, s = S.getD k.toNat ⟨#[]⟩ := ⟨_, rfl⟩
  rw [← hs] at c1 hm
  clear hs hq hq1
  go_wp2
  go_ret
  exact ⟨s, hm, rfl, hg, hr1⟩
def prNames : List ByteArray := [(⟨#[112, 114, 101, 108, 105, 110, 101, 97, 114]⟩ : ByteArray), (⟨#[100, 105, 118, 105, 115, 105, 98, 108, 101]⟩ : ByteArray), (⟨#[105, 110, 118, 111, 108, 117, 116, 105, 118, 101]⟩ : ByteArray), (⟨#[105, 100, 101, 109, 112, 111, 116, 101, 110, 116]⟩ : ByteArray), (⟨#[98, 111, 111, 108, 101, 97, 110]⟩ : ByteArray), (⟨#[100, 105, 118, 105, 115, 105, 98, 108, 101]⟩ : ByteArray), (⟨#[105, 110, 118, 111, 108, 117, 116, 105, 118, 101]⟩ : ByteArray), (⟨#[]⟩ : ByteArray)]
set_option maxRecDepth 100000 in
set_option maxHeartbeats 2000000 in
/-- spec.aProperty -/
theorem aProperty_any (C g : Nat) (m : Int) (w : World) (hr : Rdr w C g m) (m1 : m ≤ 90000) :
    Calls Tryz.prog 157 #[.pointer (some ⟨g, 0, none⟩)] w fun e w' => ∃ s ∈ prNames, e = .returned (.string s) ∧ w.grownBy w' (some g) ∧ Rdr w' C g (m + 1) := by
  have gl := hr.lt
  go_enter Tryz.func157, Tryz.ntmps157
  go_wp2_with fail
  have hq := heap_alloc_new w (.cells #[.string ⟨#[112, 114, 101, 108, 105, 110, 101, 97, 114]⟩, .string ⟨#[100, 105, 118, 105, 115, 105, 98, 108, 101]⟩, .string ⟨#[105, 110, 118, 111, 108, 117, 116, 105, 118, 101]⟩, .string ⟨#[105, 100, 101, 109, 112, 111, 116, 101, 110, 116]⟩, .string ⟨#[98, 111, 111, 108, 101, 97, 110]⟩, .string ⟨#[100, 105, 118, 105, 115, 105, 98, 108, 101]⟩, .string ⟨#[105, 110, 118, 111, 108, 117, 116, 105, 118, 101]⟩, .string ⟨#[]⟩] 9)
  refine (of_any C g m w.heap.size prNames _ (hr.alloc (.cells #[.string ⟨#[112, 114, 101, 108, 105, 110, 101, 97, 114]⟩, .string ⟨#[100, 105, 118, 105, 115, 105, 98, 108, 101]⟩, .string ⟨#[105, 110, 118, 111, 108, 117, 116, 105, 118, 101]⟩, .string ⟨#[105, 100, 101, 109, 112, 111, 116, 101, 110, 116]⟩, .string ⟨#[98, 111, 111, 108, 101, 97, 110]⟩, .string ⟨#[100, 105, 118, 105, 115, 105, 98, 108, 101]⟩, .string ⟨#[105, 110, 118, 111, 108, 117, 116, 105, 118, 101]⟩, .string ⟨#[]⟩] 9)) (by omega) hq (by omega) (by decide) (by decide)).mono ?_
  rintro e w' ⟨s, hs, rfl, hg, hr'⟩
  go_wp2
  go_ret
  exact ⟨s, hs, rfl, grown_trans (grown_alloc (grown_refl w _) _) hg, hr'⟩
def RetDAs (w : World) (e : Ending) (w' : World) : Prop := ∃ (L : List Int) (T : List (List Int)) (a : Option Addr) (ca : Nat) (b : Option Addr) (cb : Nat) (s : ByteArray), e = .returned (.tuple #[.string s, .agg #[.slice a L.length ca, .slice b T.length cb]]) ∧ s ∈ prNames ∧ DrA w L T a b w'
theorem results_tmp_Alg {fn : Func} {p u : Tmp} (h : fn.results = #[.tmp u, .cell p 26]) (tmps : Array Value) (w : World) (g : Nat) (hp : tmps.getD p undef = .pointer (some ⟨g, 0, none⟩))
    (s t : Value) {v : Value} (hg : w.heap[g]? = some (.cells #[s, t] 26 (0, 0))) (hu : tmps.getD u undef = v) :
    (results fn tmps).run Tryz.prog w = .ok (.tuple #[v, .agg #[s, t]]) w := by
  have hp' : tmps[p]?.getD undef = .pointer (some ⟨g, 0, none⟩) := by simpa using hp
  have hu' : tmps[u]?.getD undef = v := by simpa using hu
  have hl := run_loadVar_row (P := Tryz.prog) w g _ 26 _ _ _ hg Tryz.underlying26 rfl (size_Alg _ _)
  simp [results, h, hp', hu', asAddr, hl]
end Go.Proofs.YtjcambkjcagcoaaGreat
