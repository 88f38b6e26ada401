import Derived.Test.YtmapofenghjinaaY1
import Derived.Test.YtmapofenghjinaaU1
namespace Go.Proofs.Ytmapofenghjinaa
open Go.RowKit

theorem rd_news {w : World} {a : Option Addr} {L : List Int} (h : Rd w a L) (hL : L ≠ []) : ∃ b off, a = some ⟨b, off, none⟩ ∧ ∀ j u, (L.map fun x => Value.int .i64 x)[j]? = some u → w.cell? ((⟨b, off, none⟩ : Addr).add j) = some u := by
  obtain ⟨b, off, rfl, hc⟩ := h hL
  refine ⟨b, off, rfl, fun j u hj => ?_⟩
  rw [List.getElem?_map] at hj
  cases hx : L[j]? with
  | none => rw [hx] at hj; simp at hj
  | some x =>
    rw [hx] at hj
    simp at hj
    subst hj
    have hlt : j < L.length := (List.getElem?_eq_some_iff.1 hx).1
    have := hc j hlt
    have hn : nth L j = x := by unfold nth; simp [hx]
    rw [hn] at this
    rcases Nat.eq_zero_or_pos j with h0 | h0
    · subst h0; simpa [Addr.add] using this
    · simpa [Addr.add, show j ≠ 0 by omega] using this
theorem old_news {w : World} {b off : Nat} {xs : List Value} (o : Obj) (h : ∀ j u, xs[j]? = some u → w.cell? ((⟨b, off, none⟩ : Addr).add j) = some u) : ∀ j u, xs[j]? = some u → (w.alloc o).cell? ((⟨b, off, none⟩ : Addr).add j) = some u := fun j u hj =>
  (((Below.refl w.heap.size w).alloc (Nat.le_refl _) o).cell (by exact block_lt_of_cell (h j u hj))).trans (h j u hj)
theorem lat_ne {L : List Int} (h : 1 ≤ num L) : L ≠ [] := fun e => by rw [e] at h; simp [num] at h
theorem ra_of {B : Nat} {w : World} {a b : Option Addr} {ca cb : Nat} {L : List Int} {T : List (List Int)} (h1 : Own B w (.slice a L.length ca) L) (h2 : RowsAt B w (.slice b T.length cb) T) : RA w (.slice a L.length ca) (.slice b T.length cb) L T :=
  ⟨a, ca, b, cb, rfl, rfl, h1.rd, by obtain ⟨b', c', e, h⟩ := h2.rd; injection e with e1 _ _; rw [e1]; exact h⟩
theorem below_setRow2 {C : Nat} {w w' : World} (h : Below C w w') {g : Nat} (hg : C ≤ g) (cs : Array Value) : Below C w (w'.setRow g cs) := below_setRow' h hg cs
theorem rowsOf_T (f : Nat) (env : Array Value) (n : Int) (p : Int → Int → Int) (w : World) (n0 : 0 ≤ n) (n6 : n ≤ 6) (he : Enters f)
    (H : ∀ (x y : Int) (wr : World), 0 ≤ x → x < n → 0 ≤ y → y < n → Below w.heap.size w wr → Calls Try.prog f (#[.int .i64 x, .int .i64 y] ++ env) wr fun e w' => e = .returned (.int .i64 (p x y)) ∧ Below wr.heap.size wr w') :
    Calls Try.prog 61 #[.int .i64 n, .func (.func f) #[] env] w fun e w' => e = .returned (.slice (some ⟨w.heap.size, 0, none⟩) (tabL p n).length (tabL p n).length) ∧ GT w.heap.size w'.heap.size w' (.slice (some ⟨w.heap.size, 0, none⟩) (tabL p n).length (tabL p n).length) (tabL p n) ∧ Below w.heap.size w w' :=
  (rowsOf_any f env n p w n0 n6 he H).mono fun e w' ⟨he, ⟨R, hown⟩, hb⟩ => by
    rw [← tabL_len p n] at he hown
    exact ⟨he, GT.of hown, hb⟩
theorem rs_rd {w : World} {a : Option Addr} {n c : Nat} {L : List Int} (h : RS w (.slice a n c) L) : Rd w a L := by
  obtain ⟨a', c', e, hr⟩ := h
  injection e with e1 _ _
  rw [e1]; exact hr
theorem gt_rd {lo hi : Nat} {w : World} {b : Option Addr} {n c : Nat} {T : List (List Int)} (h : GT lo hi w (.slice b n c) T) : RdT w b T := by
  obtain ⟨b', c', e, hr⟩ := h.rd
  injection e with e1 _ _
  rw [e1]; exact hr
theorem stU_len (g : Int → Int → Bool) (n : Int) : (upL g n).length = n.toNat := by simp [upL]
theorem upOf_T (f : Nat) (env : Array Value) (n : Int) (g : Int → Int → Bool) (w : World) (n0 : 0 ≤ n) (n6 : n ≤ 6) (he : Enters f)
    (H : ∀ (x y : Int) (wr : World), 0 ≤ x → x < n → 0 ≤ y → y < n → Below w.heap.size w wr → Calls Try.prog f (#[.int .i64 x, .int .i64 y] ++ env) wr fun e w' => e = .returned (.bool (g x y)) ∧ Dr wr w') :
    Calls Try.prog 71 #[.int .i64 n, .func (.func f) #[] env] w fun e w' => e = .returned (.slice (some ⟨w.heap.size, 0, none⟩) (upL g n).length (upL g n).length) ∧ GS w.heap.size w'.heap.size w' (.slice (some ⟨w.heap.size, 0, none⟩) (upL g n).length (upL g n).length) (upL g n) ∧ Below w.heap.size w w' :=
  (upOf_any f env n g w n0 n6 he H).mono fun e w' ⟨he, hrow, hb⟩ => by
    rw [← stU_len g n] at he
    exact ⟨he, GS.row hrow (Nat.le_refl _) hrow.lt (by rw [stU_len]; unfold maxLen; omega), hb⟩
end Go.Proofs.Ytmapofenghjinaa
