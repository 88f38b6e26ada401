import Derived.Test.YthjbfdoclifhoaaL5
import Derived.Test.YthjbfdoclifhoaaM5
import Derived.Test.YthjbfdoclifhoaaZ8
import Derived.Test.YthjbfdoclifhoaaY1
import Derived.BigQuiet
namespace Go.Proofs.Ythjbfdoclifhoaa
open Go.RowKit

/-! The laws' own helpers. -/
set_option maxRecDepth 100000 in
set_option maxHeartbeats 1000000 in
/-- laws.equalInts -/
theorem equalInts_any (a1 a2 : Option Addr) (c1 c2 : Nat) (A B : List Int) (w : World) (h1 : Rd w a1 A) (h2 : Rd w a2 B) (hm : A.length ≤ 1073741824) :
    Calls Try.prog 6 #[.slice a1 A.length c1, .slice a2 B.length c2] w fun e w' => e = .returned (.bool (eqL A B)) ∧ Dr w w' := by
  by_cases hl : A.length = B.length
  · have hne : ((A.length : Int) != (B.length : Int)) = false := by rw [hl]; simp
    have hlB : (A.length : Int) ≤ B.length := by omega
    go_enter Try.func6, Try.ntmps6
    go_wp2
    go_loopw [5] (fun i wr => ∃ k : Int, 0 ≤ k ∧ k ≤ A.length ∧ i = .int .i64 k ∧ AllTo k (fun j => nth A j == nth B j) ∧ Dr w wr) (fun i _ => ((A.length : Int) - intOf i).toNat)
    case atStart => exact ⟨0, by omega, by omega, rfl, AllTo.zero _, Dr.refl _⟩
    case round =>
      obtain ⟨k, k0, k1, rfl, ha, hd⟩ := hrel
      by_cases hk : k < A.length
      · obtain ⟨b1, o1, rfl, hc1⟩ := (hd.rd h1) (by intro e; rw [e] at hk; simp at hk; omega)
        obtain ⟨b2, o2, rfl, hc2⟩ := (hd.rd h2) (by intro e; have hz : B.length = 0 := (by rw [e]; rfl); omega)
        have hk2 : k < B.length := by omega
        have d1 := hc1.at k k0 hk
        have d2 := hc2.at k k0 hk2
        cases hq : nth A k != nth B k
        case false =>
          have hq2 : (nth A k == nth B k) = true := by simpa [bne] using hq
          have HQ := Lib.hid hq2; clear hq2
          go_wp2
          go_quiet (fail)
          go_wp2
          go_roundw
          case rel => exact ⟨k + 1, by omega, by omega, rfl, ha.succ HQ.out, hd.more _⟩
          case measure => simp [intOf]; omega
        case true =>
          have hv : eqL A B = false := by
            unfold eqL
            refine decide_eq_false fun e => ?_
            rw [e] at hq; simp at hq
          have HV := Lib.hid hv; clear hv
          go_wp2
          go_quiet (fail)
          go_wp2
          go_ret
          exact ⟨ret_bool HV.out.symm, hd.more _⟩
      · have hv : eqL A B = true := decide_eq_true (nth_ext hl fun j j0 j1 => by have := ha j j0 (by omega); simpa using this)
        have HV := Lib.hid hv; clear hv
        go_wp2
        go_ret
        exact ⟨ret_bool HV.out.symm, hd⟩
  · have hne : ((A.length : Int) != (B.length : Int)) = true := by rw [bne_iff_ne]; omega
    have HV := Lib.hid (show eqL A B = false from decide_eq_false fun e => hl (by rw [e]))
    go_enter Try.func6, Try.ntmps6
    go_wp2
    go_ret
    exact ⟨ret_bool HV.out.symm, Dr.refl _⟩
theorem eqL_same (A : List Int) : eqL A A = true := decide_eq_true rfl
/-- laws.equalInts at two lists that are one -/
theorem equalInts_same (a1 a2 : Option Addr) (c1 c2 : Nat) (A : List Int) (w : World) (h1 : Rd w a1 A) (h2 : Rd w a2 A) (hm : A.length ≤ 1073741824) :
    Calls Try.prog 6 #[.slice a1 A.length c1, .slice a2 A.length c2] w fun e w' => e = .returned (.bool true) ∧ Dr w w' := by
  have := equalInts_any a1 a2 c1 c2 A A w h1 h2 hm
  rwa [eqL_same] at this
/-- a list has a number -/
def inL (L : List Int) (n : Int) : Bool := L.contains n
theorem inL_iff {L : List Int} {n : Int} : inL L n = true ↔ n ∈ L := by unfold inL; simp
theorem inL_nth {L : List Int} {n k : Int} (k0 : 0 ≤ k) (k1 : k < L.length) (h : nth L k = n) : inL L n = true := by
  rw [inL_iff, ← h]
  unfold nth
  have : k.toNat < L.length := by omega
  rw [List.getD_eq_getElem?_getD, List.getElem?_eq_getElem this, Option.getD_some]
  exact List.getElem_mem this
theorem inL_none {L : List Int} {n k : Int} (h : NoneTo k fun j => nth L j == n) (hk : (L.length : Int) ≤ k) : inL L n = false := by
  rw [Bool.eq_false_iff]
  intro hc
  obtain ⟨i, hi, e⟩ := List.getElem_of_mem (inL_iff.1 hc)
  have : (nth L (i : Int) == n) = false := h (i : Int) (by omega) (by omega)
  unfold nth at this
  rw [Int.toNat_natCast, List.getD_eq_getElem?_getD, List.getElem?_eq_getElem hi, Option.getD_some, e] at this
  simp at this
/-- a list goes up -/
def Asc (L : List Int) : Prop := ∀ i : Int, 1 ≤ i → i < L.length → nth L (i - 1) < nth L i
theorem nth_snoc_old {L : List Int} {c i : Int} (i0 : 0 ≤ i) (h : i < L.length) : nth (L ++ [c]) i = nth L i := by
  unfold nth
  have : i.toNat < L.length := by omega
  rw [List.getD_eq_getElem?_getD, List.getD_eq_getElem?_getD, List.getElem?_append_left this]
theorem nth_snoc_new (L : List Int) (c : Int) : nth (L ++ [c]) L.length = c := by unfold nth; simp [List.getD_eq_getElem?_getD]
theorem filtTo_asc (p : Int → Bool) : ∀ k : Nat, Asc (filtTo p k) := by
  intro k
  induction k with
  | zero => intro i h1 h2; exact absurd h2 (by show ¬ i < (([] : List Int).length : Int); simp; omega)
  | succ k ih =>
    rw [show ((k + 1 : Nat) : Int) = (k : Int) + 1 by omega, filtTo_nat]
    split
    · intro i h1 h2
      rw [List.length_append, List.length_singleton] at h2
      by_cases e : i < (filtTo p k).length
      · rw [nth_snoc_old (by omega) (by omega), nth_snoc_old (by omega) e]; exact ih i h1 e
      · have e2 : i = (filtTo p k).length := by omega
        subst e2
        rw [nth_snoc_new, nth_snoc_old (by omega) (by omega)]
        have hm : nth (filtTo p k) ((filtTo p k).length - 1) ∈ filtTo p k := by
          unfold nth
          have : (((filtTo p k).length : Int) - 1).toNat < (filtTo p k).length := by omega
          rw [List.getD_eq_getElem?_getD, List.getElem?_eq_getElem this, Option.getD_some]
          exact List.getElem_mem this
        exact ((filtTo_mem _ _ _).1 hm).2.1
    · exact ih
theorem filtTo_ascI (p : Int → Bool) {k : Int} (h : 0 ≤ k) : Asc (filtTo p k) := by
  have := filtTo_asc p k.toNat
  rwa [Int.toNat_of_nonneg h] at this
end Go.Proofs.Ythjbfdoclifhoaa

namespace Go.Proofs.Ythjbfdoclifhoaa
open Go.RowKit
/-- where a law's walk stands: nothing of old has turned, and a list reads as it did -/
def St (w : World) (a : Option Addr) (L : List Int) (wc : World) : Prop := Below w.heap.size w wc ∧ Rd wc a L
theorem St.next {w wc w' : World} {a : Option Addr} {L : List Int} (h : St w a L wc) (hb : Below wc.heap.size wc w') : St w a L w' := ⟨h.1.trans (hb.mono h.1.size), h.2.below hb⟩
theorem St.dr {w wc w' : World} {a : Option Addr} {L : List Int} (h : St w a L wc) (hd : Dr wc w') : St w a L w' := h.next (hd.below _)
end Go.Proofs.Ythjbfdoclifhoaa

namespace Go.Proofs.Ythjbfdoclifhoaa
open Go.RowKit

/-- an algebra and a Boolean are handed back -/
def RetR (L : List Int) (T : List (List Int)) (V : Bool) (w : World) (e : Ending) (w' : World) : Prop := ∃ a ca b cb, e = .returned (.tuple #[.agg #[.slice a L.length ca, .slice b T.length cb], .bool V]) ∧ Rd w' a L ∧ RdT w' b T ∧ Below w.heap.size w w'
theorem ra_parts {w : World} {a b : Option Addr} {n c m d : Nat} {L : List Int} {T : List (List Int)} (h : RA w (.slice a n c) (.slice b m d) L T) : n = L.length ∧ m = T.length ∧ Rd w a L ∧ RdT w b T := by
  obtain ⟨a', ca', b', cb', e1, e2, r1, r2⟩ := h
  injection e1 with x1 x2 _
  injection e2 with y1 y2 _
  subst x1; subst y1
  exact ⟨x2, y2, r1, r2⟩
theorem RetSAb.r {L : List Int} {T : List (List Int)} {V : Bool} {w w' : World} {e : Ending} (h : RetSAb L T V w e w') : RetR L T V w e w' := by
  obtain ⟨a, n, c, b, m, d, rfl, ho, hb⟩ := h
  obtain ⟨rfl, rfl, r1, r2⟩ := ra_parts ho.ra
  exact ⟨a, c, b, d, rfl, r1, r2, hb⟩
theorem RetGAb.r {L : List Int} {T : List (List Int)} {V : Bool} {w w' : World} {e : Ending} (h : RetGAb L T V w e w') : RetR L T V w e w' := by
  obtain ⟨a, n, c, b, m, d, rfl, ho, hb⟩ := h
  obtain ⟨rfl, rfl, r1, r2⟩ := ra_parts ho.rd
  exact ⟨a, c, b, d, rfl, r1, r2, hb⟩
/-- a struct variable of the law's own -/
def Bx (w : World) (g : Nat) (x y : Value) (wc : World) : Prop := w.heap.size ≤ g ∧ wc.heap[g]? = some (.cells #[x, y] 31 (0, 0))
theorem Bx.next {w wc w' : World} {g : Nat} {x y : Value} (h : Bx w g x y wc) (hb : Below wc.heap.size wc w') : Bx w g x y w' := ⟨h.1, (hb.block _ (lt_of_block h.2)).trans h.2⟩
theorem Bx.dr {w wc w' : World} {g : Nat} {x y : Value} (h : Bx w g x y wc) (hd : Dr wc w') : Bx w g x y w' := h.next (hd.below _)
/-- an algebra that can be read where a law's walk stands -/
def SA (w : World) (a b : Option Addr) (L : List Int) (T : List (List Int)) (wc : World) : Prop := Below w.heap.size w wc ∧ Rd wc a L ∧ RdT wc b T
theorem SA.next {w wc w' : World} {a b : Option Addr} {L : List Int} {T : List (List Int)} (h : SA w a b L T wc) (hb : Below wc.heap.size wc w') : SA w a b L T w' := ⟨h.1.trans (hb.mono h.1.size), h.2.1.below hb, h.2.2.below hb⟩
theorem SA.dr {w wc w' : World} {a b : Option Addr} {L : List Int} {T : List (List Int)} (h : SA w a b L T wc) (hd : Dr wc w') : SA w a b L T w' := h.next (hd.below _)
theorem equalIntsA_is (a1 a2 : Option Addr) (c1 c2 : Nat) (A B : List Int) (w : World) (h1 : Rd w a1 A) (h2 : Rd w a2 B) (hm : A.length ≤ 1073741824) {r : Bool} (hr : eqL A B = r) :
    Calls Try.prog 6 #[.slice a1 A.length c1, .slice a2 B.length c2] w fun e w' => e = .returned (.bool r) ∧ Below w.heap.size w w' := by
  refine (equalInts_any a1 a2 c1 c2 A B w h1 h2 hm).mono ?_
  rw [hr]
  rintro e w' ⟨rfl, hd⟩
  exact ⟨rfl, hd.below _⟩
theorem Bx.cells {w wc : World} {g : Nat} {x y : Value} (h : Bx w g x y wc) : wc.cell? ⟨g, 0, none⟩ = some x ∧ wc.cell? ⟨g, 1, none⟩ = some y := bx_cells h.2
end Go.Proofs.Ythjbfdoclifhoaa
