import Derived.Test.YtmlbdlobdnhimabL5
import Derived.Test.YtmlbdlobdnhimabM5
import Derived.Test.YtmlbdlobdnhimabZ8
namespace Go.Proofs.Ytmlbdlobdnhimab
open Go.RowKit

/-! The laws' own helpers. -/
set_option maxRecDepth 100000 in
set_option maxHeartbeats 1000000 in
/-- laws.equalInts -/
theorem equalInts_any (a1 a2 : Option Addr) (c1 c2 : Nat) (A B : List Int) (w : World) (h1 : Rd w a1 A) (h2 : Rd w a2 B) (hm : A.length ≤ 1073741824) :
    Calls Try.prog 48 #[.slice a1 A.length c1, .slice a2 B.length c2] w fun e w' => e = .returned (.bool (eqL A B)) ∧ Dr w w' := by
  by_cases hl : A.length = B.length
  · have hne : ((A.length : Int) != (B.length : Int)) = false := by rw [hl]; simp
    have hlB : (A.length : Int) ≤ B.length := by omega
    go_enter Try.func48, Try.ntmps48
    go_wp2
    go_loopw [5] (fun i wr => ∃ k : Int, 0 ≤ k ∧ k ≤ A.length ∧ i = .int .i64 k ∧ AllTo k (fun j => nth A j == nth B j) ∧ Dr w wr) (fun i _ => ((A.length : Int) - intOf i).toNat)
    case atStart => exact ⟨0, by omega, by omega, rfl, AllTo.zero _, Dr.refl _⟩
    case round =>
      obtain ⟨k, k0, k1, rfl, ha, hd⟩ := hrel
      by_cases hk : k < A.length
      · obtain ⟨b1, o1, rfl, hc1⟩ := (hd.rd h1) (by intro e; rw [e] at hk; simp at hk; omega)
        obtain ⟨b2, o2, rfl, hc2⟩ := (hd.rd h2) (by intro e; have hz : B.length = 0 := (by rw [e]; rfl); omega)
        have hk2 : k < B.length := by omega
        have d1 := hc1.at k k0 hk
        have d2 := hc2.at k k0 hk2
        cases hq : nth A k != nth B k
        case false =>
          have hq2 : (nth A k == nth B k) = true := by simpa [bne] using hq
          have HQ := Lib.hid hq2; clear hq2
          go_wp2
          go_quiet (fail)
          go_wp2
          go_roundw
          case rel => exact ⟨k + 1, by omega, by omega, rfl, ha.succ HQ.out, hd.more _⟩
          case measure => simp [intOf]; omega
        case true =>
          have hv : eqL A B = false := by
            unfold eqL
            refine decide_eq_false fun e => ?_
            rw [e] at hq; simp at hq
          have HV := Lib.hid hv; clear hv
          go_wp2
          go_quiet (fail)
          go_wp2
          go_ret
          exact ⟨ret_bool HV.out.symm, hd.more _⟩
      · have hv : eqL A B = true := decide_eq_true (nth_ext hl fun j j0 j1 => by have := ha j j0 (by omega); simpa using this)
        have HV := Lib.hid hv; clear hv
        go_wp2
        go_ret
        exact ⟨ret_bool HV.out.symm, hd⟩
  · have hne : ((A.length : Int) != (B.length : Int)) = true := by rw [bne_iff_ne]; omega
    have HV := Lib.hid (show eqL A B = false from decide_eq_false fun e => hl (by rw [e]))
    go_enter Try.func48, Try.ntmps48
    go_wp2
    go_ret
    exact ⟨ret_bool HV.out.symm, Dr.refl _⟩
theorem eqL_same (A : List Int) : eqL A A = true := decide_eq_true rfl
/-- laws.equalInts at two lists that are one -/
theorem equalInts_same (a1 a2 : Option Addr) (c1 c2 : Nat) (A : List Int) (w : World) (h1 : Rd w a1 A) (h2 : Rd w a2 A) (hm : A.length ≤ 1073741824) :
    Calls Try.prog 48 #[.slice a1 A.length c1, .slice a2 A.length c2] w fun e w' => e = .returned (.bool true) ∧ Dr w w' := by
  have := equalInts_any a1 a2 c1 c2 A A w h1 h2 hm
  rwa [eqL_same] at this
/-- a list has a number -/
def inL (L : List Int) (n : Int) : Bool := L.contains n
theorem inL_iff {L : List Int} {n : Int} : inL L n = true ↔ n ∈ L := by unfold inL; simp
theorem inL_nth {L : List Int} {n k : Int} (k0 : 0 ≤ k) (k1 : k < L.length) (h : nth L k = n) : inL L n = true := by
  rw [inL_iff, ← h]
  unfold nth
  have : k.toNat < L.length := by omega
  rw [List.getD_eq_getElem?_getD, List.getElem?_eq_getElem this, Option.getD_some]
  exact List.getElem_mem this
theorem inL_none {L : List Int} {n k : Int} (h : NoneTo k fun j => nth L j == n) (hk : (L.length : Int) ≤ k) : inL L n = false := by
  rw [Bool.eq_false_iff]
  intro hc
  obtain ⟨i, hi, e⟩ := List.getElem_of_mem (inL_iff.1 hc)
  have : (nth L (i : Int) == n) = false := h (i : Int) (by omega) (by omega)
  unfold nth at this
  rw [Int.toNat_natCast, List.getD_eq_getElem?_getD, List.getElem?_eq_getElem hi, Option.getD_some, e] at this
  simp at this
/-- a list goes up -/
def Asc (L : List Int) : Prop := ∀ i : Int, 1 ≤ i → i < L.length → nth L (i - 1) < nth L i
theorem nth_snoc_old {L : List Int} {c i : Int} (i0 : 0 ≤ i) (h : i < L.length) : nth (L ++ [c]) i = nth L i := by
  unfold nth
  have : i.toNat < L.length := by omega
  rw [List.getD_eq_getElem?_getD, List.getD_eq_getElem?_getD, List.getElem?_append_left this]
theorem nth_snoc_new (L : List Int) (c : Int) : nth (L ++ [c]) L.length = c := by unfold nth; simp [List.getD_eq_getElem?_getD]
theorem filtTo_asc (p : Int → Bool) : ∀ k : Nat, Asc (filtTo p k) := by
  intro k
  induction k with
  | zero => intro i h1 h2; exact absurd h2 (by show ¬ i < (([] : List Int).length : Int); simp; omega)
  | succ k ih =>
    rw [show ((k + 1 : Nat) : Int) = (k : Int) + 1 by omega, filtTo_nat]
    split
    · intro i h1 h2
      rw [List.length_append, List.length_singleton] at h2
      by_cases e : i < (filtTo p k).length
      · rw [nth_snoc_old (by omega) (by omega), nth_snoc_old (by omega) e]; exact ih i h1 e
      · have e2 : i = (filtTo p k).length := by omega
        subst e2
        rw [nth_snoc_new, nth_snoc_old (by omega) (by omega)]
        have hm : nth (filtTo p k) ((filtTo p k).length - 1) ∈ filtTo p k := by
          unfold nth
          have : (((filtTo p k).length : Int) - 1).toNat < (filtTo p k).length := by omega
          rw [List.getD_eq_getElem?_getD, List.getElem?_eq_getElem this, Option.getD_some]
          exact List.getElem_mem this
        exact ((filtTo_mem _ _ _).1 hm).2.1
    · exact ih
theorem filtTo_ascI (p : Int → Bool) {k : Int} (h : 0 ≤ k) : Asc (filtTo p k) := by
  have := filtTo_asc p k.toNat
  rwa [Int.toNat_of_nonneg h] at this
end Go.Proofs.Ytmlbdlobdnhimab

namespace Go.Proofs.Ytmlbdlobdnhimab
open Go.RowKit
/-- where a law's walk stands: nothing of old has turned, and a list reads as it did -/
def St (w : World) (a : Option Addr) (L : List Int) (wc : World) : Prop := Below w.heap.size w wc ∧ Rd wc a L
theorem St.next {w wc w' : World} {a : Option Addr} {L : List Int} (h : St w a L wc) (hb : Below wc.heap.size wc w') : St w a L w' := ⟨h.1.trans (hb.mono h.1.size), h.2.below hb⟩
theorem St.dr {w wc w' : World} {a : Option Addr} {L : List Int} (h : St w a L wc) (hd : Dr wc w') : St w a L w' := h.next (hd.below _)
end Go.Proofs.Ytmlbdlobdnhimab
