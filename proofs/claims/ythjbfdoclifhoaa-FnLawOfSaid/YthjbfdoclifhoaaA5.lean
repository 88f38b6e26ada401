import Derived.Test.YthjbfdoclifhoaaProg
import Derived.Test.YthjbfdoclifhoaaM5
import Derived.WalkKit
import Derived.WalkSpells
import Derived.WalkLawsBesides
import Derived.Lib.Hide
import Derived.Deep.QuietTactic
import Derived.BigQuiet
namespace Go.Proofs.Ythjbfdoclifhoaa
open Go.RowKit

/-- The cells of a slice that reads as a list of ints. -/
def Cells (w : World) (b off : Nat) (L : List Int) : Prop := ∀ j : Nat, j < L.length → w.cell? ⟨b, off + j, none⟩ = some (.int .i64 (nth L j))
theorem Cells.at {w : World} {b off : Nat} {L : List Int} (h : Cells w b off L) (x : Int) (h0 : 0 ≤ x) (h1 : x < num L) :
    w.cell? ⟨b, off + x.toNat, none⟩ = some (.int .i64 (nth L x)) := by
  have := h x.toNat (by unfold num at h1; omega)
  rwa [Int.toNat_of_nonneg h0] at this
theorem ret_bool {a b : Bool} (h : a = b) : Ending.returned (.bool a) = .returned (.bool b) := by rw [h]
theorem ret_int {a b : Int} (h : a = b) : Ending.returned (.int .i64 a) = .returned (.int .i64 b) := by rw [h]

/-- A callee that draws nothing, met in a region that draws its order. -/
theorem q_same {P : Program} {f : FuncId} {args : Array Value} {w : World} {n : Nat} {v : Value}
    (h : Calls P f args (w.drewN n) fun e w' => e = .returned v ∧ w.drewN n = w') : Calls P f args (w.drewN n) fun e w'' => e = .returned v ∧ ∃ m, w'' = w.drewN m :=
  h.mono fun _ _ ⟨he, hm⟩ => ⟨he, n, hm.symm⟩
/-- The world has drawn some answers, no more. -/
def Dr (w w' : World) : Prop := ∃ n, w' = w.drewN n
theorem Dr.refl (w : World) : Dr w w := ⟨0, rfl⟩
theorem Dr.more {w w' : World} (h : Dr w w') (n : Nat) : Dr w (w'.drewN n) := by
  obtain ⟨m, rfl⟩ := h; exact ⟨m + n, World.drewN_drewN ..⟩
theorem Dr.trans {a b c : World} (h : Dr a b) (k : Dr b c) : Dr a c := by
  obtain ⟨m, rfl⟩ := k; exact h.more m
theorem Dr.cells {w w' : World} (h : Dr w w') {b off : Nat} {L : List Int} (hc : Cells w b off L) : Cells w' b off L := by
  obtain ⟨m, rfl⟩ := h; exact hc
theorem Dr.below {w w' : World} (h : Dr w w') (B : Nat) : Below B w w' := by
  obtain ⟨m, rfl⟩ := h; exact ⟨rfl, rfl, rfl, Nat.le_refl _, fun _ _ => rfl⟩
theorem q_dr {P : Program} {f : FuncId} {args : Array Value} {w : World} {n : Nat} {v : Value}
    (h : Calls P f args (w.drewN n) fun e w' => e = .returned v ∧ Dr (w.drewN n) w') : Calls P f args (w.drewN n) fun e w'' => e = .returned v ∧ ∃ m, w'' = w.drewN m :=
  h.mono fun _ _ ⟨he, m, hm⟩ => ⟨he, n + m, by rw [hm, World.drewN_drewN]⟩
/-- A slice's address, and the list that it reads as. -/
def Rd (w : World) (a : Option Addr) (L : List Int) : Prop := L ≠ [] → ∃ b off, a = some ⟨b, off, none⟩ ∧ Cells w b off L
theorem Dr.rd {w w' : World} (h : Dr w w') {a : Option Addr} {L : List Int} (hr : Rd w a L) : Rd w' a L := fun hl =>
  let ⟨b, off, ha, hc⟩ := hr hl; ⟨b, off, ha, h.cells hc⟩
theorem Rd.pos {w : World} {a : Option Addr} {L : List Int} (h : Rd w a L) (h1 : 1 ≤ num L) : ∃ b off, a = some ⟨b, off, none⟩ ∧ Cells w b off L :=
  h (by intro e; rw [e] at h1; simp [num] at h1)
theorem Cells.drewN {w : World} {b off : Nat} {L : List Int} (h : Cells w b off L) (n : Nat) : Cells (w.drewN n) b off L := h

end Go.Proofs.Ythjbfdoclifhoaa

namespace Go.Proofs.Ythjbfdoclifhoaa
open Go.RowKit

end Go.Proofs.Ythjbfdoclifhoaa

namespace Go.Proofs.Ythjbfdoclifhoaa
open Go.RowKit

end Go.Proofs.Ythjbfdoclifhoaa

namespace Go.Proofs.Ythjbfdoclifhoaa
open Go.RowKit

theorem latB_vo {L : List Int} (h : voB L = false) : latB L = false := by unfold latB; rw [h]; rfl
theorem latB_xy {L : List Int} {x y : Int} (x0 : 0 ≤ x) (x1 : x < num L) (y0 : 0 ≤ y) (y1 : y < num L) (h : latXY L x y = false) : latB L = false := by
  unfold latB
  rw [allI_false x x0 x1 (allI_false y y0 y1 h)]; simp
theorem latB_t {L : List Int} {m : Int} (h : voB L = true) (hm : num L ≤ m) (ha : AllTo m fun x => allI (num L) (latXY L x)) : latB L = true := by
  unfold latB; rw [h, ha.all hm]; rfl
theorem voB_parts {L : List Int} (h : voB L = true) : 1 ≤ num L ∧ num L ≤ 6 ∧ Small L := by
  unfold voB at h
  simp only [Bool.and_eq_true, decide_eq_true_eq] at h
  obtain ⟨⟨⟨a, b⟩, c⟩, _⟩ := h
  exact ⟨a, b, small_of b fun j j0 j1 => (allI_iff _ _).1 c j j0 j1⟩
theorem latB_parts {L : List Int} (h : latB L = true) : 1 ≤ num L ∧ num L ≤ 6 ∧ Small L := by
  unfold latB at h
  rw [Bool.and_eq_true] at h
  exact voB_parts h.1

end Go.Proofs.Ythjbfdoclifhoaa

namespace Go.Proofs.Ythjbfdoclifhoaa
open Go.RowKit

def goodB (L : List Int) (x y : Int) : Bool := latB L && (decide (0 ≤ x) && decide (x ≤ num L - 1)) && (decide (0 ≤ y) && decide (y ≤ num L - 1))
def isBelowB (L : List Int) (x y : Int) : Bool := goodB L x y && bl L x y
def meetOfI (L : List Int) (x y : Int) : Int := if goodB L x y then mt L x y else -1
def joinOfI (L : List Int) (x y : Int) : Int := if goodB L x y then jn L x y else -1
def chainXY (L : List Int) (x y : Int) : Bool := bl L x y || bl L y x
def chainB (L : List Int) : Bool := allI (num L) fun x => allI (num L) (chainXY L x)
theorem goodB_parts {L : List Int} {x y : Int} (h : goodB L x y = true) : latB L = true ∧ 1 ≤ num L ∧ num L ≤ 6 ∧ Small L ∧ 0 ≤ x ∧ x < num L ∧ 0 ≤ y ∧ y < num L := by
  unfold goodB at h
  simp only [Bool.and_eq_true, decide_eq_true_eq] at h
  obtain ⟨⟨a, b, c⟩, d, e⟩ := h
  obtain ⟨h1, h6, hs⟩ := latB_parts a
  exact ⟨a, h1, h6, hs, b, by omega, d, by omega⟩

end Go.Proofs.Ythjbfdoclifhoaa
