import Derived.Test.YtpfnfglaokiipabProg
import Derived.Test.YtpfnfglaokiipabM1
import Derived.WalkKit
import Derived.WalkSpells
import Derived.WalkLawsBesides
import Derived.Lib.Hide
import Derived.Deep.QuietTactic
import Derived.BigQuiet
namespace Go.Proofs.Ytpfnfglaokiipab
open Go.RowKit

/-- The cells of a slice that reads as a list of ints. -/
def Cells (w : World) (b off : Nat) (L : List Int) : Prop := ∀ j : Nat, j < L.length → w.cell? ⟨b, off + j, none⟩ = some (.int .i64 (nth L j))
theorem Cells.at {w : World} {b off : Nat} {L : List Int} (h : Cells w b off L) (x : Int) (h0 : 0 ≤ x) (h1 : x < num L) :
    w.cell? ⟨b, off + x.toNat, none⟩ = some (.int .i64 (nth L x)) := by
  have := h x.toNat (by unfold num at h1; omega)
  rwa [Int.toNat_of_nonneg h0] at this
theorem ret_bool {a b : Bool} (h : a = b) : Ending.returned (.bool a) = .returned (.bool b) := by rw [h]
theorem ret_int {a b : Int} (h : a = b) : Ending.returned (.int .i64 a) = .returned (.int .i64 b) := by rw [h]

/-- A callee that draws nothing, met in a region that draws its order. -/
theorem q_same {P : Program} {f : FuncId} {args : Array Value} {w : World} {n : Nat} {v : Value}
    (h : Calls P f args (w.drewN n) fun e w' => e = .returned v ∧ w.drewN n = w') : Calls P f args (w.drewN n) fun e w'' => e = .returned v ∧ ∃ m, w'' = w.drewN m :=
  h.mono fun _ _ ⟨he, hm⟩ => ⟨he, n, hm.symm⟩
/-- The world has drawn some answers, no more. -/
def Dr (w w' : World) : Prop := ∃ n, w' = w.drewN n
theorem Dr.refl (w : World) : Dr w w := ⟨0, rfl⟩
theorem Dr.more {w w' : World} (h : Dr w w') (n : Nat) : Dr w (w'.drewN n) := by
  obtain ⟨m, rfl⟩ := h; exact ⟨m + n, World.drewN_drewN ..⟩
theorem Dr.trans {a b c : World} (h : Dr a b) (k : Dr b c) : Dr a c := by
  obtain ⟨m, rfl⟩ := k; exact h.more m
theorem Dr.cells {w w' : World} (h : Dr w w') {b off : Nat} {L : List Int} (hc : Cells w b off L) : Cells w' b off L := by
  obtain ⟨m, rfl⟩ := h; exact hc
theorem Dr.below {w w' : World} (h : Dr w w') (B : Nat) : Below B w w' := by
  obtain ⟨m, rfl⟩ := h; exact ⟨rfl, rfl, rfl, Nat.le_refl _, fun _ _ => rfl⟩
theorem q_dr {P : Program} {f : FuncId} {args : Array Value} {w : World} {n : Nat} {v : Value}
    (h : Calls P f args (w.drewN n) fun e w' => e = .returned v ∧ Dr (w.drewN n) w') : Calls P f args (w.drewN n) fun e w'' => e = .returned v ∧ ∃ m, w'' = w.drewN m :=
  h.mono fun _ _ ⟨he, m, hm⟩ => ⟨he, n + m, by rw [hm, World.drewN_drewN]⟩
/-- A slice's address, and the list that it reads as. -/
def Rd (w : World) (a : Option Addr) (L : List Int) : Prop := L ≠ [] → ∃ b off, a = some ⟨b, off, none⟩ ∧ Cells w b off L
theorem Dr.rd {w w' : World} (h : Dr w w') {a : Option Addr} {L : List Int} (hr : Rd w a L) : Rd w' a L := fun hl =>
  let ⟨b, off, ha, hc⟩ := hr hl; ⟨b, off, ha, h.cells hc⟩
theorem Rd.pos {w : World} {a : Option Addr} {L : List Int} (h : Rd w a L) (h1 : 1 ≤ num L) : ∃ b off, a = some ⟨b, off, none⟩ ∧ Cells w b off L :=
  h (by intro e; rw [e] at h1; simp [num] at h1)
theorem Cells.drewN {w : World} {b off : Nat} {L : List Int} (h : Cells w b off L) (n : Nat) : Cells (w.drewN n) b off L := h

set_option maxHeartbeats 400000 in
/-- spec.power -/
theorem power_any (n : Int) (w : World) (hn0 : 0 ≤ n) (hn : n ≤ 30) :
    Calls Try.prog 110 #[.int .i64 n] w fun e w' => e = .returned (.int .i64 (pw n)) ∧ w = w' := by
  go_enter Try.func110, Try.ntmps110
  go_wp2
  go_loop [0, 3] (fun i o => ∃ k : Int, 0 ≤ k ∧ k ≤ n ∧ i = .int .i64 k ∧ o = .int .i64 (pw (n - k))) (fun i _ => (intOf i).toNat)
  case atStart => exact ⟨n, hn0, Int.le_refl _, rfl, by simp [pw_zero]⟩
  case round =>
    obtain ⟨k, h0, h1, rfl, rfl⟩ := hrel
    have p1 := pw_30 (n - k) (by omega)
    have p2 := pw_pos (n - k)
    by_cases hk : 0 < k
    · have hs := pw_succ (n - k) (by omega)
      have HS := Lib.hid hs; clear hs
      go_wp2
      go_round
      case rel => exact ⟨k - 1, by omega, by omega, rfl, by rw [← HS.out]; congr 2; omega⟩
      case measure => simp [intOf]; omega
    · have e : k = 0 := by omega
      subst e
      go_wp2
      go_ret
      exact ⟨ret_int (by simp), rfl⟩

set_option maxHeartbeats 400000 in
/-- spec.inRange -/
theorem inRange_any (n a b : Int) (w : World) :
    Calls Try.prog 60 #[.int .i64 n, .int .i64 a, .int .i64 b] w fun e w' => e = .returned (.bool (decide (a ≤ n) && decide (n ≤ b))) ∧ w = w' := by
  go_enter Try.func60, Try.ntmps60
  go_wp2
  all_goals go_ret
  all_goals exact ⟨ret_bool (by simp; try omega), rfl⟩

set_option maxHeartbeats 400000 in
/-- spec.bit -/
theorem bit_any (v y : Int) (w : World) (hv : 0 ≤ v) (hv2 : v ≤ 63) (hy0 : 0 ≤ y) (hy : y ≤ 30) :
    Calls Try.prog 115 #[.int .i64 v, .int .i64 y] w fun e w' => e = .returned (.int .i64 (bt v y)) ∧ w = w' := by
  have p1 := pw_30 y hy
  have p2 := pw_pos y
  go_enter Try.func115, Try.ntmps115
  go_wp2_with (go_at_call 110; refine (power_any _ _ hy0 hy).mono ?_; rintro e w' ⟨rfl, rfl⟩)
  have d1 : 0 ≤ v / pw y := Int.ediv_nonneg hv (by omega)
  go_ret
  exact ⟨ret_int (by simp [bt]; rw [Int.tmod_eq_emod_of_nonneg d1]), rfl⟩

set_option maxHeartbeats 400000 in
/-- spec.below -/
theorem below_any (b off cap : Nat) (L : List Int) (x y : Int) (w : World) (hc : Cells w b off L) (hs : Small L) (x0 : 0 ≤ x) (x1 : x < num L) (y0 : 0 ≤ y) (y1 : y ≤ 30) :
    Calls Try.prog 91 #[.slice (some ⟨b, off, none⟩) L.length cap, .int .i64 x, .int .i64 y] w fun e w' => e = .returned (.bool (bl L x y)) ∧ w = w' := by
  have c1 := hc.at x x0 x1
  obtain ⟨r0, r1⟩ := hs.rng x x0 x1
  have x2 : x < L.length := x1
  go_enter Try.func91, Try.ntmps91
  go_wp2_with (go_at_call 115; refine (bit_any _ _ _ r0 r1 y0 y1).mono ?_; rintro e w' ⟨rfl, rfl⟩)
  go_ret
  exact ⟨ret_bool (by simp [bl]), rfl⟩
end Go.Proofs.Ytpfnfglaokiipab
