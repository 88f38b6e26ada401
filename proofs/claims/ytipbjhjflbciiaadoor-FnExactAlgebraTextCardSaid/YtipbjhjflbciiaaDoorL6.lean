import Derived.Test.YtipbjhjflbciiaaDoorG3
import Derived.Test.YtipbjhjflbciiaaDoorL5
import Derived.Deep.Matrix
import Derived.Lib.SmallJoins
namespace Go.Proofs.YtipbjhjflbciiaaDoor
open Go.RowKit Go.ChangeShapes Go.WideShapes

theorem spot_none {w : World} {x : Addr} {v : Value} (h : w.cell? (x.add 0) = some v) : ∃ b off, x = ⟨b, off, none⟩ := by
  obtain ⟨b, off, spot⟩ := x
  cases spot with
  | none => exact ⟨b, off, rfl⟩
  | some s => simp [Addr.add, World.cell?] at h; split at h <;> simp at h
theorem rd_row {w : World} {a : Option Addr} {len cap : Nat} {zs : List Int} (hl : len ≤ cap) (hz : zs.length = cap) (hn : a = none → cap = 0) (hc : ∀ x, a = some x → ∀ c, c < cap → w.cell? (x.add c) = some (.int .i64 (zs.getD c 0))) : Rd w a (zs.take len) ∧ (zs.take len).length = len := by
  have hlen : (zs.take len).length = len := by simp; omega
  refine ⟨fun hne => ?_, hlen⟩
  have hpos : 0 < cap := by
    rcases Nat.eq_zero_or_pos cap with h0 | h0
    · have : zs = [] := List.length_eq_zero_iff.1 (by omega)
      exact absurd (by rw [this]; simp) hne
    · exact h0
  cases a with
  | none => have := hn rfl; omega
  | some x =>
    have h0 := hc x rfl
    obtain ⟨b, off, rfl⟩ := spot_none (h0 0 hpos)
    refine ⟨b, off, rfl, fun j hj => ?_⟩
    rw [hlen] at hj
    have := h0 j (by omega)
    rw [Addr.add_mid] at this
    rw [this]
    unfold nth
    simp [List.getD, hj]

set_option maxRecDepth 100000 in
/-- What the frame says of an algebra that came in. -/
theorem open_alg {H : Type} {enc : TypeId × Value → H} {W : World} {base : Nat} {held : Bool} {r : Reach} {b0 : Nat} {v : Value} {d : DataW H} {p : List MemPlace}
    (hv : Value.okWide Tryd.prog W r b0 25 v) (h : DataW.Trod enc Tryd.prog W base (fun _ => true) held 25 v d p) :
    ∃ (a : Option Addr) (n ca : Nat) (b : Option Addr) (m cb : Nat) (L : List Int) (T : List (List Int)), v = .agg #[.slice a n ca, .slice b m cb] ∧ Rd W a L ∧ L.length = n ∧ n ≤ maxLen ∧ RdT W b T ∧ T.length = m ∧ m ≤ maxLen ∧ ∀ j : Nat, j < T.length → (rowAt T j).length ≤ maxLen := by
  obtain ⟨v0, v1, y0, y1, k, rfl, _, _, h0, h1⟩ := Go.Joins.open_agg2 Tryd.underlying25 (by kernel_rfl) (by kernel_rfl) hv h
  have p0 : ∃ (a : Option Addr) (n ca : Nat) (L : List Int), v0 = .slice a n ca ∧ Rd W a L ∧ L.length = n ∧ n ≤ maxLen := by
    rcases open_ints Tryd.underlying22 Tryd.underlying3 (by kernel_rfl) h0 with ⟨hcs, _⟩ | ⟨x, l, c, zs, hcs, _, hl, hm, hz, _, hcell, _⟩
    · simp at hcs
      exact ⟨none, 0, 0, [], hcs, fun hne => absurd rfl hne, rfl, Nat.zero_le _⟩
    · simp at hcs hz
      obtain ⟨q1, q2⟩ := rd_row (w := W) (a := some x) hl hz (fun e => by cases e) (fun y e j hj => by cases e; exact hcell j (by omega))
      exact ⟨some x, l, c, zs.take l, hcs, q1, q2, by omega⟩
  have p1 : ∃ (b : Option Addr) (m cb : Nat) (T : List (List Int)), v1 = .slice b m cb ∧ RdT W b T ∧ T.length = m ∧ m ≤ maxLen ∧ ∀ j : Nat, j < T.length → (rowAt T j).length ≤ maxLen := by
    rcases Go.Deep.open_int_rows Tryd.underlying23 Tryd.underlying22 Tryd.underlying3 (by kernel_rfl) (by kernel_rfl) h1 with ⟨hcs, _⟩ | ⟨x, l, c, A, N, C, Z, hcs, _, hl, hm, _, hrow⟩
    · simp at hcs
      exact ⟨none, 0, 0, [], hcs, fun hne => absurd rfl hne, rfl, Nat.zero_le _, fun j hj => absurd hj (Nat.not_lt_zero _)⟩
    · simp at hcs
      have hlen : ((List.range l).map fun i => (Z i).take (N i)).length = l := by simp
      have hat : ∀ j : Nat, j < l → rowAt ((List.range l).map fun i => (Z i).take (N i)) j = (Z j).take (N j) := fun j hj => by
        rw [rowAt_get _ _ (by rw [hlen]; exact hj)]; simp
      refine ⟨some x, l, c, (List.range l).map fun i => (Z i).take (N i), hcs, fun hne => ?_, hlen, by omega, fun j hj => ?_⟩
      · have hpos : 0 < l := by
          rcases Nat.eq_zero_or_pos l with e | e
          · exact absurd (by rw [e]; rfl) hne
          · exact e
        obtain ⟨B, off, rfl⟩ := spot_none (hrow 0 (by omega)).1
        refine ⟨B, off, rfl, fun j hj => ?_⟩
        rw [hlen] at hj
        obtain ⟨c1, c2, _, c4, _, c6, c7⟩ := hrow j (by omega)
        obtain ⟨q1, q2⟩ := rd_row (w := W) c2 c4 c6 (fun y e => (c7 y e).2)
        rw [hat j hj]
        rw [Addr.add_mid] at c1
        exact ⟨A j, C j, by rw [q2]; exact c1, q1⟩
      · rw [hlen] at hj
        obtain ⟨_, c2, c3, c4, _⟩ := hrow j (by omega)
        rw [hat j hj]
        simp; omega
  obtain ⟨a, n, ca, L, rfl, q1, q2, q3⟩ := p0
  obtain ⟨b, m, cb, T, rfl, q4, q5, q6, q7⟩ := p1
  exact ⟨a, n, ca, b, m, cb, L, T, rfl, q1, q2, q3, q4, q5, q6, q7⟩
end Go.Proofs.YtipbjhjflbciiaaDoor
