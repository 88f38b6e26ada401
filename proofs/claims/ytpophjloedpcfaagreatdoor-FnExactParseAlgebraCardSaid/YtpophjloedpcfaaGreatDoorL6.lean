import Derived.Test.YtpophjloedpcfaaGreatDoorG3
import Derived.Test.YtpophjloedpcfaaGreatDoorL5
import Derived.Deep.Matrix
import Derived.Lib.SmallJoins
namespace Go.Proofs.YtpophjloedpcfaaGreatDoor
open Go.RowKit Go.ChangeShapes Go.WideShapes

theorem spot_none {w : World} {x : Addr} {v : Value} (h : w.cell? (x.add 0) = some v) : ∃ b off, x = ⟨b, off, none⟩ := by
  obtain ⟨b, off, spot⟩ := x
  cases spot with
  | none => exact ⟨b, off, rfl⟩
  | some s => simp [Addr.add, World.cell?] at h; split at h <;> simp at h
theorem rd_row {w : World} {a : Option Addr} {len cap : Nat} {zs : List Int} (hl : len ≤ cap) (hz : zs.length = cap) (hn : a = none → cap = 0) (hc : ∀ x, a = some x → ∀ c, c < cap → w.cell? (x.add c) = some (.int .i64 (zs.getD c 0))) : Rd w a (zs.take len) ∧ (zs.take len).length = len := by
  have hlen : (zs.take len).length = len := by simp; omega
  refine ⟨fun hne => ?_, hlen⟩
  have hpos : 0 < cap := by
    rcases Nat.eq_zero_or_pos cap with h0 | h0
    · have : zs = [] := List.length_eq_zero_iff.1 (by omega)
      exact absurd (by rw [this]; simp) hne
    · exact h0
  cases a with
  | none => have := hn rfl; omega
  | some x =>
    have h0 := hc x rfl
    obtain ⟨b, off, rfl⟩ := spot_none (h0 0 hpos)
    refine ⟨b, off, rfl, fun j hj => ?_⟩
    rw [hlen] at hj
    have := h0 j (by omega)
    rw [Addr.add_mid] at this
    rw [this]
    unfold nth
    simp [List.getD, hj]

end Go.Proofs.YtpophjloedpcfaaGreatDoor
