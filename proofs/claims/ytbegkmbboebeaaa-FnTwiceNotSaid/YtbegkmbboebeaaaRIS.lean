import Derived.Test.YtbegkmbboebeaaaL5
import Derived.Test.YtbegkmbboebeaaaM5
namespace Go.Proofs.Ytbegkmbboebeaaa
open Go.RowKit

def slL : Value → Int
  | .slice _ n _ => n
  | _ => 0
theorem slL_own {B n sz : Nat} {ty : TypeId} {w : World} {v : Value} {L : List Value} (h : w.ownsRow B ty sz v n L) : slL v = n := by
  rcases h.2 with ⟨rfl, e⟩ | ⟨g, cap, cur, rfl, _⟩
  · rw [e]; rfl
  · rfl
set_option maxRecDepth 100000 in
set_option maxHeartbeats 1000000 in
/-- laws.rising -/
theorem lawRising_any (n : Int) (w : World) (n0 : 0 ≤ n) (n6 : n ≤ 30) :
    Calls Try.prog 15 #[.int .i64 n] w (RetOwn w.heap.size (lstTo (fun x => x) n) w) := by
  obtain ⟨i0, hi, hz0, hz1, hz2⟩ := info_parts info_int
  go_enter Try.func15, Try.ntmps15
  go_wp2
  go_loopw [3] (fun v wr => ∃ k : Int, 0 ≤ k ∧ k ≤ n ∧ slL v = k ∧ Own w.heap.size wr v (lstTo (fun x => x) k) ∧ Below w.heap.size w wr) (fun v _ => (30 - slL v).toNat)
  case atStart => 
    exact ⟨0, by omega, by omega, rfl, Own.row (L := []) (heap_alloc_new w _) (Nat.le_refl _) (Nat.zero_le _), (Below.refl _ _).alloc (Nat.le_refl _) _⟩
  case round =>
    obtain ⟨k, k0, k1, hk3, hown, hbel⟩ := hrel
    obtain ⟨va, vc, rfl, _⟩ := hown.slice
    clear hk3
    have HLN := Lib.hid (lstTo_len (fun x => x) k k0)
    by_cases hk : k < n
    · have hsucc := Lib.hid (lstTo_succ (fun x => x) k k0)
      obtain ⟨M, hM⟩ : ∃ M, M = lstTo (fun x => x) k := ⟨_, rfl⟩
      rw [← hM] at hown HLN hsucc ⊢
      have h1 : (M.length : Int) < n := by have := HLN.out; omega
      have h2 : M.length ≤ 1000 := by omega
      clear hM
      go_wp2_with (first
        | (at_builtin; refine wpList_append_own _ rfl _ _ 23 rfl w.heap.size 3 i0 (.int .i64 0) 1 8 Try.underlying23 hi hz0 hz1 hz2 rfl (by decide) _ _ _ rfl (World.ownsRow.alloc hown _) ⟨wr.heap.size, 0, none⟩ 1 1 [.int .i64 (M.length : Int)] rfl rfl (cell_one_new _ _ _) (fun x hx => by simp at hx; subst hx; rfl) (by unfold maxLen; omega) (by omega) (by have := hbel.size; simp; omega) ?_; intro v' w1 hown1 hgrow _))
      have hsl := slL_own hown1
      have hln := HLN.out
      go_roundw
      case rel => exact ⟨k + 1, by omega, by omega, by omega, by unfold Own; rw [hsucc.out, List.map_append, List.length_append]; rw [hln] at hown1; exact hown1, (hbel.alloc hbel.size _).grown hgrow (by have := hbel.size; simp; omega) (fun q hq => (World.ownsRow.lt hown q hq).1)⟩
      case measure =>
        have e1 : slL (Value.slice va M.length vc) = M.length := rfl
        simp only [e1] at *
        first | omega | (simp; omega)
    · have e : k = n := by omega
      subst e
      have h1 : ¬ ((lstTo (fun x => x) k).length : Int) < k := by have := HLN.out; omega
      go_wp2
      go_ret
      exact ⟨_, rfl, hown, hbel⟩
end Go.Proofs.Ytbegkmbboebeaaa
