import Derived.Test.YtbellklaoecpbaaL2
namespace Go.Proofs.Ytbellklaoecpbaa
open Go.RowKit

/-- v is a slice of the call's own, from block B on, that reads as the list. -/
def Own (B : Nat) (w : World) (v : Value) (L : List Int) : Prop := w.ownsRow B 3 1 v L.length (L.map fun x => Value.int .i64 x)
/-- Such a slice is handed back. -/
def RetOwn (B : Nat) (L : List Int) (w : World) (e : Ending) (w' : World) : Prop := ∃ v, e = .returned v ∧ Own B w' v L ∧ Below w.heap.size w w'
section
variable {B : Nat} {w : World} {v : Value} {L : List Int}
theorem Own.slice (h : Own B w v L) : ∃ a cap, v = .slice a L.length cap ∧ Rd w a L := by
  obtain ⟨_, h⟩ := h
  rcases h with ⟨rfl, hn⟩ | ⟨g, cap, cur, rfl, _, hg, hc, _, hs, ht⟩
  · refine ⟨none, 0, by rw [hn], fun hne => absurd (List.length_eq_zero_iff.1 hn) hne⟩
  · refine ⟨_, cap, rfl, fun _ => ⟨g, 0, rfl, fun j hj => ?_⟩⟩
    rw [Nat.zero_add, cell_of_row w g j _ _ _ hg]
    have h1 : (cur.toList.take (L.length * 1))[j]? = (L.map fun x => Value.int .i64 x)[j]? := by rw [ht]
    rw [List.getElem?_take, if_pos (by omega), Array.getElem?_toList] at h1
    rw [h1]
    unfold nth
    simp [hj]
theorem Own.alloc (h : Own B w v L) (o : Obj) : Own B (w.alloc o) v L := World.ownsRow.alloc h o
theorem Own.below (h : Own B w v L) {w' : World} (hb : Below w.heap.size w w') : Own B w' v L := by
  obtain ⟨h1, h⟩ := h
  refine ⟨h1, ?_⟩
  rcases h with h | ⟨g, cap, cur, e1, e2, hg, e3, e4, e5, e6⟩
  · exact .inl h
  · exact .inr ⟨g, cap, cur, e1, e2, (hb.block g (lt_of_block hg)).trans hg, e3, e4, e5, e6⟩
theorem Own.from (h : Own B w v L) {B' : Nat} (hB : B' ≤ B) : Own B' w v L := by
  obtain ⟨h1, h⟩ := h
  refine ⟨h1, ?_⟩
  rcases h with h | ⟨g, cap, cur, e1, e2, e⟩
  · exact .inl h
  · exact .inr ⟨g, cap, cur, e1, by omega, e⟩
theorem Own.nothing (B : Nat) (w : World) : Own B w (.slice none 0 0) [] := ⟨rfl, .inl ⟨rfl, rfl⟩⟩
theorem Own.row {b : Nat} (h : Row w b L) (hB : B ≤ b) (hm : L.length ≤ maxLen) : Own B w (.slice (some ⟨b, 0, none⟩) L.length L.length) L :=
  ⟨by simp, .inr ⟨b, L.length, IL L, rfl, hB, h, Nat.le_refl _, hm, by simp [IL], by simp [IL, List.take_of_length_le]⟩⟩
end

/-- the rows of a chain, up to a place -/
def chainTo (n k : Int) : List Int := (List.range k.toNat).map fun (i : Nat) => pw n - pw i
theorem chainTo_succ (n k : Int) (h : 0 ≤ k) : chainTo n (k + 1) = chainTo n k ++ [pw n - pw k] := by
  unfold chainTo
  rw [show (k + 1).toNat = k.toNat + 1 by omega, List.range_succ, List.map_append]
  simp [Int.toNat_of_nonneg h]
theorem chainTo_len (n k : Int) (h : 0 ≤ k) : ((chainTo n k).length : Int) = k := by simp [chainTo, Int.toNat_of_nonneg h]

set_option maxRecDepth 100000 in
set_option maxHeartbeats 1000000 in
/-- spec.chain -/
theorem chain_any (n : Int) (w : World) (n0 : 0 ≤ n) (n6 : n ≤ 30) :
    Calls Try.prog 146 #[.int .i64 n] w (RetOwn w.heap.size (chainTo n n) w) := by
  obtain ⟨i0, hi, hz0, hz1, hz2⟩ := info_parts info_int
  go_enter Try.func146, Try.ntmps146
  go_wp2
  go_loopw [3, 4] (fun v x wr => ∃ k : Int, 0 ≤ k ∧ k ≤ n ∧ x = .int .i64 k ∧ Own w.heap.size wr v (chainTo n k) ∧ Below w.heap.size w wr) (fun _ x _ => (30 - intOf x).toNat)
  case atStart => 
    exact ⟨0, by omega, by omega, rfl, Own.row (L := []) (heap_alloc_new w _) (Nat.le_refl _) (Nat.zero_le _), (Below.refl _ _).alloc (Nat.le_refl _) _⟩
  case round =>
    obtain ⟨k, k0, k1, rfl, hown, hbel⟩ := hrel
    by_cases hk : k < n
    · have p1 := pw_30 n n6
      have p2 := pw_pos n
      have p3 := pw_30 k (by omega)
      have p4 := pw_pos k
      have hlen := chainTo_len n k k0
      have hsucc := Lib.hid (chainTo_succ n k k0)
      go_wp2_with (first
        | (go_at_call 105; refine (power_any _ _ (by omega) (by omega)).mono ?_; rintro e w' ⟨rfl, rfl⟩)
        | (at_builtin; refine wpList_append_own _ rfl _ _ 23 rfl w.heap.size 3 i0 (.int .i64 0) 1 8 Try.underlying23 hi hz0 hz1 hz2 rfl (by decide) _ _ _ rfl (World.ownsRow.alloc hown _) ⟨wr.heap.size, 0, none⟩ 1 1 [.int .i64 (pw n - pw k)] rfl rfl (cell_one_new _ _ _) (fun x hx => by simp at hx; subst hx; rfl) (by unfold maxLen; omega) (by omega) (by have := hbel.size; simp; omega) ?_; intro v' w1 hown1 hgrow _))
      go_roundw
      case rel => exact ⟨k + 1, by omega, by omega, rfl, by unfold Own; rw [hsucc.out, List.map_append, List.length_append]; exact hown1, (hbel.alloc hbel.size _).grown hgrow (by have := hbel.size; simp; omega) (fun q hq => (World.ownsRow.lt hown q hq).1)⟩
      case measure => simp [intOf]; omega
    · have e : k = n := by omega
      subst e
      go_wp2
      go_ret
      exact ⟨_, rfl, hown, hbel⟩
end Go.Proofs.Ytbellklaoecpbaa
