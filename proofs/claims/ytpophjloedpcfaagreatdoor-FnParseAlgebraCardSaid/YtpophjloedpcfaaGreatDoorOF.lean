import Derived.Test.YtpophjloedpcfaaGreatDoorZ8
namespace Go.Proofs.YtpophjloedpcfaaGreatDoor
open Go.RowKit

theorem box_drawn {w w' : World} {b g : Nat} {o : Obj} (h : w.heap[b]? = some o) (hb : b ≠ g) (hg : w.grownBy w' (some g)) : w'.heap[b]? = some o := (hg.block b (lt_of_block h) (fun e => hb (by injection e))).trans h
theorem box_drawn2 {w w' : World} {b g : Nat} {o : Obj} (hg : w.grownBy w' (some g)) (hb : b ≠ g) (h : w.heap[b]? = some o) : w'.heap[b]? = some o := box_drawn h hb hg
set_option maxRecDepth 100000 in
set_option maxHeartbeats 2000000 in
/-- spec.of -/
theorem of_any (C g : Nat) (m : Int) (q : Nat) (S : List ByteArray) (w : World) (hr : Rdr w C g m) (m1 : m ≤ 100000) (hq : w.heap[q]? = some (.cells (S.map Value.string).toArray 9 (0, 0))) (nq : q ≠ g) (l1 : 1 ≤ S.length) (l2 : S.length ≤ 1000) :
    Calls Tryz.prog 45 #[.pointer (some ⟨g, 0, none⟩), .slice (some ⟨q, 0, none⟩) S.length S.length] w fun e w' => ∃ s ∈ S, e = .returned (.string s) ∧ w.grownBy w' (some g) ∧ Rdr w' C g (m + 1) := by
  have l3 : (1 : Int) ≤ S.length := by omega
  have l4 : (S.length : Int) ≤ 1073741824 := by omega
  go_enter Tryz.func45, Tryz.ntmps45
  go_wp2_with fail
  refine (pick_any C g m S.length w hr m1 l3 l4).mono ?_
  rintro e w1 ⟨k, rfl, k0, k1, hg, hr1⟩
  have hq1 := box_drawn2 (b := q) hg nq hq
  have c1 : w1.cell? ⟨q, k.toNat, none⟩ = some (.string (S.getD k.toNat ⟨#[]⟩)) := by
    rw [cell_of_row w1 q _ _ _ _ hq1]
    simp [List.getElem?_eq_getElem (show k.toNat < S.length by omega)]
  have hm : S.getD k.toNat ⟨#[]⟩ ∈ S := by
    rw [List.getD_eq_getElem?_getD, List.getElem?_eq_getElem (show k.toNat < S.length by omega)]
    exact List.getElem_mem _
  obtain ⟨s, hs⟩ : ∃ s, s = S.getD k.toNat ⟨#[]⟩ := ⟨_, rfl⟩
  rw [← hs] at c1 hm
  clear hs hq hq1
  go_wp2
  go_ret
  exact ⟨s, hm, rfl, hg, hr1⟩
def prNames : List ByteArray := [(⟨#[112, 114, 101, 108, 105, 110, 101, 97, 114]⟩ : ByteArray), (⟨#[100, 105, 118, 105, 115, 105, 98, 108, 101]⟩ : ByteArray), (⟨#[105, 110, 118, 111, 108, 117, 116, 105, 118, 101]⟩ : ByteArray), (⟨#[105, 100, 101, 109, 112, 111, 116, 101, 110, 116]⟩ : ByteArray), (⟨#[98, 111, 111, 108, 101, 97, 110]⟩ : ByteArray), (⟨#[100, 105, 118, 105, 115, 105, 98, 108, 101]⟩ : ByteArray), (⟨#[105, 110, 118, 111, 108, 117, 116, 105, 118, 101]⟩ : ByteArray), (⟨#[]⟩ : ByteArray)]
end Go.Proofs.YtpophjloedpcfaaGreatDoor
