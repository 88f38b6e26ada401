import Derived.Test.YtpfnfglaokiipaaK1
import Derived.Test.YtpfnfglaokiipaaL5
namespace Go.Proofs.Ytpfnfglaokiipaa
open Go.RowKit

/-- the elements are those of the lattice -/
def inE (L E : List Int) (j : Int) : Bool := decide (0 ≤ nth E j) && decide (nth E j < L.length)
def withB (L E : List Int) : Bool := allI E.length (inE L E)
theorem withB_f {L E : List Int} {k : Int} (k0 : 0 ≤ k) (hk : k < E.length) (h : inE L E k = false) : withB L E = false := allI_false (p := inE L E) k k0 hk h
set_option maxRecDepth 100000 in
set_option maxHeartbeats 1000000 in
/-- impl.lattice.has -/
theorem has_any (a2 : Option Addr) (c2 : Nat) (L E : List Int) (w : World) (hr2 : Rd w a2 E) (hE : E.length ≤ 16) :
    Calls Try.prog 83 #[.agg (latOf L), .slice a2 E.length c2] w fun e w' => e = .returned (.bool (withB L E)) ∧ Below w.heap.size w w' := by
  have hB : Below w.heap.size w (w.alloc (.cells (latOf L) 45)) := (Below.refl _ _).alloc (Nat.le_refl _) _
  have hL : LatAt (w.alloc (.cells (latOf L) 45)) w.heap.size L := LatAt.new w L
  obtain ⟨w2, hw2⟩ : ∃ w2, w2 = w.alloc (.cells (latOf L) 45) := ⟨_, rfl⟩
  rw [← hw2] at hB hL
  have hr3 : Rd w2 a2 E := hr2.below hB
  have cs := hL.size
  go_enter Try.func83, Try.ntmps83
  go_wp2
  rw [← hw2]
  clear hw2
  go_loopw [6, 9] (fun _ c wr => ∃ k : Int, 0 ≤ k ∧ k ≤ E.length ∧ c = .int .i64 k ∧ AllTo k (inE L E) ∧ w2 = wr) (fun _ c _ => ((E.length : Int) - intOf c).toNat)
  case atStart => exact ⟨0, by omega, by omega, rfl, AllTo.zero _, rfl⟩
  case round =>
    obtain ⟨k, k0, k1, rfl, ha, rfl⟩ := hrel
    by_cases hk : k < E.length
    · obtain ⟨b2, o2, rfl, hc2⟩ := hr3 (by intro e; rw [e] at hk; simp at hk; omega)
      have d2 := hc2.at k k0 hk
      have hi := Lib.hid (show inE L E k = (decide (0 ≤ nth E k) && decide (nth E k < L.length)) from rfl)
      by_cases hn : nth E k < 0
      · have hf := Lib.hid (withB_f k0 hk (by rw [hi.out, decide_eq_false (by omega)]; rfl))
        go_wp2
        go_ret
        exact ⟨ret_bool (by rw [hf.out]), hB⟩
      · by_cases hn2 : (L.length : Int) ≤ nth E k
        · have hf := Lib.hid (withB_f k0 hk (by rw [hi.out, decide_eq_false (show ¬ nth E k < L.length by omega)]; simp))
          go_wp2
          go_ret
          exact ⟨ret_bool (by rw [hf.out]), hB⟩
        · have ht := Lib.hid (show inE L E k = true by rw [hi.out, decide_eq_true (by omega), decide_eq_true (by omega)]; rfl)
          go_wp2
          go_roundw
          case rel => exact ⟨k + 1, by omega, by omega, rfl, ha.succ ht.out, trivial⟩
          case measure => simp [intOf]; omega
    · have hf := Lib.hid (show withB L E = true from ha.all (by omega : (E.length : Int) ≤ k))
      go_wp2
      go_ret
      exact ⟨ret_bool (by rw [hf.out]), hB⟩

theorem ret_below {f : FuncId} {args : Array Value} {w : World} {r r' : Bool} (h : Calls Try.prog f args w fun e w' => e = .returned (.bool r) ∧ Below w.heap.size w w') (hr : r = r') : Calls Try.prog f args w fun e w' => e = .returned (.bool r') ∧ Below w.heap.size w w' := by
  subst hr; exact h

end Go.Proofs.Ytpfnfglaokiipaa
