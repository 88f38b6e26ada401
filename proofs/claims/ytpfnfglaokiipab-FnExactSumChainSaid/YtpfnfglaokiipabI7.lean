import Derived.Test.YtpfnfglaokiipabI6
import Derived.Deep.LoopGhost
namespace Go.Proofs.Ytpfnfglaokiipab
open Go.RowKit

set_option maxRecDepth 100000 in
set_option maxHeartbeats 1000000 in
theorem readOrder_len (a : Option Addr) (cap : Nat) (L : List Int) (w : World) (hl : num L < 1 ∨ 6 < num L) :
    Calls Try.prog 102 #[.slice a L.length cap] w fun e w' =>
      e = .returned (.tuple #[.agg (tab2 (bv zeroG)), .bool false]) ∧ Below w.heap.size w w' := by
  have hl2 : (L.length : Int) < 1 ∨ 6 < (L.length : Int) := hl
  clear hl
  have hb0 : Blk ((w.alloc (.cells (tab2 (bv zeroG)) 55)).alloc (.cells (tab2 (bv zeroG)) 55)) w.heap.size 55 (bv zeroG) := (Blk.new (f := bv zeroG) w rfl).alloc _
  rcases hl2 with h | h
  · go_enter Try.func102, Try.ntmps102
    go_wp2_with (refine wpList_store_row rfl 55 _ _ rfl w.heap.size (tab2 (bv zeroG)) rfl rfl _ _ hb0.heap (size_order _) rfl (one_bv _) ?_)
    refine bodyPost_ret (v := .tuple #[.agg (tab2 (bv zeroG)), .bool false]) (results_cell_tmp' rfl _ _ w.heap.size rfl _ (hb0.row _).heap rfl) rfl ⟨rfl, below_setRow' (((Below.refl _ _).alloc (Nat.le_refl _) _).alloc (by simp) _) (Nat.le_refl _) _⟩
  · have h' : ¬ (L.length : Int) < 1 := by omega
    go_enter Try.func102, Try.ntmps102
    go_wp2_with (refine wpList_store_row rfl 55 _ _ rfl w.heap.size (tab2 (bv zeroG)) rfl rfl _ _ hb0.heap (size_order _) rfl (one_bv _) ?_)
    refine bodyPost_ret (v := .tuple #[.agg (tab2 (bv zeroG)), .bool false]) (results_cell_tmp' rfl _ _ w.heap.size rfl _ (hb0.row _).heap rfl) rfl ⟨rfl, below_setRow' (((Below.refl _ _).alloc (Nat.le_refl _) _).alloc (by simp) _) (Nat.le_refl _) _⟩

/-- a finder of meets, as a function value: what it has captured lies in two blocks -/
def finder (B : Nat) : Value := .func (.func 121) #[] #[.pointer (some ⟨B + 1, 0, none⟩), .pointer (some ⟨B, 0, none⟩)]

set_option maxRecDepth 100000 in
set_option maxHeartbeats 1000000 in
theorem meetFinder_any (g : Int → Int → Bool) (n : Int) (w : World) :
    Calls Try.prog 106 #[.agg (tab2 (bv g)), .int .i64 n] w fun e w' => e = .returned (finder w.heap.size) ∧ (w.alloc (.cells (tab2 (bv g)) 55)).alloc (.cells #[.int .i64 n] 3) = w' := by
  go_enter Try.func106, Try.ntmps106
  go_wp2
  go_ret
  exact ⟨rfl, rfl⟩

def fmR (g : Int → Int → Bool) (x y z o : Int) : Bool := !(g o x && g o y && !g o z)
def fmQ (g : Int → Int → Bool) (n x y z : Int) : Bool := g z x && g z y && allI n (fmR g x y z)
def fmI (g : Int → Int → Bool) (n x y : Int) : Int := if firstI n (fmQ g n x y) < 0 then 0 else firstI n (fmQ g n x y)
def fmB (g : Int → Int → Bool) (n x y : Int) : Bool := decide (0 ≤ firstI n (fmQ g n x y))

set_option maxRecDepth 100000 in
set_option maxHeartbeats 1000000 in
theorem finder_any (g : Int → Int → Bool) (n x y : Int) (B : Nat) (w : World) (hb : Blk w B 55 (bv g)) (hs : w.heap[B + 1]? = some (.cells #[.int .i64 n] 3 (0, 0))) (n0 : 0 ≤ n) (n6 : n ≤ 6) (x0 : 0 ≤ x) (x1 : x < n) (y0 : 0 ≤ y) (y1 : y < n) :
    Calls Try.prog 121 #[.int .i64 x, .int .i64 y, .pointer (some ⟨B + 1, 0, none⟩), .pointer (some ⟨B, 0, none⟩)] w fun e w' => e = .returned (.tuple #[.int .i64 (fmI g n x y), .bool (fmB g n x y)]) ∧ w = w' := by
  have cs := cell_of_one hs
  have hI : ∀ z, firstI n (fmQ g n x y) = z → 0 ≤ z → fmI g n x y = z ∧ fmB g n x y = true := fun z h hz => by
    unfold fmI fmB; rw [h, if_neg (by omega), decide_eq_true hz]; exact ⟨rfl, rfl⟩
  have hN : firstI n (fmQ g n x y) = -1 → fmI g n x y = 0 ∧ fmB g n x y = false := fun h => by
    unfold fmI fmB; rw [h]; exact ⟨rfl, rfl⟩
  have HI := Lib.hid hI
  have HN := Lib.hid hN
  clear hI hN
  go_enter Try.func121, Try.ntmps121
  go_wp2
  go_step3
  go_wp2
  go_step3
  go_wp2
  go_loopg [8, 9, 11] n.toNat (fun gh _ _ c wr => ∃ k : Int, 0 ≤ k ∧ k + gh = n ∧ c = .int .i64 k ∧ NoneTo k (fmQ g n x y) ∧ w = wr)
  case atStart => exact ⟨0, by omega, by omega, rfl, NoneTo.zero _, rfl⟩
  case round =>
    obtain ⟨k, k0, k1, rfl, hno, rfl⟩ := hrel
    obtain ⟨gh, rfl⟩ : ∃ gh : Nat, gh = gk := ⟨_, rfl⟩
    by_cases hk : k < n
    · have hq := Lib.hid (show fmQ g n x y k = (g k x && g k y && allI n (fmR g x y k)) from rfl)
      have c0 : w.cell? ⟨B, k.toNat * 6 + x.toNat, none⟩ = some (.bool (g k x)) := hb.cell k0 (by omega) x0 (by omega)
      have c1 : w.cell? ⟨B, k.toNat * 6 + y.toNat, none⟩ = some (.bool (g k y)) := hb.cell k0 (by omega) y0 (by omega)
      cases hA : g k x <;> cases hB : g k y
      all_goals rw [hA, hB] at hq
      case true.true =>
        go_wp2
        go_loopg [9, 29] n.toNat (fun gi _ c wr => ∃ j : Int, 0 ≤ j ∧ j + gi = n ∧ c = .int .i64 j ∧ AllTo j (fmR g x y k) ∧ w = wr)
        case atStart => exact ⟨0, by omega, by omega, rfl, AllTo.zero _, rfl⟩
        case round =>
          obtain ⟨j, j0, j1, rfl, hal, rfl⟩ := hrel
          by_cases hj : j < n
          · have d0 : w.cell? ⟨B, j.toNat * 6 + x.toNat, none⟩ = some (.bool (g j x)) := hb.cell j0 (by omega) x0 (by omega)
            have d1 : w.cell? ⟨B, j.toNat * 6 + y.toNat, none⟩ = some (.bool (g j y)) := hb.cell j0 (by omega) y0 (by omega)
            have d2 : w.cell? ⟨B, j.toNat * 6 + k.toNat, none⟩ = some (.bool (g j k)) := hb.cell j0 (by omega) k0 (by omega)
            have hr := Lib.hid (show fmR g x y k j = !(g j x && g j y && !g j k) from rfl)
            clear hA hB c0 c1
            cases hC : g j x <;> cases hD : g j y <;> cases hE : g j k
            all_goals rw [hC, hD, hE] at hr
            case true.true.false =>
              have hq2 : fmQ g n x y k = false := by rw [hq.out, allI_false j j0 hj hr.out]; rfl
              have HQ := Lib.hid hq2; clear hq2
              go_wp2
              go_roundg (gh - 1)
              case measure => omega
              case rel => exact ⟨k + 1, by omega, by omega, rfl, hno.succ HQ.out, rfl⟩
            all_goals
              go_wp2
              go_roundg (gk - 1)
              case measure => omega
              case rel => exact ⟨j + 1, by omega, by omega, rfl, hal.succ hr.out, rfl⟩
          · have hq2 : fmQ g n x y k = true := by rw [hq.out, hal.all (by omega : n ≤ j)]; rfl
            have hf := HI.out k (firstI_some k0 hk hno hq2) k0
            have HF := Lib.hid hf; clear hf hq2
            clear hA hB
            go_wp2
            (try rw [Exit.noGoto_ret])
            go_ret2
            exact ⟨by rw [HF.out.1, HF.out.2]; rfl, rfl⟩
      all_goals
        go_wp2
        go_roundg (gh - 1)
        case measure => omega
        case rel => exact ⟨k + 1, by omega, by omega, rfl, hno.succ hq.out, rfl⟩
    · have hf := HN.out (firstI_none fun j h0 h1 => hno j h0 (by omega))
      have HF := Lib.hid hf; clear hf
      go_wp2
      (try rw [Exit.noGoto_ret])
      go_ret2
      exact ⟨by rw [HF.out.1, HF.out.2]; rfl, rfl⟩
end Go.Proofs.Ytpfnfglaokiipab
