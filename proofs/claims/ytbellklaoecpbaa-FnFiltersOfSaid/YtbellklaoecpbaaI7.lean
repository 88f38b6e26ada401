import Derived.Test.YtbellklaoecpbaaS1
import Derived.BigQuiet
import Derived.Deep.RegionWith
import Derived.Deep.LoopGhost
namespace Go.Proofs.Ytbellklaoecpbaa
open Go.RowKit

/-- the order that the numbers are read as -/
def ordG (L : List Int) (a b : Int) : Bool := decide (a < num L) && decide (b < num L) && bl L a b
def zeroG (_ _ : Int) : Bool := false
def readG (L : List Int) : Int → Int → Bool := if allI (num L) (inR L) then ordG L else zeroG
theorem readG_t {L : List Int} (h : allI (num L) (inR L) = true) : readG L = ordG L := by unfold readG; rw [if_pos h]
theorem readG_f {L : List Int} (h : allI (num L) (inR L) = false) : readG L = zeroG := by unfold readG; rw [if_neg (by rw [h]; decide)]
/-- the results of a function that hands back such an array and a bool -/
theorem results_cell_tmp' {fn : Func} {p u : Tmp} (h : fn.results = #[.cell p 56, .tmp u]) (tmps : Array Value) (w : World) (g : Nat) (hp : tmps.getD p undef = .pointer (some ⟨g, 0, none⟩))
    (f : Int → Int → Value) {v : Value} (hg : w.heap[g]? = some (.cells (tab2 f) 56 (0, 0))) (hu : tmps.getD u undef = v) :
    (results fn tmps).run Try.prog w = .ok (.tuple #[.agg (tab2 f), v]) w := by
  have hp' : tmps[p]?.getD undef = .pointer (some ⟨g, 0, none⟩) := by simpa using hp
  have hu' : tmps[u]?.getD undef = v := by simpa using hu
  have hl := run_loadVar_row (P := Try.prog) w g _ 56 _ _ _ hg Try.underlying56 rfl (size_order f)
  simp [results, h, hp', hu', asAddr, hl]
set_option maxRecDepth 100000 in
set_option maxHeartbeats 2000000 in
theorem readOrder_six (b off cap : Nat) (L : List Int) (w : World) (hc : Cells w b off L) (hlt : b < w.heap.size) (h1 : 1 ≤ num L) (h6 : num L ≤ 6) :
    Calls Try.prog 114 #[.slice (some ⟨b, off, none⟩) L.length cap] w fun e w' =>
      e = .returned (.tuple #[.agg (tab2 (bv (readG L))), .bool (allI (num L) (inR L))]) ∧ Below w.heap.size w w' := by
  have hn : num L = L.length := rfl
  have HN := Lib.hid hn; clear hn
  have hn1 : num L ≤ L.length := by rw [HN.out]; omega
  have hn2 : (L.length : Int) ≤ num L := by rw [HN.out]; omega
  have hw := wrap_pw L.length (by omega)
  have hr : ∀ k, inR L k = (decide (0 ≤ nth L k) && decide (nth L k ≤ pw L.length - 1)) := fun k => rfl
  have HR := Lib.hid hr; clear hr
  go_enter Try.func114, Try.ntmps114
  go_wp2
  go_loopw [5, 6, 7, 19] (fun _ _ _ c wr => ∃ k : Int, 0 ≤ k ∧ k ≤ num L ∧ c = .int .i64 k ∧ AllTo k (inR L) ∧ Blk wr (w.heap.size + 1) 56 (upTo2 k 0 (bv (ordG L)) (bv zeroG)) ∧ Blk wr w.heap.size 56 (bv zeroG) ∧ Below w.heap.size w wr)
    (fun _ _ _ c _ => (6 - intOf c).toNat)
  case atStart =>
    refine ⟨0, by omega, by omega, rfl, AllTo.zero _, (Blk.mk' (f := bv zeroG) ?_ ?_).congr fun a b a0 _ b0 _ => (upTo2_start (bv (ordG L)) (bv zeroG) a0 b0).symm, (Blk.new (f := bv zeroG) w rfl).alloc _, ((Below.refl _ _).alloc (Nat.le_refl _) _).alloc (by simp) _⟩
    · simp
    · rfl
  case round =>
    obtain ⟨k, k0, k1, rfl, ha, hb, hb0, hbel⟩ := hrel
    by_cases hk : k < num L
    · have c1 := hc.at k k0 hk
      have c2 : wr.cell? ⟨b, off + k.toNat, none⟩ = some (.int .i64 (nth L k)) := by rw [hbel.cell (by exact hlt)]; exact c1
      clear c1
      have hkl : k < L.length := by omega
      by_cases hbad : nth L k < 0 ∨ pw L.length ≤ nth L k
      · have hv : inR L k = false := by rw [HR.out, Bool.and_eq_false_iff, decide_eq_false_iff_not, decide_eq_false_iff_not]; omega
        have hv2 := allI_false k k0 hk hv
        have e1 := Lib.hid hv2
        have e2 := Lib.hid (readG_f hv2)
        clear hv hv2
        have hso := Lib.hid (show soB L.length (nth L k) = false by unfold soB; rw [Bool.and_eq_false_iff, decide_eq_false_iff_not, decide_eq_false_iff_not]; omega)
        clear hbad
        go_wp2_with (first | (go_at_call 135; refine (isSetOf_is L.length (nth L k) _ (by omega) (by omega) hso.out).mono ?_; rintro e w' ⟨rfl, rfl⟩) | (refine wpList_store_row rfl 56 _ _ rfl w.heap.size (tab2 (bv zeroG)) rfl rfl _ _ hb0.heap (size_order _) rfl (one_bv _) ?_))
        refine bodyPost_ret (v := .tuple #[.agg (tab2 (bv zeroG)), .bool false]) (results_cell_tmp' rfl _ _ w.heap.size rfl _ (hb0.row _).heap rfl) rfl ⟨by rw [e1.out, e2.out], below_setRow' hbel (Nat.le_refl _) _⟩
      · have hg1 : 0 ≤ nth L k := by omega
        have hg2 : nth L k < pw L.length := by omega
        have hv : inR L k = true := by rw [HR.out, Bool.and_eq_true, decide_eq_true_eq, decide_eq_true_eq]; omega
        have HV := Lib.hid hv
        have p6 : pw L.length ≤ 64 := pw_mono L.length 6 (by omega)
        have hso := Lib.hid (show soB L.length (nth L k) = true by unfold soB; rw [Bool.and_eq_true, decide_eq_true_eq, decide_eq_true_eq]; omega)
        clear hv hbad
        go_wp2_with (go_at_call 135; refine (isSetOf_is L.length (nth L k) _ (by omega) (by omega) hso.out).mono ?_; rintro e w' ⟨rfl, rfl⟩)
        obtain ⟨w0, rfl⟩ : ∃ w0 : World, w0 = wr := ⟨_, rfl⟩
        go_loopw [7, 32] (fun _ c wr => ∃ j : Int, 0 ≤ j ∧ j ≤ num L ∧ c = .int .i64 j ∧ Blk wr (w.heap.size + 1) 56 (upTo2 k j (bv (ordG L)) (bv zeroG)) ∧ Blk wr w.heap.size 56 (bv zeroG) ∧ Below w.heap.size w wr)
          (fun _ c _ => (6 - intOf c).toNat)
        case atStart => exact ⟨0, by omega, by omega, rfl, hb, hb0, hbel⟩
        case round =>
          obtain ⟨j, j0, j1, rfl, hb, hb0, hbel⟩ := hrel
          by_cases hj : j < num L
          · have hjl : j < L.length := by omega
            have c1 : wr.cell? ⟨w.heap.size + 1, k.toNat * 6 + j.toNat, none⟩ = some (upTo2 k j (bv (ordG L)) (bv zeroG) k j) := hb.cell k0 (by omega) j0 (by omega)
            have f1 := hb.free (k.toNat * 6 + j.toNat)
            go_wp2
            go_region_with (go_at_call 132; refine (isIn_is j (nth L k) _ j0 (by omega) hg1 (by omega) (bl_ib L k j)).mono ?_; rintro e w' ⟨rfl, rfl⟩)
            all_goals
              go_wp2
              go_roundw
              case rel => exact ⟨j + 1, by omega, by omega, rfl, ((hb.set _ k0 (by omega) j0 (by omega)).drew).congr fun a b a0 a1 b0 b1 => upTo2_step (by unfold bv ordG; rw [decide_eq_true hk, decide_eq_true hj]; rfl) a b, (hb0.other _ (by simp)).drew, (hbel.setCell (by simp) _).drew⟩
              case measure => simp [intOf]; omega
          · go_wp2
            go_roundw
            case rel =>
              refine ⟨k + 1, by omega, by omega, rfl, ha.succ HV.out, hb.congr fun a b a0 a1 b0 b1 => ?_, hb0, hbel⟩
              unfold upTo2
              by_cases h : a < k ∨ (a = k ∧ b < j)
              · rw [if_pos h, if_pos (by omega)]
              · rw [if_neg h]
                by_cases h2 : a < k + 1 ∨ (a = k + 1 ∧ b < 0)
                · rw [if_pos h2]; unfold bv ordG zeroG
                  rw [decide_eq_false (show ¬ b < num L by omega)]; simp
                · rw [if_neg h2]
            case measure => simp [intOf]; omega
    · have hall := ha.all (by omega : num L ≤ k)
      have e1 := Lib.hid hall
      have e2 := Lib.hid (readG_t hall)
      clear hall
      replace hb : Blk wr (w.heap.size + 1) 56 (bv (ordG L)) := hb.congr fun a b a0 a1 b0 b1 => by
        unfold upTo2
        by_cases h : a < k ∨ (a = k ∧ b < 0)
        · rw [if_pos h]
        · rw [if_neg h]; unfold bv ordG zeroG
          rw [decide_eq_false (show ¬ a < num L by omega)]; rfl
      go_wp2_with (first | (refine wpList_load_row rfl 56 _ rfl (w.heap.size + 1) rfl _ _ _ _ hb.heap Try.underlying56 rfl (size_order _) ?_) | (refine wpList_store_row rfl 56 _ _ rfl w.heap.size _ rfl rfl _ _ hb0.heap (size_order _) rfl (one_bv _) ?_))
      refine bodyPost_ret (v := .tuple #[.agg (tab2 (bv (ordG L))), .bool true]) (results_cell_tmp' rfl _ _ w.heap.size rfl _ (hb0.row _).heap rfl) rfl ⟨by rw [e1.out, e2.out], below_setRow' hbel (Nat.le_refl _) _⟩
end Go.Proofs.Ytbellklaoecpbaa

namespace Go.Proofs.Ytbellklaoecpbaa
open Go.RowKit

set_option maxRecDepth 100000 in
set_option maxHeartbeats 1000000 in
theorem readOrder_len (a : Option Addr) (cap : Nat) (L : List Int) (w : World) (hl : num L < 1 ∨ 6 < num L) :
    Calls Try.prog 114 #[.slice a L.length cap] w fun e w' =>
      e = .returned (.tuple #[.agg (tab2 (bv zeroG)), .bool false]) ∧ Below w.heap.size w w' := by
  have hl2 : (L.length : Int) < 1 ∨ 6 < (L.length : Int) := hl
  clear hl
  have hb0 : Blk ((w.alloc (.cells (tab2 (bv zeroG)) 56)).alloc (.cells (tab2 (bv zeroG)) 56)) w.heap.size 56 (bv zeroG) := (Blk.new (f := bv zeroG) w rfl).alloc _
  rcases hl2 with h | h
  · go_enter Try.func114, Try.ntmps114
    go_wp2_with (refine wpList_store_row rfl 56 _ _ rfl w.heap.size (tab2 (bv zeroG)) rfl rfl _ _ hb0.heap (size_order _) rfl (one_bv _) ?_)
    refine bodyPost_ret (v := .tuple #[.agg (tab2 (bv zeroG)), .bool false]) (results_cell_tmp' rfl _ _ w.heap.size rfl _ (hb0.row _).heap rfl) rfl ⟨rfl, below_setRow' (((Below.refl _ _).alloc (Nat.le_refl _) _).alloc (by simp) _) (Nat.le_refl _) _⟩
  · have h' : ¬ (L.length : Int) < 1 := by omega
    go_enter Try.func114, Try.ntmps114
    go_wp2_with (refine wpList_store_row rfl 56 _ _ rfl w.heap.size (tab2 (bv zeroG)) rfl rfl _ _ hb0.heap (size_order _) rfl (one_bv _) ?_)
    refine bodyPost_ret (v := .tuple #[.agg (tab2 (bv zeroG)), .bool false]) (results_cell_tmp' rfl _ _ w.heap.size rfl _ (hb0.row _).heap rfl) rfl ⟨rfl, below_setRow' (((Below.refl _ _).alloc (Nat.le_refl _) _).alloc (by simp) _) (Nat.le_refl _) _⟩

/-- a finder of meets, as a function value: what it has captured lies in two blocks -/
def finder (B : Nat) : Value := .func (.func 154) #[] #[.pointer (some ⟨B + 1, 0, none⟩), .pointer (some ⟨B, 0, none⟩)]

set_option maxRecDepth 100000 in
set_option maxHeartbeats 1000000 in
theorem meetFinder_any (g : Int → Int → Bool) (n : Int) (w : World) :
    Calls Try.prog 118 #[.agg (tab2 (bv g)), .int .i64 n] w fun e w' => e = .returned (finder w.heap.size) ∧ (w.alloc (.cells (tab2 (bv g)) 56)).alloc (.cells #[.int .i64 n] 3) = w' := by
  go_enter Try.func118, Try.ntmps118
  go_wp2
  go_ret
  exact ⟨rfl, rfl⟩

def fmR (g : Int → Int → Bool) (x y z o : Int) : Bool := !(g o x && g o y && !g o z)
def fmQ (g : Int → Int → Bool) (n x y z : Int) : Bool := g z x && g z y && allI n (fmR g x y z)
def fmI (g : Int → Int → Bool) (n x y : Int) : Int := if firstI n (fmQ g n x y) < 0 then 0 else firstI n (fmQ g n x y)
def fmB (g : Int → Int → Bool) (n x y : Int) : Bool := decide (0 ≤ firstI n (fmQ g n x y))

set_option maxRecDepth 100000 in
set_option maxHeartbeats 1000000 in
theorem finder_any (g : Int → Int → Bool) (n x y : Int) (B : Nat) (w : World) (hb : Blk w B 56 (bv g)) (hs : w.heap[B + 1]? = some (.cells #[.int .i64 n] 3 (0, 0))) (n0 : 0 ≤ n) (n6 : n ≤ 6) (x0 : 0 ≤ x) (x1 : x < n) (y0 : 0 ≤ y) (y1 : y < n) :
    Calls Try.prog 154 #[.int .i64 x, .int .i64 y, .pointer (some ⟨B + 1, 0, none⟩), .pointer (some ⟨B, 0, none⟩)] w fun e w' => e = .returned (.tuple #[.int .i64 (fmI g n x y), .bool (fmB g n x y)]) ∧ w = w' := by
  have cs := cell_of_one hs
  have hI : ∀ z, firstI n (fmQ g n x y) = z → 0 ≤ z → fmI g n x y = z ∧ fmB g n x y = true := fun z h hz => by
    unfold fmI fmB; rw [h, if_neg (by omega), decide_eq_true hz]; exact ⟨rfl, rfl⟩
  have hN : firstI n (fmQ g n x y) = -1 → fmI g n x y = 0 ∧ fmB g n x y = false := fun h => by
    unfold fmI fmB; rw [h]; exact ⟨rfl, rfl⟩
  have HI := Lib.hid hI
  have HN := Lib.hid hN
  clear hI hN
  go_enter Try.func154, Try.ntmps154
  go_wp2
  go_step3
  go_wp2
  go_step3
  go_wp2
  go_loopg [8, 9, 11] n.toNat (fun gh _ _ c wr => ∃ k : Int, 0 ≤ k ∧ k + gh = n ∧ c = .int .i64 k ∧ NoneTo k (fmQ g n x y) ∧ w = wr)
  case atStart => exact ⟨0, by omega, by omega, rfl, NoneTo.zero _, rfl⟩
  case round =>
    obtain ⟨k, k0, k1, rfl, hno, rfl⟩ := hrel
    obtain ⟨gh, rfl⟩ : ∃ gh : Nat, gh = gk := ⟨_, rfl⟩
    by_cases hk : k < n
    · have hq := Lib.hid (show fmQ g n x y k = (g k x && g k y && allI n (fmR g x y k)) from rfl)
      have c0 : w.cell? ⟨B, k.toNat * 6 + x.toNat, none⟩ = some (.bool (g k x)) := hb.cell k0 (by omega) x0 (by omega)
      have c1 : w.cell? ⟨B, k.toNat * 6 + y.toNat, none⟩ = some (.bool (g k y)) := hb.cell k0 (by omega) y0 (by omega)
      cases hA : g k x <;> cases hB : g k y
      all_goals rw [hA, hB] at hq
      case true.true =>
        go_wp2
        go_loopg [9, 29] n.toNat (fun gi _ c wr => ∃ j : Int, 0 ≤ j ∧ j + gi = n ∧ c = .int .i64 j ∧ AllTo j (fmR g x y k) ∧ w = wr)
        case atStart => exact ⟨0, by omega, by omega, rfl, AllTo.zero _, rfl⟩
        case round =>
          obtain ⟨j, j0, j1, rfl, hal, rfl⟩ := hrel
          by_cases hj : j < n
          · have d0 : w.cell? ⟨B, j.toNat * 6 + x.toNat, none⟩ = some (.bool (g j x)) := hb.cell j0 (by omega) x0 (by omega)
            have d1 : w.cell? ⟨B, j.toNat * 6 + y.toNat, none⟩ = some (.bool (g j y)) := hb.cell j0 (by omega) y0 (by omega)
            have d2 : w.cell? ⟨B, j.toNat * 6 + k.toNat, none⟩ = some (.bool (g j k)) := hb.cell j0 (by omega) k0 (by omega)
            have hr := Lib.hid (show fmR g x y k j = !(g j x && g j y && !g j k) from rfl)
            clear hA hB c0 c1
            cases hC : g j x <;> cases hD : g j y <;> cases hE : g j k
            all_goals rw [hC, hD, hE] at hr
            case true.true.false =>
              have hq2 : fmQ g n x y k = false := by rw [hq.out, allI_false j j0 hj hr.out]; rfl
              have HQ := Lib.hid hq2; clear hq2
              go_wp2
              go_roundg (gh - 1)
              case measure => omega
              case rel => exact ⟨k + 1, by omega, by omega, rfl, hno.succ HQ.out, rfl⟩
            all_goals
              go_wp2
              go_roundg (gk - 1)
              case measure => omega
              case rel => exact ⟨j + 1, by omega, by omega, rfl, hal.succ hr.out, rfl⟩
          · have hq2 : fmQ g n x y k = true := by rw [hq.out, hal.all (by omega : n ≤ j)]; rfl
            have hf := HI.out k (firstI_some k0 hk hno hq2) k0
            have HF := Lib.hid hf; clear hf hq2
            clear hA hB
            go_wp2
            (try rw [Exit.noGoto_ret])
            go_ret2
            exact ⟨by rw [HF.out.1, HF.out.2]; rfl, rfl⟩
      all_goals
        go_wp2
        go_roundg (gh - 1)
        case measure => omega
        case rel => exact ⟨k + 1, by omega, by omega, rfl, hno.succ hq.out, rfl⟩
    · have hf := HN.out (firstI_none fun j h0 h1 => hno j h0 (by omega))
      have HF := Lib.hid hf; clear hf
      go_wp2
      (try rw [Exit.noGoto_ret])
      go_ret2
      exact ⟨by rw [HF.out.1, HF.out.2]; rfl, rfl⟩
end Go.Proofs.Ytbellklaoecpbaa
