import Derived.Test.YtpophjloedpcfaaGreatDoorI5
import Derived.Test.YtpophjloedpcfaaGreatDoorM5
import Derived.BigQuiet
import Derived.Deep.RegionWith
import Derived.Deep.LoopGhost
import Derived.Test.YtpophjloedpcfaaGreatDoorA5
import Derived.Test.YtpophjloedpcfaaGreatDoorL5
namespace Go.Proofs.YtpophjloedpcfaaGreatDoor
open Go.RowKit

theorem wrap_pw (n : Nat) (h : n ≤ 30) : wrap64 (2 ^ n) = pw n := by
  rw [← pw_nat]
  have p1 := pw_30 n (by omega)
  have p2 := pw_pos n
  exact IntWalk.wrap64_in _ ⟨by omega, by omega⟩
theorem wrap_pwT (y : Int) (h : y ≤ 30) : wrap64 (2 ^ y.toNat) = pw y := by
  have p1 := pw_30 y h
  have p2 := pw_pos y
  exact IntWalk.wrap64_in (pw y) ⟨by omega, by omega⟩
/-- 'v&1' -/
theorem and1 (v : Int) (h0 : 0 ≤ v) (h1 : v ≤ 1073741824) : bits BinOp.and IntKind.i64 v 1 = v % 2 := by
  have t63 : (2 : Int) ^ 63 = 9223372036854775808 := by decide
  have h := bits_mask .i64 63 (by decide) (fun n h0 h1 => by rw [t63] at h1; rw [IntKind.wrap_i64]; omega) 1 (by decide) v h0 (by rw [t63]; omega)
  have e : ((2 : Int) ^ 1 - 1) = 1 := by decide
  rw [e] at h
  rw [h]
  omega
theorem bits_and_i64 (a b : Int) (a0 : 0 ≤ a) (a1 : a < 1073741824) (b0 : 0 ≤ b) (b1 : b < 1073741824) : bits .and .i64 a b = an a b := by
  obtain ⟨a, rfl⟩ := Int.eq_ofNat_of_zero_le a0
  obtain ⟨b, rfl⟩ := Int.eq_ofNat_of_zero_le b0
  unfold an
  rw [Int.toNat_natCast, Int.toNat_natCast]
  have hx : a &&& b ≤ a := Nat.and_le_left
  have h1 : (BitVec.ofInt 64 (a : Int)).toNat = a := by
    rw [BitVec.ofInt_natCast, BitVec.toNat_ofNat]; exact Nat.mod_eq_of_lt (by omega)
  have h2 : (BitVec.ofInt 64 (b : Int)).toNat = b := by
    rw [BitVec.ofInt_natCast, BitVec.toNat_ofNat]; exact Nat.mod_eq_of_lt (by omega)
  show IntKind.i64.wrap ((BitVec.ofInt 64 (a : Int) &&& BitVec.ofInt 64 (b : Int)).toNat : Int) = _
  rw [BitVec.toNat_and, h1, h2, IntKind.wrap_i64]
  omega
theorem ib_shift (v y : Int) (h0 : 0 ≤ v) (h1 : v ≤ 64) : (bits BinOp.and IntKind.i64 (v / 2 ^ y.toNat) 1 == 1) = ib v y := by
  have p := pw_pos y
  have d0 : 0 ≤ v / pw y := Int.ediv_nonneg h0 (by omega)
  have d1 : v / pw y ≤ v := Int.ediv_le_self _ h0
  have e : v / 2 ^ y.toNat = v / pw y := rfl
  rw [e, and1 _ d0 (by omega)]
  rfl
theorem bl_ib (L : List Int) (x y : Int) : ib (nth L x) y = bl L x y := rfl
/-- set is a sum of 2 to each of some of n elements -/
def soB (n set : Int) : Bool := decide (0 ≤ set) && decide (set ≤ pw n - 1)

set_option maxRecDepth 100000 in
set_option maxHeartbeats 1000000 in
/-- impl.isSetOf -/
theorem isSetOf_any (n set : Int) (w : World) (n0 : 0 ≤ n) (n6 : n ≤ 6) :
    Calls Tryz.prog 132 #[.int .i64 n, .int .i64 set] w fun e w' => e = .returned (.bool (soB n set)) ∧ w = w' := by
  have hw := wrap_pwT n (by omega)
  have p1 := pw_30 n (by omega)
  have p2 := pw_pos n
  by_cases h0 : set < 0
  · have hv := Lib.hid (show soB n set = false by unfold soB; rw [decide_eq_false (by omega)]; rfl)
    go_enter Tryz.func132, Tryz.ntmps132
    go_wp2
    go_ret
    exact ⟨ret_bool (by rw [hv.out]), rfl⟩
  · by_cases h1 : set < pw n
    · have hv := Lib.hid (show soB n set = true by unfold soB; rw [decide_eq_true (by omega), decide_eq_true (by omega)]; rfl)
      go_enter Tryz.func132, Tryz.ntmps132
      go_wp2
      go_ret
      exact ⟨ret_bool (by rw [hv.out]), rfl⟩
    · have hv := Lib.hid (show soB n set = false by unfold soB; rw [decide_eq_false (p := set ≤ pw n - 1) (by omega), Bool.and_false])
      go_enter Tryz.func132, Tryz.ntmps132
      go_wp2
      go_ret
      exact ⟨ret_bool (by rw [hv.out]), rfl⟩

theorem isSetOf_is (n set : Int) (w : World) (n0 : 0 ≤ n) (n6 : n ≤ 6) {r : Bool} (h : soB n set = r) :
    Calls Tryz.prog 132 #[.int .i64 n, .int .i64 set] w fun e w' => e = .returned (.bool r) ∧ w = w' := by
  subst h; exact isSetOf_any n set w n0 n6

set_option maxRecDepth 100000 in
set_option maxHeartbeats 1000000 in
/-- impl.isIn -/
theorem isIn_any (x set : Int) (w : World) (x0 : 0 ≤ x) (x6 : x ≤ 6) (s0 : 0 ≤ set) (s6 : set ≤ 64) :
    Calls Tryz.prog 133 #[.int .i64 x, .int .i64 set] w fun e w' => e = .returned (.bool (ib set x)) ∧ w = w' := by
  have hv := Lib.hid (ib_shift set x s0 s6)
  go_enter Tryz.func133, Tryz.ntmps133
  go_wp2
  go_ret
  exact ⟨ret_bool (by rw [hv.out]), rfl⟩
theorem isIn_is (x set : Int) (w : World) (x0 : 0 ≤ x) (x6 : x ≤ 6) (s0 : 0 ≤ set) (s6 : set ≤ 64) {r : Bool} (h : ib set x = r) :
    Calls Tryz.prog 133 #[.int .i64 x, .int .i64 set] w fun e w' => e = .returned (.bool r) ∧ w = w' := by
  subst h; exact isIn_any x set w x0 x6 s0 s6
end Go.Proofs.YtpophjloedpcfaaGreatDoor

namespace Go.Proofs.YtpophjloedpcfaaGreatDoor
open Go.RowKit

/-- the order that the numbers are read as -/
def ordG (L : List Int) (a b : Int) : Bool := decide (a < num L) && decide (b < num L) && bl L a b
def zeroG (_ _ : Int) : Bool := false
def readG (L : List Int) : Int → Int → Bool := if allI (num L) (inR L) then ordG L else zeroG
theorem readG_t {L : List Int} (h : allI (num L) (inR L) = true) : readG L = ordG L := by unfold readG; rw [if_pos h]
theorem readG_f {L : List Int} (h : allI (num L) (inR L) = false) : readG L = zeroG := by unfold readG; rw [if_neg (by rw [h]; decide)]
/-- the results of a function that hands back such an array and a bool -/
theorem results_cell_tmp' {fn : Func} {p u : Tmp} (h : fn.results = #[.cell p 54, .tmp u]) (tmps : Array Value) (w : World) (g : Nat) (hp : tmps.getD p undef = .pointer (some ⟨g, 0, none⟩))
    (f : Int → Int → Value) {v : Value} (hg : w.heap[g]? = some (.cells (tab2 f) 54 (0, 0))) (hu : tmps.getD u undef = v) :
    (results fn tmps).run Tryz.prog w = .ok (.tuple #[.agg (tab2 f), v]) w := by
  have hp' : tmps[p]?.getD undef = .pointer (some ⟨g, 0, none⟩) := by simpa using hp
  have hu' : tmps[u]?.getD undef = v := by simpa using hu
  have hl := run_loadVar_row (P := Tryz.prog) w g _ 54 _ _ _ hg Tryz.underlying54 rfl (size_order f)
  simp [results, h, hp', hu', asAddr, hl]
set_option maxRecDepth 100000 in
set_option maxHeartbeats 2000000 in
theorem readOrder_six (b off cap : Nat) (L : List Int) (w : World) (hc : Cells w b off L) (hlt : b < w.heap.size) (h1 : 1 ≤ num L) (h6 : num L ≤ 6) :
    Calls Tryz.prog 99 #[.slice (some ⟨b, off, none⟩) L.length cap] w fun e w' =>
      e = .returned (.tuple #[.agg (tab2 (bv (readG L))), .bool (allI (num L) (inR L))]) ∧ Below w.heap.size w w' := by
  have hn : num L = L.length := rfl
  have HN := Lib.hid hn; clear hn
  have hn1 : num L ≤ L.length := by rw [HN.out]; omega
  have hn2 : (L.length : Int) ≤ num L := by rw [HN.out]; omega
  have hw := wrap_pw L.length (by omega)
  have hr : ∀ k, inR L k = (decide (0 ≤ nth L k) && decide (nth L k ≤ pw L.length - 1)) := fun k => rfl
  have HR := Lib.hid hr; clear hr
  go_enter Tryz.func99, Tryz.ntmps99
  go_wp2
  go_loopw [5, 6, 7, 19] (fun _ _ _ c wr => ∃ k : Int, 0 ≤ k ∧ k ≤ num L ∧ c = .int .i64 k ∧ AllTo k (inR L) ∧ Blk wr (w.heap.size + 1) 54 (upTo2 k 0 (bv (ordG L)) (bv zeroG)) ∧ Blk wr w.heap.size 54 (bv zeroG) ∧ Below w.heap.size w wr)
    (fun _ _ _ c _ => (6 - intOf c).toNat)
  case atStart =>
    refine ⟨0, by omega, by omega, rfl, AllTo.zero _, (Blk.mk' (f := bv zeroG) ?_ ?_).congr fun a b a0 _ b0 _ => (upTo2_start (bv (ordG L)) (bv zeroG) a0 b0).symm, (Blk.new (f := bv zeroG) w rfl).alloc _, ((Below.refl _ _).alloc (Nat.le_refl _) _).alloc (by simp) _⟩
    · simp
    · rfl
  case round =>
    obtain ⟨k, k0, k1, rfl, ha, hb, hb0, hbel⟩ := hrel
    by_cases hk : k < num L
    · have c1 := hc.at k k0 hk
      have c2 : wr.cell? ⟨b, off + k.toNat, none⟩ = some (.int .i64 (nth L k)) := by rw [hbel.cell (by exact hlt)]; exact c1
      clear c1
      have hkl : k < L.length := by omega
      by_cases hbad : nth L k < 0 ∨ pw L.length ≤ nth L k
      · have hv : inR L k = false := by rw [HR.out, Bool.and_eq_false_iff, decide_eq_false_iff_not, decide_eq_false_iff_not]; omega
        have hv2 := allI_false k k0 hk hv
        have e1 := Lib.hid hv2
        have e2 := Lib.hid (readG_f hv2)
        clear hv hv2
        have hso := Lib.hid (show soB L.length (nth L k) = false by unfold soB; rw [Bool.and_eq_false_iff, decide_eq_false_iff_not, decide_eq_false_iff_not]; omega)
        clear hbad
        go_wp2_with (first | (go_at_call 132; refine (isSetOf_is L.length (nth L k) _ (by omega) (by omega) hso.out).mono ?_; rintro e w' ⟨rfl, rfl⟩) | (refine wpList_store_row rfl 54 _ _ rfl w.heap.size (tab2 (bv zeroG)) rfl rfl _ _ hb0.heap (size_order _) rfl (one_bv _) ?_))
        refine bodyPost_ret (v := .tuple #[.agg (tab2 (bv zeroG)), .bool false]) (results_cell_tmp' rfl _ _ w.heap.size rfl _ (hb0.row _).heap rfl) rfl ⟨by rw [e1.out, e2.out], below_setRow' hbel (Nat.le_refl _) _⟩
      · have hg1 : 0 ≤ nth L k := by omega
        have hg2 : nth L k < pw L.length := by omega
        have hv : inR L k = true := by rw [HR.out, Bool.and_eq_true, decide_eq_true_eq, decide_eq_true_eq]; omega
        have HV := Lib.hid hv
        have p6 : pw L.length ≤ 64 := pw_mono L.length 6 (by omega)
        have hso := Lib.hid (show soB L.length (nth L k) = true by unfold soB; rw [Bool.and_eq_true, decide_eq_true_eq, decide_eq_true_eq]; omega)
        clear hv hbad
        go_wp2_with (go_at_call 132; refine (isSetOf_is L.length (nth L k) _ (by omega) (by omega) hso.out).mono ?_; rintro e w' ⟨rfl, rfl⟩)
        obtain ⟨w0, rfl⟩ : ∃ w0 : World, w0 = wr := ⟨_, rfl⟩
        go_loopw [7, 32] (fun _ c wr => ∃ j : Int, 0 ≤ j ∧ j ≤ num L ∧ c = .int .i64 j ∧ Blk wr (w.heap.size + 1) 54 (upTo2 k j (bv (ordG L)) (bv zeroG)) ∧ Blk wr w.heap.size 54 (bv zeroG) ∧ Below w.heap.size w wr)
          (fun _ c _ => (6 - intOf c).toNat)
        case atStart => exact ⟨0, by omega, by omega, rfl, hb, hb0, hbel⟩
        case round =>
          obtain ⟨j, j0, j1, rfl, hb, hb0, hbel⟩ := hrel
          by_cases hj : j < num L
          · have hjl : j < L.length := by omega
            have c1 : wr.cell? ⟨w.heap.size + 1, k.toNat * 6 + j.toNat, none⟩ = some (upTo2 k j (bv (ordG L)) (bv zeroG) k j) := hb.cell k0 (by omega) j0 (by omega)
            have f1 := hb.free (k.toNat * 6 + j.toNat)
            go_wp2
            go_region_with (go_at_call 133; refine (isIn_is j (nth L k) _ j0 (by omega) hg1 (by omega) (bl_ib L k j)).mono ?_; rintro e w' ⟨rfl, rfl⟩)
            all_goals
              go_wp2
              go_roundw
              case rel => exact ⟨j + 1, by omega, by omega, rfl, ((hb.set _ k0 (by omega) j0 (by omega)).drew).congr fun a b a0 a1 b0 b1 => upTo2_step (by unfold bv ordG; rw [decide_eq_true hk, decide_eq_true hj]; rfl) a b, (hb0.other _ (by simp)).drew, (hbel.setCell (by simp) _).drew⟩
              case measure => simp [intOf]; omega
          · go_wp2
            go_roundw
            case rel =>
              refine ⟨k + 1, by omega, by omega, rfl, ha.succ HV.out, hb.congr fun a b a0 a1 b0 b1 => ?_, hb0, hbel⟩
              unfold upTo2
              by_cases h : a < k ∨ (a = k ∧ b < j)
              · rw [if_pos h, if_pos (by omega)]
              · rw [if_neg h]
                by_cases h2 : a < k + 1 ∨ (a = k + 1 ∧ b < 0)
                · rw [if_pos h2]; unfold bv ordG zeroG
                  rw [decide_eq_false (show ¬ b < num L by omega)]; simp
                · rw [if_neg h2]
            case measure => simp [intOf]; omega
    · have hall := ha.all (by omega : num L ≤ k)
      have e1 := Lib.hid hall
      have e2 := Lib.hid (readG_t hall)
      clear hall
      replace hb : Blk wr (w.heap.size + 1) 54 (bv (ordG L)) := hb.congr fun a b a0 a1 b0 b1 => by
        unfold upTo2
        by_cases h : a < k ∨ (a = k ∧ b < 0)
        · rw [if_pos h]
        · rw [if_neg h]; unfold bv ordG zeroG
          rw [decide_eq_false (show ¬ a < num L by omega)]; rfl
      go_wp2_with (first | (refine wpList_load_row rfl 54 _ rfl (w.heap.size + 1) rfl _ _ _ _ hb.heap Tryz.underlying54 rfl (size_order _) ?_) | (refine wpList_store_row rfl 54 _ _ rfl w.heap.size _ rfl rfl _ _ hb0.heap (size_order _) rfl (one_bv _) ?_))
      refine bodyPost_ret (v := .tuple #[.agg (tab2 (bv (ordG L))), .bool true]) (results_cell_tmp' rfl _ _ w.heap.size rfl _ (hb0.row _).heap rfl) rfl ⟨by rw [e1.out, e2.out], below_setRow' hbel (Nat.le_refl _) _⟩
end Go.Proofs.YtpophjloedpcfaaGreatDoor

namespace Go.Proofs.YtpophjloedpcfaaGreatDoor
open Go.RowKit

set_option maxRecDepth 100000 in
set_option maxHeartbeats 1000000 in
theorem readOrder_len (a : Option Addr) (cap : Nat) (L : List Int) (w : World) (hl : num L < 1 ∨ 6 < num L) :
    Calls Tryz.prog 99 #[.slice a L.length cap] w fun e w' =>
      e = .returned (.tuple #[.agg (tab2 (bv zeroG)), .bool false]) ∧ Below w.heap.size w w' := by
  have hl2 : (L.length : Int) < 1 ∨ 6 < (L.length : Int) := hl
  clear hl
  have hb0 : Blk ((w.alloc (.cells (tab2 (bv zeroG)) 54)).alloc (.cells (tab2 (bv zeroG)) 54)) w.heap.size 54 (bv zeroG) := (Blk.new (f := bv zeroG) w rfl).alloc _
  rcases hl2 with h | h
  · go_enter Tryz.func99, Tryz.ntmps99
    go_wp2_with (refine wpList_store_row rfl 54 _ _ rfl w.heap.size (tab2 (bv zeroG)) rfl rfl _ _ hb0.heap (size_order _) rfl (one_bv _) ?_)
    refine bodyPost_ret (v := .tuple #[.agg (tab2 (bv zeroG)), .bool false]) (results_cell_tmp' rfl _ _ w.heap.size rfl _ (hb0.row _).heap rfl) rfl ⟨rfl, below_setRow' (((Below.refl _ _).alloc (Nat.le_refl _) _).alloc (by simp) _) (Nat.le_refl _) _⟩
  · have h' : ¬ (L.length : Int) < 1 := by omega
    go_enter Tryz.func99, Tryz.ntmps99
    go_wp2_with (refine wpList_store_row rfl 54 _ _ rfl w.heap.size (tab2 (bv zeroG)) rfl rfl _ _ hb0.heap (size_order _) rfl (one_bv _) ?_)
    refine bodyPost_ret (v := .tuple #[.agg (tab2 (bv zeroG)), .bool false]) (results_cell_tmp' rfl _ _ w.heap.size rfl _ (hb0.row _).heap rfl) rfl ⟨rfl, below_setRow' (((Below.refl _ _).alloc (Nat.le_refl _) _).alloc (by simp) _) (Nat.le_refl _) _⟩

/-- a finder of meets, as a function value: what it has captured lies in two blocks -/
def finder (B : Nat) : Value := .func (.func 137) #[] #[.pointer (some ⟨B + 1, 0, none⟩), .pointer (some ⟨B, 0, none⟩)]

set_option maxRecDepth 100000 in
set_option maxHeartbeats 1000000 in
theorem meetFinder_any (g : Int → Int → Bool) (n : Int) (w : World) :
    Calls Tryz.prog 103 #[.agg (tab2 (bv g)), .int .i64 n] w fun e w' => e = .returned (finder w.heap.size) ∧ (w.alloc (.cells (tab2 (bv g)) 54)).alloc (.cells #[.int .i64 n] 3) = w' := by
  go_enter Tryz.func103, Tryz.ntmps103
  go_wp2
  go_ret
  exact ⟨rfl, rfl⟩

def fmR (g : Int → Int → Bool) (x y z o : Int) : Bool := !(g o x && g o y && !g o z)
def fmQ (g : Int → Int → Bool) (n x y z : Int) : Bool := g z x && g z y && allI n (fmR g x y z)
def fmI (g : Int → Int → Bool) (n x y : Int) : Int := if firstI n (fmQ g n x y) < 0 then 0 else firstI n (fmQ g n x y)
def fmB (g : Int → Int → Bool) (n x y : Int) : Bool := decide (0 ≤ firstI n (fmQ g n x y))

set_option maxRecDepth 100000 in
set_option maxHeartbeats 1000000 in
theorem finder_any (g : Int → Int → Bool) (n x y : Int) (B : Nat) (w : World) (hb : Blk w B 54 (bv g)) (hs : w.heap[B + 1]? = some (.cells #[.int .i64 n] 3 (0, 0))) (n0 : 0 ≤ n) (n6 : n ≤ 6) (x0 : 0 ≤ x) (x1 : x < n) (y0 : 0 ≤ y) (y1 : y < n) :
    Calls Tryz.prog 137 #[.int .i64 x, .int .i64 y, .pointer (some ⟨B + 1, 0, none⟩), .pointer (some ⟨B, 0, none⟩)] w fun e w' => e = .returned (.tuple #[.int .i64 (fmI g n x y), .bool (fmB g n x y)]) ∧ w = w' := by
  have cs := cell_of_one hs
  have hI : ∀ z, firstI n (fmQ g n x y) = z → 0 ≤ z → fmI g n x y = z ∧ fmB g n x y = true := fun z h hz => by
    unfold fmI fmB; rw [h, if_neg (by omega), decide_eq_true hz]; exact ⟨rfl, rfl⟩
  have hN : firstI n (fmQ g n x y) = -1 → fmI g n x y = 0 ∧ fmB g n x y = false := fun h => by
    unfold fmI fmB; rw [h]; exact ⟨rfl, rfl⟩
  have HI := Lib.hid hI
  have HN := Lib.hid hN
  clear hI hN
  go_enter Tryz.func137, Tryz.ntmps137
  go_wp2
  go_step3
  go_wp2
  go_step3
  go_wp2
  go_loopg [8, 9, 11] n.toNat (fun gh _ _ c wr => ∃ k : Int, 0 ≤ k ∧ k + gh = n ∧ c = .int .i64 k ∧ NoneTo k (fmQ g n x y) ∧ w = wr)
  case atStart => exact ⟨0, by omega, by omega, rfl, NoneTo.zero _, rfl⟩
  case round =>
    obtain ⟨k, k0, k1, rfl, hno, rfl⟩ := hrel
    obtain ⟨gh, rfl⟩ : ∃ gh : Nat, gh = gk := ⟨_, rfl⟩
    by_cases hk : k < n
    · have hq := Lib.hid (show fmQ g n x y k = (g k x && g k y && allI n (fmR g x y k)) from rfl)
      have c0 : w.cell? ⟨B, k.toNat * 6 + x.toNat, none⟩ = some (.bool (g k x)) := hb.cell k0 (by omega) x0 (by omega)
      have c1 : w.cell? ⟨B, k.toNat * 6 + y.toNat, none⟩ = some (.bool (g k y)) := hb.cell k0 (by omega) y0 (by omega)
      cases hA : g k x <;> cases hB : g k y
      all_goals rw [hA, hB] at hq
      case true.true =>
        go_wp2
        go_loopg [9, 29] n.toNat (fun gi _ c wr => ∃ j : Int, 0 ≤ j ∧ j + gi = n ∧ c = .int .i64 j ∧ AllTo j (fmR g x y k) ∧ w = wr)
        case atStart => exact ⟨0, by omega, by omega, rfl, AllTo.zero _, rfl⟩
        case round =>
          obtain ⟨j, j0, j1, rfl, hal, rfl⟩ := hrel
          by_cases hj : j < n
          · have d0 : w.cell? ⟨B, j.toNat * 6 + x.toNat, none⟩ = some (.bool (g j x)) := hb.cell j0 (by omega) x0 (by omega)
            have d1 : w.cell? ⟨B, j.toNat * 6 + y.toNat, none⟩ = some (.bool (g j y)) := hb.cell j0 (by omega) y0 (by omega)
            have d2 : w.cell? ⟨B, j.toNat * 6 + k.toNat, none⟩ = some (.bool (g j k)) := hb.cell j0 (by omega) k0 (by omega)
            have hr := Lib.hid (show fmR g x y k j = !(g j x && g j y && !g j k) from rfl)
            clear hA hB c0 c1
            cases hC : g j x <;> cases hD : g j y <;> cases hE : g j k
            all_goals rw [hC, hD, hE] at hr
            case true.true.false =>
              have hq2 : fmQ g n x y k = false := by rw [hq.out, allI_false j j0 hj hr.out]; rfl
              have HQ := Lib.hid hq2; clear hq2
              go_wp2
              go_roundg (gh - 1)
              case measure => omega
              case rel => exact ⟨k + 1, by omega, by omega, rfl, hno.succ HQ.out, rfl⟩
            all_goals
              go_wp2
              go_roundg (gk - 1)
              case measure => omega
              case rel => exact ⟨j + 1, by omega, by omega, rfl, hal.succ hr.out, rfl⟩
          · have hq2 : fmQ g n x y k = true := by rw [hq.out, hal.all (by omega : n ≤ j)]; rfl
            have hf := HI.out k (firstI_some k0 hk hno hq2) k0
            have HF := Lib.hid hf; clear hf hq2
            clear hA hB
            go_wp2
            (try rw [Exit.noGoto_ret])
            go_ret2
            exact ⟨by rw [HF.out.1, HF.out.2]; rfl, rfl⟩
      all_goals
        go_wp2
        go_roundg (gh - 1)
        case measure => omega
        case rel => exact ⟨k + 1, by omega, by omega, rfl, hno.succ hq.out, rfl⟩
    · have hf := HN.out (firstI_none fun j h0 h1 => hno j h0 (by omega))
      have HF := Lib.hid hf; clear hf
      go_wp2
      (try rw [Exit.noGoto_ret])
      go_ret2
      exact ⟨by rw [HF.out.1, HF.out.2]; rfl, rfl⟩
end Go.Proofs.YtpophjloedpcfaaGreatDoor

namespace Go.Proofs.YtpophjloedpcfaaGreatDoor
open Go.RowKit

def tabOk (g : Int → Int → Bool) (n : Int) : Bool := allI n fun x => allI n (fmB g n x)
def tabT (g : Int → Int → Bool) (n : Int) (a b : Int) : Int := if a < n ∧ b < n then fmI g n a b else 0
def zeroI (_ _ : Int) : Int := 0
def tabR (g : Int → Int → Bool) (n : Int) : Int → Int → Int := if tabOk g n then tabT g n else zeroI
theorem tabR_t {g : Int → Int → Bool} {n : Int} (h : tabOk g n = true) : tabR g n = tabT g n := by unfold tabR; rw [if_pos h]
theorem tabR_f {g : Int → Int → Bool} {n : Int} (h : tabOk g n = false) : tabR g n = zeroI := by unfold tabR; rw [if_neg (by rw [h]; decide)]
/-- the results of a function that hands back a table and a bool -/
theorem results_table_tmp {fn : Func} {p u : Tmp} (h : fn.results = #[.cell p 57, .tmp u]) (tmps : Array Value) (w : World) (g : Nat) (hp : tmps.getD p undef = .pointer (some ⟨g, 0, none⟩))
    (f : Int → Int → Value) {v : Value} (hg : w.heap[g]? = some (.cells (tab2 f) 57 (0, 0))) (hu : tmps.getD u undef = v) :
    (results fn tmps).run Tryz.prog w = .ok (.tuple #[.agg (tab2 f), v]) w := by
  have hp' : tmps[p]?.getD undef = .pointer (some ⟨g, 0, none⟩) := by simpa using hp
  have hu' : tmps[u]?.getD undef = v := by simpa using hu
  have hl := run_loadVar_row (P := Tryz.prog) w g _ 57 _ _ _ hg Tryz.underlying57 rfl (size_table f)
  simp [results, h, hp', hu', asAddr, hl]

set_option maxRecDepth 100000 in
set_option maxHeartbeats 2000000 in
theorem tabled_any (g : Int → Int → Bool) (n : Int) (B : Nat) (w : World) (hb : Blk w B 54 (bv g)) (hs : w.heap[B + 1]? = some (.cells #[.int .i64 n] 3 (0, 0))) (n0 : 0 ≤ n) (n6 : n ≤ 6) :
    Calls Tryz.prog 102 #[.int .i64 n, finder B] w fun e w' => e = .returned (.tuple #[.agg (tab2 (iv (tabR g n))), .bool (tabOk g n)]) ∧ Below w.heap.size w w' := by
  have hB1 := lt_of_block hs
  unfold finder
  go_enter Tryz.func102, Tryz.ntmps102
  go_wp2
  go_loopw [7, 8, 9, 10, 12] (fun _ _ _ _ c wr => ∃ k : Int, 0 ≤ k ∧ k ≤ n ∧ c = .int .i64 k ∧ AllTo k (fun x => allI n (fmB g n x)) ∧ Blk wr (w.heap.size + 1) 57 (upTo2 k 0 (iv (tabT g n)) (iv zeroI)) ∧ Blk wr w.heap.size 57 (iv zeroI) ∧ Below w.heap.size w wr)
    (fun _ _ _ _ c _ => (6 - intOf c).toNat)
  case atStart =>
    refine ⟨0, by omega, by omega, rfl, AllTo.zero _, (Blk.mk' (f := iv zeroI) ?_ ?_).congr fun a b a0 _ b0 _ => (upTo2_start (iv (tabT g n)) (iv zeroI) a0 b0).symm, (Blk.new (f := iv zeroI) w rfl).alloc _, ((Below.refl _ _).alloc (Nat.le_refl _) _).alloc (by simp) _⟩
    · simp
    · rfl
  case round =>
    obtain ⟨k, k0, k1, rfl, ha, ht, ht0, hbel⟩ := hrel
    by_cases hk : k < n
    · go_wp2
      obtain ⟨w0, rfl⟩ : ∃ w0 : World, w0 = wr := ⟨_, rfl⟩
      go_loopw [8, 9, 10, 16] (fun _ _ _ c wr => ∃ j : Int, 0 ≤ j ∧ j ≤ n ∧ c = .int .i64 j ∧ AllTo j (fmB g n k) ∧ Blk wr (w.heap.size + 1) 57 (upTo2 k j (iv (tabT g n)) (iv zeroI)) ∧ Blk wr w.heap.size 57 (iv zeroI) ∧ Below w.heap.size w wr)
        (fun _ _ _ c _ => (6 - intOf c).toNat)
      case atStart => exact ⟨0, by omega, by omega, rfl, AllTo.zero _, ht, ht0, hbel⟩
      case round =>
        obtain ⟨j, j0, j1, rfl, ha2, ht, ht0, hbel⟩ := hrel
        by_cases hj : j < n
        · have e0 : Blk wr B 54 (bv g) := hb.below hbel hb.lt
          have e1 : wr.heap[B + 1]? = some (.cells #[.int .i64 n] 3 (0, 0)) := by rw [hbel.block _ hB1]; exact hs
          have c1 : wr.cell? ⟨w.heap.size + 1, k.toNat * 6 + j.toNat, none⟩ = some (upTo2 k j (iv (tabT g n)) (iv zeroI) k j) := ht.cell k0 (by omega) j0 (by omega)
          have f1 := ht.free (k.toNat * 6 + j.toNat)
          cases hA : fmB g n k j
          case false =>
            have hf : tabOk g n = false := allI_false (p := fun x => allI n (fmB g n x)) k k0 hk (allI_false j j0 hj hA)
            have H1 := Lib.hid hf
            have H2 := Lib.hid (tabR_f hf)
            clear hf
            go_wp2_with (first | (go_at_call 137; refine (finder_any g n k j B wr e0 e1 n0 n6 k0 hk j0 hj).mono ?_; rintro e w' ⟨rfl, rfl⟩) | (refine wpList_store_row rfl 57 _ _ rfl w.heap.size (tab2 (iv zeroI)) rfl rfl _ _ ht0.heap (size_table _) rfl (one_iv _) ?_))
            refine bodyPost_ret (v := .tuple #[.agg (tab2 (iv zeroI)), .bool false]) (results_table_tmp rfl _ _ w.heap.size rfl _ (ht0.row _).heap rfl) rfl ⟨by rw [H1.out, H2.out], below_setRow' hbel (Nat.le_refl _) _⟩
          case true =>
            have HA := Lib.hid hA
            go_wp2_with (go_at_call 137; refine (finder_any g n k j B wr e0 e1 n0 n6 k0 hk j0 hj).mono ?_; rintro e w' ⟨rfl, rfl⟩)
            go_roundw
            case rel => exact ⟨j + 1, by omega, by omega, rfl, ha2.succ HA.out, (ht.set _ k0 (by omega) j0 (by omega)).congr fun a b a0 a1 b0 b1 => upTo2_step (by unfold iv tabT; rw [if_pos ⟨hk, hj⟩]) a b, ht0.other _ (by simp), hbel.setCell (by simp) _⟩
            case measure => simp [intOf]; omega
        · have hall := Lib.hid (ha2.all (by omega : n ≤ j))
          go_wp2
          go_roundw
          case rel =>
            refine ⟨k + 1, by omega, by omega, rfl, ha.succ hall.out, ht.congr fun a b a0 a1 b0 b1 => ?_, ht0, hbel⟩
            unfold upTo2
            by_cases h : a < k ∨ (a = k ∧ b < j)
            · rw [if_pos h, if_pos (by omega)]
            · rw [if_neg h]
              by_cases h2 : a < k + 1 ∨ (a = k + 1 ∧ b < 0)
              · rw [if_pos h2]; unfold iv tabT zeroI
                rw [if_neg (by omega)]
              · rw [if_neg h2]
          case measure => simp [intOf]; omega
    · have hall : tabOk g n = true := ha.all (by omega : n ≤ k)
      have e1 := Lib.hid hall
      have e2 := Lib.hid (tabR_t hall)
      clear hall
      replace ht : Blk wr (w.heap.size + 1) 57 (iv (tabT g n)) := ht.congr fun a b a0 a1 b0 b1 => by
        unfold upTo2
        by_cases h : a < k ∨ (a = k ∧ b < 0)
        · rw [if_pos h]
        · rw [if_neg h]; unfold iv tabT zeroI
          rw [if_neg (by omega)]
      go_wp2_with (first | (refine wpList_load_row rfl 57 _ rfl (w.heap.size + 1) rfl _ _ _ _ ht.heap Tryz.underlying57 rfl (size_table _) ?_) | (refine wpList_store_row rfl 57 _ _ rfl w.heap.size _ rfl rfl _ _ ht0.heap (size_table _) rfl (one_iv _) ?_))
      refine bodyPost_ret (v := .tuple #[.agg (tab2 (iv (tabT g n))), .bool true]) (results_table_tmp rfl _ _ w.heap.size rfl _ (ht0.row _).heap rfl) rfl ⟨by rw [e1.out, e2.out], below_setRow' hbel (Nat.le_refl _) _⟩
end Go.Proofs.YtpophjloedpcfaaGreatDoor

namespace Go.Proofs.YtpophjloedpcfaaGreatDoor
open Go.RowKit

/-- The cells of a lattice. -/
def latA (n : Int) (g : Int → Int → Bool) (m j : Int → Int → Int) : Array Value := ((.int .i64 n :: (tab2 (bv g)).toList) ++ (tab2 (iv m)).toList ++ (tab2 (iv j)).toList).toArray
theorem latA_size (n : Int) (g : Int → Int → Bool) (m j : Int → Int → Int) : (latA n g m j).size = 109 := by simp [latA, tab2]
theorem one_lat (n : Int) (g : Int → Int → Bool) (m j : Int → Int → Int) : (latA n g m j).all (·.oneCell') = true := by
  refine all_oneCell_toArray fun v hv => ?_
  have h1 := Array.all_eq_true_iff_forall_mem.1 (one_bv g)
  have h2 := Array.all_eq_true_iff_forall_mem.1 (one_iv m)
  have h3 := Array.all_eq_true_iff_forall_mem.1 (one_iv j)
  simp only [List.mem_append, List.mem_cons, Array.mem_toList_iff] at hv
  rcases hv with (hv | hv) | hv
  · rcases hv with rfl | hv
    · rfl
    · exact h1 v hv
  · exact h2 v hv
  · exact h3 v hv
theorem info_lat : (Tryz.prog.info? 59).map (·.size) = some 109 := by kernel_rfl
theorem size_lat (n : Int) (g : Int → Int → Bool) (m j : Int → Int → Int) : (Tryz.prog.info? 59).map (·.size) = some (latA n g m j).size := by rw [latA_size]; exact info_lat
def zeroLat : Array Value := latA 0 zeroG zeroI zeroI
theorem built_lat (n : Int) (g : Int → Int → Bool) (m j : Int → Int → Int) :
    Tryz.prog.built 59 [(0, .int .i64 n), (1, .agg (tab2 (bv g))), (2, .agg (tab2 (iv m))), (3, .agg (tab2 (iv j)))] = some (latA n g m j) := by kernel_rfl
/-- the results of a function that hands back a lattice and a bool -/
theorem results_lat_tmp {fn : Func} {p u : Tmp} (h : fn.results = #[.cell p 59, .tmp u]) (tmps : Array Value) (w : World) (g : Nat) (hp : tmps.getD p undef = .pointer (some ⟨g, 0, none⟩))
    (arr : Array Value) {v : Value} (hz : arr.size = 109) (hg : w.heap[g]? = some (.cells arr 59 (0, 0))) (hu : tmps.getD u undef = v) :
    (results fn tmps).run Tryz.prog w = .ok (.tuple #[.agg arr, v]) w := by
  have hp' : tmps[p]?.getD undef = .pointer (some ⟨g, 0, none⟩) := by simpa using hp
  have hu' : tmps[u]?.getD undef = v := by simpa using hu
  have hl := run_loadVar_row (P := Tryz.prog) w g _ 59 _ _ _ hg Tryz.underlying59 rfl (by rw [hz]; exact info_lat)
  simp [results, h, hp', hu', asAddr, hl]
theorem wpList_load_row_w {P : Program} {ops : Array Oper} {rest : List Oper} {o : Oper} {a : Act} {w : World} {Q : Exit → Act → World → Prop} (hw : Region.wanted o (yielded ops a.tmps) = true) (ty : TypeId) (x : Operand) (ho : o.op = .load ty x)
    (g : Nat) (hx : a.eval x = .pointer (some ⟨g, 0, none⟩)) (t : TypeId) (cs : Array Value) (fr : Nat × Nat) (d : TypeDesc) (hg : w.heap[g]? = some (.cells cs t fr))
    (hu : P.underlying ty = some d) (hd : (match d with | .struct _ | .array _ _ => true | _ => false) = true) (hi : (P.info? ty).map (·.size) = some cs.size)
    (h : wpList P ops Q rest (a.put o.dst (.agg cs)) w) : wpList P ops Q (o :: rest) a w := by
  unfold wpList
  rw [if_pos hw]
  exact .inl (wp_load_row ty x ho g hx t cs fr d hg hu hd hi h)
theorem Rd.cases {w : World} {a : Option Addr} {L : List Int} (h : Rd w a L) : (num L < 1 ∨ 6 < num L) ∨ (1 ≤ num L ∧ num L ≤ 6 ∧ ∃ b off, a = some ⟨b, off, none⟩ ∧ Cells w b off L) := by
  by_cases h1 : 1 ≤ num L ∧ num L ≤ 6
  · exact .inr ⟨h1.1, h1.2, h.pos h1.1⟩
  · exact .inl (by omega)
theorem Cells.lt {w : World} {b off : Nat} {L : List Int} (h : Cells w b off L) (h1 : 1 ≤ num L) : b < w.heap.size := block_lt_of_cell (h.at 0 (by omega) (by omega))


set_option maxRecDepth 100000 in
set_option maxHeartbeats 2000000 in
theorem readLattice_len (a : Option Addr) (cap : Nat) (L : List Int) (w : World) (hl : num L < 1 ∨ 6 < num L) :
    Calls Tryz.prog 67 #[.slice a L.length cap] w fun e w' => e = .returned (.tuple #[.agg zeroLat, .bool false]) ∧ Below w.heap.size w w' := by
  go_enter Tryz.func67, Tryz.ntmps67
  go_wp2_with (first | (go_at_call 99; refine (readOrder_len _ _ _ _ hl).mono ?_; rintro e w1 ⟨rfl, hb1⟩; have hz : w1.heap[w.heap.size]? = some (.cells zeroLat 59 (0, 0)) := (hb1.block _ (by simp)).trans (heap_alloc_new w _); have hB : Below w.heap.size w w1 := ((Below.refl _ _).alloc (Nat.le_refl _) _).trans (hb1.mono (by simp)); clear hb1) | (refine wpList_store_row rfl 54 _ _ rfl w1.heap.size _ rfl rfl _ _ (Blk.heap (f := bv fun _ _ => false) (Blk.new w1 rfl)) (size_order _) rfl (one_bv _) ?_; rw [World.setRow_alloc_new]; obtain ⟨b2, hb2⟩ : ∃ b2, b2 = w1.heap.size := ⟨_, rfl⟩; obtain ⟨w2, hw2⟩ : ∃ w2, w2 = w1.alloc (.cells (tab2 (bv zeroG)) 54) := ⟨_, rfl⟩; rw [← hw2, ← hb2]; have hb : Blk w2 b2 54 (bv zeroG) := (by rw [hw2, hb2]; exact Blk.new w1 rfl); replace hz : w2.heap[w.heap.size]? = some (.cells zeroLat 59 (0, 0)) := (by rw [hw2, Below.heap_alloc _ _ _ (lt_of_block hz)]; exact hz); replace hB : Below w.heap.size w w2 := (by rw [hw2]; exact hB.alloc hB.size _); clear hw2 hb2 w1) | (refine wpList_store_row rfl 59 _ _ rfl w.heap.size zeroLat rfl rfl _ _ hz (size_lat _ _ _ _) rfl (one_lat _ _ _ _) ?_))
  exact bodyPost_ret (v := .tuple #[.agg zeroLat, .bool false]) (results_lat_tmp rfl _ _ w.heap.size rfl _ (latA_size _ _ _ _) (setRow_heap _ _ _ _ _ _ hz) rfl) rfl ⟨rfl, below_setRow' hB (Nat.le_refl _) _⟩

end Go.Proofs.YtpophjloedpcfaaGreatDoor

namespace Go.Proofs.YtpophjloedpcfaaGreatDoor
open Go.RowKit

theorem Cells.below {w w' : World} {b off : Nat} {L : List Int} (hc : Cells w b off L) {C : Nat} (h : Below C w w') (hb : b < C) : Cells w' b off L := fun j hj => by
  rw [h.cell (by exact hb)]; exact hc j hj
theorem Cells.alloc {w : World} {b off : Nat} {L : List Int} (hc : Cells w b off L) (h1 : 1 ≤ num L) (o : Obj) : Cells (w.alloc o) b off L :=
  hc.below ((Below.refl w.heap.size w).alloc (Nat.le_refl _) o) (hc.lt h1)
theorem readOrder_bad (b off cap : Nat) (L : List Int) (w : World) (hc : Cells w b off L) (hlt : b < w.heap.size) (h1 : 1 ≤ num L) (h6 : num L ≤ 6) (h : allI (num L) (inR L) = false) :
    Calls Tryz.prog 99 #[.slice (some ⟨b, off, none⟩) L.length cap] w fun e w' => e = .returned (.tuple #[.agg (tab2 (bv zeroG)), .bool false]) ∧ Below w.heap.size w w' := by
  have := readOrder_six b off cap L w hc hlt h1 h6
  rwa [readG_f h, h] at this
theorem readOrder_good (b off cap : Nat) (L : List Int) (w : World) (hc : Cells w b off L) (hlt : b < w.heap.size) (h1 : 1 ≤ num L) (h6 : num L ≤ 6) (h : allI (num L) (inR L) = true) :
    Calls Tryz.prog 99 #[.slice (some ⟨b, off, none⟩) L.length cap] w fun e w' => e = .returned (.tuple #[.agg (tab2 (bv (ordG L))), .bool true]) ∧ Below w.heap.size w w' := by
  have := readOrder_six b off cap L w hc hlt h1 h6
  rwa [readG_t h, h] at this
theorem isOrder_is (g : Int → Int → Bool) (n : Int) (w : World) (n0 : 0 ≤ n) (n6 : n ≤ 6) {r : Bool} (h : isOrderB g n = r) :
    Calls Tryz.prog 100 #[.agg (tab2 (bv g)), .int .i64 n] w fun e w' => e = .returned (.bool r) ∧ Below w.heap.size w w' := by
  have := isOrder_any g n w n0 n6
  rwa [h] at this
theorem isBounded_is (g : Int → Int → Bool) (n : Int) (w : World) (n0 : 0 ≤ n) (n6 : n ≤ 6) {r : Bool} (h : allI n (bndQ g n) = r) :
    Calls Tryz.prog 101 #[.agg (tab2 (bv g)), .int .i64 n] w fun e w' => e = .returned (.bool r) ∧ Below w.heap.size w w' := by
  have := isBounded_any g n w n0 n6
  rwa [h] at this
theorem meetFinder_st (g : Int → Int → Bool) (n : Int) (w : World) :
    Calls Tryz.prog 103 #[.agg (tab2 (bv g)), .int .i64 n] w fun e w' => e = .returned (finder w.heap.size) ∧ Blk w' w.heap.size 54 (bv g) ∧ w'.heap[w.heap.size + 1]? = some (.cells #[.int .i64 n] 3 (0, 0)) ∧ Below w.heap.size w w' :=
  (meetFinder_any g n w).mono fun _ _ ⟨he, hw⟩ => by
    subst hw
    exact ⟨he, (Blk.new w rfl).alloc _, heap_alloc2_new w _ _, ((Below.refl _ _).alloc (Nat.le_refl _) _).alloc (by simp) _⟩
theorem tabled_good (g : Int → Int → Bool) (n : Int) (B : Nat) (w : World) (hb : Blk w B 54 (bv g)) (hs : w.heap[B + 1]? = some (.cells #[.int .i64 n] 3 (0, 0))) (n0 : 0 ≤ n) (n6 : n ≤ 6) (h : tabOk g n = true) :
    Calls Tryz.prog 102 #[.int .i64 n, finder B] w fun e w' => e = .returned (.tuple #[.agg (tab2 (iv (tabT g n))), .bool true]) ∧ Below w.heap.size w w' := by
  have := tabled_any g n B w hb hs n0 n6
  rwa [tabR_t h, h] at this
theorem tabled_bad (g : Int → Int → Bool) (n : Int) (B : Nat) (w : World) (hb : Blk w B 54 (bv g)) (hs : w.heap[B + 1]? = some (.cells #[.int .i64 n] 3 (0, 0))) (n0 : 0 ≤ n) (n6 : n ≤ 6) (h : tabOk g n = false) :
    Calls Tryz.prog 102 #[.int .i64 n, finder B] w fun e w' => e = .returned (.tuple #[.agg (tab2 (iv zeroI)), .bool false]) ∧ Below w.heap.size w w' := by
  have := tabled_any g n B w hb hs n0 n6
  rwa [tabR_f h, h] at this
theorem wpList_build_is {P : Program} {ops : Array Oper} {rest : List Oper} {o : Oper} {a : Act} {w : World} {Q : Exit → Act → World → Prop} (hg : o.guard = none) (t : TypeId) (parts : Array (Nat × Operand)) (ho : o.op = .build t parts)
    (cells : Array Value) (hc : P.built t (parts.map fun (i, x) => (i, a.eval x)).toList = some cells) (h : wpList P ops Q rest (a.put o.dst (.agg cells)) w) : wpList P ops Q (o :: rest) a w :=
  wpList_build hg t parts ho (by rw [hc]; rfl) (by rw [hc]; exact h)
theorem wpList_build_lat {ops : Array Oper} {rest : List Oper} {o : Oper} {a : Act} {w : World} {Q : Exit → Act → World → Prop} (hg : o.guard = none) (p0 p1 p2 p3 : Operand) (ho : o.op = .build 59 #[(0, p0), (1, p1), (2, p2), (3, p3)])
    (n : Int) (g : Int → Int → Bool) (m j : Int → Int → Int) (h0 : a.eval p0 = .int .i64 n) (h1 : a.eval p1 = .agg (tab2 (bv g))) (h2 : a.eval p2 = .agg (tab2 (iv m))) (h3 : a.eval p3 = .agg (tab2 (iv j)))
    (h : wpList Tryz.prog ops Q rest (a.put o.dst (.agg (latA n g m j))) w) : wpList Tryz.prog ops Q (o :: rest) a w :=
  wpList_build_is hg _ _ ho _ (by
    have e : (#[(0, p0), (1, p1), (2, p2), (3, p3)].map fun ((i, x) : Nat × Operand) => (i, a.eval x)).toList = [(0, .int .i64 n), (1, .agg (tab2 (bv g))), (2, .agg (tab2 (iv m))), (3, .agg (tab2 (iv j)))] := by simp [h0, h1, h2, h3]
    exact (congrArg _ e).trans (built_lat n g m j)) h

set_option maxRecDepth 100000 in
set_option maxHeartbeats 1000000 in
theorem readLattice_c0 (b off cap : Nat) (L : List Int) (w : World) (hc : Cells w b off L) (h1 : 1 ≤ num L) (h6 : num L ≤ 6) (q0 : allI (num L) (inR L) = false) :
    Calls Tryz.prog 67 #[.slice (some ⟨b, off, none⟩) L.length cap] w fun e w' => e = .returned (.tuple #[.agg zeroLat, .bool false]) ∧ Below w.heap.size w w' := by
  have n6 : (L.length : Int) ≤ 6 := h6
  have n0 : 0 ≤ (L.length : Int) := by omega
  have hlt : b < (w.alloc (.cells zeroLat 59)).heap.size := by have := hc.lt h1; simp; omega
  have hc1 : Cells (w.alloc (.cells zeroLat 59)) b off L := hc.alloc h1 _
  have Q0 := Lib.hid q0; clear q0
  go_enter Tryz.func67, Tryz.ntmps67
  go_wp2_with (first | (go_at_call 99; refine (readOrder_bad _ _ _ L _ hc1 hlt h1 h6 Q0.out).mono ?_; rintro e w1 ⟨rfl, hb1⟩; have hz : w1.heap[w.heap.size]? = some (.cells zeroLat 59 (0, 0)) := (hb1.block _ (by simp)).trans (heap_alloc_new w _); have hB : Below w.heap.size w w1 := ((Below.refl _ _).alloc (Nat.le_refl _) _).trans (hb1.mono (by simp)); clear hb1) | (refine wpList_store_row rfl 54 _ _ rfl w1.heap.size _ rfl rfl _ _ (Blk.heap (f := bv fun _ _ => false) (Blk.new w1 rfl)) (size_order _) rfl (one_bv _) ?_; rw [World.setRow_alloc_new]; obtain ⟨b2, hb2⟩ : ∃ b2, b2 = w1.heap.size := ⟨_, rfl⟩; obtain ⟨w2, hw2⟩ : ∃ w2, w2 = w1.alloc (.cells (tab2 (bv zeroG)) 54) := ⟨_, rfl⟩; rw [← hw2, ← hb2]; have hb : Blk w2 b2 54 (bv zeroG) := (by rw [hw2, hb2]; exact Blk.new w1 rfl); replace hz : w2.heap[w.heap.size]? = some (.cells zeroLat 59 (0, 0)) := (by rw [hw2, Below.heap_alloc _ _ _ (lt_of_block hz)]; exact hz); replace hB : Below w.heap.size w w2 := (by rw [hw2]; exact hB.alloc hB.size _); clear hw2 hb2 w1) | (refine wpList_store_row rfl 59 _ _ rfl w.heap.size zeroLat rfl rfl _ _ hz (size_lat _ _ _ _) rfl (one_lat _ _ _ _) ?_))
  exact bodyPost_ret (v := .tuple #[.agg zeroLat, .bool false]) (results_lat_tmp rfl _ _ w.heap.size rfl _ (latA_size _ _ _ _) (setRow_heap _ _ _ _ _ _ hz) rfl) rfl ⟨rfl, below_setRow' hB (Nat.le_refl _) _⟩

set_option maxRecDepth 100000 in
set_option maxHeartbeats 1000000 in
theorem readLattice_c1 (b off cap : Nat) (L : List Int) (w : World) (hc : Cells w b off L) (h1 : 1 ≤ num L) (h6 : num L ≤ 6) (q0 : allI (num L) (inR L) = true) (q1 : isOrderB (ordG L) L.length = false) :
    Calls Tryz.prog 67 #[.slice (some ⟨b, off, none⟩) L.length cap] w fun e w' => e = .returned (.tuple #[.agg zeroLat, .bool false]) ∧ Below w.heap.size w w' := by
  have n6 : (L.length : Int) ≤ 6 := h6
  have n0 : 0 ≤ (L.length : Int) := by omega
  have hlt : b < (w.alloc (.cells zeroLat 59)).heap.size := by have := hc.lt h1; simp; omega
  have hc1 : Cells (w.alloc (.cells zeroLat 59)) b off L := hc.alloc h1 _
  have Q0 := Lib.hid q0; clear q0
  have Q1 := Lib.hid q1; clear q1
  go_enter Tryz.func67, Tryz.ntmps67
  go_wp2_with (first | (go_at_call 99; refine (readOrder_good _ _ _ L _ hc1 hlt h1 h6 Q0.out).mono ?_; rintro e w1 ⟨rfl, hb1⟩; have hz : w1.heap[w.heap.size]? = some (.cells zeroLat 59 (0, 0)) := (hb1.block _ (by simp)).trans (heap_alloc_new w _); have hB : Below w.heap.size w w1 := ((Below.refl _ _).alloc (Nat.le_refl _) _).trans (hb1.mono (by simp)); clear hb1) | (refine wpList_store_row rfl 54 _ _ rfl w1.heap.size _ rfl rfl _ _ (Blk.heap (f := bv fun _ _ => false) (Blk.new w1 rfl)) (size_order _) rfl (one_bv _) ?_; rw [World.setRow_alloc_new]; obtain ⟨b2, hb2⟩ : ∃ b2, b2 = w1.heap.size := ⟨_, rfl⟩; obtain ⟨w2, hw2⟩ : ∃ w2, w2 = w1.alloc (.cells (tab2 (bv (ordG L))) 54) := ⟨_, rfl⟩; rw [← hw2, ← hb2]; have hb : Blk w2 b2 54 (bv (ordG L)) := (by rw [hw2, hb2]; exact Blk.new w1 rfl); replace hz : w2.heap[w.heap.size]? = some (.cells zeroLat 59 (0, 0)) := (by rw [hw2, Below.heap_alloc _ _ _ (lt_of_block hz)]; exact hz); replace hB : Below w.heap.size w w2 := (by rw [hw2]; exact hB.alloc hB.size _); clear hw2 hb2 w1) | (refine wpList_load_row_w rfl 54 _ rfl b2 rfl _ _ _ _ hb.heap Tryz.underlying54 rfl (size_order _) ?_) | (go_at_call 100; refine (isOrder_is _ _ _ n0 n6 Q1.out).mono ?_; rintro e w3 ⟨rfl, h3⟩; replace hb := hb.below h3 hb.lt; replace hz := (h3.block _ (lt_of_block hz)).trans hz; replace hB := hB.trans (h3.mono hB.size); (try replace hm := hm.below h3 hm.lt); clear h3) | (refine wpList_store_row rfl 59 _ _ rfl w.heap.size zeroLat rfl rfl _ _ hz (size_lat _ _ _ _) rfl (one_lat _ _ _ _) ?_))
  exact bodyPost_ret (v := .tuple #[.agg zeroLat, .bool false]) (results_lat_tmp rfl _ _ w.heap.size rfl _ (latA_size _ _ _ _) (setRow_heap _ _ _ _ _ _ hz) rfl) rfl ⟨rfl, below_setRow' hB (Nat.le_refl _) _⟩

set_option maxRecDepth 100000 in
set_option maxHeartbeats 1000000 in
theorem readLattice_c2 (b off cap : Nat) (L : List Int) (w : World) (hc : Cells w b off L) (h1 : 1 ≤ num L) (h6 : num L ≤ 6) (q0 : allI (num L) (inR L) = true) (q1 : isOrderB (ordG L) L.length = true) (q2 : allI L.length (bndQ (ordG L) L.length) = false) :
    Calls Tryz.prog 67 #[.slice (some ⟨b, off, none⟩) L.length cap] w fun e w' => e = .returned (.tuple #[.agg zeroLat, .bool false]) ∧ Below w.heap.size w w' := by
  have n6 : (L.length : Int) ≤ 6 := h6
  have n0 : 0 ≤ (L.length : Int) := by omega
  have hlt : b < (w.alloc (.cells zeroLat 59)).heap.size := by have := hc.lt h1; simp; omega
  have hc1 : Cells (w.alloc (.cells zeroLat 59)) b off L := hc.alloc h1 _
  have Q0 := Lib.hid q0; clear q0
  have Q1 := Lib.hid q1; clear q1
  have Q2 := Lib.hid q2; clear q2
  go_enter Tryz.func67, Tryz.ntmps67
  go_wp2_with (first | (go_at_call 99; refine (readOrder_good _ _ _ L _ hc1 hlt h1 h6 Q0.out).mono ?_; rintro e w1 ⟨rfl, hb1⟩; have hz : w1.heap[w.heap.size]? = some (.cells zeroLat 59 (0, 0)) := (hb1.block _ (by simp)).trans (heap_alloc_new w _); have hB : Below w.heap.size w w1 := ((Below.refl _ _).alloc (Nat.le_refl _) _).trans (hb1.mono (by simp)); clear hb1) | (refine wpList_store_row rfl 54 _ _ rfl w1.heap.size _ rfl rfl _ _ (Blk.heap (f := bv fun _ _ => false) (Blk.new w1 rfl)) (size_order _) rfl (one_bv _) ?_; rw [World.setRow_alloc_new]; obtain ⟨b2, hb2⟩ : ∃ b2, b2 = w1.heap.size := ⟨_, rfl⟩; obtain ⟨w2, hw2⟩ : ∃ w2, w2 = w1.alloc (.cells (tab2 (bv (ordG L))) 54) := ⟨_, rfl⟩; rw [← hw2, ← hb2]; have hb : Blk w2 b2 54 (bv (ordG L)) := (by rw [hw2, hb2]; exact Blk.new w1 rfl); replace hz : w2.heap[w.heap.size]? = some (.cells zeroLat 59 (0, 0)) := (by rw [hw2, Below.heap_alloc _ _ _ (lt_of_block hz)]; exact hz); replace hB : Below w.heap.size w w2 := (by rw [hw2]; exact hB.alloc hB.size _); clear hw2 hb2 w1) | (refine wpList_load_row_w rfl 54 _ rfl b2 rfl _ _ _ _ hb.heap Tryz.underlying54 rfl (size_order _) ?_) | (go_at_call 100; refine (isOrder_is _ _ _ n0 n6 Q1.out).mono ?_; rintro e w3 ⟨rfl, h3⟩; replace hb := hb.below h3 hb.lt; replace hz := (h3.block _ (lt_of_block hz)).trans hz; replace hB := hB.trans (h3.mono hB.size); (try replace hm := hm.below h3 hm.lt); clear h3) | (go_at_call 101; refine (isBounded_is _ _ _ n0 n6 Q2.out).mono ?_; rintro e w3 ⟨rfl, h3⟩; replace hb := hb.below h3 hb.lt; replace hz := (h3.block _ (lt_of_block hz)).trans hz; replace hB := hB.trans (h3.mono hB.size); (try replace hm := hm.below h3 hm.lt); clear h3) | (refine wpList_store_row rfl 59 _ _ rfl w.heap.size zeroLat rfl rfl _ _ hz (size_lat _ _ _ _) rfl (one_lat _ _ _ _) ?_))
  exact bodyPost_ret (v := .tuple #[.agg zeroLat, .bool false]) (results_lat_tmp rfl _ _ w.heap.size rfl _ (latA_size _ _ _ _) (setRow_heap _ _ _ _ _ _ hz) rfl) rfl ⟨rfl, below_setRow' hB (Nat.le_refl _) _⟩

end Go.Proofs.YtpophjloedpcfaaGreatDoor

namespace Go.Proofs.YtpophjloedpcfaaGreatDoor
open Go.RowKit

set_option maxRecDepth 100000 in
set_option maxHeartbeats 1000000 in
theorem readLattice_c3 (b off cap : Nat) (L : List Int) (w : World) (hc : Cells w b off L) (h1 : 1 ≤ num L) (h6 : num L ≤ 6) (q0 : allI (num L) (inR L) = true) (q1 : isOrderB (ordG L) L.length = true) (q2 : allI L.length (bndQ (ordG L) L.length) = true) (q3 : tabOk (ordG L) L.length = false) (q4 : tabOk (revG (ordG L)) L.length = false) :
    Calls Tryz.prog 67 #[.slice (some ⟨b, off, none⟩) L.length cap] w fun e w' => e = .returned (.tuple #[.agg zeroLat, .bool false]) ∧ Below w.heap.size w w' := by
  have n6 : (L.length : Int) ≤ 6 := h6
  have n0 : 0 ≤ (L.length : Int) := by omega
  have hlt : b < (w.alloc (.cells zeroLat 59)).heap.size := by have := hc.lt h1; simp; omega
  have hc1 : Cells (w.alloc (.cells zeroLat 59)) b off L := hc.alloc h1 _
  have Q0 := Lib.hid q0; clear q0
  have Q1 := Lib.hid q1; clear q1
  have Q2 := Lib.hid q2; clear q2
  have Q3 := Lib.hid q3; clear q3
  have Q4 := Lib.hid q4; clear q4
  go_enter Tryz.func67, Tryz.ntmps67
  go_wp2_with (first | (go_at_call 99; refine (readOrder_good _ _ _ L _ hc1 hlt h1 h6 Q0.out).mono ?_; rintro e w1 ⟨rfl, hb1⟩; have hz : w1.heap[w.heap.size]? = some (.cells zeroLat 59 (0, 0)) := (hb1.block _ (by simp)).trans (heap_alloc_new w _); have hB : Below w.heap.size w w1 := ((Below.refl _ _).alloc (Nat.le_refl _) _).trans (hb1.mono (by simp)); clear hb1) | (refine wpList_store_row rfl 54 _ _ rfl w1.heap.size _ rfl rfl _ _ (Blk.heap (f := bv fun _ _ => false) (Blk.new w1 rfl)) (size_order _) rfl (one_bv _) ?_; rw [World.setRow_alloc_new]; obtain ⟨b2, hb2⟩ : ∃ b2, b2 = w1.heap.size := ⟨_, rfl⟩; obtain ⟨w2, hw2⟩ : ∃ w2, w2 = w1.alloc (.cells (tab2 (bv (ordG L))) 54) := ⟨_, rfl⟩; rw [← hw2, ← hb2]; have hb : Blk w2 b2 54 (bv (ordG L)) := (by rw [hw2, hb2]; exact Blk.new w1 rfl); replace hz : w2.heap[w.heap.size]? = some (.cells zeroLat 59 (0, 0)) := (by rw [hw2, Below.heap_alloc _ _ _ (lt_of_block hz)]; exact hz); replace hB : Below w.heap.size w w2 := (by rw [hw2]; exact hB.alloc hB.size _); clear hw2 hb2 w1) | (refine wpList_load_row_w rfl 54 _ rfl b2 rfl _ _ _ _ hb.heap Tryz.underlying54 rfl (size_order _) ?_) | (go_at_call 100; refine (isOrder_is _ _ _ n0 n6 Q1.out).mono ?_; rintro e w3 ⟨rfl, h3⟩; replace hb := hb.below h3 hb.lt; replace hz := (h3.block _ (lt_of_block hz)).trans hz; replace hB := hB.trans (h3.mono hB.size); (try replace hm := hm.below h3 hm.lt); clear h3) | (go_at_call 101; refine (isBounded_is _ _ _ n0 n6 Q2.out).mono ?_; rintro e w3 ⟨rfl, h3⟩; replace hb := hb.below h3 hb.lt; replace hz := (h3.block _ (lt_of_block hz)).trans hz; replace hB := hB.trans (h3.mono hB.size); (try replace hm := hm.below h3 hm.lt); clear h3) | (go_at_call 103; refine (meetFinder_st _ _ _).mono ?_; rintro e w3 ⟨rfl, hf, hfs, h3⟩; replace hb := hb.below h3 hb.lt; replace hz := (h3.block _ (lt_of_block hz)).trans hz; replace hB := hB.trans (h3.mono hB.size); (try replace hm := hm.below h3 hm.lt); clear h3) | (go_at_call 104; refine (reversed_any _ _).mono ?_; rintro e w3 ⟨rfl, h3⟩; replace hb := hb.below h3 hb.lt; replace hz := (h3.block _ (lt_of_block hz)).trans hz; replace hB := hB.trans (h3.mono hB.size); (try replace hm := hm.below h3 hm.lt); clear h3; have hrv : True := trivial) | (clear hrv; go_at_call 102; refine (tabled_bad (revG (ordG L)) _ _ _ hf hfs n0 n6 Q4.out).mono ?_; rintro e w7 ⟨rfl, h3⟩; replace hb := hb.below h3 hb.lt; replace hz := (h3.block _ (lt_of_block hz)).trans hz; replace hB := hB.trans (h3.mono hB.size); (try replace hm := hm.below h3 hm.lt); clear h3 hf hfs) | (go_at_call 102; refine (tabled_bad (ordG L) _ _ _ hf hfs n0 n6 Q3.out).mono ?_; rintro e w5 ⟨rfl, h3⟩; replace hb := hb.below h3 hb.lt; replace hz := (h3.block _ (lt_of_block hz)).trans hz; replace hB := hB.trans (h3.mono hB.size); (try replace hm := hm.below h3 hm.lt); clear h3 hf hfs) | (refine wpList_store_row rfl 57 _ _ rfl w7.heap.size _ rfl rfl _ _ (Blk.heap (f := iv zeroI) (Blk.new w7 rfl)) (size_table _) rfl (one_iv _) ?_; rw [World.setRow_alloc_new]; obtain ⟨b8, hbn⟩ : ∃ b6, b6 = w7.heap.size := ⟨_, rfl⟩; obtain ⟨w6, hw6⟩ : ∃ w6, w6 = w7.alloc (.cells (tab2 (iv zeroI)) 57) := ⟨_, rfl⟩; rw [← hw6, ← hbn]; have hj : Blk w6 b8 57 (iv zeroI) := (by rw [hw6, hbn]; exact Blk.new w7 rfl); have h3 : Below w7.heap.size w7 w6 := (by rw [hw6]; exact (Below.refl _ _).alloc (Nat.le_refl _) _); replace hb := hb.below h3 hb.lt; replace hz := (h3.block _ (lt_of_block hz)).trans hz; replace hB := hB.trans (h3.mono hB.size); replace hm := hm.below h3 hm.lt; clear hw6 hbn h3) | (refine wpList_store_row rfl 57 _ _ rfl w5.heap.size _ rfl rfl _ _ (Blk.heap (f := iv zeroI) (Blk.new w5 rfl)) (size_table _) rfl (one_iv _) ?_; rw [World.setRow_alloc_new]; obtain ⟨b6, hbn⟩ : ∃ b6, b6 = w5.heap.size := ⟨_, rfl⟩; obtain ⟨w6, hw6⟩ : ∃ w6, w6 = w5.alloc (.cells (tab2 (iv zeroI)) 57) := ⟨_, rfl⟩; rw [← hw6, ← hbn]; have hm : Blk w6 b6 57 (iv zeroI) := (by rw [hw6, hbn]; exact Blk.new w5 rfl); have h3 : Below w5.heap.size w5 w6 := (by rw [hw6]; exact (Below.refl _ _).alloc (Nat.le_refl _) _); replace hb := hb.below h3 hb.lt; replace hz := (h3.block _ (lt_of_block hz)).trans hz; replace hB := hB.trans (h3.mono hB.size); clear hw6 hbn h3) | (refine wpList_store_row rfl 59 _ _ rfl w.heap.size zeroLat rfl rfl _ _ hz (size_lat _ _ _ _) rfl (one_lat _ _ _ _) ?_))
  exact bodyPost_ret (v := .tuple #[.agg zeroLat, .bool false]) (results_lat_tmp rfl _ _ w.heap.size rfl _ (latA_size _ _ _ _) (setRow_heap _ _ _ _ _ _ hz) rfl) rfl ⟨rfl, below_setRow' hB (Nat.le_refl _) _⟩

set_option maxRecDepth 100000 in
set_option maxHeartbeats 1000000 in
theorem readLattice_c4 (b off cap : Nat) (L : List Int) (w : World) (hc : Cells w b off L) (h1 : 1 ≤ num L) (h6 : num L ≤ 6) (q0 : allI (num L) (inR L) = true) (q1 : isOrderB (ordG L) L.length = true) (q2 : allI L.length (bndQ (ordG L) L.length) = true) (q3 : tabOk (ordG L) L.length = false) (q4 : tabOk (revG (ordG L)) L.length = true) :
    Calls Tryz.prog 67 #[.slice (some ⟨b, off, none⟩) L.length cap] w fun e w' => e = .returned (.tuple #[.agg zeroLat, .bool false]) ∧ Below w.heap.size w w' := by
  have n6 : (L.length : Int) ≤ 6 := h6
  have n0 : 0 ≤ (L.length : Int) := by omega
  have hlt : b < (w.alloc (.cells zeroLat 59)).heap.size := by have := hc.lt h1; simp; omega
  have hc1 : Cells (w.alloc (.cells zeroLat 59)) b off L := hc.alloc h1 _
  have Q0 := Lib.hid q0; clear q0
  have Q1 := Lib.hid q1; clear q1
  have Q2 := Lib.hid q2; clear q2
  have Q3 := Lib.hid q3; clear q3
  have Q4 := Lib.hid q4; clear q4
  go_enter Tryz.func67, Tryz.ntmps67
  go_wp2_with (first | (go_at_call 99; refine (readOrder_good _ _ _ L _ hc1 hlt h1 h6 Q0.out).mono ?_; rintro e w1 ⟨rfl, hb1⟩; have hz : w1.heap[w.heap.size]? = some (.cells zeroLat 59 (0, 0)) := (hb1.block _ (by simp)).trans (heap_alloc_new w _); have hB : Below w.heap.size w w1 := ((Below.refl _ _).alloc (Nat.le_refl _) _).trans (hb1.mono (by simp)); clear hb1) | (refine wpList_store_row rfl 54 _ _ rfl w1.heap.size _ rfl rfl _ _ (Blk.heap (f := bv fun _ _ => false) (Blk.new w1 rfl)) (size_order _) rfl (one_bv _) ?_; rw [World.setRow_alloc_new]; obtain ⟨b2, hb2⟩ : ∃ b2, b2 = w1.heap.size := ⟨_, rfl⟩; obtain ⟨w2, hw2⟩ : ∃ w2, w2 = w1.alloc (.cells (tab2 (bv (ordG L))) 54) := ⟨_, rfl⟩; rw [← hw2, ← hb2]; have hb : Blk w2 b2 54 (bv (ordG L)) := (by rw [hw2, hb2]; exact Blk.new w1 rfl); replace hz : w2.heap[w.heap.size]? = some (.cells zeroLat 59 (0, 0)) := (by rw [hw2, Below.heap_alloc _ _ _ (lt_of_block hz)]; exact hz); replace hB : Below w.heap.size w w2 := (by rw [hw2]; exact hB.alloc hB.size _); clear hw2 hb2 w1) | (refine wpList_load_row_w rfl 54 _ rfl b2 rfl _ _ _ _ hb.heap Tryz.underlying54 rfl (size_order _) ?_) | (go_at_call 100; refine (isOrder_is _ _ _ n0 n6 Q1.out).mono ?_; rintro e w3 ⟨rfl, h3⟩; replace hb := hb.below h3 hb.lt; replace hz := (h3.block _ (lt_of_block hz)).trans hz; replace hB := hB.trans (h3.mono hB.size); (try replace hm := hm.below h3 hm.lt); clear h3) | (go_at_call 101; refine (isBounded_is _ _ _ n0 n6 Q2.out).mono ?_; rintro e w3 ⟨rfl, h3⟩; replace hb := hb.below h3 hb.lt; replace hz := (h3.block _ (lt_of_block hz)).trans hz; replace hB := hB.trans (h3.mono hB.size); (try replace hm := hm.below h3 hm.lt); clear h3) | (go_at_call 103; refine (meetFinder_st _ _ _).mono ?_; rintro e w3 ⟨rfl, hf, hfs, h3⟩; replace hb := hb.below h3 hb.lt; replace hz := (h3.block _ (lt_of_block hz)).trans hz; replace hB := hB.trans (h3.mono hB.size); (try replace hm := hm.below h3 hm.lt); clear h3) | (go_at_call 104; refine (reversed_any _ _).mono ?_; rintro e w3 ⟨rfl, h3⟩; replace hb := hb.below h3 hb.lt; replace hz := (h3.block _ (lt_of_block hz)).trans hz; replace hB := hB.trans (h3.mono hB.size); (try replace hm := hm.below h3 hm.lt); clear h3; have hrv : True := trivial) | (clear hrv; go_at_call 102; refine (tabled_good (revG (ordG L)) _ _ _ hf hfs n0 n6 Q4.out).mono ?_; rintro e w7 ⟨rfl, h3⟩; replace hb := hb.below h3 hb.lt; replace hz := (h3.block _ (lt_of_block hz)).trans hz; replace hB := hB.trans (h3.mono hB.size); (try replace hm := hm.below h3 hm.lt); clear h3 hf hfs) | (go_at_call 102; refine (tabled_bad (ordG L) _ _ _ hf hfs n0 n6 Q3.out).mono ?_; rintro e w5 ⟨rfl, h3⟩; replace hb := hb.below h3 hb.lt; replace hz := (h3.block _ (lt_of_block hz)).trans hz; replace hB := hB.trans (h3.mono hB.size); (try replace hm := hm.below h3 hm.lt); clear h3 hf hfs) | (refine wpList_store_row rfl 57 _ _ rfl w7.heap.size _ rfl rfl _ _ (Blk.heap (f := iv zeroI) (Blk.new w7 rfl)) (size_table _) rfl (one_iv _) ?_; rw [World.setRow_alloc_new]; obtain ⟨b8, hbn⟩ : ∃ b6, b6 = w7.heap.size := ⟨_, rfl⟩; obtain ⟨w6, hw6⟩ : ∃ w6, w6 = w7.alloc (.cells (tab2 (iv (tabT (revG (ordG L)) L.length))) 57) := ⟨_, rfl⟩; rw [← hw6, ← hbn]; have hj : Blk w6 b8 57 (iv (tabT (revG (ordG L)) L.length)) := (by rw [hw6, hbn]; exact Blk.new w7 rfl); have h3 : Below w7.heap.size w7 w6 := (by rw [hw6]; exact (Below.refl _ _).alloc (Nat.le_refl _) _); replace hb := hb.below h3 hb.lt; replace hz := (h3.block _ (lt_of_block hz)).trans hz; replace hB := hB.trans (h3.mono hB.size); replace hm := hm.below h3 hm.lt; clear hw6 hbn h3) | (refine wpList_store_row rfl 57 _ _ rfl w5.heap.size _ rfl rfl _ _ (Blk.heap (f := iv zeroI) (Blk.new w5 rfl)) (size_table _) rfl (one_iv _) ?_; rw [World.setRow_alloc_new]; obtain ⟨b6, hbn⟩ : ∃ b6, b6 = w5.heap.size := ⟨_, rfl⟩; obtain ⟨w6, hw6⟩ : ∃ w6, w6 = w5.alloc (.cells (tab2 (iv zeroI)) 57) := ⟨_, rfl⟩; rw [← hw6, ← hbn]; have hm : Blk w6 b6 57 (iv zeroI) := (by rw [hw6, hbn]; exact Blk.new w5 rfl); have h3 : Below w5.heap.size w5 w6 := (by rw [hw6]; exact (Below.refl _ _).alloc (Nat.le_refl _) _); replace hb := hb.below h3 hb.lt; replace hz := (h3.block _ (lt_of_block hz)).trans hz; replace hB := hB.trans (h3.mono hB.size); clear hw6 hbn h3) | (refine wpList_store_row rfl 59 _ _ rfl w.heap.size zeroLat rfl rfl _ _ hz (size_lat _ _ _ _) rfl (one_lat _ _ _ _) ?_))
  exact bodyPost_ret (v := .tuple #[.agg zeroLat, .bool false]) (results_lat_tmp rfl _ _ w.heap.size rfl _ (latA_size _ _ _ _) (setRow_heap _ _ _ _ _ _ hz) rfl) rfl ⟨rfl, below_setRow' hB (Nat.le_refl _) _⟩

set_option maxRecDepth 100000 in
set_option maxHeartbeats 1000000 in
theorem readLattice_c5 (b off cap : Nat) (L : List Int) (w : World) (hc : Cells w b off L) (h1 : 1 ≤ num L) (h6 : num L ≤ 6) (q0 : allI (num L) (inR L) = true) (q1 : isOrderB (ordG L) L.length = true) (q2 : allI L.length (bndQ (ordG L) L.length) = true) (q3 : tabOk (ordG L) L.length = true) (q4 : tabOk (revG (ordG L)) L.length = false) :
    Calls Tryz.prog 67 #[.slice (some ⟨b, off, none⟩) L.length cap] w fun e w' => e = .returned (.tuple #[.agg zeroLat, .bool false]) ∧ Below w.heap.size w w' := by
  have n6 : (L.length : Int) ≤ 6 := h6
  have n0 : 0 ≤ (L.length : Int) := by omega
  have hlt : b < (w.alloc (.cells zeroLat 59)).heap.size := by have := hc.lt h1; simp; omega
  have hc1 : Cells (w.alloc (.cells zeroLat 59)) b off L := hc.alloc h1 _
  have Q0 := Lib.hid q0; clear q0
  have Q1 := Lib.hid q1; clear q1
  have Q2 := Lib.hid q2; clear q2
  have Q3 := Lib.hid q3; clear q3
  have Q4 := Lib.hid q4; clear q4
  go_enter Tryz.func67, Tryz.ntmps67
  go_wp2_with (first | (go_at_call 99; refine (readOrder_good _ _ _ L _ hc1 hlt h1 h6 Q0.out).mono ?_; rintro e w1 ⟨rfl, hb1⟩; have hz : w1.heap[w.heap.size]? = some (.cells zeroLat 59 (0, 0)) := (hb1.block _ (by simp)).trans (heap_alloc_new w _); have hB : Below w.heap.size w w1 := ((Below.refl _ _).alloc (Nat.le_refl _) _).trans (hb1.mono (by simp)); clear hb1) | (refine wpList_store_row rfl 54 _ _ rfl w1.heap.size _ rfl rfl _ _ (Blk.heap (f := bv fun _ _ => false) (Blk.new w1 rfl)) (size_order _) rfl (one_bv _) ?_; rw [World.setRow_alloc_new]; obtain ⟨b2, hb2⟩ : ∃ b2, b2 = w1.heap.size := ⟨_, rfl⟩; obtain ⟨w2, hw2⟩ : ∃ w2, w2 = w1.alloc (.cells (tab2 (bv (ordG L))) 54) := ⟨_, rfl⟩; rw [← hw2, ← hb2]; have hb : Blk w2 b2 54 (bv (ordG L)) := (by rw [hw2, hb2]; exact Blk.new w1 rfl); replace hz : w2.heap[w.heap.size]? = some (.cells zeroLat 59 (0, 0)) := (by rw [hw2, Below.heap_alloc _ _ _ (lt_of_block hz)]; exact hz); replace hB : Below w.heap.size w w2 := (by rw [hw2]; exact hB.alloc hB.size _); clear hw2 hb2 w1) | (refine wpList_load_row_w rfl 54 _ rfl b2 rfl _ _ _ _ hb.heap Tryz.underlying54 rfl (size_order _) ?_) | (go_at_call 100; refine (isOrder_is _ _ _ n0 n6 Q1.out).mono ?_; rintro e w3 ⟨rfl, h3⟩; replace hb := hb.below h3 hb.lt; replace hz := (h3.block _ (lt_of_block hz)).trans hz; replace hB := hB.trans (h3.mono hB.size); (try replace hm := hm.below h3 hm.lt); clear h3) | (go_at_call 101; refine (isBounded_is _ _ _ n0 n6 Q2.out).mono ?_; rintro e w3 ⟨rfl, h3⟩; replace hb := hb.below h3 hb.lt; replace hz := (h3.block _ (lt_of_block hz)).trans hz; replace hB := hB.trans (h3.mono hB.size); (try replace hm := hm.below h3 hm.lt); clear h3) | (go_at_call 103; refine (meetFinder_st _ _ _).mono ?_; rintro e w3 ⟨rfl, hf, hfs, h3⟩; replace hb := hb.below h3 hb.lt; replace hz := (h3.block _ (lt_of_block hz)).trans hz; replace hB := hB.trans (h3.mono hB.size); (try replace hm := hm.below h3 hm.lt); clear h3) | (go_at_call 104; refine (reversed_any _ _).mono ?_; rintro e w3 ⟨rfl, h3⟩; replace hb := hb.below h3 hb.lt; replace hz := (h3.block _ (lt_of_block hz)).trans hz; replace hB := hB.trans (h3.mono hB.size); (try replace hm := hm.below h3 hm.lt); clear h3; have hrv : True := trivial) | (clear hrv; go_at_call 102; refine (tabled_bad (revG (ordG L)) _ _ _ hf hfs n0 n6 Q4.out).mono ?_; rintro e w7 ⟨rfl, h3⟩; replace hb := hb.below h3 hb.lt; replace hz := (h3.block _ (lt_of_block hz)).trans hz; replace hB := hB.trans (h3.mono hB.size); (try replace hm := hm.below h3 hm.lt); clear h3 hf hfs) | (go_at_call 102; refine (tabled_good (ordG L) _ _ _ hf hfs n0 n6 Q3.out).mono ?_; rintro e w5 ⟨rfl, h3⟩; replace hb := hb.below h3 hb.lt; replace hz := (h3.block _ (lt_of_block hz)).trans hz; replace hB := hB.trans (h3.mono hB.size); (try replace hm := hm.below h3 hm.lt); clear h3 hf hfs) | (refine wpList_store_row rfl 57 _ _ rfl w7.heap.size _ rfl rfl _ _ (Blk.heap (f := iv zeroI) (Blk.new w7 rfl)) (size_table _) rfl (one_iv _) ?_; rw [World.setRow_alloc_new]; obtain ⟨b8, hbn⟩ : ∃ b6, b6 = w7.heap.size := ⟨_, rfl⟩; obtain ⟨w6, hw6⟩ : ∃ w6, w6 = w7.alloc (.cells (tab2 (iv zeroI)) 57) := ⟨_, rfl⟩; rw [← hw6, ← hbn]; have hj : Blk w6 b8 57 (iv zeroI) := (by rw [hw6, hbn]; exact Blk.new w7 rfl); have h3 : Below w7.heap.size w7 w6 := (by rw [hw6]; exact (Below.refl _ _).alloc (Nat.le_refl _) _); replace hb := hb.below h3 hb.lt; replace hz := (h3.block _ (lt_of_block hz)).trans hz; replace hB := hB.trans (h3.mono hB.size); replace hm := hm.below h3 hm.lt; clear hw6 hbn h3) | (refine wpList_store_row rfl 57 _ _ rfl w5.heap.size _ rfl rfl _ _ (Blk.heap (f := iv zeroI) (Blk.new w5 rfl)) (size_table _) rfl (one_iv _) ?_; rw [World.setRow_alloc_new]; obtain ⟨b6, hbn⟩ : ∃ b6, b6 = w5.heap.size := ⟨_, rfl⟩; obtain ⟨w6, hw6⟩ : ∃ w6, w6 = w5.alloc (.cells (tab2 (iv (tabT (ordG L) L.length))) 57) := ⟨_, rfl⟩; rw [← hw6, ← hbn]; have hm : Blk w6 b6 57 (iv (tabT (ordG L) L.length)) := (by rw [hw6, hbn]; exact Blk.new w5 rfl); have h3 : Below w5.heap.size w5 w6 := (by rw [hw6]; exact (Below.refl _ _).alloc (Nat.le_refl _) _); replace hb := hb.below h3 hb.lt; replace hz := (h3.block _ (lt_of_block hz)).trans hz; replace hB := hB.trans (h3.mono hB.size); clear hw6 hbn h3) | (refine wpList_store_row rfl 59 _ _ rfl w.heap.size zeroLat rfl rfl _ _ hz (size_lat _ _ _ _) rfl (one_lat _ _ _ _) ?_))
  exact bodyPost_ret (v := .tuple #[.agg zeroLat, .bool false]) (results_lat_tmp rfl _ _ w.heap.size rfl _ (latA_size _ _ _ _) (setRow_heap _ _ _ _ _ _ hz) rfl) rfl ⟨rfl, below_setRow' hB (Nat.le_refl _) _⟩

end Go.Proofs.YtpophjloedpcfaaGreatDoor

namespace Go.Proofs.YtpophjloedpcfaaGreatDoor
open Go.RowKit

set_option maxRecDepth 100000 in
set_option maxHeartbeats 1000000 in
theorem readLattice_good (b off cap : Nat) (L : List Int) (w : World) (hc : Cells w b off L) (h1 : 1 ≤ num L) (h6 : num L ≤ 6) (q0 : allI (num L) (inR L) = true) (q1 : isOrderB (ordG L) L.length = true) (q2 : allI L.length (bndQ (ordG L) L.length) = true) (q3 : tabOk (ordG L) L.length = true) (q4 : tabOk (revG (ordG L)) L.length = true) :
    Calls Tryz.prog 67 #[.slice (some ⟨b, off, none⟩) L.length cap] w fun e w' => e = .returned (.tuple #[.agg (latA L.length (ordG L) (tabT (ordG L) L.length) (tabT (revG (ordG L)) L.length)), .bool true]) ∧ Below w.heap.size w w' := by
  have n6 : (L.length : Int) ≤ 6 := h6
  have n0 : 0 ≤ (L.length : Int) := by omega
  have hlt : b < (w.alloc (.cells zeroLat 59)).heap.size := by have := hc.lt h1; simp; omega
  have hc1 : Cells (w.alloc (.cells zeroLat 59)) b off L := hc.alloc h1 _
  have Q0 := Lib.hid q0; clear q0
  have Q1 := Lib.hid q1; clear q1
  have Q2 := Lib.hid q2; clear q2
  have Q3 := Lib.hid q3; clear q3
  have Q4 := Lib.hid q4; clear q4
  go_enter Tryz.func67, Tryz.ntmps67
  go_wp2_with (first | (go_at_call 99; refine (readOrder_good _ _ _ L _ hc1 hlt h1 h6 Q0.out).mono ?_; rintro e w1 ⟨rfl, hb1⟩; have hz : w1.heap[w.heap.size]? = some (.cells zeroLat 59 (0, 0)) := (hb1.block _ (by simp)).trans (heap_alloc_new w _); have hB : Below w.heap.size w w1 := ((Below.refl _ _).alloc (Nat.le_refl _) _).trans (hb1.mono (by simp)); clear hb1) | (refine wpList_store_row rfl 54 _ _ rfl w1.heap.size _ rfl rfl _ _ (Blk.heap (f := bv fun _ _ => false) (Blk.new w1 rfl)) (size_order _) rfl (one_bv _) ?_; rw [World.setRow_alloc_new]; obtain ⟨b2, hb2⟩ : ∃ b2, b2 = w1.heap.size := ⟨_, rfl⟩; obtain ⟨w2, hw2⟩ : ∃ w2, w2 = w1.alloc (.cells (tab2 (bv (ordG L))) 54) := ⟨_, rfl⟩; rw [← hw2, ← hb2]; have hb : Blk w2 b2 54 (bv (ordG L)) := (by rw [hw2, hb2]; exact Blk.new w1 rfl); replace hz : w2.heap[w.heap.size]? = some (.cells zeroLat 59 (0, 0)) := (by rw [hw2, Below.heap_alloc _ _ _ (lt_of_block hz)]; exact hz); replace hB : Below w.heap.size w w2 := (by rw [hw2]; exact hB.alloc hB.size _); clear hw2 hb2 w1) | (refine wpList_load_row_w rfl 54 _ rfl b2 rfl _ _ _ _ hb.heap Tryz.underlying54 rfl (size_order _) ?_) | (go_at_call 100; refine (isOrder_is _ _ _ n0 n6 Q1.out).mono ?_; rintro e w3 ⟨rfl, h3⟩; replace hb := hb.below h3 hb.lt; replace hz := (h3.block _ (lt_of_block hz)).trans hz; replace hB := hB.trans (h3.mono hB.size); (try replace hm := hm.below h3 hm.lt); clear h3) | (go_at_call 101; refine (isBounded_is _ _ _ n0 n6 Q2.out).mono ?_; rintro e w3 ⟨rfl, h3⟩; replace hb := hb.below h3 hb.lt; replace hz := (h3.block _ (lt_of_block hz)).trans hz; replace hB := hB.trans (h3.mono hB.size); (try replace hm := hm.below h3 hm.lt); clear h3) | (go_at_call 103; refine (meetFinder_st _ _ _).mono ?_; rintro e w3 ⟨rfl, hf, hfs, h3⟩; replace hb := hb.below h3 hb.lt; replace hz := (h3.block _ (lt_of_block hz)).trans hz; replace hB := hB.trans (h3.mono hB.size); (try replace hm := hm.below h3 hm.lt); clear h3) | (go_at_call 104; refine (reversed_any _ _).mono ?_; rintro e w3 ⟨rfl, h3⟩; replace hb := hb.below h3 hb.lt; replace hz := (h3.block _ (lt_of_block hz)).trans hz; replace hB := hB.trans (h3.mono hB.size); (try replace hm := hm.below h3 hm.lt); clear h3; have hrv : True := trivial) | (clear hrv; go_at_call 102; refine (tabled_good (revG (ordG L)) _ _ _ hf hfs n0 n6 Q4.out).mono ?_; rintro e w7 ⟨rfl, h3⟩; replace hb := hb.below h3 hb.lt; replace hz := (h3.block _ (lt_of_block hz)).trans hz; replace hB := hB.trans (h3.mono hB.size); (try replace hm := hm.below h3 hm.lt); clear h3 hf hfs) | (go_at_call 102; refine (tabled_good (ordG L) _ _ _ hf hfs n0 n6 Q3.out).mono ?_; rintro e w5 ⟨rfl, h3⟩; replace hb := hb.below h3 hb.lt; replace hz := (h3.block _ (lt_of_block hz)).trans hz; replace hB := hB.trans (h3.mono hB.size); (try replace hm := hm.below h3 hm.lt); clear h3 hf hfs) | (refine wpList_store_row rfl 57 _ _ rfl w7.heap.size _ rfl rfl _ _ (Blk.heap (f := iv zeroI) (Blk.new w7 rfl)) (size_table _) rfl (one_iv _) ?_; rw [World.setRow_alloc_new]; obtain ⟨b8, hbn⟩ : ∃ b6, b6 = w7.heap.size := ⟨_, rfl⟩; obtain ⟨w6, hw6⟩ : ∃ w6, w6 = w7.alloc (.cells (tab2 (iv (tabT (revG (ordG L)) L.length))) 57) := ⟨_, rfl⟩; rw [← hw6, ← hbn]; have hj : Blk w6 b8 57 (iv (tabT (revG (ordG L)) L.length)) := (by rw [hw6, hbn]; exact Blk.new w7 rfl); have h3 : Below w7.heap.size w7 w6 := (by rw [hw6]; exact (Below.refl _ _).alloc (Nat.le_refl _) _); replace hb := hb.below h3 hb.lt; replace hz := (h3.block _ (lt_of_block hz)).trans hz; replace hB := hB.trans (h3.mono hB.size); replace hm := hm.below h3 hm.lt; clear hw6 hbn h3) | (refine wpList_store_row rfl 57 _ _ rfl w5.heap.size _ rfl rfl _ _ (Blk.heap (f := iv zeroI) (Blk.new w5 rfl)) (size_table _) rfl (one_iv _) ?_; rw [World.setRow_alloc_new]; obtain ⟨b6, hbn⟩ : ∃ b6, b6 = w5.heap.size := ⟨_, rfl⟩; obtain ⟨w6, hw6⟩ : ∃ w6, w6 = w5.alloc (.cells (tab2 (iv (tabT (ordG L) L.length))) 57) := ⟨_, rfl⟩; rw [← hw6, ← hbn]; have hm : Blk w6 b6 57 (iv (tabT (ordG L) L.length)) := (by rw [hw6, hbn]; exact Blk.new w5 rfl); have h3 : Below w5.heap.size w5 w6 := (by rw [hw6]; exact (Below.refl _ _).alloc (Nat.le_refl _) _); replace hb := hb.below h3 hb.lt; replace hz := (h3.block _ (lt_of_block hz)).trans hz; replace hB := hB.trans (h3.mono hB.size); clear hw6 hbn h3) | (refine wpList_load_row_w rfl 57 _ rfl b6 rfl _ _ _ _ hm.heap Tryz.underlying57 rfl (size_table _) ?_) | (refine wpList_load_row_w rfl 57 _ rfl b8 rfl _ _ _ _ hj.heap Tryz.underlying57 rfl (size_table _) ?_) | (refine wpList_build_lat rfl _ _ _ _ rfl L.length (ordG L) (tabT (ordG L) L.length) (tabT (revG (ordG L)) L.length) rfl rfl rfl rfl ?_) | (refine wpList_store_row rfl 59 _ _ rfl w.heap.size (latA L.length (ordG L) (tabT (ordG L) L.length) (tabT (revG (ordG L)) L.length)) rfl rfl _ _ hz (size_lat _ _ _ _) rfl (one_lat _ _ _ _) ?_))
  exact bodyPost_ret (v := .tuple #[.agg (latA L.length (ordG L) (tabT (ordG L) L.length) (tabT (revG (ordG L)) L.length)), .bool true]) (results_lat_tmp rfl _ _ w.heap.size rfl _ (latA_size _ _ _ _) (setRow_heap _ _ _ _ _ _ hz) rfl) rfl ⟨rfl, below_setRow' hB (Nat.le_refl _) _⟩

end Go.Proofs.YtpophjloedpcfaaGreatDoor

namespace Go.Proofs.YtpophjloedpcfaaGreatDoor
open Go.RowKit

theorem firstI_congr {n : Int} {p q : Int → Bool} (h : ∀ j, 0 ≤ j → j < n → p j = q j) : firstI n p = firstI n q := by
  rcases firstI_cases n q with ⟨e, hq⟩ | ⟨h0, h1, hq, hb⟩
  · rw [e]; exact firstI_none fun j j0 j1 => by rw [h j j0 j1]; exact hq j j0 j1
  · exact firstI_some h0 h1 (fun j j0 j1 => by rw [h j j0 (by omega)]; exact hb j j0 j1) (by rw [h _ h0 h1]; exact hq)
theorem ordG_in {L : List Int} {a b : Int} (ha : a < num L) (hb : b < num L) : ordG L a b = bl L a b := by
  unfold ordG; rw [decide_eq_true ha, decide_eq_true hb]; rfl
theorem ordG_out {L : List Int} {a b : Int} (h : ¬ (a < num L ∧ b < num L)) : ordG L a b = false := by
  unfold ordG
  by_cases ha : a < num L
  · rw [decide_eq_false (show ¬ b < num L by omega)]; simp
  · rw [decide_eq_false ha]; rfl
theorem fmQ_meet {L : List Int} {x y z : Int} (hx : x < num L) (hy : y < num L) (hz : z < num L) : fmQ (ordG L) (num L) x y z = isMeetB L x y z := by
  unfold fmQ isMeetB
  rw [ordG_in hz hx, ordG_in hz hy]
  congr 1
  refine allI_congr fun o o0 o1 => ?_
  unfold fmR
  rw [ordG_in o1 hx, ordG_in o1 hy, ordG_in o1 hz]
  cases bl L o x <;> cases bl L o y <;> cases bl L o z <;> rfl
theorem fmQ_join {L : List Int} {x y z : Int} (hx : x < num L) (hy : y < num L) (hz : z < num L) : fmQ (revG (ordG L)) (num L) x y z = isJoinB L x y z := by
  unfold fmQ isJoinB revG
  rw [ordG_in hx hz, ordG_in hy hz]
  congr 1
  refine allI_congr fun o o0 o1 => ?_
  show (!(ordG L x o && ordG L y o && !ordG L z o)) = _
  rw [ordG_in hx o1, ordG_in hy o1, ordG_in hz o1]
  cases bl L x o <;> cases bl L y o <;> cases bl L z o <;> rfl
theorem first_meet {L : List Int} {x y : Int} (hx : x < num L) (hy : y < num L) : firstI (num L) (fmQ (ordG L) (num L) x y) = mt L x y :=
  firstI_congr fun _ _ h1 => fmQ_meet hx hy h1
theorem first_join {L : List Int} {x y : Int} (hx : x < num L) (hy : y < num L) : firstI (num L) (fmQ (revG (ordG L)) (num L) x y) = jn L x y :=
  firstI_congr fun _ _ h1 => fmQ_join hx hy h1
theorem tab_latXY (L : List Int) : (tabOk (ordG L) (num L) && tabOk (revG (ordG L)) (num L)) = allI (num L) fun x => allI (num L) (latXY L x) := by
  rw [Bool.eq_iff_iff, Bool.and_eq_true]
  unfold tabOk
  constructor
  · rintro ⟨h1, h2⟩
    refine (allI_iff _ _).2 fun x x0 x1 => (allI_iff _ _).2 fun y y0 y1 => ?_
    have a := (allI_iff _ _).1 ((allI_iff _ _).1 h1 x x0 x1) y y0 y1
    have b := (allI_iff _ _).1 ((allI_iff _ _).1 h2 x x0 x1) y y0 y1
    unfold fmB at a b
    rw [first_meet x1 y1, decide_eq_true_eq] at a
    rw [first_join x1 y1, decide_eq_true_eq] at b
    unfold latXY
    rw [decide_eq_false (by omega), decide_eq_false (by omega)]; rfl
  · intro h
    have key : ∀ x y, 0 ≤ x → x < num L → 0 ≤ y → y < num L → 0 ≤ mt L x y ∧ 0 ≤ jn L x y := fun x y x0 x1 y0 y1 => by
      have := (allI_iff _ _).1 ((allI_iff _ _).1 h x x0 x1) y y0 y1
      unfold latXY at this
      simp only [Bool.not_eq_true', Bool.or_eq_false_iff, decide_eq_false_iff_not] at this
      omega
    exact ⟨(allI_iff _ _).2 fun x x0 x1 => (allI_iff _ _).2 fun y y0 y1 => by unfold fmB; rw [first_meet x1 y1]; exact decide_eq_true (key x y x0 x1 y0 y1).1,
      (allI_iff _ _).2 fun x x0 x1 => (allI_iff _ _).2 fun y y0 y1 => by unfold fmB; rw [first_join x1 y1]; exact decide_eq_true (key x y x0 x1 y0 y1).2⟩
theorem order_ordX {L : List Int} (h1 : 1 ≤ num L) (h6 : num L ≤ 6) : (isOrderB (ordG L) (num L) && allI (num L) (bndQ (ordG L) (num L))) = allI (num L) (ordX L) := by
  rw [Bool.eq_iff_iff, Bool.and_eq_true]
  unfold isOrderB
  rw [Bool.and_eq_true, sameG_iff, sameG_iff, allI_iff, allI_iff]
  constructor
  · rintro ⟨⟨hE, hT⟩, hB⟩ x x0 x1
    have refl : ∀ a, 0 ≤ a → a < num L → bl L a a = true := fun a a0 a1 => by
      have := hE a a a0 (by omega) a0 (by omega)
      unfold bothG eqG at this
      rw [ordG_in a1 a1, decide_eq_true a1, decide_eq_true rfl] at this
      simpa using this
    have bnd : ∀ a, 0 ≤ a → a < num L → bl L 0 a = true ∧ bl L a (num L - 1) = true := fun a a0 a1 => by
      have := hB a a0 a1
      unfold bndQ at this
      rw [ordG_in (by omega) a1, ordG_in a1 (by omega), Bool.and_eq_true] at this
      exact this
    refine ordX_t (m := num L) (by rw [refl x x0 x1, (bnd x x0 x1).1, (bnd x x0 x1).2]; rfl) (Int.le_refl _) fun y y0 y1 => ?_
    refine ordXY_t (m := num L) ?_ (Int.le_refl _) fun z z0 z1 => ?_
    · rw [Bool.eq_false_iff]
      intro hh
      simp only [Bool.and_eq_true, bne_iff_ne] at hh
      have := hE x y x0 (by omega) y0 (by omega)
      unfold bothG eqG at this
      rw [ordG_in y1 x1, ordG_in x1 y1, hh.1.2, hh.2, decide_eq_true x1, decide_eq_false hh.1.1] at this
      cases this
    · unfold ordXYZ
      rw [Bool.not_eq_true', Bool.eq_false_iff]
      intro hh
      simp only [Bool.and_eq_true, Bool.not_eq_true'] at hh
      have := hT x z x0 (by omega) z0 (by omega)
      rw [ordG_in x1 z1, hh.2] at this
      have h2 : twoG (ordG L) x z = true := (anyI_iff _ _).2 ⟨y, y0, by omega, by unfold twoQ; rw [ordG_in x1 y1, ordG_in y1 z1, hh.1.1, hh.1.2]; rfl⟩
      rw [h2] at this; cases this
  · intro h
    have parts : ∀ x, 0 ≤ x → x < num L → (bl L x x = true ∧ bl L 0 x = true ∧ bl L x (num L - 1) = true) ∧ ∀ y, 0 ≤ y → y < num L → (x = y ∨ bl L x y = false ∨ bl L y x = false) ∧ ∀ z, 0 ≤ z → z < num L → bl L x y = true → bl L y z = true → bl L x z = true := fun x x0 x1 => by
      have hx := h x x0 x1
      unfold ordX at hx
      rw [Bool.and_eq_true, allI_iff, Bool.and_eq_true, Bool.and_eq_true] at hx
      refine ⟨⟨hx.1.1.1, hx.1.1.2, hx.1.2⟩, fun y y0 y1 => ?_⟩
      have hy := hx.2 y y0 y1
      unfold ordXY at hy
      rw [Bool.and_eq_true, allI_iff] at hy
      refine ⟨?_, fun z z0 z1 a b => ?_⟩
      · by_cases e : x = y
        · exact .inl e
        · right
          have := hy.1
          cases ha : bl L x y <;> cases hb : bl L y x <;> simp_all
      · have hz := hy.2 z z0 z1
        unfold ordXYZ at hz
        rw [a, b] at hz
        simpa using hz
    refine ⟨⟨fun x y x0 x6 y0 y6 => ?_, fun x y x0 x6 y0 y6 => ?_⟩, fun x x0 x1 => ?_⟩
    · unfold bothG eqG
      by_cases hi : x < num L ∧ y < num L
      · rw [ordG_in hi.2 hi.1, ordG_in hi.1 hi.2, decide_eq_true hi.1]
        by_cases e : x = y
        · subst e; rw [(parts x x0 hi.1).1.1, decide_eq_true rfl]
        · rw [decide_eq_false e]
          rcases ((parts x x0 hi.1).2 y y0 hi.2).1 with e2 | e2 | e2
          · exact absurd e2 e
          · rw [e2]; simp
          · rw [e2]; simp
      · rw [ordG_out (by omega), ordG_out hi]
        by_cases hx : x < num L
        · rw [decide_eq_false (show ¬ x = y by omega)]; simp
        · rw [decide_eq_false hx]; rfl
    · rw [Bool.eq_iff_iff]
      unfold twoG
      rw [anyI_iff]
      constructor
      · rintro ⟨m, m0, m6, hm⟩
        unfold twoQ at hm
        rw [Bool.and_eq_true] at hm
        have i1 : x < num L ∧ m < num L := by
          refine Classical.byContradiction fun hn => ?_
          rw [ordG_out hn] at hm; exact absurd hm.1 (by decide)
        have i2 : m < num L ∧ y < num L := by
          refine Classical.byContradiction fun hn => ?_
          rw [ordG_out hn] at hm; exact absurd hm.2 (by decide)
        rw [ordG_in i1.1 i1.2, ordG_in i2.1 i2.2] at hm
        rw [ordG_in i1.1 i2.2]
        exact ((parts x x0 i1.1).2 m m0 i1.2).2 y y0 i2.2 hm.1 hm.2
      · intro hg
        have i1 : x < num L ∧ y < num L := by
          refine Classical.byContradiction fun hn => ?_
          rw [ordG_out hn] at hg; cases hg
        refine ⟨x, x0, x6, ?_⟩
        unfold twoQ
        rw [hg, ordG_in i1.1 i1.1, (parts x x0 i1.1).1.1]; rfl
    · unfold bndQ
      rw [ordG_in (by omega) x1, ordG_in x1 (by omega), (parts x x0 x1).1.2.1, (parts x x0 x1).1.2.2]; rfl
theorem latB_impl {L : List Int} (h1 : 1 ≤ num L) (h6 : num L ≤ 6) : latB L = (allI (num L) (inR L) && (isOrderB (ordG L) (num L) && allI (num L) (bndQ (ordG L) (num L))) && (tabOk (ordG L) (num L) && tabOk (revG (ordG L)) (num L))) := by
  rw [tab_latXY, order_ordX h1 h6]
  unfold latB voB
  rw [decide_eq_true h1, decide_eq_true h6]
  rfl
/-- the lattice that the numbers are read as -/
def latOf (L : List Int) : Array Value := latA L.length (ordG L) (tabT (ordG L) L.length) (tabT (revG (ordG L)) L.length)

/-- impl.readLattice -/
theorem readLattice_no (a : Option Addr) (cap : Nat) (L : List Int) (w : World) (hr : Rd w a L) (h : latB L = false) :
    Calls Tryz.prog 67 #[.slice a L.length cap] w fun e w' => e = .returned (.tuple #[.agg zeroLat, .bool false]) ∧ Below w.heap.size w w' := by
  rcases hr.cases with hl | ⟨h1, h6, b, off, rfl, hc⟩
  · exact readLattice_len a cap L w hl
  · rw [latB_impl h1 h6] at h
    cases q0 : allI (num L) (inR L) with
    | false => exact readLattice_c0 b off cap L w hc h1 h6 q0
    | true =>
      cases q1 : isOrderB (ordG L) (num L) with
      | false => exact readLattice_c1 b off cap L w hc h1 h6 q0 q1
      | true =>
        cases q2 : allI (num L) (bndQ (ordG L) (num L)) with
        | false => exact readLattice_c2 b off cap L w hc h1 h6 q0 q1 q2
        | true =>
          rw [q0, q1, q2] at h
          cases q3 : tabOk (ordG L) (num L) <;> cases q4 : tabOk (revG (ordG L)) (num L)
          · exact readLattice_c3 b off cap L w hc h1 h6 q0 q1 q2 q3 q4
          · exact readLattice_c4 b off cap L w hc h1 h6 q0 q1 q2 q3 q4
          · exact readLattice_c5 b off cap L w hc h1 h6 q0 q1 q2 q3 q4
          · rw [q3, q4] at h; cases h
theorem readLattice_yes (a : Option Addr) (cap : Nat) (L : List Int) (w : World) (hr : Rd w a L) (h : latB L = true) :
    Calls Tryz.prog 67 #[.slice a L.length cap] w fun e w' => e = .returned (.tuple #[.agg (latOf L), .bool true]) ∧ Below w.heap.size w w' := by
  obtain ⟨h1, h6, _⟩ := latB_parts h
  obtain ⟨b, off, rfl, hc⟩ := hr.pos h1
  rw [latB_impl h1 h6] at h
  simp only [Bool.and_eq_true] at h
  obtain ⟨⟨q0, q1, q2⟩, q3, q4⟩ := h
  exact readLattice_good b off cap L w hc h1 h6 q0 q1 q2 q3 q4
end Go.Proofs.YtpophjloedpcfaaGreatDoor

namespace Go.Proofs.YtpophjloedpcfaaGreatDoor
open Go.RowKit

theorem latA_0 (n : Int) (g : Int → Int → Bool) (m j : Int → Int → Int) : (latA n g m j)[0]? = some (.int .i64 n) := rfl
theorem latA_g (n : Int) (g : Int → Int → Bool) (m j : Int → Int → Int) {x y : Int} (x0 : 0 ≤ x) (x1 : x < 6) (y0 : 0 ≤ y) (y1 : y < 6) : (latA n g m j)[1 + x.toNat * 6 + y.toNat]? = some (.bool (g x y)) := by
  have h := tab2_get (bv g) x0 x1 y0 y1
  unfold latA
  rw [List.getElem?_toArray, List.getElem?_append_left (by simp [tab2]; omega), List.getElem?_append_left (by simp [tab2]; omega), show 1 + x.toNat * 6 + y.toNat = (x.toNat * 6 + y.toNat) + 1 by omega, List.getElem?_cons_succ, Array.getElem?_toList, h]
  rfl
theorem latA_m (n : Int) (g : Int → Int → Bool) (m j : Int → Int → Int) {x y : Int} (x0 : 0 ≤ x) (x1 : x < 6) (y0 : 0 ≤ y) (y1 : y < 6) : (latA n g m j)[37 + x.toNat * 6 + y.toNat]? = some (.int .i64 (m x y)) := by
  have h := tab2_get (iv m) x0 x1 y0 y1
  unfold latA
  rw [List.getElem?_toArray, List.getElem?_append_left (by simp [tab2]; omega), List.getElem?_append_right (by simp [tab2]; omega), show 37 + x.toNat * 6 + y.toNat - (Value.int .i64 n :: (tab2 (bv g)).toList).length = x.toNat * 6 + y.toNat by simp [tab2]; omega, Array.getElem?_toList, h]
  rfl
theorem latA_j (n : Int) (g : Int → Int → Bool) (m j : Int → Int → Int) {x y : Int} (x0 : 0 ≤ x) (x1 : x < 6) (y0 : 0 ≤ y) (y1 : y < 6) : (latA n g m j)[73 + x.toNat * 6 + y.toNat]? = some (.int .i64 (j x y)) := by
  have h := tab2_get (iv j) x0 x1 y0 y1
  unfold latA
  rw [List.getElem?_toArray, List.getElem?_append_right (by simp [tab2]; omega), show 73 + x.toNat * 6 + y.toNat - ((Value.int .i64 n :: (tab2 (bv g)).toList) ++ (tab2 (iv m)).toList).length = x.toNat * 6 + y.toNat by simp [tab2]; omega, Array.getElem?_toList, h]
  rfl
/-- Block b holds the lattice that the numbers are read as. -/
def LatAt (w : World) (b : Nat) (L : List Int) : Prop := w.heap[b]? = some (.cells (latOf L) 59 (0, 0))
section
variable {w : World} {b : Nat} {L : List Int}
theorem LatAt.lt (h : LatAt w b L) : b < w.heap.size := lt_of_block h
theorem LatAt.size (h : LatAt w b L) : w.cell? ⟨b, 0, none⟩ = some (.int .i64 L.length) := by
  rw [cell_of_row w b 0 _ _ _ h]; rfl
theorem LatAt.g (h : LatAt w b L) {x y : Int} (x0 : 0 ≤ x) (x1 : x < 6) (y0 : 0 ≤ y) (y1 : y < 6) : w.cell? ⟨b, 1 + x.toNat * 6 + y.toNat, none⟩ = some (.bool (ordG L x y)) := by
  rw [cell_of_row w b _ _ _ _ h]; exact latA_g _ _ _ _ x0 x1 y0 y1
theorem LatAt.m (h : LatAt w b L) {x y : Int} (x0 : 0 ≤ x) (x1 : x < 6) (y0 : 0 ≤ y) (y1 : y < 6) : w.cell? ⟨b, 37 + x.toNat * 6 + y.toNat, none⟩ = some (.int .i64 (tabT (ordG L) L.length x y)) := by
  rw [cell_of_row w b _ _ _ _ h]; exact latA_m _ _ _ _ x0 x1 y0 y1
theorem LatAt.j (h : LatAt w b L) {x y : Int} (x0 : 0 ≤ x) (x1 : x < 6) (y0 : 0 ≤ y) (y1 : y < 6) : w.cell? ⟨b, 73 + x.toNat * 6 + y.toNat, none⟩ = some (.int .i64 (tabT (revG (ordG L)) L.length x y)) := by
  rw [cell_of_row w b _ _ _ _ h]; exact latA_j _ _ _ _ x0 x1 y0 y1
theorem LatAt.below (h : LatAt w b L) {w' : World} {C : Nat} (hb : Below C w w') (hB : b < C) : LatAt w' b L := by
  unfold LatAt; rw [hb.block b hB]; exact h
theorem LatAt.new (w : World) (L : List Int) : LatAt (w.alloc (.cells (latOf L) 59)) w.heap.size L := heap_alloc_new w _
end
theorem mt_pos {L : List Int} (h : latB L = true) {x y : Int} (x0 : 0 ≤ x) (x1 : x < num L) (y0 : 0 ≤ y) (y1 : y < num L) : 0 ≤ mt L x y ∧ 0 ≤ jn L x y := by
  unfold latB at h
  rw [Bool.and_eq_true] at h
  have := (allI_iff _ _).1 ((allI_iff _ _).1 h.2 x x0 x1) y y0 y1
  unfold latXY at this
  simp only [Bool.not_eq_true', Bool.or_eq_false_iff, decide_eq_false_iff_not] at this
  omega
theorem tabT_meet {L : List Int} (h : latB L = true) {x y : Int} (x0 : 0 ≤ x) (x1 : x < num L) (y0 : 0 ≤ y) (y1 : y < num L) : tabT (ordG L) L.length x y = mt L x y := by
  have p := (mt_pos h x0 x1 y0 y1).1
  unfold tabT fmI
  rw [if_pos ⟨x1, y1⟩, show firstI (L.length : Int) (fmQ (ordG L) L.length x y) = mt L x y from first_meet x1 y1, if_neg (by omega)]
theorem tabT_join {L : List Int} (h : latB L = true) {x y : Int} (x0 : 0 ≤ x) (x1 : x < num L) (y0 : 0 ≤ y) (y1 : y < num L) : tabT (revG (ordG L)) L.length x y = jn L x y := by
  have p := (mt_pos h x0 x1 y0 y1).2
  unfold tabT fmI
  rw [if_pos ⟨x1, y1⟩, show firstI (L.length : Int) (fmQ (revG (ordG L)) L.length x y) = jn L x y from first_join x1 y1, if_neg (by omega)]

end Go.Proofs.YtpophjloedpcfaaGreatDoor
