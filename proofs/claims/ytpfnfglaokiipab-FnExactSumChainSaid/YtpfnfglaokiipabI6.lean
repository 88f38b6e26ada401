import Derived.Test.YtpfnfglaokiipabS1
import Derived.BigQuiet
import Derived.Deep.RegionWith
namespace Go.Proofs.Ytpfnfglaokiipab
open Go.RowKit

/-- the order that the numbers are read as -/
def ordG (L : List Int) (a b : Int) : Bool := decide (a < num L) && decide (b < num L) && bl L a b
def zeroG (_ _ : Int) : Bool := false
def readG (L : List Int) : Int → Int → Bool := if allI (num L) (inR L) then ordG L else zeroG
theorem readG_t {L : List Int} (h : allI (num L) (inR L) = true) : readG L = ordG L := by unfold readG; rw [if_pos h]
theorem readG_f {L : List Int} (h : allI (num L) (inR L) = false) : readG L = zeroG := by unfold readG; rw [if_neg (by rw [h]; decide)]
/-- the results of a function that hands back such an array and a bool -/
theorem results_cell_tmp' {fn : Func} {p u : Tmp} (h : fn.results = #[.cell p 55, .tmp u]) (tmps : Array Value) (w : World) (g : Nat) (hp : tmps.getD p undef = .pointer (some ⟨g, 0, none⟩))
    (f : Int → Int → Value) {v : Value} (hg : w.heap[g]? = some (.cells (tab2 f) 55 (0, 0))) (hu : tmps.getD u undef = v) :
    (results fn tmps).run Try.prog w = .ok (.tuple #[.agg (tab2 f), v]) w := by
  have hp' : tmps[p]?.getD undef = .pointer (some ⟨g, 0, none⟩) := by simpa using hp
  have hu' : tmps[u]?.getD undef = v := by simpa using hu
  have hl := run_loadVar_row (P := Try.prog) w g _ 55 _ _ _ hg Try.underlying55 rfl (size_order f)
  simp [results, h, hp', hu', asAddr, hl]
set_option maxRecDepth 100000 in
set_option maxHeartbeats 2000000 in
theorem readOrder_six (b off cap : Nat) (L : List Int) (w : World) (hc : Cells w b off L) (hlt : b < w.heap.size) (h1 : 1 ≤ num L) (h6 : num L ≤ 6) :
    Calls Try.prog 102 #[.slice (some ⟨b, off, none⟩) L.length cap] w fun e w' =>
      e = .returned (.tuple #[.agg (tab2 (bv (readG L))), .bool (allI (num L) (inR L))]) ∧ Below w.heap.size w w' := by
  have hn : num L = L.length := rfl
  have HN := Lib.hid hn; clear hn
  have hn1 : num L ≤ L.length := by rw [HN.out]; omega
  have hn2 : (L.length : Int) ≤ num L := by rw [HN.out]; omega
  have hw := wrap_pw L.length (by omega)
  have hr : ∀ k, inR L k = (decide (0 ≤ nth L k) && decide (nth L k ≤ pw L.length - 1)) := fun k => rfl
  have HR := Lib.hid hr; clear hr
  go_enter Try.func102, Try.ntmps102
  go_wp2
  go_loopw [5, 6, 7, 19] (fun _ _ _ c wr => ∃ k : Int, 0 ≤ k ∧ k ≤ num L ∧ c = .int .i64 k ∧ AllTo k (inR L) ∧ Blk wr (w.heap.size + 1) 55 (upTo2 k 0 (bv (ordG L)) (bv zeroG)) ∧ Blk wr w.heap.size 55 (bv zeroG) ∧ Below w.heap.size w wr)
    (fun _ _ _ c _ => (6 - intOf c).toNat)
  case atStart =>
    refine ⟨0, by omega, by omega, rfl, AllTo.zero _, (Blk.mk' (f := bv zeroG) ?_ ?_).congr fun a b a0 _ b0 _ => (upTo2_start (bv (ordG L)) (bv zeroG) a0 b0).symm, (Blk.new (f := bv zeroG) w rfl).alloc _, ((Below.refl _ _).alloc (Nat.le_refl _) _).alloc (by simp) _⟩
    · simp
    · rfl
  case round =>
    obtain ⟨k, k0, k1, rfl, ha, hb, hb0, hbel⟩ := hrel
    by_cases hk : k < num L
    · have c1 := hc.at k k0 hk
      have c2 : wr.cell? ⟨b, off + k.toNat, none⟩ = some (.int .i64 (nth L k)) := by rw [hbel.cell (by exact hlt)]; exact c1
      clear c1
      have hkl : k < L.length := by omega
      by_cases hbad : nth L k < 0 ∨ pw L.length ≤ nth L k
      · have hv : inR L k = false := by rw [HR.out, Bool.and_eq_false_iff, decide_eq_false_iff_not, decide_eq_false_iff_not]; omega
        have hv2 := allI_false k k0 hk hv
        have e1 := Lib.hid hv2
        have e2 := Lib.hid (readG_f hv2)
        clear hv hv2
        have hso := Lib.hid (show soB L.length (nth L k) = false by unfold soB; rw [Bool.and_eq_false_iff, decide_eq_false_iff_not, decide_eq_false_iff_not]; omega)
        clear hbad
        go_wp2_with (first | (go_at_call 116; refine (isSetOf_is L.length (nth L k) _ (by omega) (by omega) hso.out).mono ?_; rintro e w' ⟨rfl, rfl⟩) | (refine wpList_store_row rfl 55 _ _ rfl w.heap.size (tab2 (bv zeroG)) rfl rfl _ _ hb0.heap (size_order _) rfl (one_bv _) ?_))
        refine bodyPost_ret (v := .tuple #[.agg (tab2 (bv zeroG)), .bool false]) (results_cell_tmp' rfl _ _ w.heap.size rfl _ (hb0.row _).heap rfl) rfl ⟨by rw [e1.out, e2.out], below_setRow' hbel (Nat.le_refl _) _⟩
      · have hg1 : 0 ≤ nth L k := by omega
        have hg2 : nth L k < pw L.length := by omega
        have hv : inR L k = true := by rw [HR.out, Bool.and_eq_true, decide_eq_true_eq, decide_eq_true_eq]; omega
        have HV := Lib.hid hv
        have p6 : pw L.length ≤ 64 := pw_mono L.length 6 (by omega)
        have hso := Lib.hid (show soB L.length (nth L k) = true by unfold soB; rw [Bool.and_eq_true, decide_eq_true_eq, decide_eq_true_eq]; omega)
        clear hv hbad
        go_wp2_with (go_at_call 116; refine (isSetOf_is L.length (nth L k) _ (by omega) (by omega) hso.out).mono ?_; rintro e w' ⟨rfl, rfl⟩)
        obtain ⟨w0, rfl⟩ : ∃ w0 : World, w0 = wr := ⟨_, rfl⟩
        go_loopw [7, 32] (fun _ c wr => ∃ j : Int, 0 ≤ j ∧ j ≤ num L ∧ c = .int .i64 j ∧ Blk wr (w.heap.size + 1) 55 (upTo2 k j (bv (ordG L)) (bv zeroG)) ∧ Blk wr w.heap.size 55 (bv zeroG) ∧ Below w.heap.size w wr)
          (fun _ c _ => (6 - intOf c).toNat)
        case atStart => exact ⟨0, by omega, by omega, rfl, hb, hb0, hbel⟩
        case round =>
          obtain ⟨j, j0, j1, rfl, hb, hb0, hbel⟩ := hrel
          by_cases hj : j < num L
          · have hjl : j < L.length := by omega
            have c1 : wr.cell? ⟨w.heap.size + 1, k.toNat * 6 + j.toNat, none⟩ = some (upTo2 k j (bv (ordG L)) (bv zeroG) k j) := hb.cell k0 (by omega) j0 (by omega)
            have f1 := hb.free (k.toNat * 6 + j.toNat)
            go_wp2
            go_region_with (go_at_call 117; refine (isIn_is j (nth L k) _ j0 (by omega) hg1 (by omega) (bl_ib L k j)).mono ?_; rintro e w' ⟨rfl, rfl⟩)
            all_goals
              go_wp2
              go_roundw
              case rel => exact ⟨j + 1, by omega, by omega, rfl, ((hb.set _ k0 (by omega) j0 (by omega)).drew).congr fun a b a0 a1 b0 b1 => upTo2_step (by unfold bv ordG; rw [decide_eq_true hk, decide_eq_true hj]; rfl) a b, (hb0.other _ (by simp)).drew, (hbel.setCell (by simp) _).drew⟩
              case measure => simp [intOf]; omega
          · go_wp2
            go_roundw
            case rel =>
              refine ⟨k + 1, by omega, by omega, rfl, ha.succ HV.out, hb.congr fun a b a0 a1 b0 b1 => ?_, hb0, hbel⟩
              unfold upTo2
              by_cases h : a < k ∨ (a = k ∧ b < j)
              · rw [if_pos h, if_pos (by omega)]
              · rw [if_neg h]
                by_cases h2 : a < k + 1 ∨ (a = k + 1 ∧ b < 0)
                · rw [if_pos h2]; unfold bv ordG zeroG
                  rw [decide_eq_false (show ¬ b < num L by omega)]; simp
                · rw [if_neg h2]
            case measure => simp [intOf]; omega
    · have hall := ha.all (by omega : num L ≤ k)
      have e1 := Lib.hid hall
      have e2 := Lib.hid (readG_t hall)
      clear hall
      replace hb : Blk wr (w.heap.size + 1) 55 (bv (ordG L)) := hb.congr fun a b a0 a1 b0 b1 => by
        unfold upTo2
        by_cases h : a < k ∨ (a = k ∧ b < 0)
        · rw [if_pos h]
        · rw [if_neg h]; unfold bv ordG zeroG
          rw [decide_eq_false (show ¬ a < num L by omega)]; rfl
      go_wp2_with (first | (refine wpList_load_row rfl 55 _ rfl (w.heap.size + 1) rfl _ _ _ _ hb.heap Try.underlying55 rfl (size_order _) ?_) | (refine wpList_store_row rfl 55 _ _ rfl w.heap.size _ rfl rfl _ _ hb0.heap (size_order _) rfl (one_bv _) ?_))
      refine bodyPost_ret (v := .tuple #[.agg (tab2 (bv (ordG L))), .bool true]) (results_cell_tmp' rfl _ _ w.heap.size rfl _ (hb0.row _).heap rfl) rfl ⟨by rw [e1.out, e2.out], below_setRow' hbel (Nat.le_refl _) _⟩
end Go.Proofs.Ytpfnfglaokiipab
