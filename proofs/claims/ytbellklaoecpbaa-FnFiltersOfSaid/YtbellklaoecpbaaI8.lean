import Derived.Test.YtbellklaoecpbaaI7
namespace Go.Proofs.Ytbellklaoecpbaa
open Go.RowKit

def tabOk (g : Int → Int → Bool) (n : Int) : Bool := allI n fun x => allI n (fmB g n x)
def tabT (g : Int → Int → Bool) (n : Int) (a b : Int) : Int := if a < n ∧ b < n then fmI g n a b else 0
def zeroI (_ _ : Int) : Int := 0
def tabR (g : Int → Int → Bool) (n : Int) : Int → Int → Int := if tabOk g n then tabT g n else zeroI
theorem tabR_t {g : Int → Int → Bool} {n : Int} (h : tabOk g n = true) : tabR g n = tabT g n := by unfold tabR; rw [if_pos h]
theorem tabR_f {g : Int → Int → Bool} {n : Int} (h : tabOk g n = false) : tabR g n = zeroI := by unfold tabR; rw [if_neg (by rw [h]; decide)]
/-- the results of a function that hands back a table and a bool -/
theorem results_table_tmp {fn : Func} {p u : Tmp} (h : fn.results = #[.cell p 59, .tmp u]) (tmps : Array Value) (w : World) (g : Nat) (hp : tmps.getD p undef = .pointer (some ⟨g, 0, none⟩))
    (f : Int → Int → Value) {v : Value} (hg : w.heap[g]? = some (.cells (tab2 f) 59 (0, 0))) (hu : tmps.getD u undef = v) :
    (results fn tmps).run Try.prog w = .ok (.tuple #[.agg (tab2 f), v]) w := by
  have hp' : tmps[p]?.getD undef = .pointer (some ⟨g, 0, none⟩) := by simpa using hp
  have hu' : tmps[u]?.getD undef = v := by simpa using hu
  have hl := run_loadVar_row (P := Try.prog) w g _ 59 _ _ _ hg Try.underlying59 rfl (size_table f)
  simp [results, h, hp', hu', asAddr, hl]

set_option maxRecDepth 100000 in
set_option maxHeartbeats 2000000 in
theorem tabled_any (g : Int → Int → Bool) (n : Int) (B : Nat) (w : World) (hb : Blk w B 56 (bv g)) (hs : w.heap[B + 1]? = some (.cells #[.int .i64 n] 3 (0, 0))) (n0 : 0 ≤ n) (n6 : n ≤ 6) :
    Calls Try.prog 117 #[.int .i64 n, finder B] w fun e w' => e = .returned (.tuple #[.agg (tab2 (iv (tabR g n))), .bool (tabOk g n)]) ∧ Below w.heap.size w w' := by
  have hB1 := lt_of_block hs
  unfold finder
  go_enter Try.func117, Try.ntmps117
  go_wp2
  go_loopw [7, 8, 9, 10, 12] (fun _ _ _ _ c wr => ∃ k : Int, 0 ≤ k ∧ k ≤ n ∧ c = .int .i64 k ∧ AllTo k (fun x => allI n (fmB g n x)) ∧ Blk wr (w.heap.size + 1) 59 (upTo2 k 0 (iv (tabT g n)) (iv zeroI)) ∧ Blk wr w.heap.size 59 (iv zeroI) ∧ Below w.heap.size w wr)
    (fun _ _ _ _ c _ => (6 - intOf c).toNat)
  case atStart =>
    refine ⟨0, by omega, by omega, rfl, AllTo.zero _, (Blk.mk' (f := iv zeroI) ?_ ?_).congr fun a b a0 _ b0 _ => (upTo2_start (iv (tabT g n)) (iv zeroI) a0 b0).symm, (Blk.new (f := iv zeroI) w rfl).alloc _, ((Below.refl _ _).alloc (Nat.le_refl _) _).alloc (by simp) _⟩
    · simp
    · rfl
  case round =>
    obtain ⟨k, k0, k1, rfl, ha, ht, ht0, hbel⟩ := hrel
    by_cases hk : k < n
    · go_wp2
      obtain ⟨w0, rfl⟩ : ∃ w0 : World, w0 = wr := ⟨_, rfl⟩
      go_loopw [8, 9, 10, 16] (fun _ _ _ c wr => ∃ j : Int, 0 ≤ j ∧ j ≤ n ∧ c = .int .i64 j ∧ AllTo j (fmB g n k) ∧ Blk wr (w.heap.size + 1) 59 (upTo2 k j (iv (tabT g n)) (iv zeroI)) ∧ Blk wr w.heap.size 59 (iv zeroI) ∧ Below w.heap.size w wr)
        (fun _ _ _ c _ => (6 - intOf c).toNat)
      case atStart => exact ⟨0, by omega, by omega, rfl, AllTo.zero _, ht, ht0, hbel⟩
      case round =>
        obtain ⟨j, j0, j1, rfl, ha2, ht, ht0, hbel⟩ := hrel
        by_cases hj : j < n
        · have e0 : Blk wr B 56 (bv g) := hb.below hbel hb.lt
          have e1 : wr.heap[B + 1]? = some (.cells #[.int .i64 n] 3 (0, 0)) := by rw [hbel.block _ hB1]; exact hs
          have c1 : wr.cell? ⟨w.heap.size + 1, k.toNat * 6 + j.toNat, none⟩ = some (upTo2 k j (iv (tabT g n)) (iv zeroI) k j) := ht.cell k0 (by omega) j0 (by omega)
          have f1 := ht.free (k.toNat * 6 + j.toNat)
          cases hA : fmB g n k j
          case false =>
            have hf : tabOk g n = false := allI_false (p := fun x => allI n (fmB g n x)) k k0 hk (allI_false j j0 hj hA)
            have H1 := Lib.hid hf
            have H2 := Lib.hid (tabR_f hf)
            clear hf
            go_wp2_with (first | (go_at_call 154; refine (finder_any g n k j B wr e0 e1 n0 n6 k0 hk j0 hj).mono ?_; rintro e w' ⟨rfl, rfl⟩) | (refine wpList_store_row rfl 59 _ _ rfl w.heap.size (tab2 (iv zeroI)) rfl rfl _ _ ht0.heap (size_table _) rfl (one_iv _) ?_))
            refine bodyPost_ret (v := .tuple #[.agg (tab2 (iv zeroI)), .bool false]) (results_table_tmp rfl _ _ w.heap.size rfl _ (ht0.row _).heap rfl) rfl ⟨by rw [H1.out, H2.out], below_setRow' hbel (Nat.le_refl _) _⟩
          case true =>
            have HA := Lib.hid hA
            go_wp2_with (go_at_call 154; refine (finder_any g n k j B wr e0 e1 n0 n6 k0 hk j0 hj).mono ?_; rintro e w' ⟨rfl, rfl⟩)
            go_roundw
            case rel => exact ⟨j + 1, by omega, by omega, rfl, ha2.succ HA.out, (ht.set _ k0 (by omega) j0 (by omega)).congr fun a b a0 a1 b0 b1 => upTo2_step (by unfold iv tabT; rw [if_pos ⟨hk, hj⟩]) a b, ht0.other _ (by simp), hbel.setCell (by simp) _⟩
            case measure => simp [intOf]; omega
        · have hall := Lib.hid (ha2.all (by omega : n ≤ j))
          go_wp2
          go_roundw
          case rel =>
            refine ⟨k + 1, by omega, by omega, rfl, ha.succ hall.out, ht.congr fun a b a0 a1 b0 b1 => ?_, ht0, hbel⟩
            unfold upTo2
            by_cases h : a < k ∨ (a = k ∧ b < j)
            · rw [if_pos h, if_pos (by omega)]
            · rw [if_neg h]
              by_cases h2 : a < k + 1 ∨ (a = k + 1 ∧ b < 0)
              · rw [if_pos h2]; unfold iv tabT zeroI
                rw [if_neg (by omega)]
              · rw [if_neg h2]
          case measure => simp [intOf]; omega
    · have hall : tabOk g n = true := ha.all (by omega : n ≤ k)
      have e1 := Lib.hid hall
      have e2 := Lib.hid (tabR_t hall)
      clear hall
      replace ht : Blk wr (w.heap.size + 1) 59 (iv (tabT g n)) := ht.congr fun a b a0 a1 b0 b1 => by
        unfold upTo2
        by_cases h : a < k ∨ (a = k ∧ b < 0)
        · rw [if_pos h]
        · rw [if_neg h]; unfold iv tabT zeroI
          rw [if_neg (by omega)]
      go_wp2_with (first | (refine wpList_load_row rfl 59 _ rfl (w.heap.size + 1) rfl _ _ _ _ ht.heap Try.underlying59 rfl (size_table _) ?_) | (refine wpList_store_row rfl 59 _ _ rfl w.heap.size _ rfl rfl _ _ ht0.heap (size_table _) rfl (one_iv _) ?_))
      refine bodyPost_ret (v := .tuple #[.agg (tab2 (iv (tabT g n))), .bool true]) (results_table_tmp rfl _ _ w.heap.size rfl _ (ht0.row _).heap rfl) rfl ⟨by rw [e1.out, e2.out], below_setRow' hbel (Nat.le_refl _) _⟩
end Go.Proofs.Ytbellklaoecpbaa
