import Derived.Test.YtbellklaoecpbaaH4
import Derived.Test.YtbellklaoecpbaaG0
import Derived.Laws.CopyOwn
namespace Go.Proofs.Ytbellklaoecpbaa
open Go.RowKit

/-- the rows of a table up to one -/
def timTo (L : List Int) (T : List (List Int)) (k : Int) (x y : Int) : Int := if x < k ∧ y < num L then tv T x y else 0
def timA (L : List Int) (T : List (List Int)) : Int → Int → Int := if shapeB L T then timG L T else zeroI
theorem timA_t {L : List Int} {T : List (List Int)} (h : shapeB L T = true) : timA L T = timG L T := by unfold timA; rw [if_pos h]
theorem timA_f {L : List Int} {T : List (List Int)} (h : shapeB L T = false) : timA L T = zeroI := by unfold timA; rw [if_neg (by rw [h]; decide)]
theorem timTo_zero (L : List Int) (T : List (List Int)) (x y : Int) (x0 : 0 ≤ x) : iv zeroI x y = iv (timTo L T 0) x y := by
  unfold iv timTo; rw [if_neg (by omega)]; rfl
theorem rowOk_with {L : List Int} {T : List (List Int)} {x : Int} (h : ((rowAt T x).length : Int) = L.length) : rowOk L T x = withB L (rowAt T x) := by
  have hn : num L = L.length := rfl
  unfold rowOk withB
  rw [decide_eq_true (by rw [hn]; exact h), Bool.true_and, h, hn]
  refine allI_congr fun y y0 y1 => ?_
  unfold cellOk inE tv
  rw [hn]
  congr 1
  exact decide_eq_decide.2 (by omega)
theorem copy_tab {L : List Int} {T : List (List Int)} {x : Int} (x0 : 0 ≤ x) (x1 : x < 6) (h6 : num L ≤ 6) (h : ((rowAt T x).length : Int) = L.length) :
    ((tab2 (iv (timTo L T x))).toList.take (x.toNat * 6) ++ (((rowAt T x).map fun v => Value.int .i64 v) ++ (tab2 (iv (timTo L T x))).toList.drop (x.toNat * 6 + ((rowAt T x).map fun v => Value.int .i64 v).length))).toArray = tab2 (iv (timTo L T (x + 1))) := by
  have hn : num L = L.length := rfl
  apply Array.ext
  · simp [tab2]; omega
  · intro i h1 h2
    rw [tab2_size] at h2
    have a1 : ∀ g : Int → Int → Value, (tab2 g)[i]'(by rw [tab2_size]; exact h2) = g ((i / 6 : Nat) : Int) ((i % 6 : Nat) : Int) := fun g => by simp [tab2]
    rw [a1]
    simp only [List.getElem_toArray]
    by_cases c1 : i < x.toNat * 6
    · rw [List.getElem_append_left (by simp [tab2]; omega)]
      simp only [List.getElem_take, Array.getElem_toList, a1]
      unfold iv timTo
      congr 1
      by_cases c2 : ((i % 6 : Nat) : Int) < num L
      · rw [if_pos ⟨by omega, c2⟩, if_pos ⟨by omega, c2⟩]
      · rw [if_neg (by omega), if_neg (by omega)]
    · rw [List.getElem_append_right (by simp [tab2]; omega)]
      have hl : ((tab2 (iv (timTo L T x))).toList.take (x.toNat * 6)).length = x.toNat * 6 := by simp [tab2]; omega
      by_cases c3 : i < x.toNat * 6 + L.length
      · rw [List.getElem_append_left (by rw [hl]; simp; omega)]
        simp only [List.getElem_map, hl]
        unfold iv timTo
        congr 1
        have e1 : ((i / 6 : Nat) : Int) = x := by omega
        have e2 : ((i % 6 : Nat) : Int) = ((i - x.toNat * 6 : Nat) : Int) := by omega
        rw [if_pos ⟨by omega, by omega⟩, e1, e2]
        unfold tv nth
        rw [Int.toNat_natCast]
        have : i - x.toNat * 6 < (rowAt T x).length := by omega
        simp [this]
      · rw [List.getElem_append_right (by rw [hl]; simp; omega)]
        simp only [List.getElem_drop, Array.getElem_toList, List.length_map]
        have e0 : x.toNat * 6 + (rowAt T x).length + (i - ((tab2 (iv (timTo L T x))).toList.take (x.toNat * 6)).length - (rowAt T x).length) = i := by rw [hl]; omega
        simp only [e0, a1]
        unfold iv timTo
        congr 1
        rw [if_neg (by omega), if_neg (by omega)]
/-- the results of a function that hands back a table and a bool -/
theorem results_tab_tmp {fn : Func} {p u : Tmp} (h : fn.results = #[.cell p 59, .tmp u]) (tmps : Array Value) (w : World) (g : Nat) (hp : tmps.getD p undef = .pointer (some ⟨g, 0, none⟩))
    (f : Int → Int → Value) {v : Value} (hg : w.heap[g]? = some (.cells (tab2 f) 59 (0, 0))) (hu : tmps.getD u undef = v) :
    (results fn tmps).run Try.prog w = .ok (.tuple #[.agg (tab2 f), v]) w := by
  have hp' : tmps[p]?.getD undef = .pointer (some ⟨g, 0, none⟩) := by simpa using hp
  have hu' : tmps[u]?.getD undef = v := by simpa using hu
  have hl := run_loadVar_row (P := Try.prog) w g _ 59 _ _ _ hg Try.underlying59 rfl (size_table f)
  simp [results, h, hp', hu', asAddr, hl]
theorem info_int1 : (Try.prog.info? 3).map (·.size) = some 1 := by kernel_rfl
theorem lit36 : (#[.int .i64 0, .int .i64 0, .int .i64 0, .int .i64 0, .int .i64 0, .int .i64 0, .int .i64 0, .int .i64 0, .int .i64 0, .int .i64 0, .int .i64 0, .int .i64 0, .int .i64 0, .int .i64 0, .int .i64 0, .int .i64 0, .int .i64 0, .int .i64 0, .int .i64 0, .int .i64 0, .int .i64 0, .int .i64 0, .int .i64 0, .int .i64 0, .int .i64 0, .int .i64 0, .int .i64 0, .int .i64 0, .int .i64 0, .int .i64 0, .int .i64 0, .int .i64 0, .int .i64 0, .int .i64 0, .int .i64 0, .int .i64 0] : Array Value) = tab2 (iv zeroI) := rfl
theorem built_table : Try.prog.built 59 [] = some (tab2 (iv zeroI)) := by kernel_rfl

/-- 'copy' of a row into the table -/
theorem copy_row_step {ops : Array Oper} {rest : List Oper} {o : Oper} {a : Act} {w : World} {Q : Exit → Act → World → Prop} (hgd : o.guard = none) (d s : Operand)
    (ho : o.op = .call { callee := .builtin .copy, args := #[d, s], argTypes := #[23, 23] }) {g rb ro rc : Nat} {L : List Int} {T : List (List Int)} {k : Int}
    (hd : a.eval d = .slice (some ⟨g, k.toNat * 6, none⟩) 6 6) (hs : a.eval s = .slice (some ⟨rb, ro, none⟩) (rowAt T k).length rc)
    (ht : Blk w g 59 (iv (timTo L T k))) (hcs : Cells w rb ro (rowAt T k)) (k0 : 0 ≤ k) (k6 : k < 6) (n6 : num L ≤ 6) (hrl : ((rowAt T k).length : Int) = L.length)
    (h : wpList Try.prog ops Q rest (a.put o.dst (goInt (rowAt T k).length)) (w.setRow g (tab2 (iv (timTo L T (k + 1)))))) : wpList Try.prog ops Q (o :: rest) a w := by
  have hn : num L = L.length := rfl
  have hl : ((rowAt T k).map fun v => Value.int .i64 v).length = (rowAt T k).length := List.length_map _
  refine wpList_copy_own hgd d s _ _ ho 3 Try.underlying23 info_int1 g (k.toNat * 6) 6 6 ⟨rb, ro, none⟩ _ _ hd hs _ 59 ht.heap ((rowAt T k).map fun v => Value.int .i64 v) ?_ ?_ ?_ ?_ ?_
  · rw [hl]; exact (Nat.min_eq_left (by omega)).symm
  · intro j v hj
    rw [Addr.add_mid]
    simp only [List.getElem?_map, Option.map_eq_some_iff] at hj
    obtain ⟨u, hu, rfl⟩ := hj
    obtain ⟨q1, q2⟩ := List.getElem?_eq_some_iff.1 hu
    rw [hcs j q1]; unfold nth; simp [q1, q2]
  · rw [tab2_size, hl]; omega
  · intro v hv
    simp only [List.mem_map] at hv
    obtain ⟨u, _, rfl⟩ := hv; rfl
  · rw [copy_tab k0 k6 n6 hrl, hl]; exact h

set_option maxRecDepth 100000 in
set_option maxHeartbeats 2000000 in
/-- impl.readTimes -/
theorem readTimes_any (b : Option Addr) (cb : Nat) (L : List Int) (T : List (List Int)) (w : World) (hT : RdT w b T) (n1 : 1 ≤ num L) (n6 : num L ≤ 6) :
    Calls Try.prog 109 #[.slice b T.length cb, .agg (latOf L)] w fun e w' => e = .returned (.tuple #[.agg (tab2 (iv (timA L T))), .bool (shapeB L T)]) ∧ Below w.heap.size w w' := by
  have hn : num L = L.length := rfl
  have n1' : 1 ≤ (L.length : Int) := by omega
  have n6' : (L.length : Int) ≤ 6 := by omega
  obtain ⟨w1, hw1⟩ : ∃ w1, w1 = ((w.alloc (.cells (latOf L) 61)).alloc (.cells (tab2 (iv zeroI)) 59)).alloc (.cells (tab2 (iv zeroI)) 59) := ⟨_, rfl⟩
  have hB : Below w.heap.size w w1 := by rw [hw1]; exact (((Below.refl _ _).alloc (Nat.le_refl _) _).alloc (by simp) _).alloc (by simp; omega) _
  have hL : LatAt w1 w.heap.size L := by
    rw [hw1]; exact ((LatAt.new w L).below (((Below.refl _ _).alloc (Nat.le_refl _) _).alloc (by simp) _) (by simp))
  have hz : Blk w1 (w.heap.size + 1) 59 (iv zeroI) := by rw [hw1]; exact (Blk.mk' (by simp) rfl).alloc _
  have ht : Blk w1 (w.heap.size + 1 + 1) 59 (iv zeroI) := by rw [hw1]; exact Blk.mk' (by simp) rfl
  have hc0 := hL.size
  have HN := Lib.hid hn; clear hn
  by_cases hlen : (T.length : Int) = L.length
  · have hne : ((T.length : Int) != (L.length : Int)) = false := by rw [hlen]; simp
    obtain ⟨B, off, rfl, hcell⟩ := hT (by intro e; rw [e] at hlen; simp at hlen; omega)
    have HC := Lib.hid hcell; clear hcell hT
    go_enter Try.func109, Try.ntmps109
    go_wp2_with (first | (rw [lit36, ← hw1]; clear hw1))
    go_loopw [7, 8, 17] (fun _ _ c wr => ∃ k : Int, 0 ≤ k ∧ k ≤ T.length ∧ c = .int .i64 k ∧ AllTo k (rowOk L T) ∧ Blk wr (w.heap.size + 1 + 1) 59 (iv (timTo L T k)) ∧ Blk wr (w.heap.size + 1) 59 (iv zeroI) ∧ LatAt wr w.heap.size L ∧ Below w.heap.size w wr) (fun _ _ c _ => (6 - intOf c).toNat)
    case atStart => exact ⟨0, by omega, by omega, rfl, AllTo.zero _, ht.congr fun a b a0 _ _ _ => timTo_zero L T a b a0, hz, hL, hB⟩
    case round =>
      clear hB hL hz ht hc0
      obtain ⟨k, k0, k1, rfl, ha, ht, hz, hL, hB⟩ := hrel
      have hc0 := hL.size
      by_cases hk : k < T.length
      · obtain ⟨ra, rc, h1, h2⟩ := RdT.row HC.out k0 hk
        have hk6 : k < 6 := by omega
        have d0 : wr.cell? ⟨B, off + k.toNat, none⟩ = some (.slice ra (rowAt T k).length rc) := by rw [hB.cell (by exact block_lt_of_cell h1)]; exact h1
        have hrd := h2.below hB
        clear h1 h2
        by_cases hrl : ((rowAt T k).length : Int) = L.length
        · have hne2 : (((rowAt T k).length : Int) != (L.length : Int)) = false := by rw [hrl]; simp
          have hr1 := Lib.hid (rowOk_with hrl)
          cases hw : withB L (rowAt T k) with
          | false =>
            rw [hw] at hr1
            have hf := shape_f_row (T := T) k0 (by rw [HN.out]; omega) hr1.out
            have HF := Lib.hid hf
            have HA := Lib.hid (timA_f hf)
            have HW := Lib.hid hw
            clear hf hw hr1
            go_wp2_with (first
              | go_skip
              | (refine wpList_load_row_w rfl 61 _ rfl w.heap.size rfl _ _ _ _ hL Try.underlying61 rfl (size_lat _ _ _ _) ?_)
              | (go_at_call 113; refine (ret_below (has_any _ _ L _ _ hrd (by omega)) HW.out).mono ?_; rintro e w5 ⟨rfl, h5⟩; replace hz := hz.below h5 hz.lt; replace hB := hB.trans (h5.mono hB.size))
              | (refine wpList_build_is rfl 59 _ rfl _ built_table ?_)
              | (refine wpList_store_row rfl 59 _ _ rfl (w.heap.size + 1) (tab2 (iv zeroI)) rfl rfl _ _ hz.heap (size_table _) rfl (one_iv _) ?_))
            exact bodyPost_ret (v := .tuple #[.agg (tab2 (iv zeroI)), .bool false]) (results_tab_tmp rfl _ _ (w.heap.size + 1) rfl _ (hz.row _).heap rfl) rfl ⟨by rw [HA.out, HF.out], below_setRow' hB (by omega) _⟩
          | true =>
            rw [hw] at hr1
            have HW := Lib.hid hw
            have hlp : 1 ≤ num (rowAt T k) := by show (1 : Int) ≤ ((rowAt T k).length : Int); omega
            obtain ⟨rb, ro, rfl, hcs⟩ := hrd.pos hlp
            have hlr := hcs.lt hlp
            have hrd2 : Rd wr (some ⟨rb, ro, none⟩) (rowAt T k) := fun _ => ⟨rb, ro, rfl, hcs⟩
            clear hw hrd
            have f1 := ht.free (k.toNat * 6)
            go_wp2_with (first
              | go_skip
              | (refine wpList_load_row_w rfl 61 _ rfl w.heap.size rfl _ _ _ _ hL Try.underlying61 rfl (size_lat _ _ _ _) ?_)
              | (go_at_call 113; refine (ret_below (has_any _ _ L _ _ hrd2 (by omega)) HW.out).mono ?_; rintro e w5 ⟨rfl, h5⟩; replace hz := hz.below h5 hz.lt; replace ht := ht.below h5 ht.lt; replace hL := hL.below h5 hL.lt; replace hcs := hcs.below h5 hlr; replace hB := hB.trans (h5.mono hB.size); have HCS := Lib.hid hcs; clear hrd2 hc0 d0 f1)
              | (refine copy_row_step rfl _ _ rfl rfl rfl ht HCS.out k0 hk6 n6 hrl ?_))
            go_roundw
            case rel => exact ⟨k + 1, by omega, by omega, rfl, ha.succ hr1.out, ht.row _, hz.rowOther _ (by omega), by unfold LatAt; rw [setRow_other _ _ _ _ (by omega)]; exact hL, below_setRow' hB (by omega) _⟩
            case measure => simp [intOf]; omega
        · have hne2 : (((rowAt T k).length : Int) != (L.length : Int)) = true := by rw [bne_iff_ne]; exact hrl
          have hf := shape_f_row (L := L) (T := T) k0 (by rw [HN.out]; omega) (rowOk_f_len (by rw [HN.out]; exact hrl))
          have HF := Lib.hid hf
          have HA := Lib.hid (timA_f hf)
          clear hf
          go_wp2_with (first
            | go_skip
            | (refine wpList_build_is rfl 59 _ rfl _ built_table ?_)
            | (refine wpList_store_row rfl 59 _ _ rfl (w.heap.size + 1) (tab2 (iv zeroI)) rfl rfl _ _ hz.heap (size_table _) rfl (one_iv _) ?_))
          exact bodyPost_ret (v := .tuple #[.agg (tab2 (iv zeroI)), .bool false]) (results_tab_tmp rfl _ _ (w.heap.size + 1) rfl _ (hz.row _).heap rfl) rfl ⟨by rw [HA.out, HF.out], below_setRow' hB (by omega) _⟩
      · have hs := shape_t (m := k) (L := L) (T := T) (by rw [HN.out]; exact hlen) (by rw [HN.out]; omega) ha
        have HS := Lib.hid hs
        have HA := Lib.hid (timA_t hs)
        replace ht : Blk wr (w.heap.size + 1 + 1) 59 (iv (timG L T)) := ht.congr fun x y _ _ _ _ => by
          unfold iv timTo timG
          rw [show k = num L by rw [HN.out]; omega]
        clear hs
        go_wp2_with (first
          | (refine wpList_load_row_w rfl 59 _ rfl (w.heap.size + 1 + 1) rfl _ _ _ _ ht.heap Try.underlying59 rfl (size_table _) ?_)
          | (refine wpList_store_row rfl 59 _ _ rfl (w.heap.size + 1) _ rfl rfl _ _ hz.heap (size_table _) rfl (one_iv _) ?_))
        exact bodyPost_ret (v := .tuple #[.agg (tab2 (iv (timG L T))), .bool true]) (results_tab_tmp rfl _ _ (w.heap.size + 1) rfl _ (hz.row _).heap rfl) rfl ⟨by rw [HA.out, HS.out], below_setRow' hB (by omega) _⟩
  · have hne : ((T.length : Int) != (L.length : Int)) = true := by rw [bne_iff_ne]; exact hlen
    have hf := shape_f_len (L := L) (T := T) (by rw [HN.out]; exact hlen)
    have HF := Lib.hid hf
    have HA := Lib.hid (timA_f hf)
    clear hf
    go_enter Try.func109, Try.ntmps109
    go_wp2_with (first
      | (rw [lit36, ← hw1]; clear hw1)
      | (refine wpList_build_is rfl 59 _ rfl _ built_table ?_)
      | (refine wpList_store_row rfl 59 _ _ rfl (w.heap.size + 1) (tab2 (iv zeroI)) rfl rfl _ _ hz.heap (size_table _) rfl (one_iv _) ?_))
    exact bodyPost_ret (v := .tuple #[.agg (tab2 (iv zeroI)), .bool false]) (results_tab_tmp rfl _ _ (w.heap.size + 1) rfl _ (hz.row _).heap rfl) rfl ⟨by rw [HA.out, HF.out], below_setRow' hB (by omega) _⟩
end Go.Proofs.Ytbellklaoecpbaa
