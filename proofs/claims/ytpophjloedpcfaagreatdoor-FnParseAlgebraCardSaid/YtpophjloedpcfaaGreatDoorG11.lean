import Derived.Test.YtpophjloedpcfaaGreatDoorH4
import Derived.Test.YtpophjloedpcfaaGreatDoorG3
import Derived.Laws.CopyOwn
import Derived.Test.YtpophjloedpcfaaGreatDoorK1
import Derived.Test.YtpophjloedpcfaaGreatDoorL5
import Derived.Deep.RegionWith
import Derived.StillTail
namespace Go.Proofs.YtpophjloedpcfaaGreatDoor
open Go.RowKit

/-- the rows of a table up to one -/
def timTo (L : List Int) (T : List (List Int)) (k : Int) (x y : Int) : Int := if x < k ∧ y < num L then tv T x y else 0
def timA (L : List Int) (T : List (List Int)) : Int → Int → Int := if shapeB L T then timG L T else zeroI
theorem timA_t {L : List Int} {T : List (List Int)} (h : shapeB L T = true) : timA L T = timG L T := by unfold timA; rw [if_pos h]
theorem timA_f {L : List Int} {T : List (List Int)} (h : shapeB L T = false) : timA L T = zeroI := by unfold timA; rw [if_neg (by rw [h]; decide)]
theorem timTo_zero (L : List Int) (T : List (List Int)) (x y : Int) (x0 : 0 ≤ x) : iv zeroI x y = iv (timTo L T 0) x y := by
  unfold iv timTo; rw [if_neg (by omega)]; rfl
theorem rowOk_with {L : List Int} {T : List (List Int)} {x : Int} (h : ((rowAt T x).length : Int) = L.length) : rowOk L T x = withB L (rowAt T x) := by
  have hn : num L = L.length := rfl
  unfold rowOk withB
  rw [decide_eq_true (by rw [hn]; exact h), Bool.true_and, h, hn]
  refine allI_congr fun y y0 y1 => ?_
  unfold cellOk inE tv
  rw [hn]
  congr 1
  exact decide_eq_decide.2 (by omega)
theorem copy_tab {L : List Int} {T : List (List Int)} {x : Int} (x0 : 0 ≤ x) (x1 : x < 6) (h6 : num L ≤ 6) (h : ((rowAt T x).length : Int) = L.length) :
    ((tab2 (iv (timTo L T x))).toList.take (x.toNat * 6) ++ (((rowAt T x).map fun v => Value.int .i64 v) ++ (tab2 (iv (timTo L T x))).toList.drop (x.toNat * 6 + ((rowAt T x).map fun v => Value.int .i64 v).length))).toArray = tab2 (iv (timTo L T (x + 1))) := by
  have hn : num L = L.length := rfl
  apply Array.ext
  · simp [tab2]; omega
  · intro i h1 h2
    rw [tab2_size] at h2
    have a1 : ∀ g : Int → Int → Value, (tab2 g)[i]'(by rw [tab2_size]; exact h2) = g ((i / 6 : Nat) : Int) ((i % 6 : Nat) : Int) := fun g => by simp [tab2]
    rw [a1]
    simp only [List.getElem_toArray]
    by_cases c1 : i < x.toNat * 6
    · rw [List.getElem_append_left (by simp [tab2]; omega)]
      simp only [List.getElem_take, Array.getElem_toList, a1]
      unfold iv timTo
      congr 1
      by_cases c2 : ((i % 6 : Nat) : Int) < num L
      · rw [if_pos ⟨by omega, c2⟩, if_pos ⟨by omega, c2⟩]
      · rw [if_neg (by omega), if_neg (by omega)]
    · rw [List.getElem_append_right (by simp [tab2]; omega)]
      have hl : ((tab2 (iv (timTo L T x))).toList.take (x.toNat * 6)).length = x.toNat * 6 := by simp [tab2]; omega
      by_cases c3 : i < x.toNat * 6 + L.length
      · rw [List.getElem_append_left (by rw [hl]; simp; omega)]
        simp only [List.getElem_map, hl]
        unfold iv timTo
        congr 1
        have e1 : ((i / 6 : Nat) : Int) = x := by omega
        have e2 : ((i % 6 : Nat) : Int) = ((i - x.toNat * 6 : Nat) : Int) := by omega
        rw [if_pos ⟨by omega, by omega⟩, e1, e2]
        unfold tv nth
        rw [Int.toNat_natCast]
        have : i - x.toNat * 6 < (rowAt T x).length := by omega
        simp [this]
      · rw [List.getElem_append_right (by rw [hl]; simp; omega)]
        simp only [List.getElem_drop, Array.getElem_toList, List.length_map]
        have e0 : x.toNat * 6 + (rowAt T x).length + (i - ((tab2 (iv (timTo L T x))).toList.take (x.toNat * 6)).length - (rowAt T x).length) = i := by rw [hl]; omega
        simp only [e0, a1]
        unfold iv timTo
        congr 1
        rw [if_neg (by omega), if_neg (by omega)]
/-- the results of a function that hands back a table and a bool -/
theorem results_tab_tmp {fn : Func} {p u : Tmp} (h : fn.results = #[.cell p 57, .tmp u]) (tmps : Array Value) (w : World) (g : Nat) (hp : tmps.getD p undef = .pointer (some ⟨g, 0, none⟩))
    (f : Int → Int → Value) {v : Value} (hg : w.heap[g]? = some (.cells (tab2 f) 57 (0, 0))) (hu : tmps.getD u undef = v) :
    (results fn tmps).run Tryz.prog w = .ok (.tuple #[.agg (tab2 f), v]) w := by
  have hp' : tmps[p]?.getD undef = .pointer (some ⟨g, 0, none⟩) := by simpa using hp
  have hu' : tmps[u]?.getD undef = v := by simpa using hu
  have hl := run_loadVar_row (P := Tryz.prog) w g _ 57 _ _ _ hg Tryz.underlying57 rfl (size_table f)
  simp [results, h, hp', hu', asAddr, hl]
theorem info_int1 : (Tryz.prog.info? 3).map (·.size) = some 1 := by kernel_rfl
theorem lit36 : (#[.int .i64 0, .int .i64 0, .int .i64 0, .int .i64 0, .int .i64 0, .int .i64 0, .int .i64 0, .int .i64 0, .int .i64 0, .int .i64 0, .int .i64 0, .int .i64 0, .int .i64 0, .int .i64 0, .int .i64 0, .int .i64 0, .int .i64 0, .int .i64 0, .int .i64 0, .int .i64 0, .int .i64 0, .int .i64 0, .int .i64 0, .int .i64 0, .int .i64 0, .int .i64 0, .int .i64 0, .int .i64 0, .int .i64 0, .int .i64 0, .int .i64 0, .int .i64 0, .int .i64 0, .int .i64 0, .int .i64 0, .int .i64 0] : Array Value) = tab2 (iv zeroI) := rfl
theorem built_table : Tryz.prog.built 57 [] = some (tab2 (iv zeroI)) := by kernel_rfl

/-- 'copy' of a row into the table -/
theorem copy_row_step {ops : Array Oper} {rest : List Oper} {o : Oper} {a : Act} {w : World} {Q : Exit → Act → World → Prop} (hgd : o.guard = none) (d s : Operand)
    (ho : o.op = .call { callee := .builtin .copy, args := #[d, s], argTypes := #[23, 23] }) {g rb ro rc : Nat} {L : List Int} {T : List (List Int)} {k : Int}
    (hd : a.eval d = .slice (some ⟨g, k.toNat * 6, none⟩) 6 6) (hs : a.eval s = .slice (some ⟨rb, ro, none⟩) (rowAt T k).length rc)
    (ht : Blk w g 57 (iv (timTo L T k))) (hcs : Cells w rb ro (rowAt T k)) (k0 : 0 ≤ k) (k6 : k < 6) (n6 : num L ≤ 6) (hrl : ((rowAt T k).length : Int) = L.length)
    (h : wpList Tryz.prog ops Q rest (a.put o.dst (goInt (rowAt T k).length)) (w.setRow g (tab2 (iv (timTo L T (k + 1)))))) : wpList Tryz.prog ops Q (o :: rest) a w := by
  have hn : num L = L.length := rfl
  have hl : ((rowAt T k).map fun v => Value.int .i64 v).length = (rowAt T k).length := List.length_map _
  refine wpList_copy_own hgd d s _ _ ho 3 Tryz.underlying23 info_int1 g (k.toNat * 6) 6 6 ⟨rb, ro, none⟩ _ _ hd hs _ 57 ht.heap ((rowAt T k).map fun v => Value.int .i64 v) ?_ ?_ ?_ ?_ ?_
  · rw [hl]; exact (Nat.min_eq_left (by omega)).symm
  · intro j v hj
    rw [Addr.add_mid]
    simp only [List.getElem?_map, Option.map_eq_some_iff] at hj
    obtain ⟨u, hu, rfl⟩ := hj
    obtain ⟨q1, q2⟩ := List.getElem?_eq_some_iff.1 hu
    rw [hcs j q1]; unfold nth; simp [q1, q2]
  · rw [tab2_size, hl]; omega
  · intro v hv
    simp only [List.mem_map] at hv
    obtain ⟨u, _, rfl⟩ := hv; rfl
  · rw [copy_tab k0 k6 n6 hrl, hl]; exact h

set_option maxRecDepth 100000 in
set_option maxHeartbeats 2000000 in
/-- impl.readTimes -/
theorem readTimes_any (b : Option Addr) (cb : Nat) (L : List Int) (T : List (List Int)) (w : World) (hT : RdT w b T) (n1 : 1 ≤ num L) (n6 : num L ≤ 6) :
    Calls Tryz.prog 68 #[.slice b T.length cb, .agg (latOf L)] w fun e w' => e = .returned (.tuple #[.agg (tab2 (iv (timA L T))), .bool (shapeB L T)]) ∧ Below w.heap.size w w' := by
  have hn : num L = L.length := rfl
  have n1' : 1 ≤ (L.length : Int) := by omega
  have n6' : (L.length : Int) ≤ 6 := by omega
  obtain ⟨w1, hw1⟩ : ∃ w1, w1 = ((w.alloc (.cells (latOf L) 59)).alloc (.cells (tab2 (iv zeroI)) 57)).alloc (.cells (tab2 (iv zeroI)) 57) := ⟨_, rfl⟩
  have hB : Below w.heap.size w w1 := by rw [hw1]; exact (((Below.refl _ _).alloc (Nat.le_refl _) _).alloc (by simp) _).alloc (by simp; omega) _
  have hL : LatAt w1 w.heap.size L := by
    rw [hw1]; exact ((LatAt.new w L).below (((Below.refl _ _).alloc (Nat.le_refl _) _).alloc (by simp) _) (by simp))
  have hz : Blk w1 (w.heap.size + 1) 57 (iv zeroI) := by rw [hw1]; exact (Blk.mk' (by simp) rfl).alloc _
  have ht : Blk w1 (w.heap.size + 1 + 1) 57 (iv zeroI) := by rw [hw1]; exact Blk.mk' (by simp) rfl
  have hc0 := hL.size
  have HN := Lib.hid hn; clear hn
  by_cases hlen : (T.length : Int) = L.length
  · have hne : ((T.length : Int) != (L.length : Int)) = false := by rw [hlen]; simp
    obtain ⟨B, off, rfl, hcell⟩ := hT (by intro e; rw [e] at hlen; simp at hlen; omega)
    have HC := Lib.hid hcell; clear hcell hT
    go_enter Tryz.func68, Tryz.ntmps68
    go_wp2_with (first | (rw [lit36, ← hw1]; clear hw1))
    go_loopw [7, 8, 17] (fun _ _ c wr => ∃ k : Int, 0 ≤ k ∧ k ≤ T.length ∧ c = .int .i64 k ∧ AllTo k (rowOk L T) ∧ Blk wr (w.heap.size + 1 + 1) 57 (iv (timTo L T k)) ∧ Blk wr (w.heap.size + 1) 57 (iv zeroI) ∧ LatAt wr w.heap.size L ∧ Below w.heap.size w wr) (fun _ _ c _ => (6 - intOf c).toNat)
    case atStart => exact ⟨0, by omega, by omega, rfl, AllTo.zero _, ht.congr fun a b a0 _ _ _ => timTo_zero L T a b a0, hz, hL, hB⟩
    case round =>
      clear hB hL hz ht hc0
      obtain ⟨k, k0, k1, rfl, ha, ht, hz, hL, hB⟩ := hrel
      have hc0 := hL.size
      by_cases hk : k < T.length
      · obtain ⟨ra, rc, h1, h2⟩ := RdT.row HC.out k0 hk
        have hk6 : k < 6 := by omega
        have d0 : wr.cell? ⟨B, off + k.toNat, none⟩ = some (.slice ra (rowAt T k).length rc) := by rw [hB.cell (by exact block_lt_of_cell h1)]; exact h1
        have hrd := h2.below hB
        clear h1 h2
        by_cases hrl : ((rowAt T k).length : Int) = L.length
        · have hne2 : (((rowAt T k).length : Int) != (L.length : Int)) = false := by rw [hrl]; simp
          have hr1 := Lib.hid (rowOk_with hrl)
          cases hw : withB L (rowAt T k) with
          | false =>
            rw [hw] at hr1
            have hf := shape_f_row (T := T) k0 (by rw [HN.out]; omega) hr1.out
            have HF := Lib.hid hf
            have HA := Lib.hid (timA_f hf)
            have HW := Lib.hid hw
            clear hf hw hr1
            go_wp2_with (first
              | go_skip
              | (refine wpList_load_row_w rfl 59 _ rfl w.heap.size rfl _ _ _ _ hL Tryz.underlying59 rfl (size_lat _ _ _ _) ?_)
              | (go_at_call 105; refine (ret_below (has_any _ _ L _ _ hrd (by omega)) HW.out).mono ?_; rintro e w5 ⟨rfl, h5⟩; replace hz := hz.below h5 hz.lt; replace hB := hB.trans (h5.mono hB.size))
              | (refine wpList_build_is rfl 57 _ rfl _ built_table ?_)
              | (refine wpList_store_row rfl 57 _ _ rfl (w.heap.size + 1) (tab2 (iv zeroI)) rfl rfl _ _ hz.heap (size_table _) rfl (one_iv _) ?_))
            exact bodyPost_ret (v := .tuple #[.agg (tab2 (iv zeroI)), .bool false]) (results_tab_tmp rfl _ _ (w.heap.size + 1) rfl _ (hz.row _).heap rfl) rfl ⟨by rw [HA.out, HF.out], below_setRow' hB (by omega) _⟩
          | true =>
            rw [hw] at hr1
            have HW := Lib.hid hw
            have hlp : 1 ≤ num (rowAt T k) := by show (1 : Int) ≤ ((rowAt T k).length : Int); omega
            obtain ⟨rb, ro, rfl, hcs⟩ := hrd.pos hlp
            have hlr := hcs.lt hlp
            have hrd2 : Rd wr (some ⟨rb, ro, none⟩) (rowAt T k) := fun _ => ⟨rb, ro, rfl, hcs⟩
            clear hw hrd
            have f1 := ht.free (k.toNat * 6)
            go_wp2_with (first
              | go_skip
              | (refine wpList_load_row_w rfl 59 _ rfl w.heap.size rfl _ _ _ _ hL Tryz.underlying59 rfl (size_lat _ _ _ _) ?_)
              | (go_at_call 105; refine (ret_below (has_any _ _ L _ _ hrd2 (by omega)) HW.out).mono ?_; rintro e w5 ⟨rfl, h5⟩; replace hz := hz.below h5 hz.lt; replace ht := ht.below h5 ht.lt; replace hL := hL.below h5 hL.lt; replace hcs := hcs.below h5 hlr; replace hB := hB.trans (h5.mono hB.size); have HCS := Lib.hid hcs; clear hrd2 hc0 d0 f1)
              | (refine copy_row_step rfl _ _ rfl rfl rfl ht HCS.out k0 hk6 n6 hrl ?_))
            go_roundw
            case rel => exact ⟨k + 1, by omega, by omega, rfl, ha.succ hr1.out, ht.row _, hz.rowOther _ (by omega), by unfold LatAt; rw [setRow_other _ _ _ _ (by omega)]; exact hL, below_setRow' hB (by omega) _⟩
            case measure => simp [intOf]; omega
        · have hne2 : (((rowAt T k).length : Int) != (L.length : Int)) = true := by rw [bne_iff_ne]; exact hrl
          have hf := shape_f_row (L := L) (T := T) k0 (by rw [HN.out]; omega) (rowOk_f_len (by rw [HN.out]; exact hrl))
          have HF := Lib.hid hf
          have HA := Lib.hid (timA_f hf)
          clear hf
          go_wp2_with (first
            | go_skip
            | (refine wpList_build_is rfl 57 _ rfl _ built_table ?_)
            | (refine wpList_store_row rfl 57 _ _ rfl (w.heap.size + 1) (tab2 (iv zeroI)) rfl rfl _ _ hz.heap (size_table _) rfl (one_iv _) ?_))
          exact bodyPost_ret (v := .tuple #[.agg (tab2 (iv zeroI)), .bool false]) (results_tab_tmp rfl _ _ (w.heap.size + 1) rfl _ (hz.row _).heap rfl) rfl ⟨by rw [HA.out, HF.out], below_setRow' hB (by omega) _⟩
      · have hs := shape_t (m := k) (L := L) (T := T) (by rw [HN.out]; exact hlen) (by rw [HN.out]; omega) ha
        have HS := Lib.hid hs
        have HA := Lib.hid (timA_t hs)
        replace ht : Blk wr (w.heap.size + 1 + 1) 57 (iv (timG L T)) := ht.congr fun x y _ _ _ _ => by
          unfold iv timTo timG
          rw [show k = num L by rw [HN.out]; omega]
        clear hs
        go_wp2_with (first
          | (refine wpList_load_row_w rfl 57 _ rfl (w.heap.size + 1 + 1) rfl _ _ _ _ ht.heap Tryz.underlying57 rfl (size_table _) ?_)
          | (refine wpList_store_row rfl 57 _ _ rfl (w.heap.size + 1) _ rfl rfl _ _ hz.heap (size_table _) rfl (one_iv _) ?_))
        exact bodyPost_ret (v := .tuple #[.agg (tab2 (iv (timG L T))), .bool true]) (results_tab_tmp rfl _ _ (w.heap.size + 1) rfl _ (hz.row _).heap rfl) rfl ⟨by rw [HA.out, HS.out], below_setRow' hB (by omega) _⟩
  · have hne : ((T.length : Int) != (L.length : Int)) = true := by rw [bne_iff_ne]; exact hlen
    have hf := shape_f_len (L := L) (T := T) (by rw [HN.out]; exact hlen)
    have HF := Lib.hid hf
    have HA := Lib.hid (timA_f hf)
    clear hf
    go_enter Tryz.func68, Tryz.ntmps68
    go_wp2_with (first
      | (rw [lit36, ← hw1]; clear hw1)
      | (refine wpList_build_is rfl 57 _ rfl _ built_table ?_)
      | (refine wpList_store_row rfl 57 _ _ rfl (w.heap.size + 1) (tab2 (iv zeroI)) rfl rfl _ _ hz.heap (size_table _) rfl (one_iv _) ?_))
    exact bodyPost_ret (v := .tuple #[.agg (tab2 (iv zeroI)), .bool false]) (results_tab_tmp rfl _ _ (w.heap.size + 1) rfl _ (hz.row _).heap rfl) rfl ⟨by rw [HA.out, HF.out], below_setRow' hB (by omega) _⟩
end Go.Proofs.YtpophjloedpcfaaGreatDoor

namespace Go.Proofs.YtpophjloedpcfaaGreatDoor
open Go.RowKit

/-- what the array of implications holds when the loops are at x, y and z -/
def itG (L : List Int) (T : List (List Int)) (x y z a b : Int) : Int :=
  if a < num L ∧ b < num L then (if a < x ∨ (a = x ∧ b < y) then imp L T a b else if a = x ∧ b = y then impTo L T x y z else 0) else 0
theorem itG_start (L : List Int) (T : List (List Int)) (a b : Int) (a0 : 0 ≤ a) (b0 : 0 ≤ b) : iv zeroI a b = iv (itG L T 0 0 0) a b := by
  unfold iv itG
  congr 1
  show (0 : Int) = _
  split
  · rw [if_neg (by omega)]
    split
    · rfl
    · rfl
  · rfl
theorem itG_set {L : List Int} {T : List (List Int)} {x y z : Int} {v : Int} (hx : x < num L) (hy : y < num L) (hv : v = impTo L T x y (z + 1)) (a b : Int) : upd2 (iv (itG L T x y z)) x y (.int .i64 v) a b = iv (itG L T x y (z + 1)) a b := by
  unfold upd2 iv
  by_cases e : a = x ∧ b = y
  · rw [if_pos e, e.1, e.2]
    congr 1
    unfold itG
    rw [if_pos ⟨hx, hy⟩, if_neg (by omega), if_pos ⟨rfl, rfl⟩, hv]
  · rw [if_neg e]
    congr 1
    unfold itG
    split
    · split
      · rfl
      · rfl
    · rfl
theorem itG_skip {L : List Int} {T : List (List Int)} {x y z : Int} (hv : impTo L T x y (z + 1) = impTo L T x y z) (a b : Int) : iv (itG L T x y z) a b = iv (itG L T x y (z + 1)) a b := by
  unfold iv itG; rw [hv]
theorem itG_y {L : List Int} {T : List (List Int)} {x y : Int} (a b : Int) : iv (itG L T x y (num L)) a b = iv (itG L T x (y + 1) 0) a b := by
  unfold iv itG
  congr 1
  split
  · by_cases h : a < x ∨ (a = x ∧ b < y)
    · rw [if_pos h, if_pos (by omega)]
    · rw [if_neg h]
      by_cases e : a = x ∧ b = y
      · rw [if_pos e, if_pos (by omega), e.1, e.2]; rfl
      · rw [if_neg e, if_neg (by omega)]
        split
        · rfl
        · rfl
  · rfl
theorem itG_x {L : List Int} {T : List (List Int)} {x : Int} (a b : Int) (b0 : 0 ≤ b) : iv (itG L T x (num L) 0) a b = iv (itG L T (x + 1) 0 0) a b := by
  unfold iv itG
  congr 1
  split
  · by_cases h : a < x ∨ (a = x ∧ b < num L)
    · rw [if_pos h, if_pos (by omega)]
    · rw [if_neg h, if_neg (by omega), if_neg (by omega)]
      split
      · rfl
      · rfl
  · rfl
theorem itG_end {L : List Int} {T : List (List Int)} (a b : Int) : iv (itG L T (num L) 0 0) a b = iv (impG L T) a b := by
  unfold iv itG impG
  congr 1
  split
  · rw [if_pos (by omega)]
  · rfl
/-- the results of a function that hands back a table -/
theorem results_tab {fn : Func} {p : Tmp} (h : fn.results = #[.cell p 57]) (tmps : Array Value) (w : World) (g : Nat) (hp : tmps.getD p undef = .pointer (some ⟨g, 0, none⟩))
    (f : Int → Int → Value) (hg : w.heap[g]? = some (.cells (tab2 f) 57 (0, 0))) :
    (results fn tmps).run Tryz.prog w = .ok (.agg (tab2 f)) w :=
  results_cell_row h _ _ g _ _ _ _ hp hg Tryz.underlying57 rfl (size_table _)

set_option maxRecDepth 100000 in
set_option maxHeartbeats 2000000 in
/-- impl.table.implications -/
theorem implications_any (L : List Int) (T : List (List Int)) (w : World) (hlat : latB L = true) (hs : shapeB L T = true) :
    Calls Tryz.prog 70 #[.agg (tab2 (iv (timG L T))), .agg (latOf L)] w fun e w' => e = .returned (.agg (tab2 (iv (impG L T)))) ∧ Below w.heap.size w w' := by
  obtain ⟨n1, n6⟩ := lat_len hlat
  have hn : num L = L.length := rfl
  have n6' : (L.length : Int) ≤ 6 := by omega
  obtain ⟨w1, hw1⟩ : ∃ w1, w1 = (((w.alloc (.cells (tab2 (iv (timG L T))) 57)).alloc (.cells (latOf L) 59)).alloc (.cells (tab2 (iv zeroI)) 57)).alloc (.cells (tab2 (iv zeroI)) 57) := ⟨_, rfl⟩
  have hB : Below w.heap.size w w1 := by rw [hw1]; exact ((((Below.refl _ _).alloc (Nat.le_refl _) _).alloc (by simp) _).alloc (by simp; omega) _).alloc (by simp; omega) _
  have ht : Blk w1 w.heap.size 57 (iv (timG L T)) := by rw [hw1]; exact (((Blk.new w rfl).alloc _).alloc _).alloc _
  have hL : LatAt w1 (w.heap.size + 1) L := by
    have := LatAt.new (w.alloc (.cells (tab2 (iv (timG L T))) 57)) L
    rw [hw1]; exact LatAt.below (by simpa using this) (((Below.refl _ _).alloc (Nat.le_refl _) _).alloc (by simp) _) (by simp)
  have hz : Blk w1 (w.heap.size + 1 + 1) 57 (iv zeroI) := by rw [hw1]; exact (Blk.mk' (by simp) rfl).alloc _
  have hi : Blk w1 (w.heap.size + 1 + 1 + 1) 57 (iv zeroI) := by rw [hw1]; exact Blk.mk' (by simp) rfl
  have hc0 := hL.size
  have HN := Lib.hid hn; clear hn
  have hn1 : num L ≤ L.length := by rw [HN.out]; omega
  have hn2 : (L.length : Int) ≤ num L := by rw [HN.out]; omega
  have HLAT := Lib.hid hlat
  have HS := Lib.hid hs
  clear hlat hs
  go_enter Tryz.func70, Tryz.ntmps70
  go_wp2_with (first | (rw [lit36, ← hw1]; clear hw1))
  go_loopw [6, 7, 8, 11] (fun _ _ _ c wr => ∃ x : Int, 0 ≤ x ∧ x ≤ num L ∧ c = .int .i64 x ∧ Blk wr (w.heap.size + 1 + 1 + 1) 57 (iv (itG L T x 0 0)) ∧ Blk wr (w.heap.size + 1 + 1) 57 (iv zeroI) ∧ LatAt wr (w.heap.size + 1) L ∧ Blk wr w.heap.size 57 (iv (timG L T)) ∧ Below w.heap.size w wr) (fun _ _ _ c _ => (6 - intOf c).toNat)
  case atStart => exact ⟨0, by omega, by omega, rfl, hi.congr fun a b a0 _ b0 _ => itG_start L T a b a0 b0, hz, hL, ht, hB⟩
  case round =>
    clear hB hL hz ht hi hc0
    obtain ⟨x, x0, x1, rfl, hi, hz, hL, ht, hB⟩ := hrel
    have hc0 := hL.size
    by_cases hx : x < num L
    · have hxl : x < L.length := by omega
      go_wp2
      obtain ⟨w3, rfl⟩ : ∃ w3 : World, w3 = wr := ⟨_, rfl⟩
      go_loopw [7, 8, 16] (fun _ _ c wr => ∃ y : Int, 0 ≤ y ∧ y ≤ num L ∧ c = .int .i64 y ∧ Blk wr (w.heap.size + 1 + 1 + 1) 57 (iv (itG L T x y 0)) ∧ Blk wr (w.heap.size + 1 + 1) 57 (iv zeroI) ∧ LatAt wr (w.heap.size + 1) L ∧ Blk wr w.heap.size 57 (iv (timG L T)) ∧ Below w.heap.size w wr) (fun _ _ c _ => (6 - intOf c).toNat)
      case atStart => exact ⟨0, by omega, by omega, rfl, hi, hz, hL, ht, hB⟩
      case round =>
        clear hB hL hz ht hi hc0
        obtain ⟨y, y0, y1, rfl, hi, hz, hL, ht, hB⟩ := hrel
        have hc0 := hL.size
        by_cases hy : y < num L
        · have hyl : y < L.length := by omega
          go_wp2
          obtain ⟨w4, rfl⟩ : ∃ w4 : World, w4 = wr := ⟨_, rfl⟩
          go_loopw [8, 21] (fun _ c wr => ∃ z : Int, 0 ≤ z ∧ z ≤ num L ∧ c = .int .i64 z ∧ Blk wr (w.heap.size + 1 + 1 + 1) 57 (iv (itG L T x y z)) ∧ Blk wr (w.heap.size + 1 + 1) 57 (iv zeroI) ∧ LatAt wr (w.heap.size + 1) L ∧ Blk wr w.heap.size 57 (iv (timG L T)) ∧ Below w.heap.size w wr) (fun _ c _ => (6 - intOf c).toNat)
          case atStart => exact ⟨0, by omega, by omega, rfl, hi, hz, hL, ht, hB⟩
          case round =>
            clear hB hL hz ht hi hc0
            obtain ⟨z, z0, z1, rfl, hi, hz, hL, ht, hB⟩ := hrel
            by_cases hzn : z < num L
            · have hzl : z < L.length := by omega
              obtain ⟨t0, t1⟩ := shape_cell HS.out x0 hx z0 hzn
              obtain ⟨i0, i1⟩ := impTo_lt T x y HLAT.out z0 (by omega : z ≤ num L)
              have t6 : tv T x z < 6 := by omega
              have i6 : impTo L T x y z < 6 := by omega
              have x6 : x < 6 := by omega
              have y6 : y < 6 := by omega
              have z6 : z < 6 := by omega
              have d0 : wr.cell? ⟨w.heap.size, x.toNat * 6 + z.toNat, none⟩ = some (.int .i64 (tv T x z)) := by
                have := cell_of_blk ht x0 x6 z0 z6; rwa [timG_in hx hzn] at this
              have d1 := hL.g t0 t6 y0 y6
              rw [ordG_in t1 hy] at d1
              cases hb : bl L (tv T x z) y with
              | false =>
                rw [hb] at d1
                have hsk := Lib.hid (impTo_f (L := L) (T := T) (x := x) (y := y) z0 hb)
                clear hb
                go_wp2
                go_roundw
                case rel => exact ⟨z + 1, by omega, by omega, rfl, hi.congr fun a b _ _ _ _ => itG_skip hsk.out a b, hz, hL, ht, hB⟩
                case measure => simp [intOf]; omega
              | true =>
                rw [hb] at d1
                have hsu := Lib.hid (impTo_t (L := L) (T := T) (x := x) (y := y) z0 hb)
                have d2 : wr.cell? ⟨w.heap.size + 1 + 1 + 1, x.toNat * 6 + y.toNat, none⟩ = some (.int .i64 (impTo L T x y z)) := by
                  have := cell_of_blk hi x0 x6 y0 y6
                  unfold itG at this
                  rwa [if_pos ⟨hx, hy⟩, if_neg (by omega), if_pos ⟨rfl, rfl⟩] at this
                have d3 := hL.j i0 i6 z0 z6
                rw [tabT_join HLAT.out i0 i1 z0 hzn] at d3
                have f1 := hi.free (x.toNat * 6 + y.toNat)
                clear hb
                go_wp2
                go_region
                go_wp2
                go_roundw
                case rel => exact ⟨z + 1, by omega, by omega, rfl, ((hi.set _ x0 x6 y0 y6).congr fun a b _ _ _ _ => itG_set hx hy (by rw [hsu.out]) a b).drew, (hz.other _ (by simp)).drew, LatAt.below (C := w.heap.size + 1 + 1) hL ((Below.refl _ _).setCell (by simp <;> omega) _).drew (by omega), (ht.other _ (by simp <;> omega)).drew, (hB.setCell (by simp <;> omega) _).drew⟩
                case measure => simp [intOf]; omega
            · have e : z = num L := by omega
              subst e
              go_wp2
              go_roundw
              case rel => exact ⟨y + 1, by omega, by omega, rfl, hi.congr fun a b _ _ _ _ => itG_y a b, hz, hL, ht, hB⟩
              case measure => simp [intOf]; omega
        · have e : y = num L := by omega
          subst e
          go_wp2
          go_roundw
          case rel => exact ⟨x + 1, by omega, by omega, rfl, hi.congr fun a b _ _ b0 _ => itG_x a b b0, hz, hL, ht, hB⟩
          case measure => simp [intOf]; omega
    · have e : x = num L := by omega
      subst e
      replace hi : Blk wr (w.heap.size + 1 + 1 + 1) 57 (iv (impG L T)) := hi.congr fun a b _ _ _ _ => itG_end a b
      go_wp2_with (first | (refine wpList_load_row_w rfl 57 _ rfl (w.heap.size + 1 + 1 + 1) rfl _ _ _ _ hi.heap Tryz.underlying57 rfl (size_table _) ?_) | (refine wpList_store_row rfl 57 _ _ rfl (w.heap.size + 1 + 1) _ rfl rfl _ _ hz.heap (size_table _) rfl (one_iv _) ?_))
      refine bodyPost_ret (results_tab rfl _ _ (w.heap.size + 1 + 1) rfl _ (hz.row _).heap) rfl ⟨rfl, below_setRow' hB (by omega) _⟩
end Go.Proofs.YtpophjloedpcfaaGreatDoor

/- (has and its kin are in H4) -/
namespace Go.Proofs.YtpophjloedpcfaaGreatDoor
end Go.Proofs.YtpophjloedpcfaaGreatDoor

namespace Go.Proofs.YtpophjloedpcfaaGreatDoor
open Go.RowKit

theorem fit_join {L : List Int} (h : latB L = true) : FitG L.length (tabJ L) := fun x y x0 x1 y0 y1 => by
  unfold tabJ; rw [tabT_join h x0 x1 y0 y1]; exact lat_jn h x0 x1 y0 y1
theorem fit_meet {L : List Int} (h : latB L = true) : FitG L.length (tabM L) := fun x y x0 x1 y0 y1 => by
  unfold tabM; rw [tabT_meet h x0 x1 y0 y1]; exact lat_mt h x0 x1 y0 y1
end Go.Proofs.YtpophjloedpcfaaGreatDoor

namespace Go.Proofs.YtpophjloedpcfaaGreatDoor
open Go.RowKit

/-- The cells of an algebra. -/
def algA (n : Int) (g : Int → Int → Bool) (m j : Int → Int → Int) (f i : Int → Int → Int) : Array Value := ((latA n g m j).toList ++ (tab2 (iv f)).toList ++ (tab2 (iv i)).toList).toArray
theorem algA_size (n : Int) (g : Int → Int → Bool) (m j f i : Int → Int → Int) : (algA n g m j f i).size = 181 := by simp [algA, tab2, latA]
theorem one_alg (n : Int) (g : Int → Int → Bool) (m j f i : Int → Int → Int) : (algA n g m j f i).all (·.oneCell') = true := by
  refine all_oneCell_toArray fun v hv => ?_
  have h1 := Array.all_eq_true_iff_forall_mem.1 (one_lat n g m j)
  have h2 := Array.all_eq_true_iff_forall_mem.1 (one_iv f)
  have h3 := Array.all_eq_true_iff_forall_mem.1 (one_iv i)
  simp only [List.mem_append, Array.mem_toList_iff] at hv
  rcases hv with (hv | hv) | hv
  · exact h1 v hv
  · exact h2 v hv
  · exact h3 v hv
theorem info_alg : (Tryz.prog.info? 61).map (·.size) = some 181 := by kernel_rfl
theorem size_alg (n : Int) (g : Int → Int → Bool) (m j f i : Int → Int → Int) : (Tryz.prog.info? 61).map (·.size) = some (algA n g m j f i).size := by rw [algA_size]; exact info_alg
def zeroAlg : Array Value := algA 0 zeroG zeroI zeroI zeroI zeroI
theorem size_zeroAlg : (Tryz.prog.info? 61).map (·.size) = some zeroAlg.size := size_alg _ _ _ _ _ _
theorem one_zeroAlg : zeroAlg.all (·.oneCell') = true := one_alg _ _ _ _ _ _
theorem built_alg (n : Int) (g : Int → Int → Bool) (m j f i : Int → Int → Int) :
    Tryz.prog.built 61 [(0, .agg (latA n g m j)), (1, .agg (tab2 (iv f))), (2, .agg (tab2 (iv i)))] = some (algA n g m j f i) := by kernel_rfl
theorem built_alg0 : Tryz.prog.built 61 [] = some zeroAlg := by kernel_rfl
/-- the algebra that the numbers are read as -/
def algOf (L : List Int) (T : List (List Int)) : Array Value := algA L.length (ordG L) (tabM L) (tabJ L) (timG L T) (impG L T)
theorem results_alg_tmp {fn : Func} {p u : Tmp} (h : fn.results = #[.cell p 61, .tmp u]) (tmps : Array Value) (w : World) (g : Nat) (hp : tmps.getD p undef = .pointer (some ⟨g, 0, none⟩))
    (arr : Array Value) {v : Value} (hz : arr.size = 181) (hg : w.heap[g]? = some (.cells arr 61 (0, 0))) (hu : tmps.getD u undef = v) :
    (results fn tmps).run Tryz.prog w = .ok (.tuple #[.agg arr, v]) w := by
  have hp' : tmps[p]?.getD undef = .pointer (some ⟨g, 0, none⟩) := by simpa using hp
  have hu' : tmps[u]?.getD undef = v := by simpa using hu
  have hl := run_loadVar_row (P := Tryz.prog) w g _ 61 _ _ _ hg Tryz.underlying61 rfl (by rw [hz]; exact info_alg)
  simp [results, h, hp', hu', asAddr, hl]
theorem fit_tim {L : List Int} {T : List (List Int)} (h : shapeB L T = true) : FitG L.length (timG L T) := fun x y x0 x1 y0 y1 => by
  have hn : num L = L.length := rfl
  rw [timG_in (by omega) (by omega)]; exact shape_cell h x0 x1 y0 y1
theorem all2_congr {n : Int} {p q : Int → Int → Bool} (h : ∀ x y, 0 ≤ x → x < n → 0 ≤ y → y < n → p x y = q x y) : all2 n p = all2 n q :=
  allI_congr fun x x0 x1 => allI_congr fun y y0 y1 => h x y x0 x1 y0 y1
theorem areG_eq {L : List Int} {T : List (List Int)} (hl : latB L = true) (h : shapeB L T = true) : areG L.length (timG L T) (tabJ L) = allI (num L) (lwX L T) := by
  have hn : num L = L.length := rfl
  rw [← areB_eq]
  unfold areG areB
  rw [← hn]
  have ht : ∀ x y, 0 ≤ x → x < num L → 0 ≤ y → y < num L → timG L T x y = tv T x y := fun x y _ x1 _ y1 => timG_in x1 y1
  have hj : ∀ x y, 0 ≤ x → x < num L → 0 ≤ y → y < num L → tabJ L x y = jn L x y := fun x y x0 x1 y0 y1 => tabT_join hl x0 x1 y0 y1
  have hc := fun x y x0 x1 y0 y1 => shape_cell (x := x) (y := y) h x0 x1 y0 y1
  have hjl := fun x y x0 x1 y0 y1 => lat_jn (x := x) (y := y) hl x0 x1 y0 y1
  have hp := lat_len hl
  congr 1
  · congr 1
    · congr 1
      · exact all2_congr fun x y x0 x1 y0 y1 => by unfold sbG sbXY; rw [ht x y x0 x1 y0 y1, ht y x y0 y1 x0 x1]
      · exact all2_congr fun x y x0 x1 y0 y1 => allI_congr fun z z0 z1 => by
          obtain ⟨a0, a1⟩ := hc x y x0 x1 y0 y1
          obtain ⟨b0, b1⟩ := hc y z y0 y1 z0 z1
          unfold asG asQ
          rw [ht x y x0 x1 y0 y1, ht y z y0 y1 z0 z1, ht _ z a0 a1 z0 z1, ht x _ x0 x1 b0 b1]
    · exact allI_congr fun x x0 x1 => by
        unfold kbG kbX
        rw [ht x (num L - 1) x0 x1 (by omega) (by omega), ht x 0 x0 x1 (by omega) (by omega)]
  · exact all2_congr fun y z y0 y1 z0 z1 => allI_congr fun x x0 x1 => by
      obtain ⟨a0, a1⟩ := hjl y z y0 y1 z0 z1
      obtain ⟨b0, b1⟩ := hc x y x0 x1 y0 y1
      obtain ⟨c0, c1⟩ := hc x z x0 x1 z0 z1
      unfold goG goQ
      rw [hj y z y0 y1 z0 z1, ht x _ x0 x1 a0 a1, ht x y x0 x1 y0 y1, ht x z x0 x1 z0 z1, hj _ _ b0 b1 c0 c1]

set_option maxRecDepth 100000 in
set_option maxHeartbeats 2000000 in
theorem readAlgebra_lat (a b : Option Addr) (ca cb : Nat) (L : List Int) (T : List (List Int)) (w : World) (hr : Rd w a L) (h : latB L = false) :
    Calls Tryz.prog 33 #[.agg #[.slice a L.length ca, .slice b T.length cb]] w fun e w' => e = .returned (.tuple #[.agg zeroAlg, .bool false]) ∧ Below w.heap.size w w' := by
  have hB1 : Below w.heap.size w ((w.alloc (.cells #[.slice a L.length ca, .slice b T.length cb] 26)).alloc (.cells zeroAlg 61)) := ((Below.refl _ _).alloc (Nat.le_refl _) _).alloc (by simp) _
  have hr1 := hr.below hB1
  have hz1 : ((w.alloc (.cells #[.slice a L.length ca, .slice b T.length cb] 26)).alloc (.cells zeroAlg 61)).heap[w.heap.size + 1]? = some (.cells zeroAlg 61 (0, 0)) := heap_alloc2_new _ _ _
  go_enter Tryz.func33, Tryz.ntmps33
  go_wp2_with (first
    | go_skip
    | (go_at_call 67; refine (readLattice_no _ _ L _ hr1 h).mono ?_; rintro e w2 ⟨rfl, h2⟩; have hz := (h2.block _ (lt_of_block hz1)).trans hz1; have hB := hB1.trans (h2.mono hB1.size); clear h2)
    | (refine wpList_store_row rfl 59 _ _ rfl w2.heap.size zeroLat rfl rfl _ _ (heap_alloc_new w2 (.cells zeroLat 59)) (size_lat _ _ _ _) rfl (one_lat _ _ _ _) ?_; rw [World.setRow_alloc_new]; obtain ⟨w3, hw3⟩ : ∃ w3, w3 = w2.alloc (.cells zeroLat 59) := ⟨_, rfl⟩; rw [← hw3]; replace hz : w3.heap[w.heap.size + 1]? = some (.cells zeroAlg 61 (0, 0)) := (by rw [hw3, Below.heap_alloc _ _ _ (lt_of_block hz)]; exact hz); replace hB : Below w.heap.size w w3 := (by rw [hw3]; exact hB.alloc hB.size _); clear hw3)
    | (refine wpList_store_row rfl 61 _ _ rfl (w.heap.size + 1) zeroAlg rfl rfl _ _ hz size_zeroAlg rfl one_zeroAlg ?_))
  exact bodyPost_ret (v := .tuple #[.agg zeroAlg, .bool false]) (results_alg_tmp rfl _ _ (w.heap.size + 1) rfl _ (algA_size _ _ _ _ _ _) (setRow_heap _ _ _ _ _ _ hz) rfl) rfl ⟨rfl, below_setRow' hB (by omega) _⟩
end Go.Proofs.YtpophjloedpcfaaGreatDoor

/- A region that draws its order: quiet operations (of a class of worlds) ahead, a tail in one order behind. -/
namespace Go.Proofs.YtpophjloedpcfaaGreatDoor
open Go.RowKit

section
variable {P : Program} {ops : Array Oper} {md : Region.Mode} {C : World → Prop} {n : Nat}
/-- Whatever order the ahead part comes up in, for so many operations; then L. -/
def headQ (P : Program) (md : Region.Mode) (ops : Array Oper) (C : World → Prop) (n : Nat) (L : Array Bool → Act → Prop) : Nat → Array Bool → Act → Prop
  | 0, l, a => L l a
  | f + 1, l, a => Region.ready md ops l ≠ [] ∧ ∀ i, i ∈ Region.ready md ops l → i < n ∧ qOp P ops C i (headQ P md ops C n L f (l.setIfInBounds i true)) a
theorem any_of_headQ {g : Nat} {L : Array Bool → Act → Prop} {Q' : Exit → Act → World → Prop} (hL : ∀ l a w, C w → L l a → wpAny P md ops Q' g l a w) :
    ∀ (f : Nat) (l : Array Bool) (a : Act) (w : World), C w → headQ P md ops C n L f l a → wpAny P md ops Q' (f + g) l a w := by
  intro f
  induction f with
  | zero => intro l a w hw h; rw [Nat.zero_add]; exact hL l a w hw h
  | succ f ih =>
    intro l a w hw h
    have e : f + 1 + g = (f + g) + 1 := by omega
    rw [e]
    exact ⟨fun h0 => absurd h0 h.1, fun i hi => wpOp_of_qOp hw (fun a' w' hw' h' => ih _ a' w' hw' h') (h.2 i hi).2⟩
theorem headQ_first {i : Nat} {oi : Oper} {v : Value} {L : Array Bool → Act → Prop} (hi : ops[i]? = some oi) (hsel : Region.noSelect ops = true)
    (hs : Region.sinkB md ops n = true) (hc : Region.chainB md ops n = true) (hn : n < ops.size) (hin : i < n) (hdone : ∀ l a, L l a → ∀ j, j ∈ Region.ready md ops l → n ≤ j) (f : Nat) :
    ∀ (l : Array Bool) (a : Act), HeadInv md ops n l →
      (∀ j oj, ops[j]? = some oj → j ≠ i → l.getD j true = false → (∀ e ∈ oj.after, Region.binds md e = true → e.on ≠ i) → oi.apart ops oj = true) →
      i ∈ Region.ready md ops l → YieldsIn P ops C oi v a → headQ P md ops C n L f (l.setIfInBounds i true) (a.put oi.dst v) → headQ P md ops C n L (f + 1) l a := by
  induction f with
  | zero =>
    intro l a inv _ hr hy H
    refine ⟨fun h0 => (by rw [h0] at hr; cases hr), fun j hj => ?_⟩
    have hjn : j < n := Classical.byContradiction fun hge => tail_waits hs hc hn inv _ i rfl hin (mem_ready.1 hr).1 j (by omega) hj
    by_cases hji : j = i
    · subst hji; exact ⟨hjn, hy.qOp hi H⟩
    · exact absurd (hdone _ _ H j (ready_mono hj hji)) (by omega)
  | succ f ih =>
    intro l a inv hfree hr hy H
    refine ⟨fun h0 => (by rw [h0] at hr; cases hr), fun j hj => ?_⟩
    have hjn : j < n := Classical.byContradiction fun hge => tail_waits hs hc hn inv _ i rfl hin (mem_ready.1 hr).1 j (by omega) hj
    by_cases hji : j = i
    · subst hji; exact ⟨hjn, hy.qOp hi H⟩
    · obtain ⟨hjun, oj, hoj, hall⟩ := mem_ready.1 hj
      have hno : ∀ e ∈ oj.after, Region.binds md e = true → e.on ≠ i := fun e he hb heq => by
        have h1 := hall e he hb
        rw [heq, getD_both (mem_ready.1 hr).1] at h1
        cases h1
      have hnext := qOp_put hoj (hfree j oj hoj hji hjun hno) (fun cs b => Region.noSelect_spec hsel i oi cs b hi) (fun cs b => Region.noSelect_spec hsel j oj cs b hoj) hy (H.2 j (ready_mono hj hji)).2
      refine ⟨hjn, qOp_mono (fun a' h3 => ih _ a' (inv.set hj hjn) ?_ (ready_mono hr (Ne.symm hji)) h3.1 ?_) hnext⟩
      · intro k ok hk hki hun hno'
        refine hfree k ok hk hki ?_ hno'
        by_cases hjk : j = k
        · subst hjk; exact hjun
        · rwa [getD_set_ne true hjk] at hun
      · rw [Array.setIfInBounds_comm _ _ hji]; exact h3.2
theorem headQ_lex {g : Nat} {Lq : Act → Prop} (hsel : Region.noSelect ops = true) (hs : Region.sinkB md ops n = true) (hc : Region.chainB md ops n = true) (hn : n < ops.size) :
    ∀ (l : List Oper) (k : Nat) (b : Array Bool) (a : Act), (∀ j, j < l.length → l[j]? = ops[k + j]?) → k + l.length = n → HeadInv md ops n b →
    Region.lexHead md ops g l.length k b = true → wpQuiet P ops C Lq l a →
    headQ P md ops C n (fun b' a' => Region.seqB md ops g n b' = true ∧ Lq a') l.length b a := by
  intro l
  induction l with
  | nil =>
    intro k b a _ hk _ hB h
    obtain rfl : k = n := by simpa using hk
    exact ⟨by simpa [Region.lexHead] using hB, h⟩
  | cons o l ih =>
    intro k b a hl hk inv hB h
    have h0 : ops[k]? = some o := by simpa using (hl 0 (by simp)).symm
    simp only [List.length_cons] at hk
    simp only [List.length_cons, Region.lexHead, Bool.and_eq_true] at hB
    have hr : k ∈ Region.ready md ops b := by simpa using hB.1.1
    have hq : qOp P ops C k (wpQuiet P ops C Lq l) a := by unfold qOp; simp only [h0]; exact h
    obtain ⟨v, hy, hK⟩ := yieldsIn_of_qOp h0 hq
    refine headQ_first h0 hsel hs hc hn (by omega) (fun b' a' hL => seqB_ready hL.1) l.length b a inv (Region.free_spec h0 hB.1.2) hr hy ?_
    refine ih (k + 1) _ _ (fun j hj => ?_) (by omega) (inv.set hr (by omega)) hB.2 hK
    have := hl (j + 1) (by simp; omega)
    simpa [Nat.add_assoc, Nat.add_comm 1 j] using this
end
/-- The region: its first n operations quiet in the class, the others behind them in their order. -/
theorem region_tail {P : Program} {id : Nat} {Q : Exit → Act → World → Prop} {a : Act} {w : World} {l : List Oper} (n : Nat) (C : World → Prop) (hm : P.follows .mixedOrders = true) (hB : Region.lexTailB .any l.toArray n = true) (hC : C (w.drewN 1))
    (h : Nonempty (In C) → wpQuiet P l.toArray (fun w' => ∃ s : In C, w' = s.w) (fun a' => ∀ s : In C, wpList P l.toArray Q (l.drop n) a' s.w) (l.take n) a) : (Code.region id l.toArray true).wp P Q a w := by
  have hq := h ⟨⟨_, hC⟩⟩
  simp only [Region.lexTailB, Bool.and_eq_true, decide_eq_true_eq] at hB
  obtain ⟨⟨⟨⟨hsel, hn⟩, hs⟩, hc⟩, hlex⟩ := hB
  have hn' : n < l.length := by simpa using hn
  have htl : (l.take n).length = n := by simp; omega
  have hdl : (l.drop n).length = l.toArray.size - n := by simp
  have inv : HeadInv .any l.toArray n (Array.replicate l.toArray.size false) := by
    refine ⟨by simp, fun j oj _ hl => ?_, fun t _ ht => getD_in (by simpa using ht) (getD_replicate_false _ _)⟩
    rw [getD_replicate_false] at hl; cases hl
  have H := headQ_lex (md := .any) (g := l.toArray.size - n) hsel hs hc hn (l.take n) 0 _ a (fun j hj => by
    rw [htl] at hj
    simp [hj]) (by simpa using htl) inv (by rw [htl]; exact hlex) hq
  refine wp_region_any hm ?_
  have H2 := any_of_headQ (Q' := Q) (g := l.toArray.size - n) (fun b a' w' hw' hL => by
    obtain ⟨s, rfl⟩ := hw'
    have := wpAny_of_seq (md := .any) (Q' := Q) (l.drop n) n b a' s.w (fun j => by simp [List.getElem?_drop]) (by rw [hdl]; exact hL.1) (hL.2 s)
    rwa [hdl] at this) _ _ _ (w.drewN 1) ⟨⟨_, hC⟩, rfl⟩ H
  rw [htl, show n + (l.toArray.size - n) = l.toArray.size by omega] at H2
  exact H2
end Go.Proofs.YtpophjloedpcfaaGreatDoor

/- A region that draws its order: operations that yield the same in all worlds of a class, among calls that stay in the class. -/
namespace Go.Proofs.YtpophjloedpcfaaGreatDoor
open Go.RowKit

section
variable {P : Program} {ops : Array Oper} {md : Region.Mode} {Q : Exit → Act → World → Prop} {C : World → Prop}
/-- 'wpAny', in the class all along -/
def wpAnyC (P : Program) (md : Region.Mode) (ops : Array Oper) (Q : Exit → Act → World → Prop) (C : World → Prop) : Nat → Array Bool → Act → World → Prop
  | 0, l, a, w => C w ∧ Region.ready md ops l = [] ∧ Q .normal a w
  | f + 1, l, a, w => C w ∧ (Region.ready md ops l = [] → Q .normal a w) ∧ ∀ i, i ∈ Region.ready md ops l → wpOp P ops Q i (wpAnyC P md ops Q C f (l.setIfInBounds i true)) a w
theorem any_of_C : ∀ (f : Nat) (l : Array Bool) (a : Act) (w : World), wpAnyC P md ops Q C f l a w → wpAny P md ops Q f l a w
  | 0, _, _, _, h => h.2
  | f + 1, _, _, _, h => ⟨h.2.1, fun i hi => wpOp_mono (fun a' w' h' => any_of_C f _ a' w' h') (h.2.2 i hi)⟩
theorem wpAnyC.cl : ∀ {f : Nat} {l : Array Bool} {a : Act} {w : World}, wpAnyC P md ops Q C f l a w → C w
  | 0, _, _, _, h => h.1
  | _ + 1, _, _, _, h => h.1
/-- the operation yields the value in all worlds of the class -/
def YieldsC (P : Program) (ops : Array Oper) (C : World → Prop) (o : Oper) (v : Value) (a : Act) : Prop :=
  (Region.wanted o (yielded ops a.tmps) = true ∧ ∀ w, C w → (execOp a.eval o).run P w = .ok (.value v) w) ∨
  (Region.wanted o (yielded ops a.tmps) = false ∧ v = undef)
theorem YieldsC.wpOp {i : Nat} {o : Oper} {v : Value} {a : Act} (hi : ops[i]? = some o) (hy : YieldsC P ops C o v a)
    {K : Act → World → Prop} {w : World} (hC : C w) (h : K (a.put o.dst v) w) : wpOp P ops Q i K a w := by
  unfold Go.wpOp
  simp only [hi]
  rcases hy with ⟨hw, hv⟩ | ⟨hw, rfl⟩
  · simp only [hw, if_true, Oper.wp, hv w hC, Oper.upon]; exact .inl h
  · simp only [hw, Bool.false_eq_true, if_false]; exact h
theorem YieldsC.of_same {o : Oper} {v : Value} {a a' : Act} (hy : YieldsC P ops C o v a) (he : execOp a'.eval o = execOp a.eval o)
    (hw : Region.wanted o (yielded ops a'.tmps) = Region.wanted o (yielded ops a.tmps)) : YieldsC P ops C o v a' := by
  unfold YieldsC at *
  rw [he, hw]
  exact hy
theorem wpOp_putC {j : Nat} {oi oj : Oper} {v : Value} (hj : ops[j]? = some oj) (hap : oi.apart ops oj = true)
    (hsi : ∀ cs b, oi.op ≠ .select cs b) (hsj : ∀ cs b, oj.op ≠ .select cs b)
    (hQ : ∀ c a w, Q (.panic c) (a.put oi.dst v) w → Q (.panic c) a w) {K : Act → World → Prop} {a : Act} {w : World}
    (hy : YieldsC P ops C oi v a) (h : wpOp P ops Q j K (a.put oi.dst v) w) :
    wpOp P ops Q j (fun a' w' => YieldsC P ops C oi v a' ∧ K (a'.put oi.dst v) w') a w := by
  obtain ⟨h1, h2, h3⟩ := Oper.apart_spec hap
  have keep : ∀ (a : Act), YieldsC P ops C oi v a → ∀ u, YieldsC P ops C oi v (a.put oj.dst u) := fun a hy u =>
    hy.of_same (execOp_put oi hsi a oj.dst u h3) (wanted_put oi a oj.dst u h3)
  have keepD : ∀ d, YieldsC P ops C oi v { a with defers := d :: a.defers } := fun d => hy.of_same rfl rfl
  unfold wpOp at *
  simp only [hj] at *
  rw [wanted_put oj a oi.dst v h1] at h
  split
  · rename_i hw
    simp only [hw, if_true] at h
    rcases h with h | ⟨hasks, hlets⟩
    case inr => exact .inr ⟨by unfold Oper.asks at *; rw [execOp_put oj hsj a oi.dst v h1] at hasks; exact hasks, hlets⟩
    refine .inl ?_
    unfold Oper.wp at *
    rw [execOp_put oj hsj a oi.dst v h1] at h
    generalize (execOp a.eval oj).run P w = r at *
    cases r with
    | ok n w' =>
      cases n <;> simp only [Oper.upon] at h ⊢
      case value u => exact ⟨keep a hy u, by rw [← Act.put_comm a v u h2]; exact h⟩
      case skip => exact ⟨keep a hy _, by rw [← Act.put_comm a v undef h2]; exact h⟩
      case defer d =>
        refine ⟨keep _ (keepD d) _, ?_⟩
        rw [← Act.put_comm _ v undef h2, ← Act.put_defers]
        exact h
      case enter f args =>
        refine Calls.mono h fun e w'' he => ?_
        cases e with
        | returned u => exact ⟨keep a hy u, by rw [← Act.put_comm a v u h2]; exact he⟩
        | panicked c => exact hQ _ _ _ he
        | outgrown => exact he
      case row row args => exact Rows.mono h fun u w'' he => ⟨keep a hy u, by rw [← Act.put_comm a v u h2]; exact he⟩
    | halt x w' =>
      cases x <;> simp only [Oper.upon] at h ⊢
      case panic u => exact hQ _ _ _ h
  · rename_i hw
    simp only [hw] at h
    exact ⟨keep a hy _, by rw [← Act.put_comm a v undef h2]; exact h⟩
theorem anyC_first {i : Nat} {oi : Oper} {v : Value} (hi : ops[i]? = some oi) (hsel : ∀ (j : Nat) (o : Oper) cs b, ops[j]? = some o → o.op ≠ .select cs b)
    (hQ : ∀ c a w, Q (.panic c) (a.put oi.dst v) w → Q (.panic c) a w) :
    ∀ (fuel : Nat) (listed : Array Bool) (a : Act) (w : World),
      (∀ j oj, ops[j]? = some oj → j ≠ i → listed.getD j true = false → (∀ e ∈ oj.after, Region.binds md e = true → e.on ≠ i) → oi.apart ops oj = true) →
      i ∈ Region.ready md ops listed → YieldsC P ops C oi v a →
      wpAnyC P md ops Q C fuel (listed.setIfInBounds i true) (a.put oi.dst v) w → wpAnyC P md ops Q C (fuel + 1) listed a w := by
  intro fuel
  induction fuel with
  | zero =>
    intro listed a w _ hr hy H
    refine ⟨H.1, fun h => (by rw [h] at hr; cases hr), fun j hj => ?_⟩
    by_cases hji : j = i
    · subst hji; exact hy.wpOp hi H.1 H
    · have := ready_mono hj hji
      rw [H.2.1] at this
      cases this
  | succ fuel ih =>
    intro listed a w hfree hr hy H
    refine ⟨H.cl, fun h => (by rw [h] at hr; cases hr), fun j hj => ?_⟩
    by_cases hji : j = i
    · subst hji; exact hy.wpOp hi H.cl H
    · have h1 := H.2.2 j (ready_mono hj hji)
      obtain ⟨hjun, oj, hoj, hall⟩ := mem_ready.1 hj
      have hnot : ∀ e ∈ oj.after, Region.binds md e = true → e.on ≠ i := fun e he hb heq => by
        have h1 := hall e he hb
        have h0 := (mem_ready.1 hr).1
        rw [heq] at h1
        rcases Nat.lt_or_ge i listed.size with h' | h'
        · simp [h'] at h0 h1; rw [h0] at h1; cases h1
        · simp [Array.getElem?_eq_none h'] at h1
      have h2 := wpOp_putC hoj (hfree j oj hoj hji hjun hnot) (fun cs b => hsel i oi cs b hi) (fun cs b => hsel j oj cs b hoj) hQ hy h1
      have hfree' : ∀ k ok, ops[k]? = some ok → k ≠ i → (listed.setIfInBounds j true).getD k true = false →
          (∀ e ∈ ok.after, Region.binds md e = true → e.on ≠ i) → oi.apart ops ok = true := fun k ok hk hki hun hno => by
        refine hfree k ok hk hki ?_ hno
        by_cases hjk : j = k
        · subst hjk; exact hjun
        · rw [getD_set_ne true hjk] at hun; exact hun
      refine wpOp_mono (fun a' w' h3 => ih (listed.setIfInBounds j true) a' w' hfree' (ready_mono hr (Ne.symm hji)) h3.1 ?_) h2
      rw [Array.setIfInBounds_comm _ _ hji]
      exact h3.2
theorem runs_load {o : Oper} {a : Act} (ty : TypeId) (x : Operand) (ho : o.op = .load ty x) (g : Nat) (hx : a.eval x = .pointer (some ⟨g, 0, none⟩)) (t : TypeId) (cs : Array Value) (fr : Nat × Nat) (d : TypeDesc) (hg : ∀ w, C w → w.heap[g]? = some (.cells cs t fr))
    (hu : P.underlying ty = some d) (hd : (match d with | .struct _ | .array _ _ => true | _ => false) = true) (hi : (P.info? ty).map (·.size) = some cs.size) (w : World) (hC : C w) : (execOp a.eval o).run P w = .ok (.value (.agg cs)) w := by
  unfold execOp
  simp only [ho, hx, Instr.loadAt, Instr.sureAddr, Sem.run_bind, Sem.run_pure, Result.andThen_ok, run_loadVar_row w g t ty cs fr d (hg w hC) hu hd hi]
theorem runs_make1 {o : Oper} {a : Act} (f : FuncId) (x : Operand) (ho : o.op = .makeFunc (.func f) #[] #[x]) (v : Value) (hx : a.eval x = v) (w : World) : (execOp a.eval o).run P w = .ok (.value (.func (.func f) #[] #[v])) w := by
  subst hx
  unfold execOp
  simp [ho, Instr.makeFunc]
theorem runs_call2 {o : Oper} {a : Act} (f : FuncId) (x y : Operand) (tys : Array TypeId) (ho : o.op = .call { callee := .value (.func f), args := #[x, y], argTypes := tys }) (u v : Value) (hx : a.eval x = u) (hy : a.eval y = v) (w : World) (he : ∀ (args : Array Value) (w : World), (callFunc f args).run P w = .ok (.enter f args) w) : (execOp a.eval o).run P w = .ok (.enter f #[u, v]) w := by
  subst hx hy
  have h1 := he #[a.eval x, a.eval y] w
  unfold execOp
  simp [ho, resolve, show a.eval (Operand.func f) = .func (.func f) #[] #[] from rfl, Deferred.ofValue, invoke]
  exact h1
theorem runs_call1 {o : Oper} {a : Act} (f : FuncId) (x : Operand) (tys : Array TypeId) (ho : o.op = .call { callee := .value (.func f), args := #[x], argTypes := tys }) (u : Value) (hx : a.eval x = u) (w : World) (he : ∀ (args : Array Value) (w : World), (callFunc f args).run P w = .ok (.enter f args) w) : (execOp a.eval o).run P w = .ok (.enter f #[u]) w := by
  subst hx
  have h1 := he #[a.eval x] w
  unfold execOp
  simp [ho, resolve, show a.eval (Operand.func f) = .func (.func f) #[] #[] from rfl, Deferred.ofValue, invoke]
  exact h1
theorem runs_assign {o : Oper} {a : Act} (x : Operand) (ho : o.op = .assign x) (v : Value) (hx : a.eval x = v) (w : World) : (execOp a.eval o).run P w = .ok (.value v) w := by
  subst hx
  unfold execOp
  simp [ho]
/-- take first what yields in the class -/
theorem anyC_take {i : Nat} {oi : Oper} {v : Value} {fuel : Nat} {listed : Array Bool} {a : Act} {w : World} (hi : ops[i]? = some oi)
    (hs : Region.noSelect ops = true) (hf : Region.free md ops listed i = true) (hr : (Region.ready md ops listed).contains i = true)
    (hQ : ∀ c a w, Q (.panic c) (a.put oi.dst v) w → Q (.panic c) a w) (hy : YieldsC P ops C oi v a)
    (h : wpAnyC P md ops Q C fuel (listed.setIfInBounds i true) (a.put oi.dst v) w) : wpAnyC P md ops Q C (fuel + 1) listed a w :=
  anyC_first hi (Region.noSelect_spec hs) hQ fuel listed a w (Region.free_spec hi hf) (by simpa using hr) hy h
/-- a call that alone is ready -/
theorem anyC_call {i : Nat} {o : Oper} {f : FuncId} {args : Array Value} {fuel : Nat} {listed : Array Bool} {a : Act} {w : World} (hi : ops[i]? = some o)
    (hr : Region.ready md ops listed = [i]) (hw : Region.wanted o (yielded ops a.tmps) = true) (hx : (execOp a.eval o).run P w = .ok (.enter f args) w) (hC : C w)
    (h : Calls P f args w fun e w' => ∃ v, e = .returned v ∧ wpAnyC P md ops Q C fuel (listed.setIfInBounds i true) (a.put o.dst v) w') : wpAnyC P md ops Q C (fuel + 1) listed a w := by
  refine ⟨hC, fun h0 => (by rw [hr] at h0; cases h0), fun j hj => ?_⟩
  rw [hr, List.mem_singleton] at hj
  subst hj
  unfold wpOp
  simp only [hi, hw, if_true, Oper.wp, hx, Oper.upon]
  refine .inl (h.mono fun e w' ⟨v, he, h'⟩ => ?_)
  subst he
  exact h'
theorem anyC_done {listed : Array Bool} {a : Act} {w : World} (hr : Region.ready md ops listed = []) (hC : C w) (h : Q .normal a w) : ∀ fuel, wpAnyC P md ops Q C fuel listed a w
  | 0 => ⟨hC, hr, h⟩
  | _ + 1 => ⟨hC, fun _ => h, by rw [hr]; intro i hi; cases hi⟩
theorem runs_call3 {o : Oper} {a : Act} (f : FuncId) (x y z : Operand) (tys : Array TypeId) (ho : o.op = .call { callee := .value (.func f), args := #[x, y, z], argTypes := tys }) (u v t : Value) (hx : a.eval x = u) (hy : a.eval y = v) (hz : a.eval z = t) (w : World) (he : ∀ (args : Array Value) (w : World), (callFunc f args).run P w = .ok (.enter f args) w) : (execOp a.eval o).run P w = .ok (.enter f #[u, v, t]) w := by
  subst hx hy hz
  have h1 := he #[a.eval x, a.eval y, a.eval z] w
  unfold execOp
  simp [ho, resolve, show a.eval (Operand.func f) = .func (.func f) #[] #[] from rfl, Deferred.ofValue, invoke]
  exact h1
/-- an operation that alone is ready, by a law on lists of operations -/
theorem anyC_law {i : Nat} {o : Oper} {fuel : Nat} {listed : Array Bool} {a : Act} {w : World} (hi : ops[i]? = some o) (hr : Region.ready md ops listed = [i]) (hC : C w)
    (h : wpList P ops (fun e a' w' => match e with | .normal => wpAnyC P md ops Q C fuel (listed.setIfInBounds i true) a' w' | e => Q e a' w') [o] a w) : wpAnyC P md ops Q C (fuel + 1) listed a w := by
  refine ⟨hC, fun h0 => (by rw [hr] at h0; cases h0), fun j hj => ?_⟩
  rw [hr, List.mem_singleton] at hj
  subst hj
  unfold wpOp
  simp only [hi]
  unfold wpList at h
  split at h
  · rename_i hw
    rw [if_pos hw]
    rcases h with h | ⟨ha, hl⟩
    · refine .inl ?_
      unfold Oper.wp at *
      generalize (execOp a.eval o).run P w = r at *
      cases r with
      | ok n w' => cases n <;> exact h
      | halt x w' => cases x <;> exact h
    · exact .inr ⟨ha, hl⟩
  · rename_i hw
    rw [if_neg hw]
    exact h
end
end Go.Proofs.YtpophjloedpcfaaGreatDoor
