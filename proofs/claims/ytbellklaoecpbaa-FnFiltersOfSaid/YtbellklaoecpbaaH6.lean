import Derived.Test.YtbellklaoecpbaaH5
namespace Go.Proofs.Ytbellklaoecpbaa
open Go.RowKit

/-- what the array of implications holds when the loops are at x, y and z -/
def itG (L : List Int) (T : List (List Int)) (x y z a b : Int) : Int :=
  if a < num L ∧ b < num L then (if a < x ∨ (a = x ∧ b < y) then imp L T a b else if a = x ∧ b = y then impTo L T x y z else 0) else 0
theorem itG_start (L : List Int) (T : List (List Int)) (a b : Int) (a0 : 0 ≤ a) (b0 : 0 ≤ b) : iv zeroI a b = iv (itG L T 0 0 0) a b := by
  unfold iv itG
  congr 1
  show (0 : Int) = _
  split
  · rw [if_neg (by omega)]
    split
    · rfl
    · rfl
  · rfl
theorem itG_set {L : List Int} {T : List (List Int)} {x y z : Int} {v : Int} (hx : x < num L) (hy : y < num L) (hv : v = impTo L T x y (z + 1)) (a b : Int) : upd2 (iv (itG L T x y z)) x y (.int .i64 v) a b = iv (itG L T x y (z + 1)) a b := by
  unfold upd2 iv
  by_cases e : a = x ∧ b = y
  · rw [if_pos e, e.1, e.2]
    congr 1
    unfold itG
    rw [if_pos ⟨hx, hy⟩, if_neg (by omega), if_pos ⟨rfl, rfl⟩, hv]
  · rw [if_neg e]
    congr 1
    unfold itG
    split
    · split
      · rfl
      · rfl
    · rfl
theorem itG_skip {L : List Int} {T : List (List Int)} {x y z : Int} (hv : impTo L T x y (z + 1) = impTo L T x y z) (a b : Int) : iv (itG L T x y z) a b = iv (itG L T x y (z + 1)) a b := by
  unfold iv itG; rw [hv]
theorem itG_y {L : List Int} {T : List (List Int)} {x y : Int} (a b : Int) : iv (itG L T x y (num L)) a b = iv (itG L T x (y + 1) 0) a b := by
  unfold iv itG
  congr 1
  split
  · by_cases h : a < x ∨ (a = x ∧ b < y)
    · rw [if_pos h, if_pos (by omega)]
    · rw [if_neg h]
      by_cases e : a = x ∧ b = y
      · rw [if_pos e, if_pos (by omega), e.1, e.2]; rfl
      · rw [if_neg e, if_neg (by omega)]
        split
        · rfl
        · rfl
  · rfl
theorem itG_x {L : List Int} {T : List (List Int)} {x : Int} (a b : Int) (b0 : 0 ≤ b) : iv (itG L T x (num L) 0) a b = iv (itG L T (x + 1) 0 0) a b := by
  unfold iv itG
  congr 1
  split
  · by_cases h : a < x ∨ (a = x ∧ b < num L)
    · rw [if_pos h, if_pos (by omega)]
    · rw [if_neg h, if_neg (by omega), if_neg (by omega)]
      split
      · rfl
      · rfl
  · rfl
theorem itG_end {L : List Int} {T : List (List Int)} (a b : Int) : iv (itG L T (num L) 0 0) a b = iv (impG L T) a b := by
  unfold iv itG impG
  congr 1
  split
  · rw [if_pos (by omega)]
  · rfl
/-- the results of a function that hands back a table -/
theorem results_tab {fn : Func} {p : Tmp} (h : fn.results = #[.cell p 59]) (tmps : Array Value) (w : World) (g : Nat) (hp : tmps.getD p undef = .pointer (some ⟨g, 0, none⟩))
    (f : Int → Int → Value) (hg : w.heap[g]? = some (.cells (tab2 f) 59 (0, 0))) :
    (results fn tmps).run Try.prog w = .ok (.agg (tab2 f)) w :=
  results_cell_row h _ _ g _ _ _ _ hp hg Try.underlying59 rfl (size_table _)

set_option maxRecDepth 100000 in
set_option maxHeartbeats 2000000 in
/-- impl.table.implications -/
theorem implications_any (L : List Int) (T : List (List Int)) (w : World) (hlat : latB L = true) (hs : shapeB L T = true) :
    Calls Try.prog 111 #[.agg (tab2 (iv (timG L T))), .agg (latOf L)] w fun e w' => e = .returned (.agg (tab2 (iv (impG L T)))) ∧ Below w.heap.size w w' := by
  obtain ⟨n1, n6⟩ := lat_len hlat
  have hn : num L = L.length := rfl
  have n6' : (L.length : Int) ≤ 6 := by omega
  obtain ⟨w1, hw1⟩ : ∃ w1, w1 = (((w.alloc (.cells (tab2 (iv (timG L T))) 59)).alloc (.cells (latOf L) 61)).alloc (.cells (tab2 (iv zeroI)) 59)).alloc (.cells (tab2 (iv zeroI)) 59) := ⟨_, rfl⟩
  have hB : Below w.heap.size w w1 := by rw [hw1]; exact ((((Below.refl _ _).alloc (Nat.le_refl _) _).alloc (by simp) _).alloc (by simp; omega) _).alloc (by simp; omega) _
  have ht : Blk w1 w.heap.size 59 (iv (timG L T)) := by rw [hw1]; exact (((Blk.new w rfl).alloc _).alloc _).alloc _
  have hL : LatAt w1 (w.heap.size + 1) L := by
    have := LatAt.new (w.alloc (.cells (tab2 (iv (timG L T))) 59)) L
    rw [hw1]; exact LatAt.below (by simpa using this) (((Below.refl _ _).alloc (Nat.le_refl _) _).alloc (by simp) _) (by simp)
  have hz : Blk w1 (w.heap.size + 1 + 1) 59 (iv zeroI) := by rw [hw1]; exact (Blk.mk' (by simp) rfl).alloc _
  have hi : Blk w1 (w.heap.size + 1 + 1 + 1) 59 (iv zeroI) := by rw [hw1]; exact Blk.mk' (by simp) rfl
  have hc0 := hL.size
  have HN := Lib.hid hn; clear hn
  have hn1 : num L ≤ L.length := by rw [HN.out]; omega
  have hn2 : (L.length : Int) ≤ num L := by rw [HN.out]; omega
  have HLAT := Lib.hid hlat
  have HS := Lib.hid hs
  clear hlat hs
  go_enter Try.func111, Try.ntmps111
  go_wp2_with (first | (rw [lit36, ← hw1]; clear hw1))
  go_loopw [6, 7, 8, 11] (fun _ _ _ c wr => ∃ x : Int, 0 ≤ x ∧ x ≤ num L ∧ c = .int .i64 x ∧ Blk wr (w.heap.size + 1 + 1 + 1) 59 (iv (itG L T x 0 0)) ∧ Blk wr (w.heap.size + 1 + 1) 59 (iv zeroI) ∧ LatAt wr (w.heap.size + 1) L ∧ Blk wr w.heap.size 59 (iv (timG L T)) ∧ Below w.heap.size w wr) (fun _ _ _ c _ => (6 - intOf c).toNat)
  case atStart => exact ⟨0, by omega, by omega, rfl, hi.congr fun a b a0 _ b0 _ => itG_start L T a b a0 b0, hz, hL, ht, hB⟩
  case round =>
    clear hB hL hz ht hi hc0
    obtain ⟨x, x0, x1, rfl, hi, hz, hL, ht, hB⟩ := hrel
    have hc0 := hL.size
    by_cases hx : x < num L
    · have hxl : x < L.length := by omega
      go_wp2
      obtain ⟨w3, rfl⟩ : ∃ w3 : World, w3 = wr := ⟨_, rfl⟩
      go_loopw [7, 8, 16] (fun _ _ c wr => ∃ y : Int, 0 ≤ y ∧ y ≤ num L ∧ c = .int .i64 y ∧ Blk wr (w.heap.size + 1 + 1 + 1) 59 (iv (itG L T x y 0)) ∧ Blk wr (w.heap.size + 1 + 1) 59 (iv zeroI) ∧ LatAt wr (w.heap.size + 1) L ∧ Blk wr w.heap.size 59 (iv (timG L T)) ∧ Below w.heap.size w wr) (fun _ _ c _ => (6 - intOf c).toNat)
      case atStart => exact ⟨0, by omega, by omega, rfl, hi, hz, hL, ht, hB⟩
      case round =>
        clear hB hL hz ht hi hc0
        obtain ⟨y, y0, y1, rfl, hi, hz, hL, ht, hB⟩ := hrel
        have hc0 := hL.size
        by_cases hy : y < num L
        · have hyl : y < L.length := by omega
          go_wp2
          obtain ⟨w4, rfl⟩ : ∃ w4 : World, w4 = wr := ⟨_, rfl⟩
          go_loopw [8, 21] (fun _ c wr => ∃ z : Int, 0 ≤ z ∧ z ≤ num L ∧ c = .int .i64 z ∧ Blk wr (w.heap.size + 1 + 1 + 1) 59 (iv (itG L T x y z)) ∧ Blk wr (w.heap.size + 1 + 1) 59 (iv zeroI) ∧ LatAt wr (w.heap.size + 1) L ∧ Blk wr w.heap.size 59 (iv (timG L T)) ∧ Below w.heap.size w wr) (fun _ c _ => (6 - intOf c).toNat)
          case atStart => exact ⟨0, by omega, by omega, rfl, hi, hz, hL, ht, hB⟩
          case round =>
            clear hB hL hz ht hi hc0
            obtain ⟨z, z0, z1, rfl, hi, hz, hL, ht, hB⟩ := hrel
            by_cases hzn : z < num L
            · have hzl : z < L.length := by omega
              obtain ⟨t0, t1⟩ := shape_cell HS.out x0 hx z0 hzn
              obtain ⟨i0, i1⟩ := impTo_lt T x y HLAT.out z0 (by omega : z ≤ num L)
              have t6 : tv T x z < 6 := by omega
              have i6 : impTo L T x y z < 6 := by omega
              have x6 : x < 6 := by omega
              have y6 : y < 6 := by omega
              have z6 : z < 6 := by omega
              have d0 : wr.cell? ⟨w.heap.size, x.toNat * 6 + z.toNat, none⟩ = some (.int .i64 (tv T x z)) := by
                have := cell_of_blk ht x0 x6 z0 z6; rwa [timG_in hx hzn] at this
              have d1 := hL.g t0 t6 y0 y6
              rw [ordG_in t1 hy] at d1
              cases hb : bl L (tv T x z) y with
              | false =>
                rw [hb] at d1
                have hsk := Lib.hid (impTo_f (L := L) (T := T) (x := x) (y := y) z0 hb)
                clear hb
                go_wp2
                go_roundw
                case rel => exact ⟨z + 1, by omega, by omega, rfl, hi.congr fun a b _ _ _ _ => itG_skip hsk.out a b, hz, hL, ht, hB⟩
                case measure => simp [intOf]; omega
              | true =>
                rw [hb] at d1
                have hsu := Lib.hid (impTo_t (L := L) (T := T) (x := x) (y := y) z0 hb)
                have d2 : wr.cell? ⟨w.heap.size + 1 + 1 + 1, x.toNat * 6 + y.toNat, none⟩ = some (.int .i64 (impTo L T x y z)) := by
                  have := cell_of_blk hi x0 x6 y0 y6
                  unfold itG at this
                  rwa [if_pos ⟨hx, hy⟩, if_neg (by omega), if_pos ⟨rfl, rfl⟩] at this
                have d3 := hL.j i0 i6 z0 z6
                rw [tabT_join HLAT.out i0 i1 z0 hzn] at d3
                have f1 := hi.free (x.toNat * 6 + y.toNat)
                clear hb
                go_wp2
                go_region
                go_wp2
                go_roundw
                case rel => exact ⟨z + 1, by omega, by omega, rfl, ((hi.set _ x0 x6 y0 y6).congr fun a b _ _ _ _ => itG_set hx hy (by rw [hsu.out]) a b).drew, (hz.other _ (by simp)).drew, LatAt.below (C := w.heap.size + 1 + 1) hL ((Below.refl _ _).setCell (by simp <;> omega) _).drew (by omega), (ht.other _ (by simp <;> omega)).drew, (hB.setCell (by simp <;> omega) _).drew⟩
                case measure => simp [intOf]; omega
            · have e : z = num L := by omega
              subst e
              go_wp2
              go_roundw
              case rel => exact ⟨y + 1, by omega, by omega, rfl, hi.congr fun a b _ _ _ _ => itG_y a b, hz, hL, ht, hB⟩
              case measure => simp [intOf]; omega
        · have e : y = num L := by omega
          subst e
          go_wp2
          go_roundw
          case rel => exact ⟨x + 1, by omega, by omega, rfl, hi.congr fun a b _ _ b0 _ => itG_x a b b0, hz, hL, ht, hB⟩
          case measure => simp [intOf]; omega
    · have e : x = num L := by omega
      subst e
      replace hi : Blk wr (w.heap.size + 1 + 1 + 1) 59 (iv (impG L T)) := hi.congr fun a b _ _ _ _ => itG_end a b
      go_wp2_with (first | (refine wpList_load_row_w rfl 59 _ rfl (w.heap.size + 1 + 1 + 1) rfl _ _ _ _ hi.heap Try.underlying59 rfl (size_table _) ?_) | (refine wpList_store_row rfl 59 _ _ rfl (w.heap.size + 1 + 1) _ rfl rfl _ _ hz.heap (size_table _) rfl (one_iv _) ?_))
      refine bodyPost_ret (results_tab rfl _ _ (w.heap.size + 1 + 1) rfl _ (hz.row _).heap) rfl ⟨rfl, below_setRow' hB (by omega) _⟩
end Go.Proofs.Ytbellklaoecpbaa
