import Derived.Test.YtmlbdlobdnhimabM5
import Derived.Test.YtmlbdlobdnhimabY1
import Derived.Test.YtmlbdlobdnhimabW4
import Derived.Test.YtmlbdlobdnhimabPX
import Derived.Test.YtmlbdlobdnhimabH10
/- Meets as products. -/
namespace Go.Proofs.Ytmlbdlobdnhimab

theorem mt_comm2 {L : List Int} (h : latB L = true) {x y : Int} (hx : El L x) (hy : El L y) : mt L x y = mt L y x :=
  bl_anti h (mt_el h hx hy) (mt_el h hy hx) (mt_ge h hy hx (mt_el h hx hy) (mt_lb2 h hx hy) (mt_lb1 h hx hy)) (mt_ge h hx hy (mt_el h hy hx) (mt_lb2 h hy hx) (mt_lb1 h hy hx))
theorem mt_assoc2 {L : List Int} (h : latB L = true) {x y z : Int} (hx : El L x) (hy : El L y) (hz : El L z) : mt L (mt L x y) z = mt L x (mt L y z) := by
  have e1 := mt_el h hx hy
  have e2 := mt_el h hy hz
  have e3 := mt_el h e1 hz
  have e4 := mt_el h hx e2
  refine bl_anti h e3 e4 (mt_ge h hx e2 e3 ?_ (mt_ge h hy hz e3 ?_ (mt_lb2 h e1 hz))) (mt_ge h e1 hz e4 (mt_ge h hx hy e4 (mt_lb1 h hx e2) ?_) ?_)
  · exact bl_trans h e3 e1 hx (mt_lb1 h e1 hz) (mt_lb1 h hx hy)
  · exact bl_trans h e3 e1 hy (mt_lb1 h e1 hz) (mt_lb2 h hx hy)
  · exact bl_trans h e4 e2 hy (mt_lb2 h hx e2) (mt_lb1 h hy hz)
  · exact bl_trans h e4 e2 hz (mt_lb2 h hx e2) (mt_lb2 h hy hz)
end Go.Proofs.Ytmlbdlobdnhimab

namespace Go.Proofs.Ytmlbdlobdnhimab
open Go.RowKit

/-- meets as products: the rows -/
def mtT (L : List Int) : List (List Int) := tabL (mt L) (num L)
theorem mtT_tv {L : List Int} {x y : Int} (hx : El L x) (hy : El L y) : tv (mtT L) x y = mt L x y := tabL_tv _ hx.1 hx.2 hy.1 hy.2
theorem mtT_shape {L : List Int} (h : latB L = true) : shapeB L (mtT L) = true := by
  have hn := (lat_len h).1
  refine shape_t (m := num L) (by unfold mtT; rw [tabL_len]; omega) (Int.le_refl _) fun x x0 x1 => ?_
  have hr : rowAt (mtT L) x = lstTo (mt L x) (num L) := by
    have := tabL_row (mt L) (n := num L) (j := x.toNat) (by omega)
    rw [Int.toNat_of_nonneg x0] at this
    exact this
  refine rowOk_t (m := num L) (by rw [hr]; exact lstTo_len _ _ (by omega)) (Int.le_refl _) fun y y0 y1 => ?_
  have := lat_mt h x0 x1 y0 y1
  unfold cellOk
  rw [mtT_tv ⟨x0, x1⟩ ⟨y0, y1⟩, decide_eq_true this.1, decide_eq_true (show mt L x y ≤ num L - 1 by omega)]; rfl
theorem mtT_go {L : List Int} (h : latB L = true) {x y z : Int} (hx : El L x) (hy : El L y) (hz : El L z) : goQ L (mtT L) x y z = distXYZ L x y z := by
  unfold goQ distXYZ
  rw [mtT_tv hx hy, mtT_tv hx hz, mtT_tv hx (jn_el h hy hz)]
theorem mtT_as {L : List Int} (h : latB L = true) {x y z : Int} (hx : El L x) (hy : El L y) (hz : El L z) : asQ (mtT L) x y z = true := by
  unfold asQ
  rw [mtT_tv hx hy, mtT_tv hy hz, mtT_tv (mt_el h hx hy) hz, mtT_tv hx (mt_el h hy hz), mt_assoc2 h hx hy hz]
  simp
theorem mtT_kb {L : List Int} (h : latB L = true) {x : Int} (hx : El L x) : (tv (mtT L) x (num L - 1) == x && tv (mtT L) x 0 == 0) = true := by
  have hn := (lat_len h).1
  have ht : El L (num L - 1) := ⟨by omega, by omega⟩
  have h0 : El L 0 := ⟨by omega, by omega⟩
  rw [mtT_tv hx ht, mtT_tv hx h0, mt_of_le h hx ht (bl_top h hx), mt_of_ge h hx h0 (bl_low h hx)]
  simp
theorem mtT_alg {L : List Int} (h : latB L = true) : algB L (mtT L) = distB L := by
  unfold algB distB
  rw [h, mtT_shape h, Bool.true_and, Bool.true_and]
  refine allI_congr fun x x0 x1 => ?_
  unfold lwX distX
  rw [mtT_kb h ⟨x0, x1⟩, Bool.true_and]
  refine allI_congr fun y y0 y1 => ?_
  unfold lwXY distXY
  rw [mtT_tv ⟨x0, x1⟩ ⟨y0, y1⟩, mtT_tv ⟨y0, y1⟩ ⟨x0, x1⟩, mt_comm2 h ⟨x0, x1⟩ ⟨y0, y1⟩, beq_self_eq_true, Bool.true_and]
  refine allI_congr fun z z0 z1 => ?_
  unfold lwXYZ
  rw [mtT_as h ⟨x0, x1⟩ ⟨y0, y1⟩ ⟨z0, z1⟩, Bool.true_and]
  exact mtT_go h ⟨x0, x1⟩ ⟨y0, y1⟩ ⟨z0, z1⟩
end Go.Proofs.Ytmlbdlobdnhimab

namespace Go.Proofs.Ytmlbdlobdnhimab
open Go.RowKit

set_option maxRecDepth 100000 in
set_option maxHeartbeats 1000000 in
/-- slices.Clone of a list that is not empty -/
theorem clone_any (a : Option Addr) (ca : Nat) (L : List Int) (w : World) (hr : Rd w a L) (hL : L ≠ []) (hm : L.length ≤ 1048576) :
    Calls Try.prog 106 #[.slice a L.length ca] w (RetSl w.heap.size L w) := by
  obtain ⟨i0, hi, hz0, hz1, hz2⟩ := info_parts info_int
  obtain ⟨b, off, rfl, hn⟩ := rd_news hr hL
  have HN := Lib.hid hn
  have hnil := nil_is
  clear hn hr hL
  go_enter Try.func106, Try.ntmps106
  go_wp2_with (at_builtin; refine wpList_append_own _ rfl _ _ 22 rfl w.heap.size 3 i0 (.int .i64 0) 1 8 Try.underlying22 hi hz0 hz1 hz2 rfl (by decide) _ _ _ rfl (Own.row (L := []) (heap_alloc_new w _) (Nat.le_refl _) (Nat.zero_le _)) ⟨b, off, none⟩ L.length ca (L.map fun x => Value.int .i64 x) rfl (by simp) (old_news _ HN.out) (fun x hx => by simp at hx; obtain ⟨y, _, rfl⟩ := hx; rfl) (by unfold maxLen; simp; omega) (by simp; omega) (by simp) ?_; intro v' w5 hown1 hgrow _; have ho5 : Own w.heap.size w5 v' L := (by unfold Own; simpa using hown1); obtain ⟨ra, rc, rfl, _⟩ := ho5.slice; have hb5 := ((Below.refl w.heap.size w).alloc (Nat.le_refl _) _).grown hgrow (by simp) (fun q hq => (World.ownsRow.lt (Own.row (L := []) (heap_alloc_new w _) (Nat.le_refl _) (Nat.zero_le _)) q hq).1); clear hgrow hown1)
  go_ret
  exact ⟨ra, rc, rfl, ho5, hb5⟩

set_option maxRecDepth 100000 in
set_option maxHeartbeats 2000000 in
/-- spec.meetAlgebra -/
theorem specMeetA_any (a : Option Addr) (ca : Nat) (L : List Int) (w : World) (hr : Rd w a L) (h : latB L = true) :
    Calls Try.prog 109 #[.slice a L.length ca] w (RetRd L (tabL (mt L) L.length) w) := by
  obtain ⟨h1, h6, hs⟩ := latB_parts h
  obtain ⟨i0, hi, hz0, hz1, hz2⟩ := info_parts info_int
  obtain ⟨i1, hi1, hy0, hy1, hy2⟩ := info_parts info_ints
  obtain ⟨b, off, rfl, hn⟩ := rd_news hr (lat_ne h1)
  obtain ⟨w1, hw1⟩ : ∃ w1, w1 = w.alloc (.cells #[.slice none 0 0, .slice none 0 0] 27) := ⟨_, rfl⟩
  have hB : Below w.heap.size w w1 := by rw [hw1]; exact (Below.refl _ _).alloc (Nat.le_refl _) _
  have hz : w1.heap[w.heap.size]? = some (.cells #[.slice none 0 0, .slice none 0 0] 27 (0, 0)) := by rw [hw1]; exact heap_alloc_new w _
  have Kz := Lib.hid (show ∀ wz, Below w1.heap.size w1 wz → wz.heap[w.heap.size]? = some (.cells #[.slice none 0 0, .slice none 0 0] 27 (0, 0)) from fun wz h => (h.block _ (lt_of_block hz)).trans hz)
  have HN := Lib.hid (show ∀ j u, (L.map fun x => Value.int .i64 x)[j]? = some u → w1.cell? ((⟨b, off, none⟩ : Addr).add j) = some u from fun j u hj => (hB.cell (by exact block_lt_of_cell (hn j u hj))).trans (hn j u hj))
  have KC := Lib.hid (show ∀ wz, Below w1.heap.size w1 wz → Cells wz b off L from fun wz h => by
    obtain ⟨b', off', e, hc⟩ := ((hr.below hB).below h) (lat_ne h1)
    simp only [Option.some.injEq, Addr.mk.injEq] at e
    rw [e.1, e.2.1]; exact hc)
  have hsz := lt_of_block hz
  have HL := Lib.hid h
  have hnum : num L = L.length := rfl
  rw [hnum] at h1 h6
  clear hz hn hr hnum
  go_enter Try.func109, Try.ntmps109
  go_wp2_with (first
    | (rw [← hw1]; clear hw1)
    | (at_builtin; refine wpList_append_own _ rfl _ _ 22 rfl w1.heap.size 3 i0 (.int .i64 0) 1 8 Try.underlying22 hi hz0 hz1 hz2 rfl (by decide) _ _ _ rfl (Own.row (L := []) (heap_alloc_new w1 _) (Nat.le_refl _) (Nat.zero_le _)) ⟨b, off, none⟩ L.length ca (L.map fun x => Value.int .i64 x) rfl (by simp) (old_news _ HN.out) (fun x hx => by simp at hx; obtain ⟨y, _, rfl⟩ := hx; rfl) (by unfold maxLen; simp; omega) (by simp; omega) (by simp) ?_; intro v' w2 hown1 hgrow _; have hu2 : Own w1.heap.size w2 v' L := (by unfold Own; simpa using hown1); obtain ⟨ua, uc, rfl, _⟩ := hu2.slice; have hb2 := ((Below.refl w1.heap.size w1).alloc (Nat.le_refl _) _).grown hgrow (by simp) (fun q hq => (World.ownsRow.lt (Own.row (L := []) (heap_alloc_new w1 _) (Nat.le_refl _) (Nat.zero_le _)) q hq).1); clear hgrow hown1)
    | (refine wpList_store_row rfl 27 _ _ rfl w2.heap.size #[.slice ua L.length uc, .slice none 0 0] rfl rfl _ _ (heap_alloc_new w2 (.cells #[.slice none 0 0, .slice none 0 0] 27)) (size_Alg _ _) rfl (one_sl2 _ _ _ _ _ _) ?_; rw [World.setRow_alloc_new]; obtain ⟨g, hg⟩ : ∃ g, g = w2.heap.size := ⟨_, rfl⟩; obtain ⟨w3, hw3⟩ : ∃ w3, w3 = w2.alloc (.cells #[.slice ua L.length uc, .slice none 0 0] 27) := ⟨_, rfl⟩; rw [← hw3, ← hg]; have hx3 : w3.heap[g]? = some (.cells #[.slice ua L.length uc, .slice none 0 0] 27 (0, 0)) := (by rw [hw3, hg]; exact heap_alloc_new w2 _); have q3 : Below w2.heap.size w2 w3 := (by rw [hw3]; exact (Below.refl _ _).alloc (Nat.le_refl _) _); have hu3 := hu2.below q3; have z3 : Below w1.heap.size w1 w3 := hb2.trans (q3.mono hb2.size); have hgl : w1.heap.size ≤ g := (by rw [hg]; exact hb2.size); clear hw3 hg q3 hu2 hb2))
  go_loopw [4, 5, 6] (fun xv _ _ wr => ∃ x : Int, 0 ≤ x ∧ x ≤ L.length ∧ xv = .int .i64 x ∧ (∃ v, wr.heap[g]? = some (.cells #[.slice ua L.length uc, v] 27 (0, 0)) ∧ RowsAt w1.heap.size wr v (tabK (mt L) L.length x)) ∧ Own w1.heap.size wr (.slice ua L.length uc) L ∧ Below w1.heap.size w1 wr) (fun xv _ _ _ => (6 - intOf xv).toNat)
  case atStart => exact ⟨0, by omega, by omega, rfl, ⟨_, hx3, RowsAt.nothing _ _⟩, hu3, z3⟩
  case round =>
    obtain ⟨x, x0, x1, rfl, ⟨v, hxg, hrows⟩, hup, hbel⟩ := hrel
    obtain ⟨tb, tc, rfl, _⟩ := hrows.rd
    by_cases hx : x < L.length
    · obtain ⟨wo, rfl⟩ : ∃ wo : World, wo = wr := ⟨_, rfl⟩
      have hlo := hbel.size
      go_wp2
      go_loopw [5, 6] (fun rv yv wr => ∃ y : Int, 0 ≤ y ∧ y ≤ L.length ∧ yv = .int .i64 y ∧ Own wo.heap.size wr rv (lstTo (mt L x) y) ∧ Below wo.heap.size wo wr) (fun _ yv _ => (6 - intOf yv).toNat)
      case atStart => exact ⟨0, by omega, by omega, rfl, Own.row (L := []) (heap_alloc_new wo _) (Nat.le_refl _) (Nat.zero_le _), (Below.refl _ _).alloc (Nat.le_refl _) _⟩
      case round =>
        obtain ⟨y, y0, y1, rfl, hown, hbi⟩ := hrel
        by_cases hy : y < L.length
        · have hlen := lstTo_len (mt L x) y y0
          have hsucc := Lib.hid (lstTo_succ (mt L x) y y0)
          have hC := Lib.hid (meet_any b off ca L x y wr (KC.out _ (hbel.trans (hbi.mono hlo))) hs x0 hx y0 hy)
          have hm := lat_mt HL.out x0 hx y0 hy
          have hmn : num L = L.length := rfl
          rw [hmn] at hm
          clear hmn
          go_wp2_with (first
            | (go_at_call 146; refine (hC.out).mono ?_; rintro e w4 ⟨rfl, rfl⟩)
            | (at_builtin; refine wpList_append_own _ rfl _ _ 22 rfl wo.heap.size 3 i0 (.int .i64 0) 1 8 Try.underlying22 hi hz0 hz1 hz2 rfl (by decide) _ _ _ rfl (World.ownsRow.alloc hown _) ⟨wr.heap.size, 0, none⟩ 1 1 [.int .i64 (mt L x y)] rfl rfl (cell_one_new _ _ _) (fun x hx => by simp at hx; subst hx; rfl) (by unfold maxLen; omega) (by omega) (by have := hbi.size; simp; omega) ?_; intro v' w5 hown1 hgrow _))
          exact ⟨⟨y + 1, by omega, by omega, rfl, by unfold Own; rw [hsucc.out, List.map_append, List.length_append]; exact hown1, (hbi.alloc hbi.size _).grown hgrow (by have := hbi.size; simp; omega) (fun q hq => (World.ownsRow.lt hown q hq).1)⟩, by simp [intOf]; omega⟩
        · have e : y = L.length := by omega
          rw [e] at hown
          obtain ⟨ra, rc, rfl, _⟩ := hown.slice
          have hg1 := (hbi.block g (lt_of_block hxg)).trans hxg
          obtain ⟨d0, d1⟩ := bx_cells hg1
          obtain ⟨vs, h1v, h2v⟩ := hrows.below hbi
          obtain ⟨o4, ho4⟩ : ∃ o4, o4 = Obj.cells #[.slice ra (lstTo (mt L x) L.length).length rc] 22 := ⟨_, rfl⟩
          have h1a := World.ownsRow.alloc h1v o4
          have h2a := Lib.hid (show ∀ j : Nat, j < (tabK (mt L) L.length x).length → ∃ u, vs[j]? = some u ∧ Own w1.heap.size (wr.alloc o4) u (rowAt (tabK (mt L) L.length x) j) from fun j hj => by obtain ⟨u, hu, ho⟩ := h2v j hj; exact ⟨u, hu, ho.alloc _⟩)
          have hra := (hown.from hlo).alloc o4
          have hupa := (hup.below hbi).alloc o4
          have hga := (heap_alloc_old wr o4 (lt_of_block hg1)).trans hg1
          have hsz2 := hbi.size
          have hbb : Below w1.heap.size w1 (wr.alloc o4) := (hbel.trans (hbi.mono hlo)).alloc (by omega) _
          have tl := Lib.hid (tabK_len (mt L) L.length x)
          rw [ho4] at h1a hra hupa hga hbb
          rw [ho4] at h2a
          clear h2v hup hrows ho4
          go_wp2_with (first
            | (at_builtin; refine wpList_append_own _ rfl _ _ 23 rfl w1.heap.size 22 i1 (.slice none 0 0) 1 24 Try.underlying23 hi1 hy0 hy1 hy2 rfl (by decide) _ _ _ rfl h1a ⟨wr.heap.size, 0, none⟩ 1 1 [.slice ra (lstTo (mt L x) L.length).length rc] rfl rfl (cell_one_new _ _ _) (fun x hx => by simp at hx; subst hx; rfl) (by have := tl.out; unfold maxLen; omega) (by have := tl.out; omega) (by simp; omega) ?_; intro v' w5 hown1 hgrow _; have hg5 := grown_keep hgrow h1a hga (by decide); have hr5 := RowsAt.push h1a h2a.out hra hown1 hgrow; obtain ⟨e0, e1⟩ := bx_cells hg5; have ff := frozen_of_row w5 _ 1 _ _ hg5; obtain ⟨nb, nc, rfl, _⟩ := hr5.rd))
          have hup5 := World.ownsRow.kept hupa hgrow (own_types hupa h1a (by decide))
          have hb5 : Below w1.heap.size w1 w5 := hbb.grown hgrow (by simp; omega) (fun q hq => (World.ownsRow.lt h1a q hq).1)
          rw [show (tabK (mt L) L.length x ++ [lstTo (mt L x) L.length]).length = (tabK (mt L) L.length x).length + 1 by simp, ← tabK_succ (mt L) L.length x x0] at hr5
          have ho : ∀ k, k ≠ g → (w5.setCell ⟨g, 1, none⟩ (.slice nb ((tabK (mt L) L.length x).length + 1) nc)).heap[k]? = w5.heap[k]? := fun k hk => heap_setCell_other w5 _ k _ hk
          refine ⟨⟨x + 1, by omega, by omega, rfl, ⟨.slice nb ((tabK (mt L) L.length x).length + 1) nc, ?_, RowsAt.other hr5 hg5 (by decide) (by decide) ho⟩, ownsRow_other hup5 hg5 (by decide) ho, hb5.setCell (by simp; omega) _⟩, by simp [intOf]; omega⟩
          rw [setCell_eq_setRow w5 _ _ _ _ _ _ hg5, setRow_heap w5 _ _ _ _ _ hg5]
          rfl
    · have e : x = L.length := by omega
      rw [e] at hrows hxg
      have hz := Kz.out _ hbel
      go_wp2_with (first
        | (refine wpList_load_row_w rfl 27 _ rfl g rfl _ _ _ _ hxg Try.underlying27 rfl (size_Alg _ _) ?_)
        | (refine wpList_store_row rfl 27 _ _ rfl w.heap.size #[.slice ua (L).length uc, .slice tb (tabK (mt L) L.length L.length).length tc] rfl rfl _ _ hz (size_Alg _ _) rfl (one_sl2 _ _ _ _ _ _) ?_))
      refine bodyPost_ret (results_cell_row rfl _ _ w.heap.size _ _ _ _ rfl (setRow_heap _ _ _ _ _ _ hz) Try.underlying27 rfl (size_Alg _ _)) rfl ?_
      have hr6 := RowsAt.other hrows hz (by decide) (by decide) (fun k hk => setRow_other wr w.heap.size k #[.slice ua (L).length uc, .slice tb (tabK (mt L) L.length L.length).length tc] hk)
      have hu6 := ownsRow_other hup hz (by decide) (fun k hk => setRow_other wr w.heap.size k #[.slice ua (L).length uc, .slice tb (tabK (mt L) L.length L.length).length tc] hk)
      exact ⟨ua, uc, tb, tc, rfl, ownsRow_from hu6 hB.size, RowsAt.from hr6 hB.size, below_setRow' (hB.trans (hbel.mono hB.size)) (Nat.le_refl _) _⟩

/-- the algebra of meets, where there is one -/
def mtOk (L : List Int) : Bool := latB L && distB L
def mtLL (L : List Int) : List Int := if mtOk L then L else []
def mtTT (L : List Int) : List (List Int) := if mtOk L then tabL (mt L) L.length else []
theorem mt_yes {L : List Int} (h1 : latB L = true) (h2 : distB L = true) : mtOk L = true ∧ mtLL L = L ∧ mtTT L = tabL (mt L) L.length := by
  have h : mtOk L = true := by unfold mtOk; rw [h1, h2]; rfl
  exact ⟨h, by unfold mtLL; rw [h]; rfl, by unfold mtTT; rw [h]; rfl⟩
theorem mt_no {L : List Int} (h : mtOk L = false) : mtLL L = [] ∧ mtTT L = [] := ⟨by unfold mtLL; rw [h]; rfl, by unfold mtTT; rw [h]; rfl⟩
theorem mt_ti (L : List Int) : Ti (mtLL L) (mtTT L) := by
  cases h : mtOk L with
  | false => rw [(mt_no h).1, (mt_no h).2]; exact Ti.zero
  | true =>
    have h1 : latB L = true := by unfold mtOk at h; exact (Bool.and_eq_true_iff.1 h).1
    have h2 : distB L = true := by unfold mtOk at h; exact (Bool.and_eq_true_iff.1 h).2
    rw [(mt_yes h1 h2).2.1, (mt_yes h1 h2).2.2]
    have h6 := (lat_len h1).2
    have hn : num L = L.length := rfl
    refine ⟨by omega, by rw [tabL_len]; omega, fun j hj => ?_⟩
    rw [tabL_len] at hj
    rw [tabL_rlen _ hj]; omega
set_option maxRecDepth 100000 in
set_option maxHeartbeats 1000000 in
theorem specMeet_lat (a : Option Addr) (ca : Nat) (L : List Int) (w : World) (hr : Rd w a L) (h : latB L = false) : Calls Try.prog 47 #[.slice a L.length ca] w (RetSAb (mtLL L) (mtTT L) (mtOk L) w) := by
  obtain ⟨w1, hw1⟩ : ∃ w1, w1 = w.alloc (.cells #[.slice none 0 0, .slice none 0 0] 27) := ⟨_, rfl⟩
  have hB : Below w.heap.size w w1 := by rw [hw1]; exact (Below.refl _ _).alloc (Nat.le_refl _) _
  have hz : w1.heap[w.heap.size]? = some (.cells #[.slice none 0 0, .slice none 0 0] 27 (0, 0)) := by rw [hw1]; exact heap_alloc_new w _
  have Kz := Lib.hid (show ∀ wz, Below w1.heap.size w1 wz → wz.heap[w.heap.size]? = some (.cells #[.slice none 0 0, .slice none 0 0] 27 (0, 0)) from fun wz h => (h.block _ (lt_of_block hz)).trans hz)
  have KR := Lib.hid (show ∀ wz, Below w1.heap.size w1 wz → Rd wz a L from fun wz h => (hr.below hB).below h)
  have z1 : Below w1.heap.size w1 w1 := Below.refl _ _
  have HL := Lib.hid h
  have HV := Lib.hid (show mtOk L = false by unfold mtOk; rw [h]; rfl)
  clear h hr hz
  go_enter Try.func47, Try.ntmps47
  go_wp2_with (first
    | go_skip
    | (rw [← hw1]; clear hw1)
    | (go_at_call 107; refine (validLattice_any _ ca L _ (KR.out _ z1)).mono ?_; rintro e w2 ⟨he2, hd2⟩; rw [HL.out] at he2; subst he2; have z2 : Below w1.heap.size w1 w2 := hd2.below _; clear hd2)
    | (refine wpList_store_row rfl 27 _ _ rfl w.heap.size #[.slice none 0 0, .slice none 0 0] rfl rfl _ _ (Kz.out _ z2) (size_Alg _ _) rfl (one_sl2 _ _ _ _ _ _) ?_))
  refine bodyPost_ret (v := .tuple #[.agg #[.slice none 0 0, .slice none 0 0], .bool false]) (results_Alg_tmp rfl _ _ w.heap.size rfl _ _ (setRow_heap _ _ _ _ _ _ (Kz.out _ z2)) rfl) rfl ?_
  rw [HV.out, (mt_no HV.out).1, (mt_no HV.out).2]; exact ⟨_, _, _, _, _, _, rfl, OA.zero _ _, below_setRow' (hB.trans (z2.mono hB.size)) (Nat.le_refl _) _⟩
set_option maxRecDepth 100000 in
set_option maxHeartbeats 1000000 in
theorem specMeet_dist (a : Option Addr) (ca : Nat) (L : List Int) (w : World) (hr : Rd w a L) (h : latB L = true) (h2 : distB L = false) : Calls Try.prog 47 #[.slice a L.length ca] w (RetSAb (mtLL L) (mtTT L) (mtOk L) w) := by
  obtain ⟨w1, hw1⟩ : ∃ w1, w1 = w.alloc (.cells #[.slice none 0 0, .slice none 0 0] 27) := ⟨_, rfl⟩
  have hB : Below w.heap.size w w1 := by rw [hw1]; exact (Below.refl _ _).alloc (Nat.le_refl _) _
  have hz : w1.heap[w.heap.size]? = some (.cells #[.slice none 0 0, .slice none 0 0] 27 (0, 0)) := by rw [hw1]; exact heap_alloc_new w _
  have Kz := Lib.hid (show ∀ wz, Below w1.heap.size w1 wz → wz.heap[w.heap.size]? = some (.cells #[.slice none 0 0, .slice none 0 0] 27 (0, 0)) from fun wz h => (h.block _ (lt_of_block hz)).trans hz)
  have KR := Lib.hid (show ∀ wz, Below w1.heap.size w1 wz → Rd wz a L from fun wz h => (hr.below hB).below h)
  have z1 : Below w1.heap.size w1 w1 := Below.refl _ _
  obtain ⟨b, off, e, _⟩ := hr (lat_ne (latB_parts h).1)
  subst e
  have KC := Lib.hid (show ∀ wz, Below w1.heap.size w1 wz → Cells wz b off L from fun wz hb => by
    obtain ⟨b', off', e, hc⟩ := (KR.out wz hb) (lat_ne (latB_parts h).1)
    simp only [Option.some.injEq, Addr.mk.injEq] at e
    rw [e.1, e.2.1]; exact hc)
  have HL := Lib.hid h
  have HD := Lib.hid h2
  have HV := Lib.hid (show mtOk L = false by unfold mtOk; rw [h, h2]; rfl)
  clear h h2 hr hz
  go_enter Try.func47, Try.ntmps47
  go_wp2_with (first
    | go_skip
    | (rw [← hw1]; clear hw1)
    | (go_at_call 107; refine (validLattice_any _ ca L _ (KR.out _ z1)).mono ?_; rintro e w2 ⟨he2, hd2⟩; rw [HL.out] at he2; subst he2; have z2 : Below w1.heap.size w1 w2 := hd2.below _; clear hd2)
    | (go_at_call 108; refine (distributive_any b off ca L _ (KC.out _ z2) HL.out).mono ?_; rintro e w3 ⟨he3, rfl⟩; rw [HD.out] at he3; subst he3)
    | (refine wpList_store_row rfl 27 _ _ rfl w.heap.size #[.slice none 0 0, .slice none 0 0] rfl rfl _ _ (Kz.out _ z2) (size_Alg _ _) rfl (one_sl2 _ _ _ _ _ _) ?_))
  refine bodyPost_ret (v := .tuple #[.agg #[.slice none 0 0, .slice none 0 0], .bool false]) (results_Alg_tmp rfl _ _ w.heap.size rfl _ _ (setRow_heap _ _ _ _ _ _ (Kz.out _ z2)) rfl) rfl ?_
  rw [HV.out, (mt_no HV.out).1, (mt_no HV.out).2]; exact ⟨_, _, _, _, _, _, rfl, OA.zero _ _, below_setRow' (hB.trans (z2.mono hB.size)) (Nat.le_refl _) _⟩
set_option maxRecDepth 100000 in
set_option maxHeartbeats 1000000 in
theorem specMeet_yes (a : Option Addr) (ca : Nat) (L : List Int) (w : World) (hr : Rd w a L) (h : latB L = true) (h2 : distB L = true) : Calls Try.prog 47 #[.slice a L.length ca] w (RetSAb (mtLL L) (mtTT L) (mtOk L) w) := by
  obtain ⟨w1, hw1⟩ : ∃ w1, w1 = w.alloc (.cells #[.slice none 0 0, .slice none 0 0] 27) := ⟨_, rfl⟩
  have hB : Below w.heap.size w w1 := by rw [hw1]; exact (Below.refl _ _).alloc (Nat.le_refl _) _
  have hz : w1.heap[w.heap.size]? = some (.cells #[.slice none 0 0, .slice none 0 0] 27 (0, 0)) := by rw [hw1]; exact heap_alloc_new w _
  have Kz := Lib.hid (show ∀ wz, Below w1.heap.size w1 wz → wz.heap[w.heap.size]? = some (.cells #[.slice none 0 0, .slice none 0 0] 27 (0, 0)) from fun wz h => (h.block _ (lt_of_block hz)).trans hz)
  have KR := Lib.hid (show ∀ wz, Below w1.heap.size w1 wz → Rd wz a L from fun wz h => (hr.below hB).below h)
  have z1 : Below w1.heap.size w1 w1 := Below.refl _ _
  obtain ⟨b, off, e, _⟩ := hr (lat_ne (latB_parts h).1)
  subst e
  have KC := Lib.hid (show ∀ wz, Below w1.heap.size w1 wz → Cells wz b off L from fun wz hb => by
    obtain ⟨b', off', e, hc⟩ := (KR.out wz hb) (lat_ne (latB_parts h).1)
    simp only [Option.some.injEq, Addr.mk.injEq] at e
    rw [e.1, e.2.1]; exact hc)
  have HL := Lib.hid h
  have HD := Lib.hid h2
  have HV := Lib.hid (mt_yes h h2)
  clear h h2 hr hz
  go_enter Try.func47, Try.ntmps47
  go_wp2_with (first
    | go_skip
    | (rw [← hw1]; clear hw1)
    | (go_at_call 107; refine (validLattice_any _ ca L _ (KR.out _ z1)).mono ?_; rintro e w2 ⟨he2, hd2⟩; rw [HL.out] at he2; subst he2; have z2 : Below w1.heap.size w1 w2 := hd2.below _; clear hd2)
    | (go_at_call 108; refine (distributive_any b off ca L _ (KC.out _ z2) HL.out).mono ?_; rintro e w3 ⟨he3, rfl⟩; rw [HD.out] at he3; subst he3)
    | (go_at_call 109; refine (specMeetA_any _ ca L _ (KR.out _ z2) HL.out).mono ?_; rintro e w4 ⟨ra, rc, rb, rd, rfl, ho4, hr4, hb4⟩; have z4 : Below w1.heap.size w1 w4 := z2.trans (hb4.mono z2.size))
    | (refine wpList_store_row rfl 27 _ _ rfl w.heap.size #[.slice ra L.length rc, .slice rb (tabL (mt L) L.length).length rd] rfl rfl _ _ (Kz.out _ z4) (size_Alg _ _) rfl (one_sl2 _ _ _ _ _ _) ?_))
  refine bodyPost_ret (v := .tuple #[.agg #[.slice ra L.length rc, .slice rb (tabL (mt L) L.length).length rd], .bool true]) (results_Alg_tmp rfl _ _ w.heap.size rfl _ _ (setRow_heap _ _ _ _ _ _ (Kz.out _ z4)) rfl) rfl ?_
  rw [HV.out.1, HV.out.2.1, HV.out.2.2]
  have hk : ∀ k, k ≠ w.heap.size → (w4.setRow w.heap.size #[.slice ra L.length rc, .slice rb (tabL (mt L) L.length).length rd]).heap[k]? = w4.heap[k]? := fun k hk => setRow_other w4 _ k _ hk
  exact ⟨_, _, _, _, _, _, rfl, oa_of (by have := hB.size; have := z2.size; omega) (ownsRow_other ho4 (Kz.out _ z4) (by decide) hk) (RowsAt.other hr4 (Kz.out _ z4) (by decide) (by decide) hk), below_setRow' (hB.trans (z4.mono hB.size)) (Nat.le_refl _) _⟩
/-- spec.MeetAlgebra -/
theorem specMeetAlgebra_any (a : Option Addr) (ca : Nat) (L : List Int) (w : World) (hr : Rd w a L) (_ : L.length ≤ 1048576) : Calls Try.prog 47 #[.slice a L.length ca] w (RetSAb (mtLL L) (mtTT L) (mtOk L) w) := by
  cases h : latB L with
  | false => exact specMeet_lat a ca L w hr h
  | true =>
    cases h2 : distB L with
    | false => exact specMeet_dist a ca L w hr h h2
    | true => exact specMeet_yes a ca L w hr h h2
end Go.Proofs.Ytmlbdlobdnhimab

namespace Go.Proofs.Ytmlbdlobdnhimab
open Go.RowKit
set_option linter.unusedVariables false

theorem enters_mt : Enters 105 := enters_of Try.func105 (by kernel_rfl) rfl
set_option maxHeartbeats 400000 in
theorem mtClo_any (L : List Int) (bl : Nat) (x y : Int) (w : World) (hA : LatAt w bl L) (h : latB L = true) (x0 : 0 ≤ x) (x1 : x < L.length) (y0 : 0 ≤ y) (y1 : y < L.length) :
    Calls Try.prog 105 #[.int .i64 x, .int .i64 y, .pointer (some ⟨bl, 0, none⟩)] w fun e w' => e = .returned (.int .i64 (mt L x y)) ∧ Below w.heap.size w w' := by
  have h6 := (lat_len h).2
  have hn : num L = L.length := rfl
  have x6 : x < 6 := by omega
  have y6 : y < 6 := by omega
  have d0 := hA.m x0 x6 y0 y6
  rw [tabT_meet h x0 (by omega) y0 (by omega)] at d0
  clear hn h hA
  go_enter Try.func105, Try.ntmps105
  go_wp2
  go_ret
  exact ⟨rfl, Below.refl _ _⟩
set_option maxRecDepth 100000 in
set_option maxHeartbeats 2000000 in
theorem implMeet_lat (a : Option Addr) (ca : Nat) (L : List Int) (w : World) (hr : Rd w a L) (hm : L.length ≤ 1048576) (h : latB L = false) : Calls Try.prog 46 #[.slice a L.length ca] w (RetGAb (mtLL L) (mtTT L) (mtOk L) w) := by
  obtain ⟨w1, hw1⟩ : ∃ w1, w1 = w.alloc (.cells #[.slice none 0 0, .slice none 0 0] 27) := ⟨_, rfl⟩
  have hB : Below w.heap.size w w1 := by rw [hw1]; exact (Below.refl _ _).alloc (Nat.le_refl _) _
  have hz : w1.heap[w.heap.size]? = some (.cells #[.slice none 0 0, .slice none 0 0] 27 (0, 0)) := by rw [hw1]; exact heap_alloc_new w _
  have Kz := Lib.hid (show ∀ wz, Below w1.heap.size w1 wz → wz.heap[w.heap.size]? = some (.cells #[.slice none 0 0, .slice none 0 0] 27 (0, 0)) from fun wz h => (h.block _ (lt_of_block hz)).trans hz)
  have KR := Lib.hid (show ∀ wz, Below w1.heap.size w1 wz → Rd wz a L from fun wz h => (hr.below hB).below h)
  have hsz := lt_of_block hz
  have z1 : Below w1.heap.size w1 w1 := Below.refl _ _
  have HL := Lib.hid h
  have HV := Lib.hid (show mtOk L = false by unfold mtOk; rw [h]; rfl)
  clear h
  clear hz hr
  go_enter Try.func46, Try.ntmps46
  go_wp2_with (first
    | go_skip
    | (rw [← hw1]; clear hw1)
    | (go_at_call 99; refine (readLattice_no a ca L _ (KR.out _ z1) HL.out).mono ?_; rintro e w2 ⟨rfl, h2⟩; have z2 : Below w1.heap.size w1 w2 := h2; clear h2)
    | (refine wpList_store_row rfl 71 _ _ rfl w2.heap.size (zeroLat) rfl rfl _ _ (heap_alloc_new w2 (.cells zeroLat 71)) (size_lat _ _ _ _) rfl (one_lat _ _ _ _) ?_; rw [World.setRow_alloc_new]; obtain ⟨bl, hbl⟩ : ∃ b5, b5 = w2.heap.size := ⟨_, rfl⟩; obtain ⟨w3, hw3⟩ : ∃ x, x = w2.alloc (.cells (zeroLat) 71) := ⟨_, rfl⟩; rw [← hw3, ← hbl]; have q3 : Below w2.heap.size w2 w3 := (by rw [hw3]; exact (Below.refl _ _).alloc (Nat.le_refl _) _); have z3 : Below w1.heap.size w1 w3 := z2.trans (q3.mono z2.size); clear hw3 hbl q3 z2)
    | (refine wpList_store_row rfl 27 _ _ rfl w.heap.size #[.slice none 0 0, .slice none 0 0] rfl rfl _ _ (Kz.out _ z3) (size_Alg _ _) rfl (one_sl2 _ _ _ _ _ _) ?_))
  refine bodyPost_ret (v := .tuple #[.agg #[.slice none 0 0, .slice none 0 0], .bool false]) (results_Alg_tmp rfl _ _ w.heap.size rfl _ _ (setRow_heap _ _ _ _ _ _ (Kz.out _ z3)) rfl) rfl ?_
  rw [HV.out, (mt_no HV.out).1, (mt_no HV.out).2]
  have hbz := below_setRow' (hB.trans (z3.mono hB.size)) (Nat.le_refl w.heap.size) #[.slice none 0 0, .slice none 0 0]
  exact ⟨_, _, _, _, _, _, rfl, GA.zero _ _ hbz.size _, hbz⟩
set_option maxRecDepth 100000 in
set_option maxHeartbeats 2000000 in
theorem implMeet_dist (a : Option Addr) (ca : Nat) (L : List Int) (w : World) (hr : Rd w a L) (hm : L.length ≤ 1048576) (h : latB L = true) (h2 : distB L = false) : Calls Try.prog 46 #[.slice a L.length ca] w (RetGAb (mtLL L) (mtTT L) (mtOk L) w) := by
  obtain ⟨w1, hw1⟩ : ∃ w1, w1 = w.alloc (.cells #[.slice none 0 0, .slice none 0 0] 27) := ⟨_, rfl⟩
  have hB : Below w.heap.size w w1 := by rw [hw1]; exact (Below.refl _ _).alloc (Nat.le_refl _) _
  have hz : w1.heap[w.heap.size]? = some (.cells #[.slice none 0 0, .slice none 0 0] 27 (0, 0)) := by rw [hw1]; exact heap_alloc_new w _
  have Kz := Lib.hid (show ∀ wz, Below w1.heap.size w1 wz → wz.heap[w.heap.size]? = some (.cells #[.slice none 0 0, .slice none 0 0] 27 (0, 0)) from fun wz h => (h.block _ (lt_of_block hz)).trans hz)
  have KR := Lib.hid (show ∀ wz, Below w1.heap.size w1 wz → Rd wz a L from fun wz h => (hr.below hB).below h)
  have hsz := lt_of_block hz
  have z1 : Below w1.heap.size w1 w1 := Below.refl _ _
  have HL := Lib.hid h
  have HNE := Lib.hid (lat_ne (latB_parts h).1)
  have HD := Lib.hid (show algB L (tabL (mt L) L.length) = distB L from mtT_alg h)
  rw [h2] at HD
  have h6 : (L.length : Int) ≤ 6 := (lat_len h).2
  have HV := Lib.hid (show mtOk L = false by unfold mtOk; rw [h, h2]; rfl)
  clear h h2
  clear hz hr
  go_enter Try.func46, Try.ntmps46
  go_wp2_with (first
    | go_skip
    | (rw [← hw1]; clear hw1)
    | (go_at_call 99; refine (readLattice_yes a ca L _ (KR.out _ z1) HL.out).mono ?_; rintro e w2 ⟨rfl, h2⟩; have z2 : Below w1.heap.size w1 w2 := h2; clear h2)
    | (refine wpList_store_row rfl 71 _ _ rfl w2.heap.size (latOf L) rfl rfl _ _ (heap_alloc_new w2 (.cells zeroLat 71)) (size_lat _ _ _ _) rfl (one_lat _ _ _ _) ?_; rw [World.setRow_alloc_new]; obtain ⟨bl, hbl⟩ : ∃ b5, b5 = w2.heap.size := ⟨_, rfl⟩; obtain ⟨w3, hw3⟩ : ∃ x, x = w2.alloc (.cells (latOf L) 71) := ⟨_, rfl⟩; rw [← hw3, ← hbl]; have q3 : Below w2.heap.size w2 w3 := (by rw [hw3]; exact (Below.refl _ _).alloc (Nat.le_refl _) _); have hLA : LatAt w3 bl L := (by rw [hw3, hbl]; exact LatAt.new w2 L); have c0 := hLA.size; have hlt := hLA.lt; have z3 : Below w1.heap.size w1 w3 := z2.trans (q3.mono z2.size); clear hw3 hbl q3 z2)
    | (go_at_call 65; refine (rowsOf_T 105 #[.pointer (some ⟨bl, 0, none⟩)] L.length (mt L) w3 (by omega) h6 enters_mt (fun x y wr x0 x1 y0 y1 hb => mtClo_any L bl x y wr (hLA.below hb hLA.lt) HL.out x0 x1 y0 y1)).mono ?_; rintro e w4 ⟨rfl, gt4, hb4⟩; have z4 : Below w1.heap.size w1 w4 := z3.trans (hb4.mono z3.size); have s3 := z3.size; have s4 := hb4.size; obtain ⟨B, hBB⟩ : ∃ B, B = w3.heap.size := ⟨_, rfl⟩; rw [← hBB] at gt4 ⊢; have sB : w3.heap.size ≤ B := Nat.le_of_eq hBB.symm; clear hBB hb4 c0 hLA hlt)
    | (go_at_call 106; refine (clone_any a ca L _ (KR.out _ z4) HNE.out hm).mono ?_; rintro e w5 ⟨a5, c5, rfl, ho5, hb5⟩; have gs5 := GS.of ho5; have gt5 := gt4.below hb5; have s5 := hb5.size; have z5 : Below w1.heap.size w1 w5 := z4.trans (hb5.mono z4.size); clear hb5 gt4)
    | (refine wpList_store_row rfl 27 _ _ rfl w5.heap.size #[.slice a5 L.length c5, .slice (some ⟨B, 0, none⟩) (tabL (mt L) L.length).length (tabL (mt L) L.length).length] rfl rfl _ _ (heap_alloc_new w5 (.cells #[.slice none 0 0, .slice none 0 0] 27)) (size_Alg _ _) rfl (one_sl2 _ _ _ _ _ _) ?_; rw [World.setRow_alloc_new]; obtain ⟨g, hg⟩ : ∃ g, g = w5.heap.size := ⟨_, rfl⟩; obtain ⟨w6, hw6⟩ : ∃ x, x = w5.alloc (.cells #[.slice a5 L.length c5, .slice (some ⟨B, 0, none⟩) (tabL (mt L) L.length).length (tabL (mt L) L.length).length] 27) := ⟨_, rfl⟩; rw [← hw6, ← hg]; have hx6 : w6.heap[g]? = some (.cells #[.slice a5 L.length c5, .slice (some ⟨B, 0, none⟩) (tabL (mt L) L.length).length (tabL (mt L) L.length).length] 27 (0, 0)) := (by rw [hw6, hg]; exact heap_alloc_new w5 _); have q6 : Below w5.heap.size w5 w6 := (by rw [hw6]; exact (Below.refl _ _).alloc (Nat.le_refl _) _); have s6 := q6.size; have gs6 := gs5.below q6; have gt6 := gt5.below q6; have z6 : Below w1.heap.size w1 w6 := z5.trans (q6.mono z5.size); have y6 : Below w6.heap.size w6 w6 := Below.refl _ _; have K6 := Lib.hid (show ∀ wz, Below w6.heap.size w6 wz → wz.heap[g]? = some (.cells #[.slice a5 L.length c5, .slice (some ⟨B, 0, none⟩) (tabL (mt L) L.length).length (tabL (mt L) L.length).length] 27 (0, 0)) from fun wz h => (h.block _ (lt_of_block hx6)).trans hx6); clear hw6 hg q6 gs5 gt5 hx6)
    | (refine wpList_load_row_w rfl 27 _ rfl g rfl _ _ _ _ (K6.out _ (by assumption)) Try.underlying27 rfl (size_Alg _ _) ?_)
    | (go_at_call 41; refine (implValidAlgebra_any a5 (some ⟨B, 0, none⟩) c5 _ L (tabL (mt L) L.length) _ (rs_rd gs6.rd) (gt_rd gt6)).mono ?_; rintro e w7 ⟨he7, hb7⟩; rw [HD.out] at he7; subst he7; have z7 : Below w1.heap.size w1 w7 := z6.trans (hb7.mono z6.size); have gs7 := gs6.below hb7; have gt7 := gt6.below hb7; have s7 := hb7.size; have y7 : Below w6.heap.size w6 w7 := hb7; clear hb7 y6)
    | (refine wpList_store_row rfl 27 _ _ rfl w.heap.size #[.slice none 0 0, .slice none 0 0] rfl rfl _ _ (Kz.out _ z7) (size_Alg _ _) rfl (one_sl2 _ _ _ _ _ _) ?_))
  refine bodyPost_ret (v := .tuple #[.agg #[.slice none 0 0, .slice none 0 0], .bool false]) (results_Alg_tmp rfl _ _ w.heap.size rfl _ _ (setRow_heap _ _ _ _ _ _ (Kz.out _ z7)) rfl) rfl ?_
  rw [HV.out, (mt_no HV.out).1, (mt_no HV.out).2]
  have hbz := below_setRow' (hB.trans (z7.mono hB.size)) (Nat.le_refl w.heap.size) #[.slice none 0 0, .slice none 0 0]
  exact ⟨_, _, _, _, _, _, rfl, GA.zero _ _ hbz.size _, hbz⟩
set_option maxRecDepth 100000 in
set_option maxHeartbeats 2000000 in
theorem implMeet_yes (a : Option Addr) (ca : Nat) (L : List Int) (w : World) (hr : Rd w a L) (hm : L.length ≤ 1048576) (h : latB L = true) (h2 : distB L = true) : Calls Try.prog 46 #[.slice a L.length ca] w (RetGAb (mtLL L) (mtTT L) (mtOk L) w) := by
  obtain ⟨w1, hw1⟩ : ∃ w1, w1 = w.alloc (.cells #[.slice none 0 0, .slice none 0 0] 27) := ⟨_, rfl⟩
  have hB : Below w.heap.size w w1 := by rw [hw1]; exact (Below.refl _ _).alloc (Nat.le_refl _) _
  have hz : w1.heap[w.heap.size]? = some (.cells #[.slice none 0 0, .slice none 0 0] 27 (0, 0)) := by rw [hw1]; exact heap_alloc_new w _
  have Kz := Lib.hid (show ∀ wz, Below w1.heap.size w1 wz → wz.heap[w.heap.size]? = some (.cells #[.slice none 0 0, .slice none 0 0] 27 (0, 0)) from fun wz h => (h.block _ (lt_of_block hz)).trans hz)
  have KR := Lib.hid (show ∀ wz, Below w1.heap.size w1 wz → Rd wz a L from fun wz h => (hr.below hB).below h)
  have hsz := lt_of_block hz
  have z1 : Below w1.heap.size w1 w1 := Below.refl _ _
  have HL := Lib.hid h
  have HNE := Lib.hid (lat_ne (latB_parts h).1)
  have HD := Lib.hid (show algB L (tabL (mt L) L.length) = distB L from mtT_alg h)
  rw [h2] at HD
  have h6 : (L.length : Int) ≤ 6 := (lat_len h).2
  have HV := Lib.hid (mt_yes h h2)
  clear h h2
  clear hz hr
  go_enter Try.func46, Try.ntmps46
  go_wp2_with (first
    | go_skip
    | (rw [← hw1]; clear hw1)
    | (go_at_call 99; refine (readLattice_yes a ca L _ (KR.out _ z1) HL.out).mono ?_; rintro e w2 ⟨rfl, h2⟩; have z2 : Below w1.heap.size w1 w2 := h2; clear h2)
    | (refine wpList_store_row rfl 71 _ _ rfl w2.heap.size (latOf L) rfl rfl _ _ (heap_alloc_new w2 (.cells zeroLat 71)) (size_lat _ _ _ _) rfl (one_lat _ _ _ _) ?_; rw [World.setRow_alloc_new]; obtain ⟨bl, hbl⟩ : ∃ b5, b5 = w2.heap.size := ⟨_, rfl⟩; obtain ⟨w3, hw3⟩ : ∃ x, x = w2.alloc (.cells (latOf L) 71) := ⟨_, rfl⟩; rw [← hw3, ← hbl]; have q3 : Below w2.heap.size w2 w3 := (by rw [hw3]; exact (Below.refl _ _).alloc (Nat.le_refl _) _); have hLA : LatAt w3 bl L := (by rw [hw3, hbl]; exact LatAt.new w2 L); have c0 := hLA.size; have hlt := hLA.lt; have z3 : Below w1.heap.size w1 w3 := z2.trans (q3.mono z2.size); clear hw3 hbl q3 z2)
    | (go_at_call 65; refine (rowsOf_T 105 #[.pointer (some ⟨bl, 0, none⟩)] L.length (mt L) w3 (by omega) h6 enters_mt (fun x y wr x0 x1 y0 y1 hb => mtClo_any L bl x y wr (hLA.below hb hLA.lt) HL.out x0 x1 y0 y1)).mono ?_; rintro e w4 ⟨rfl, gt4, hb4⟩; have z4 : Below w1.heap.size w1 w4 := z3.trans (hb4.mono z3.size); have s3 := z3.size; have s4 := hb4.size; obtain ⟨B, hBB⟩ : ∃ B, B = w3.heap.size := ⟨_, rfl⟩; rw [← hBB] at gt4 ⊢; have sB : w3.heap.size ≤ B := Nat.le_of_eq hBB.symm; clear hBB hb4 c0 hLA hlt)
    | (go_at_call 106; refine (clone_any a ca L _ (KR.out _ z4) HNE.out hm).mono ?_; rintro e w5 ⟨a5, c5, rfl, ho5, hb5⟩; have gs5 := GS.of ho5; have gt5 := gt4.below hb5; have s5 := hb5.size; have z5 : Below w1.heap.size w1 w5 := z4.trans (hb5.mono z4.size); clear hb5 gt4)
    | (refine wpList_store_row rfl 27 _ _ rfl w5.heap.size #[.slice a5 L.length c5, .slice (some ⟨B, 0, none⟩) (tabL (mt L) L.length).length (tabL (mt L) L.length).length] rfl rfl _ _ (heap_alloc_new w5 (.cells #[.slice none 0 0, .slice none 0 0] 27)) (size_Alg _ _) rfl (one_sl2 _ _ _ _ _ _) ?_; rw [World.setRow_alloc_new]; obtain ⟨g, hg⟩ : ∃ g, g = w5.heap.size := ⟨_, rfl⟩; obtain ⟨w6, hw6⟩ : ∃ x, x = w5.alloc (.cells #[.slice a5 L.length c5, .slice (some ⟨B, 0, none⟩) (tabL (mt L) L.length).length (tabL (mt L) L.length).length] 27) := ⟨_, rfl⟩; rw [← hw6, ← hg]; have hx6 : w6.heap[g]? = some (.cells #[.slice a5 L.length c5, .slice (some ⟨B, 0, none⟩) (tabL (mt L) L.length).length (tabL (mt L) L.length).length] 27 (0, 0)) := (by rw [hw6, hg]; exact heap_alloc_new w5 _); have q6 : Below w5.heap.size w5 w6 := (by rw [hw6]; exact (Below.refl _ _).alloc (Nat.le_refl _) _); have s6 := q6.size; have gs6 := gs5.below q6; have gt6 := gt5.below q6; have z6 : Below w1.heap.size w1 w6 := z5.trans (q6.mono z5.size); have y6 : Below w6.heap.size w6 w6 := Below.refl _ _; have K6 := Lib.hid (show ∀ wz, Below w6.heap.size w6 wz → wz.heap[g]? = some (.cells #[.slice a5 L.length c5, .slice (some ⟨B, 0, none⟩) (tabL (mt L) L.length).length (tabL (mt L) L.length).length] 27 (0, 0)) from fun wz h => (h.block _ (lt_of_block hx6)).trans hx6); clear hw6 hg q6 gs5 gt5 hx6)
    | (refine wpList_load_row_w rfl 27 _ rfl g rfl _ _ _ _ (K6.out _ (by assumption)) Try.underlying27 rfl (size_Alg _ _) ?_)
    | (go_at_call 41; refine (implValidAlgebra_any a5 (some ⟨B, 0, none⟩) c5 _ L (tabL (mt L) L.length) _ (rs_rd gs6.rd) (gt_rd gt6)).mono ?_; rintro e w7 ⟨he7, hb7⟩; rw [HD.out] at he7; subst he7; have z7 : Below w1.heap.size w1 w7 := z6.trans (hb7.mono z6.size); have gs7 := gs6.below hb7; have gt7 := gt6.below hb7; have s7 := hb7.size; have y7 : Below w6.heap.size w6 w7 := hb7; clear hb7 y6)
    | (refine wpList_store_row rfl 27 _ _ rfl w.heap.size #[.slice a5 L.length c5, .slice (some ⟨B, 0, none⟩) (tabL (mt L) L.length).length (tabL (mt L) L.length).length] rfl rfl _ _ (Kz.out _ z7) (size_Alg _ _) rfl (one_sl2 _ _ _ _ _ _) ?_))
  refine bodyPost_ret (v := .tuple #[.agg #[.slice a5 L.length c5, .slice (some ⟨B, 0, none⟩) (tabL (mt L) L.length).length (tabL (mt L) L.length).length], .bool true]) (results_Alg_tmp rfl _ _ w.heap.size rfl _ _ (setRow_heap _ _ _ _ _ _ (Kz.out _ z7)) rfl) rfl ?_
  rw [HV.out.1, HV.out.2.1, HV.out.2.2]
  have hbz := below_setRow' (hB.trans (z7.mono hB.size)) (Nat.le_refl w.heap.size) #[.slice a5 L.length c5, .slice (some ⟨B, 0, none⟩) (tabL (mt L) L.length).length (tabL (mt L) L.length).length]
  have hb8 := below_setRow' (Below.refl w.heap.size w7) (Nat.le_refl w.heap.size) #[.slice a5 L.length c5, .slice (some ⟨B, 0, none⟩) (tabL (mt L) L.length).length (tabL (mt L) L.length).length]
  have hs8 := hb8.size
  have s1 := hB.size
  have hk : ∀ lo hi, w.heap.size < lo → Keep lo hi w7 (w7.setRow w.heap.size #[.slice a5 L.length c5, .slice (some ⟨B, 0, none⟩) (tabL (mt L) L.length).length (tabL (mt L) L.length).length]) := fun lo hi hlo k k1 _ _ => setRow_other w7 _ k _ (by omega)
  exact ⟨_, _, _, _, _, _, rfl, ⟨w4.heap.size, w5.heap.size, B, w4.heap.size, by omega, by omega, by omega, by omega, .inr (Nat.le_refl _), gs7.keep (hk _ _ (by omega)), gt7.keep (hk _ _ (by omega))⟩, hbz⟩
/-- impl.MeetAlgebra -/
theorem implMeetAlgebra_any (a : Option Addr) (ca : Nat) (L : List Int) (w : World) (hr : Rd w a L) (hm : L.length ≤ 1048576) : Calls Try.prog 46 #[.slice a L.length ca] w (RetGAb (mtLL L) (mtTT L) (mtOk L) w) := by
  cases h : latB L with
  | false => exact implMeet_lat a ca L w hr hm h
  | true =>
    cases h2 : distB L with
    | false => exact implMeet_dist a ca L w hr hm h h2
    | true => exact implMeet_yes a ca L w hr hm h h2
end Go.Proofs.Ytmlbdlobdnhimab
