import Derived.Test.YtknmldibeppmkaaW3
namespace Go.Proofs.Ytknmldibeppmkaa
open Go.RowKit

set_option maxRecDepth 100000 in
set_option maxHeartbeats 1000000 in
/-- impl.lattice.isDistributiveAt -/
theorem isDistributiveAt_any (L : List Int) (x y z : Int) (w : World) (hlat : latB L = true) (x0 : 0 ≤ x) (x1 : x < num L) (y0 : 0 ≤ y) (y1 : y < num L) (z0 : 0 ≤ z) (z1 : z < num L) :
    Calls Try.prog 59 #[.agg (latOf L), .int .i64 x, .int .i64 y, .int .i64 z] w fun e w' => e = .returned (.bool (distXYZ L x y z)) ∧ Below w.heap.size w w' := by
  obtain ⟨p1, p6, _⟩ := latB_parts hlat
  obtain ⟨a0, a1⟩ := jn_lt hlat y0 y1 z0 z1
  obtain ⟨b0, b1⟩ := mt_lt hlat x0 x1 y0 y1
  obtain ⟨c0, c1⟩ := mt_lt hlat x0 x1 z0 z1
  have t1 := tabT_join hlat y0 y1 z0 z1
  have t2 := tabT_meet hlat x0 x1 y0 y1
  have t3 := tabT_meet hlat x0 x1 z0 z1
  have t4 := tabT_meet hlat x0 x1 a0 a1
  have t5 := tabT_join hlat b0 b1 c0 c1
  have hv := Lib.hid (show distXYZ L x y z = (mt L x (jn L y z) == jn L (mt L x y) (mt L x z)) from rfl)
  go_enter Try.func59, Try.ntmps59
  go_wp2
  obtain ⟨w1, hw1⟩ : ∃ w1, w1 = w.alloc (Obj.cells (latOf L) 45) := ⟨_, rfl⟩
  rw [← hw1]
  have hL : LatAt w1 w.heap.size L := by rw [hw1]; exact LatAt.new w L
  have hbel : Below w.heap.size w w1 := by rw [hw1]; exact (Below.refl _ _).alloc (Nat.le_refl _) _
  have d1 := hL.j y0 (by omega : y < 6) z0 (by omega : z < 6)
  have d2 := hL.m x0 (by omega : x < 6) y0 (by omega : y < 6)
  have d3 := hL.m x0 (by omega : x < 6) z0 (by omega : z < 6)
  have d4 := hL.m x0 (by omega : x < 6) a0 (by omega : jn L y z < 6)
  have d5 := hL.j b0 (by omega : mt L x y < 6) c0 (by omega : mt L x z < 6)
  rw [t1] at d1
  rw [t2] at d2
  rw [t3] at d3
  rw [t4] at d4
  rw [t5] at d5
  clear t1 t2 t3 t4 t5 hw1 hlat
  go_quiet (fail)
  go_wp2
  go_ret
  exact ⟨ret_bool (by rw [hv.out]), hbel.trans (Dr.below ⟨_, rfl⟩ _)⟩

set_option maxRecDepth 100000 in
set_option maxHeartbeats 2000000 in
/-- impl.IsDistributive -/
theorem implIsDistributive_any (a : Option Addr) (cap : Nat) (L : List Int) (w : World) (hr : Rd w a L) :
    Calls Try.prog 32 #[.slice a L.length cap] w fun e w' => e = .returned (.bool (latB L && distB L)) ∧ Below w.heap.size w w' := by
  cases hB : latB L with
  | false =>
    have HB := Lib.hid hB; clear hB
    go_enter Try.func32, Try.ntmps32
    go_wp2_with (first
      | (go_at_call 47; refine (readLattice_no _ _ _ _ hr HB.out).mono ?_; rintro e w1 ⟨rfl, h1⟩)
      | (refine wpList_store_row rfl 45 _ _ rfl w1.heap.size zeroLat rfl rfl _ _ (heap_alloc_new w1 (.cells zeroLat 45)) (size_lat _ _ _ _) rfl (one_lat _ _ _ _) ?_; rw [World.setRow_alloc_new]))
    go_ret
    exact ⟨rfl, h1.alloc h1.size _⟩
  | true =>
    obtain ⟨p1, p6, _⟩ := latB_parts hB
    have HB := Lib.hid hB; clear hB
    have hn : num L = L.length := rfl
    have HN := Lib.hid hn; clear hn
    have hn1 : num L ≤ L.length := by rw [HN.out]; omega
    have hn2 : (L.length : Int) ≤ num L := by rw [HN.out]; omega
    go_enter Try.func32, Try.ntmps32
    go_wp2_with (first
      | (go_at_call 47; refine (readLattice_yes _ _ _ _ hr HB.out).mono ?_; rintro e w1 ⟨rfl, h1⟩)
      | (refine wpList_store_row rfl 45 _ _ rfl w1.heap.size (latOf L) rfl rfl _ _ (heap_alloc_new w1 (.cells zeroLat 45)) (size_lat _ _ _ _) rfl (one_lat _ _ _ _) ?_; rw [World.setRow_alloc_new]; obtain ⟨b6, hb6⟩ : ∃ b6, b6 = w1.heap.size := ⟨_, rfl⟩; obtain ⟨w2, hw2⟩ : ∃ w2, w2 = w1.alloc (.cells (latOf L) 45) := ⟨_, rfl⟩; rw [← hw2, ← hb6]; have hL : LatAt w2 b6 L := (by rw [hw2, hb6]; exact LatAt.new w1 L); replace h1 : Below w.heap.size w w2 := (by rw [hw2]; exact h1.alloc h1.size _); clear hw2 hb6; have c0 := hL.size))
    have hL0 := hL
    go_loopw [5, 6, 7, 17] (fun _ _ _ c wr => ∃ k : Int, 0 ≤ k ∧ k ≤ num L ∧ c = .int .i64 k ∧ AllTo k (distX L) ∧ LatAt wr b6 L ∧ Below w.heap.size w wr) (fun _ _ _ c _ => (6 - intOf c).toNat)
    case atStart => exact ⟨0, by omega, by omega, rfl, AllTo.zero _, hL, h1⟩
    case round =>
      clear hL c0 h1 hL0
      obtain ⟨x, x0, x1, rfl, hx, hL, h1⟩ := hrel
      have c0 := hL.size
      by_cases hxn : x < num L
      · have hxl : x < L.length := by omega
        go_wp2
        obtain ⟨w3, rfl⟩ : ∃ w3 : World, w3 = wr := ⟨_, rfl⟩
        go_loopw [6, 7, 22] (fun _ _ c wr => ∃ k : Int, 0 ≤ k ∧ k ≤ num L ∧ c = .int .i64 k ∧ AllTo k (distXY L x) ∧ LatAt wr b6 L ∧ Below w.heap.size w wr) (fun _ _ c _ => (6 - intOf c).toNat)
        case atStart => exact ⟨0, by omega, by omega, rfl, AllTo.zero _, hL, h1⟩
        case round =>
          clear hL c0 h1
          obtain ⟨y, y0, y1, rfl, hy, hL, h1⟩ := hrel
          have c0 := hL.size
          by_cases hyn : y < num L
          · have hyl : y < L.length := by omega
            go_wp2
            obtain ⟨w4, rfl⟩ : ∃ w4 : World, w4 = wr := ⟨_, rfl⟩
            go_loopw [7, 27] (fun _ c wr => ∃ k : Int, 0 ≤ k ∧ k ≤ num L ∧ c = .int .i64 k ∧ AllTo k (distXYZ L x y) ∧ LatAt wr b6 L ∧ Below w.heap.size w wr) (fun _ c _ => (6 - intOf c).toNat)
            case atStart => exact ⟨0, by omega, by omega, rfl, AllTo.zero _, hL, h1⟩
            case round =>
              clear hL c0 h1
              obtain ⟨z, z0, z1, rfl, hz, hL, h1⟩ := hrel
              have c0 := hL.size
              by_cases hzn : z < num L
              · have hzl : z < L.length := by omega
                cases hv : distXYZ L x y z
                case false =>
                  have hf := Lib.hid (show distB L = false from allI_false (p := distX L) x x0 hxn (allI_false (p := distXY L x) y y0 hyn (allI_false (p := distXYZ L x y) z z0 hzn hv)))
                  go_wp2_with (first | (refine wpList_load_row_w rfl 45 _ rfl b6 rfl _ _ _ _ hL Try.underlying45 rfl (size_lat _ _ _ _) ?_) | (go_at_call 59; refine (isDistributiveAt_any L x y z _ HB.out x0 hxn y0 hyn z0 hzn).mono ?_; rintro e w5 ⟨rfl, h5⟩))
                  go_ret
                  exact ⟨ret_bool (by rw [hf.out]; try rfl), h1.trans (h5.mono h1.size)⟩
                case true =>
                  have HV := Lib.hid hv
                  go_wp2_with (first | (refine wpList_load_row_w rfl 45 _ rfl b6 rfl _ _ _ _ hL Try.underlying45 rfl (size_lat _ _ _ _) ?_) | (go_at_call 59; refine (isDistributiveAt_any L x y z _ HB.out x0 hxn y0 hyn z0 hzn).mono ?_; rintro e w5 ⟨rfl, h5⟩))
                  go_roundw
                  case rel => exact ⟨z + 1, by omega, by omega, rfl, hz.succ HV.out, hL.below h5 hL.lt, h1.trans (h5.mono h1.size)⟩
                  case measure => simp [intOf]; omega
              · have ht := Lib.hid (show distXY L x y = true from hz.all (by omega : num L ≤ z))
                go_wp2
                go_roundw
                case rel => exact ⟨y + 1, by omega, by omega, rfl, hy.succ ht.out, hL, h1⟩
                case measure => simp [intOf]; omega
          · have ht := Lib.hid (show distX L x = true from hy.all (by omega : num L ≤ y))
            go_wp2
            go_roundw
            case rel => exact ⟨x + 1, by omega, by omega, rfl, hx.succ ht.out, hL, h1⟩
            case measure => simp [intOf]; omega
      · have ht := Lib.hid (show distB L = true from hx.all (by omega : num L ≤ x))
        go_wp2
        go_ret
        exact ⟨ret_bool (by rw [ht.out]; try rfl), h1⟩

set_option maxRecDepth 100000 in
set_option maxHeartbeats 1000000 in
/-- the law -/
theorem lawIsDistributive (a : Option Addr) (cap : Nat) (L : List Int) (w : World) (hr : Rd w a L) (hm : L.length ≤ maxLen) :
    Calls Try.prog 9 #[.slice a L.length cap] w fun e w' => e = .returned (.bool true) ∧ Below w.heap.size w w' := by
  have hmm := hm
  unfold maxLen at hm
  by_cases hbig : 1048576 < L.length
  · go_enter Try.func9, Try.ntmps9
    go_wp2
    go_ret
    exact ⟨rfl, Below.refl _ _⟩
  · have hs : L.length ≤ 1048576 := by omega
    have hs2 : (L.length : Int) ≤ 1048576 := by omega
    go_enter Try.func9, Try.ntmps9
    go_wp2_with fail
    refine (toIntS_any _ _ L _ hr hs).mono ?_
    rintro e w1 ⟨rfl, hrow1, hb1⟩
    go_wp2_with fail
    refine (specIsDistributive_any _ _ L _ hrow1.rd).mono ?_
    rintro e w2 ⟨rfl, hd2⟩
    have hr2 : Rd w2 a L := hd2.rd (hr.below hb1)
    have hB2 : Below w.heap.size w w2 := hb1.trans (hd2.below _)
    clear hrow1 hb1 hd2
    go_wp2_with fail
    refine (toIntS_any _ _ L _ hr2 hs).mono ?_
    rintro e w3 ⟨rfl, hrow3, hb3⟩
    have hr3 : Rd w3 a L := hr2.below hb3
    have hB3 : Below w.heap.size w w3 := hB2.trans (hb3.mono hB2.size)
    obtain ⟨b3, hb3'⟩ : ∃ b3, b3 = w2.heap.size := ⟨_, rfl⟩
    rw [← hb3'] at hrow3 ⊢
    clear hr2 hB2 hb3 hb3'
    go_wp2_with fail
    refine (implIsDistributive_any _ _ L _ hrow3.rd).mono ?_
    rintro e w4 ⟨rfl, hb4⟩
    have hr4 : Rd w4 a L := hr3.below hb4
    have hrow4 := hrow3.below hb4 hrow3.lt
    have hB4 : Below w.heap.size w w4 := hB3.trans (hb4.mono hB3.size)
    clear hr3 hrow3 hB3 hb4
    have hne : ((latB L && distB L) != (latB L && distB L)) = false := by simp
    go_wp2_with fail
    refine (toIntS_any _ _ L _ hr4 hs).mono ?_
    rintro e w5 ⟨rfl, hrow5, hb5⟩
    have hrow6 := hrow4.below hb5 hrow4.lt
    have hB5 : Below w.heap.size w w5 := hB4.trans (hb5.mono hB4.size)
    have heq : eqL L L = true := decide_eq_true rfl
    go_wp2_with fail
    refine (eqIntS_any _ _ _ _ L L _ hrow6.rd hrow5.rd (by omega)).mono ?_
    rintro e w6 ⟨rfl, hd6⟩
    go_wp2
    go_ret
    exact ⟨rfl, hB5.trans (hd6.below _)⟩

end Go.Proofs.Ytknmldibeppmkaa
