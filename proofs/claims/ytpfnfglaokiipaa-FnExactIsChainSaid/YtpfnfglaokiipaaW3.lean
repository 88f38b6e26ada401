import Derived.Test.YtpfnfglaokiipaaW2
import Derived.Test.YtpfnfglaokiipaaR2
namespace Go.Proofs.Ytpfnfglaokiipaa
open Go.RowKit

def distXYZ (L : List Int) (x y z : Int) : Bool := mt L x (jn L y z) == jn L (mt L x y) (mt L x z)
def distXY (L : List Int) (x y : Int) : Bool := allI (num L) (distXYZ L x y)
def distX (L : List Int) (x : Int) : Bool := allI (num L) (distXY L x)
def distB (L : List Int) : Bool := allI (num L) (distX L)
theorem mt_lt {L : List Int} (h : latB L = true) {x y : Int} (x0 : 0 ≤ x) (x1 : x < num L) (y0 : 0 ≤ y) (y1 : y < num L) : 0 ≤ mt L x y ∧ mt L x y < num L := by
  have p := (mt_pos h x0 x1 y0 y1).1
  rcases firstI_cases (num L) (isMeetB L x y) with ⟨e, _⟩ | ⟨a, b, _⟩
  · have : mt L x y = -1 := e
    omega
  · exact ⟨a, b⟩
theorem jn_lt {L : List Int} (h : latB L = true) {x y : Int} (x0 : 0 ≤ x) (x1 : x < num L) (y0 : 0 ≤ y) (y1 : y < num L) : 0 ≤ jn L x y ∧ jn L x y < num L := by
  have p := (mt_pos h x0 x1 y0 y1).2
  rcases firstI_cases (num L) (isJoinB L x y) with ⟨e, _⟩ | ⟨a, b, _⟩
  · have : jn L x y = -1 := e
    omega
  · exact ⟨a, b⟩

set_option maxRecDepth 100000 in
set_option maxHeartbeats 2000000 in
/-- spec.distributive -/
theorem distributive_any (b off cap : Nat) (L : List Int) (w : World) (hc : Cells w b off L) (hlat : latB L = true) :
    Calls Try.prog 59 #[.slice (some ⟨b, off, none⟩) L.length cap] w fun e w' => e = .returned (.bool (distB L)) ∧ w = w' := by
  obtain ⟨h1, h6, hs⟩ := latB_parts hlat
  have HL := Lib.hid hlat; clear hlat
  have hn : num L = L.length := rfl
  have HN := Lib.hid hn; clear hn
  have hn1 : num L ≤ L.length := by rw [HN.out]; omega
  have hn2 : (L.length : Int) ≤ num L := by rw [HN.out]; omega
  go_enter Try.func59, Try.ntmps59
  go_wp2
  go_loop [3] (fun x => ∃ k : Int, 0 ≤ k ∧ k ≤ num L ∧ x = .int .i64 k ∧ AllTo k (distX L)) (fun x => (6 - intOf x).toNat)
  case atStart => exact ⟨0, by omega, by omega, rfl, AllTo.zero _⟩
  case round =>
    obtain ⟨x, x0, x1, rfl, hx⟩ := hrel
    by_cases hxn : x < num L
    · have hxl : x < L.length := by omega
      go_wp2
      go_loop [4] (fun y => ∃ k : Int, 0 ≤ k ∧ k ≤ num L ∧ y = .int .i64 k ∧ AllTo k (distXY L x)) (fun y => (6 - intOf y).toNat)
      case atStart => exact ⟨0, by omega, by omega, rfl, AllTo.zero _⟩
      case round =>
        obtain ⟨y, y0, y1, rfl, hy⟩ := hrel
        by_cases hyn : y < num L
        · have hyl : y < L.length := by omega
          go_wp2
          go_loop [5] (fun z => ∃ k : Int, 0 ≤ k ∧ k ≤ num L ∧ z = .int .i64 k ∧ AllTo k (distXYZ L x y)) (fun z => (6 - intOf z).toNat)
          case atStart => exact ⟨0, by omega, by omega, rfl, AllTo.zero _⟩
          case round =>
            obtain ⟨z, z0, z1, rfl, hz⟩ := hrel
            by_cases hzn : z < num L
            · have hzl : z < L.length := by omega
              obtain ⟨a0, a1⟩ := jn_lt HL.out y0 hyn z0 hzn
              obtain ⟨b0, b1⟩ := mt_lt HL.out x0 hxn y0 hyn
              obtain ⟨c0, c1⟩ := mt_lt HL.out x0 hxn z0 hzn
              cases hq : mt L x (jn L y z) != jn L (mt L x y) (mt L x z)
              case false =>
                have hv := Lib.hid (show distXYZ L x y z = true by unfold distXYZ; simpa [bne] using hq)
                go_wp2_with (first | (go_at_call 51; refine (meet_any _ _ _ L _ _ _ hc hs (by omega) (by omega) (by omega) (by omega)).mono ?_; rintro e w' ⟨rfl, rfl⟩) | (go_at_call 52; refine (join_any _ _ _ L _ _ _ hc hs (by omega) (by omega) (by omega) (by omega)).mono ?_; rintro e w' ⟨rfl, rfl⟩))
                go_round
                case rel => exact ⟨z + 1, by omega, by omega, rfl, hz.succ hv.out⟩
                case measure => simp [intOf]; omega
              case true =>
                have hv := Lib.hid (show distB L = false from allI_false (p := distX L) x x0 hxn (allI_false (p := distXY L x) y y0 hyn (allI_false (p := distXYZ L x y) z z0 hzn (by unfold distXYZ; simpa [bne] using hq))))
                go_wp2_with (first | (go_at_call 51; refine (meet_any _ _ _ L _ _ _ hc hs (by omega) (by omega) (by omega) (by omega)).mono ?_; rintro e w' ⟨rfl, rfl⟩) | (go_at_call 52; refine (join_any _ _ _ L _ _ _ hc hs (by omega) (by omega) (by omega) (by omega)).mono ?_; rintro e w' ⟨rfl, rfl⟩))
                go_ret
                exact ⟨ret_bool hv.out.symm, rfl⟩
            · have ht := Lib.hid (show distXY L x y = true from hz.all (by omega : num L ≤ z))
              go_wp2
              go_round
              case rel => exact ⟨y + 1, by omega, by omega, rfl, hy.succ ht.out⟩
              case measure => simp [intOf]; omega
        · have ht := Lib.hid (show distX L x = true from hy.all (by omega : num L ≤ y))
          go_wp2
          go_round
          case rel => exact ⟨x + 1, by omega, by omega, rfl, hx.succ ht.out⟩
          case measure => simp [intOf]; omega
    · have ht := Lib.hid (show distB L = true from hx.all (by omega : num L ≤ x))
      go_wp2
      go_ret
      exact ⟨ret_bool ht.out.symm, rfl⟩

set_option maxHeartbeats 400000 in
/-- spec.IsDistributive -/
theorem specIsDistributive_any (a : Option Addr) (cap : Nat) (L : List Int) (w : World) (hr : Rd w a L) :
    Calls Try.prog 31 #[.slice a L.length cap] w fun e w' => e = .returned (.bool (latB L && distB L)) ∧ Dr w w' := by
  cases hA : latB L with
  | false =>
    go_enter Try.func31, Try.ntmps31
    go_wp2_with (go_at_call 46; refine (validLattice_any _ _ _ _ hr).mono ?_; rintro e w1 ⟨rfl, hd⟩)
    go_ret
    exact ⟨rfl, by assumption⟩
  | true =>
    obtain ⟨h1, h6, hs⟩ := latB_parts hA
    obtain ⟨b, off, rfl, hc⟩ := hr.pos h1
    go_enter Try.func31, Try.ntmps31
    go_wp2_with (first | (go_at_call 46; refine (validLattice_any _ _ _ _ hr).mono ?_; rintro e w1 ⟨rfl, hd⟩) | (go_at_call 59; refine (distributive_any _ _ _ L _ (hd.cells hc) hA).mono ?_; rintro e w' ⟨rfl, rfl⟩))
    go_ret
    exact ⟨rfl, by assumption⟩

theorem enters_ch : Enters 86 := enters_of Try.func86 (by kernel_rfl) rfl
set_option maxRecDepth 100000 in
set_option maxHeartbeats 1000000 in
theorem chClo_any (L : List Int) (B : Nat) (x y : Int) (w : World) (hL : LatAt w B L) (n6 : num L ≤ 6) (x0 : 0 ≤ x) (x1 : x < num L) (y0 : 0 ≤ y) (y1 : y < num L) :
    Calls Try.prog 86 #[.int .i64 x, .int .i64 y, .pointer (some ⟨B, 0, none⟩)] w fun e w' => e = .returned (.bool (chainXY L x y)) ∧ w = w' := by
  have x6 : x < 6 := by omega
  have y6 : y < 6 := by omega
  have d0 := hL.g x0 x6 y0 y6
  have d1 := hL.g y0 y6 x0 x6
  rw [ordG_in x1 y1] at d0
  rw [ordG_in y1 x1] at d1
  have hv := Lib.hid (show chainXY L x y = (bl L x y || bl L y x) from rfl)
  cases hA : bl L x y <;> cases hB : bl L y x
  all_goals
    rw [hA, hB] at hv
    go_enter Try.func86, Try.ntmps86
    go_wp2
    go_ret
    exact ⟨ret_bool (by rw [hv.out]; rfl), rfl⟩
set_option maxRecDepth 100000 in
set_option maxHeartbeats 1000000 in
/-- impl.lattice.isChain -/
theorem isChainM_any (L : List Int) (w : World) (n6 : num L ≤ 6) :
    Calls Try.prog 58 #[.agg (latOf L)] w fun e w' => e = .returned (.bool (chainB L)) ∧ Below w.heap.size w w' := by
  have hn : num L = L.length := rfl
  obtain ⟨w1, hw1⟩ : ∃ w1, w1 = w.alloc (.cells (latOf L) 45) := ⟨_, rfl⟩
  have hB : Below w.heap.size w w1 := by rw [hw1]; exact (Below.refl _ _).alloc (Nat.le_refl _) _
  have hL : LatAt w1 w.heap.size L := by rw [hw1]; exact LatAt.new w L
  have c0 := hL.size
  have H : ∀ (x y : Int) (wr : World), 0 ≤ x → x < (L.length : Int) → 0 ≤ y → y < (L.length : Int) → Below w1.heap.size w1 wr → Calls Try.prog 86 (#[.int .i64 x, .int .i64 y] ++ #[.pointer (some ⟨w.heap.size, 0, none⟩)]) wr fun e w' => e = .returned (.bool (chainXY L x y)) ∧ Below wr.heap.size wr w' := fun x y wr x0 x1 y0 y1 hbel => by
    rw [append2]
    exact (chClo_any L w.heap.size x y wr (hL.below hbel hL.lt) n6 x0 (by omega) y0 (by omega)).mono fun _ _ h => ⟨h.1, by rw [← h.2]; exact Below.refl _ _⟩
  have C := Lib.hid (allTwo_any _ _ (L.length : Int) (chainXY L) _ (by omega) (by omega) enters_ch H)
  have hv := Lib.hid (show all2 (L.length : Int) (chainXY L) = chainB L from rfl)
  clear H hL hn
  go_enter Try.func58, Try.ntmps58
  go_wp2_with (first | (rw [← hw1]; clear hw1) | (go_at_call 85; refine (C.out).mono ?_; rw [hv.out]; rintro e w5 ⟨rfl, h5⟩))
  go_ret
  exact ⟨rfl, hB.trans (h5.mono hB.size)⟩

set_option maxRecDepth 100000 in
set_option maxHeartbeats 2000000 in
/-- impl.IsChain -/
theorem implIsChain_any (a : Option Addr) (cap : Nat) (L : List Int) (w : World) (hr : Rd w a L) :
    Calls Try.prog 30 #[.slice a L.length cap] w fun e w' => e = .returned (.bool (latB L && chainB L)) ∧ Below w.heap.size w w' := by
  cases hB : latB L with
  | false =>
    have HB := Lib.hid hB; clear hB
    go_enter Try.func30, Try.ntmps30
    go_wp2_with (first
      | go_skip
      | (go_at_call 47; refine (readLattice_no _ _ _ _ hr HB.out).mono ?_; rintro e w1 ⟨rfl, h1⟩)
      | (refine wpList_store_row rfl 45 _ _ rfl w1.heap.size zeroLat rfl rfl _ _ (heap_alloc_new w1 (.cells zeroLat 45)) (size_lat _ _ _ _) rfl (one_lat _ _ _ _) ?_; rw [World.setRow_alloc_new]))
    go_ret
    exact ⟨rfl, h1.alloc h1.size _⟩
  | true =>
    obtain ⟨p1, p6, _⟩ := latB_parts hB
    have HB := Lib.hid hB; clear hB
    go_enter Try.func30, Try.ntmps30
    go_wp2_with (first
      | go_skip
      | (go_at_call 47; refine (readLattice_yes _ _ _ _ hr HB.out).mono ?_; rintro e w1 ⟨rfl, h1⟩)
      | (refine wpList_store_row rfl 45 _ _ rfl w1.heap.size (latOf L) rfl rfl _ _ (heap_alloc_new w1 (.cells zeroLat 45)) (size_lat _ _ _ _) rfl (one_lat _ _ _ _) ?_; rw [World.setRow_alloc_new]; obtain ⟨b6, hb6⟩ : ∃ b6, b6 = w1.heap.size := ⟨_, rfl⟩; obtain ⟨w2, hw2⟩ : ∃ w2, w2 = w1.alloc (.cells (latOf L) 45) := ⟨_, rfl⟩; rw [← hw2, ← hb6]; have hL : LatAt w2 b6 L := (by rw [hw2, hb6]; exact LatAt.new w1 L); replace h1 : Below w.heap.size w w2 := (by rw [hw2]; exact h1.alloc h1.size _); clear hw2 hb6)
      | (refine wpList_load_row_w rfl 45 _ rfl b6 rfl _ _ _ _ hL Try.underlying45 rfl (size_lat _ _ _ _) ?_)
      | (go_at_call 58; refine (isChainM_any L _ p6).mono ?_; rintro e w5 ⟨rfl, h5⟩))
    go_ret
    exact ⟨rfl, h1.trans (h5.mono h1.size)⟩

set_option maxRecDepth 100000 in
set_option maxHeartbeats 1000000 in
/-- the law -/
theorem lawIsChain (a : Option Addr) (cap : Nat) (L : List Int) (w : World) (hr : Rd w a L) (hm : L.length ≤ maxLen) :
    Calls Try.prog 8 #[.slice a L.length cap] w fun e w' => e = .returned (.bool true) ∧ Below w.heap.size w w' := by
  have hmm := hm
  unfold maxLen at hm
  by_cases hbig : 1048576 < L.length
  · go_enter Try.func8, Try.ntmps8
    go_wp2
    go_ret
    exact ⟨rfl, Below.refl _ _⟩
  · have hs : L.length ≤ 1048576 := by omega
    have hs2 : (L.length : Int) ≤ 1048576 := by omega
    go_enter Try.func8, Try.ntmps8
    go_wp2_with fail
    refine (toIntS_any _ _ L _ hr hs).mono ?_
    rintro e w1 ⟨rfl, hrow1, hb1⟩
    go_wp2_with fail
    refine (specIsChain_any _ _ L _ hrow1.rd).mono ?_
    rintro e w2 ⟨rfl, hd2⟩
    have hr2 : Rd w2 a L := hd2.rd (hr.below hb1)
    have hB2 : Below w.heap.size w w2 := hb1.trans (hd2.below _)
    clear hrow1 hb1 hd2
    go_wp2_with fail
    refine (toIntS_any _ _ L _ hr2 hs).mono ?_
    rintro e w3 ⟨rfl, hrow3, hb3⟩
    have hr3 : Rd w3 a L := hr2.below hb3
    have hB3 : Below w.heap.size w w3 := hB2.trans (hb3.mono hB2.size)
    obtain ⟨b3, hb3'⟩ : ∃ b3, b3 = w2.heap.size := ⟨_, rfl⟩
    rw [← hb3'] at hrow3 ⊢
    clear hr2 hB2 hb3 hb3'
    go_wp2_with fail
    refine (implIsChain_any _ _ L _ hrow3.rd).mono ?_
    rintro e w4 ⟨rfl, hb4⟩
    have hr4 : Rd w4 a L := hr3.below hb4
    have hrow4 := hrow3.below hb4 hrow3.lt
    have hB4 : Below w.heap.size w w4 := hB3.trans (hb4.mono hB3.size)
    clear hr3 hrow3 hB3 hb4
    have hne : ((latB L && chainB L) != (latB L && chainB L)) = false := by simp
    go_wp2_with fail
    refine (toIntS_any _ _ L _ hr4 hs).mono ?_
    rintro e w5 ⟨rfl, hrow5, hb5⟩
    have hrow6 := hrow4.below hb5 hrow4.lt
    have hB5 : Below w.heap.size w w5 := hB4.trans (hb5.mono hB4.size)
    have heq : eqL L L = true := decide_eq_true rfl
    go_wp2_with fail
    refine (eqIntS_any _ _ _ _ L L _ hrow6.rd hrow5.rd (by omega)).mono ?_
    rintro e w6 ⟨rfl, hd6⟩
    go_wp2
    go_ret
    exact ⟨rfl, hB5.trans (hd6.below _)⟩

end Go.Proofs.Ytpfnfglaokiipaa
