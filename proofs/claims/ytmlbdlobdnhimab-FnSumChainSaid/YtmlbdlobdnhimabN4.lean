import Derived.Test.YtmlbdlobdnhimabG9
import Derived.Test.YtmlbdlobdnhimabM5
import Derived.Test.YtmlbdlobdnhimabS1
import Derived.Test.YtmlbdlobdnhimabN2
namespace Go.Proofs.Ytmlbdlobdnhimab
open Go.RowKit

theorem append11 (a b : Value) : (#[a] ++ #[b] : Array Value) = #[a, b] := rfl
theorem isIn_dr (x set : Int) (w : World) (x0 : 0 ≤ x) (x6 : x ≤ 6) (s0 : 0 ≤ set) (s6 : set ≤ 64) {r : Bool} (h : ib set x = r) :
    Calls Try.prog 79 #[.int .i64 x, .int .i64 set] w fun e w' => e = .returned (.bool r) ∧ Dr w w' :=
  (isIn_is x set w x0 x6 s0 s6 h).mono fun _ _ h => ⟨h.1, h.2 ▸ Dr.refl _⟩
theorem in_trans2 {w1 wr : World} (s : In (Below w1.heap.size w1)) (hb : Below s.w.heap.size s.w wr) : Below w1.heap.size w1 wr := s.h.trans (hb.mono s.h.size)
theorem enters_fil : Enters 179 := enters_of Try.func179 (by kernel_rfl) rfl
set_option maxRecDepth 100000 in
set_option maxHeartbeats 2000000 in
theorem filClo_any (L : List Int) (T : List (List Int)) (bs ba : Nat) (f x y : Int) (w : World) (hA : AlgAt w ba L T) (hs : w.heap[bs]? = some (.cells #[.int .i64 f] 3 (0, 0))) (h : algB L T = true) (f0 : 0 ≤ f) (f6 : f ≤ 63) (x0 : 0 ≤ x) (x1 : x < num L) (y0 : 0 ≤ y) (y1 : y < num L) :
    Calls Try.prog 179 #[.int .i64 x, .int .i64 y, .pointer (some ⟨bs, 0, none⟩), .pointer (some ⟨ba, 0, none⟩)] w fun e w' => e = .returned (.bool (filXY L T f x y)) ∧ Dr w w' := by
  have n6 := (lat_len (alg_lat h)).2
  have x6 : x < 6 := by omega
  have y6 : y < 6 := by omega
  obtain ⟨t0, t1⟩ := shape_cell (alg_shape h) x0 x1 y0 y1
  have cs := cell_of_one hs
  have d0 := hA.g x0 x6 y0 y6
  rw [ordG_in x1 y1] at d0
  have d1 := hA.t x0 x6 y0 y6
  rw [timG_in x1 y1] at d1
  have hq := Lib.hid (show filXY L T f x y = (!ib f x || (if ib f y then ib f (tv T x y) else !bl L x y)) from rfl)
  clear h
  cases hX : ib f x with
  | false =>
    rw [hX] at hq
    have HX := Lib.hid hX; clear hX
    go_enter Try.func179, Try.ntmps179
    go_wp2_with (go_at_call 79; refine (isIn_is x f _ x0 (by omega) f0 (by omega) HX.out).mono ?_; rintro e w2 ⟨rfl, rfl⟩)
    go_ret
    exact ⟨ret_bool (by rw [hq.out]; rfl), Dr.refl _⟩
  | true =>
    rw [hX] at hq
    have HX := Lib.hid hX; clear hX
    cases hY : ib f y with
    | false =>
      rw [hY] at hq
      have HY := Lib.hid hY; clear hY
      cases hL : bl L x y
      all_goals
        rw [hL] at hq d0
        clear hL
        go_enter Try.func179, Try.ntmps179
        go_wp2_with (first
          | (go_at_call_of 79 (Value.int .i64 x); refine (isIn_is x f _ x0 (by omega) f0 (by omega) HX.out).mono ?_; rintro e w2 ⟨rfl, rfl⟩)
          | (go_at_call_of 79 (Value.int .i64 y); refine (isIn_is y f _ y0 (by omega) f0 (by omega) HY.out).mono ?_; rintro e w3 ⟨rfl, rfl⟩))
        go_ret
        exact ⟨ret_bool (by rw [hq.out]; rfl), Dr.refl _⟩
    | true =>
      rw [hY] at hq
      have HY := Lib.hid hY; clear hY
      cases hZ : ib f (tv T x y)
      all_goals
        rw [hZ] at hq
        have HZ := Lib.hid hZ
        clear hZ
        go_enter Try.func179, Try.ntmps179
        go_wp2_with (first
          | (go_at_call_of 79 (Value.int .i64 x); refine (isIn_is x f _ x0 (by omega) f0 (by omega) HX.out).mono ?_; rintro e w2 ⟨rfl, rfl⟩)
          | (go_at_call_of 79 (Value.int .i64 y); refine (isIn_is y f _ y0 (by omega) f0 (by omega) HY.out).mono ?_; rintro e w3 ⟨rfl, rfl⟩))
        go_quiet ((go_at_call 79; exact q_dr (isIn_dr (tv T x y) f _ t0 (by omega) f0 (by omega) HZ.out)))
        go_wp2
        go_ret
        exact ⟨ret_bool (by rw [hq.out]; rfl), ⟨_, rfl⟩⟩

set_option maxRecDepth 100000 in
set_option maxHeartbeats 4000000 in
/-- impl.algebra.isFilter -/
theorem isFilterM_any (L : List Int) (T : List (List Int)) (f : Int) (w : World) (h : algB L T = true) (f0 : 0 ≤ f) (f6 : f ≤ 63) :
    Calls Try.prog 130 #[.agg (algOf L T), .int .i64 f] w fun e w' => e = .returned (.bool (filB L T f)) ∧ Below w.heap.size w w' := by
  obtain ⟨n1, n6⟩ := lat_len (alg_lat h)
  have hn : num L = L.length := rfl
  have n6' : (L.length : Int) ≤ 6 := n6
  have l1 : (1 : Int) ≤ L.length := n1
  obtain ⟨w1, hw1⟩ : ∃ w1, w1 = (w.alloc (.cells (algOf L T) 73)).alloc (.cells #[.int .i64 f] 3) := ⟨_, rfl⟩
  have hB : Below w.heap.size w w1 := by rw [hw1]; exact ((Below.refl _ _).alloc (Nat.le_refl _) _).alloc (by simp) _
  have hA : AlgAt w1 w.heap.size L T := by rw [hw1]; exact (AlgAt.new w L T).alloc _
  have hs : w1.heap[w.heap.size + 1]? = some (.cells #[.int .i64 f] 3 (0, 0)) := by rw [hw1]; exact heap_alloc2_new _ _ _
  have Q := Lib.hid (show ∀ wz, Below w1.heap.size w1 wz → AlgAt wz w.heap.size L T from fun wz hz => hA.below hz hA.lt)
  have S := Lib.hid (show ∀ wz, Below w1.heap.size w1 wz → wz.heap[w.heap.size + 1]? = some (.cells #[.int .i64 f] 3 (0, 0)) from fun wz hz => (hz.block _ (lt_of_block hs)).trans hs)
  have hfil := Lib.hid (show filB L T f = (ib f ((L.length : Int) - 1) && all2 (L.length : Int) (filXY L T f)) from rfl)
  have HA := Lib.hid h
  clear hA hs h hn
  cases hG : ib f ((L.length : Int) - 1)
  all_goals
    rw [hG] at hfil
    have HG := Lib.hid hG
    clear hG
    go_enter Try.func130, Try.ntmps130
    go_wp2_with (rw [← hw1]; clear hw1)
    refine region_in (Below w1.heap.size w1) (by kernel_rfl) (by kernel_rfl) (Dr.below ⟨1, rfl⟩ _) fun hne => ?_
    have r1 : ∀ s : In (Below w1.heap.size w1), s.w.cell? ⟨w.heap.size + 1, 0, none⟩ = some (.int .i64 f) := fun s => cell_of_one (S.out _ s.h)
    have r2 : ∀ s : In (Below w1.heap.size w1), s.w.cell? ⟨w.heap.size, 0, none⟩ = some (.int .i64 L.length) := fun s => (Q.out _ s.h).size
    repeat (first
      | (go_big_quiet_want; refine quiet_load_mid 71 _ rfl w.heap.size 0 rfl (latOf L) _ (fun w' ⟨s, hs⟩ => by rw [hs]; exact (Q.out _ s.h).lat) Try.underlying71 rfl (size_latOf L) ?_; simp only [Act.put, List.setIfInBounds_toArray, List.set_cons_succ, List.set_cons_zero]; go_big_quiet_on)
      | go_big_quiet_step ((first | (go_at_call 111; exact in_below _ (Nat.le_refl _) (greatest_any L _ n6')) | (go_at_call 79; exact in_below _ (Nat.le_refl _) ((isIn_is ((L.length : Int) - 1) f _ (by omega) (by omega) f0 (by omega) HG.out).mono fun _ _ h => ⟨h.1, h.2 ▸ Below.refl _ _⟩)) | (go_at_call 163; exact in_below _ (Nat.le_refl _) (allTwo_any 179 _ (L.length : Int) (filXY L T f) _ (by omega) n6' enters_fil fun x y wr x0 x1 y0 y1 hb => by rw [append22]; exact (filClo_any L T _ _ f x y wr (Q.out _ (in_trans2 _ hb)) (S.out _ (in_trans2 _ hb)) HA.out f0 f6 x0 x1 y0 y1).mono fun _ _ h => ⟨h.1, h.2.below _⟩)))))
    refine wpQuiet_nil ?_
    intro s
    have hw2 := s.h
    obtain ⟨w2, hw2'⟩ : ∃ w2, w2 = s.w := ⟨_, rfl⟩
    rw [← hw2'] at hw2 ⊢
    clear hw2'
    go_wp2
    go_ret
    exact ⟨ret_bool (by rw [hfil.out]; rfl), hB.trans (hw2.mono hB.size)⟩
theorem isFilterM_is (L : List Int) (T : List (List Int)) (f : Int) (w : World) (h : algB L T = true) (f0 : 0 ≤ f) (f6 : f ≤ 63) {r : Bool} (hf : filB L T f = r) :
    Calls Try.prog 130 #[.agg (algOf L T), .int .i64 f] w fun e w' => e = .returned (.bool r) ∧ Below w.heap.size w w' := by
  subst hf; exact isFilterM_any L T f w h f0 f6
/-- an algebra and a set of its elements; an algebra and a filter of it -/
def asB (L : List Int) (T : List (List Int)) (f : Int) : Bool := algB L T && setB L f
def afB (L : List Int) (T : List (List Int)) (f : Int) : Bool := algB L T && isFilB L T f
theorem setB_so (L : List Int) (f : Int) : soB (L.length : Int) f = setB L f := rfl
theorem setB_63 {L : List Int} {f : Int} (h : setB L f = true) (n6 : num L ≤ 6) : 0 ≤ f ∧ f ≤ 63 := by
  unfold setB at h; rw [Bool.and_eq_true, decide_eq_true_eq, decide_eq_true_eq] at h
  have := pw_6 n6; omega
set_option maxRecDepth 100000 in
set_option maxHeartbeats 2000000 in
theorem readSet_alg (a b : Option Addr) (ca cb : Nat) (L : List Int) (T : List (List Int)) (f : Int) (w : World) (hr : Rd w a L) (hT : RdT w b T) (ha : algB L T = false) :
    Calls Try.prog 129 #[.agg #[.slice a L.length ca, .slice b T.length cb], .int .i64 f] w fun e w' => e = .returned (.tuple #[.agg zeroAlg, .bool false]) ∧ Below w.heap.size w w' := by
  have hB1 : Below w.heap.size w ((w.alloc (.cells #[.slice a L.length ca, .slice b T.length cb] 27)).alloc (.cells zeroAlg 73)) := ((Below.refl _ _).alloc (Nat.le_refl _) _).alloc (by simp) _
  have hr1 := hr.below hB1
  have hT1 := hT.below hB1
  have hz1 : ((w.alloc (.cells #[.slice a L.length ca, .slice b T.length cb] 27)).alloc (.cells zeroAlg 73)).heap[w.heap.size + 1]? = some (.cells zeroAlg 73 (0, 0)) := heap_alloc2_new _ _ _
  have hx1 : ((w.alloc (.cells #[.slice a L.length ca, .slice b T.length cb] 27)).alloc (.cells zeroAlg 73)).heap[w.heap.size]? = some (.cells #[.slice a L.length ca, .slice b T.length cb] 27 (0, 0)) := by rw [Below.heap_alloc _ _ _ (by simp)]; exact heap_alloc_new w _
  have HA := Lib.hid ha
  clear ha
  clear hr hT
  go_enter Try.func129, Try.ntmps129
  go_wp2_with (first
    | go_skip
    | (refine wpList_load_row_w rfl 27 _ rfl w.heap.size rfl _ _ _ _ hx1 Try.underlying27 rfl (size_Alg _ _) ?_)
    | (go_at_call 62; refine (readAlgebra_no a b ca cb L T _ hr1 hT1 HA.out).mono ?_; rintro e w2 ⟨rfl, h2⟩; have hz := (h2.block _ (lt_of_block hz1)).trans hz1; have hB := hB1.trans (h2.mono hB1.size); clear h2)
    | (refine wpList_store_row rfl 73 _ _ rfl w2.heap.size zeroAlg rfl rfl _ _ (heap_alloc_new w2 (.cells zeroAlg 73)) size_zeroAlg rfl one_zeroAlg ?_; rw [World.setRow_alloc_new]; obtain ⟨bl, hbl⟩ : ∃ bl, bl = w2.heap.size := ⟨_, rfl⟩; obtain ⟨w3, hw3⟩ : ∃ w3, w3 = w2.alloc (.cells zeroAlg 73) := ⟨_, rfl⟩; rw [← hw3, ← hbl]; have q3 : Below w2.heap.size w2 w3 := (by rw [hw3]; exact (Below.refl _ _).alloc (Nat.le_refl _) _); replace hz := (q3.block _ (lt_of_block hz)).trans hz; replace hB := hB.trans (q3.mono hB.size); clear hw3 hbl q3)
    | (refine wpList_store_row rfl 73 _ _ rfl (w.heap.size + 1) zeroAlg rfl rfl _ _ hz size_zeroAlg rfl one_zeroAlg ?_))
  exact bodyPost_ret (v := .tuple #[.agg zeroAlg, .bool false]) (results_alg_tmp rfl _ _ (w.heap.size + 1) rfl _ (algA_size _ _ _ _ _ _) (setRow_heap _ _ _ _ _ _ hz) rfl) rfl ⟨rfl, below_setRow' hB (by omega) _⟩

set_option maxRecDepth 100000 in
set_option maxHeartbeats 2000000 in
theorem readSet_set (a b : Option Addr) (ca cb : Nat) (L : List Int) (T : List (List Int)) (f : Int) (w : World) (hr : Rd w a L) (hT : RdT w b T) (ha : algB L T = true) (hs : setB L f = false) :
    Calls Try.prog 129 #[.agg #[.slice a L.length ca, .slice b T.length cb], .int .i64 f] w fun e w' => e = .returned (.tuple #[.agg zeroAlg, .bool false]) ∧ Below w.heap.size w w' := by
  have hB1 : Below w.heap.size w ((w.alloc (.cells #[.slice a L.length ca, .slice b T.length cb] 27)).alloc (.cells zeroAlg 73)) := ((Below.refl _ _).alloc (Nat.le_refl _) _).alloc (by simp) _
  have hr1 := hr.below hB1
  have hT1 := hT.below hB1
  have hz1 : ((w.alloc (.cells #[.slice a L.length ca, .slice b T.length cb] 27)).alloc (.cells zeroAlg 73)).heap[w.heap.size + 1]? = some (.cells zeroAlg 73 (0, 0)) := heap_alloc2_new _ _ _
  have hx1 : ((w.alloc (.cells #[.slice a L.length ca, .slice b T.length cb] 27)).alloc (.cells zeroAlg 73)).heap[w.heap.size]? = some (.cells #[.slice a L.length ca, .slice b T.length cb] 27 (0, 0)) := by rw [Below.heap_alloc _ _ _ (by simp)]; exact heap_alloc_new w _
  have n6' : (L.length : Int) ≤ 6 := (lat_len (alg_lat ha)).2
  have hw : soB (L.length : Int) f = false := hs
  have HW := Lib.hid hw
  clear hw
  have HA := Lib.hid ha
  clear ha
  clear hr hT
  go_enter Try.func129, Try.ntmps129
  go_wp2_with (first
    | go_skip
    | (refine wpList_load_row_w rfl 27 _ rfl w.heap.size rfl _ _ _ _ hx1 Try.underlying27 rfl (size_Alg _ _) ?_)
    | (go_at_call 62; refine (readAlgebra_yes a b ca cb L T _ hr1 hT1 HA.out).mono ?_; rintro e w2 ⟨rfl, h2⟩; have hz := (h2.block _ (lt_of_block hz1)).trans hz1; have hB := hB1.trans (h2.mono hB1.size); clear h2)
    | (refine wpList_store_row rfl 73 _ _ rfl w2.heap.size (algOf L T) rfl rfl _ _ (heap_alloc_new w2 (.cells zeroAlg 73)) (size_alg _ _ _ _ _ _) rfl (one_alg _ _ _ _ _ _) ?_; rw [World.setRow_alloc_new]; obtain ⟨bl, hbl⟩ : ∃ bl, bl = w2.heap.size := ⟨_, rfl⟩; obtain ⟨w3, hw3⟩ : ∃ w3, w3 = w2.alloc (.cells (algOf L T) 73) := ⟨_, rfl⟩; rw [← hw3, ← hbl]; have hA : AlgAt w3 bl L T := (by rw [hw3, hbl]; exact AlgAt.new w2 L T); have q3 : Below w2.heap.size w2 w3 := (by rw [hw3]; exact (Below.refl _ _).alloc (Nat.le_refl _) _); replace hz := (q3.block _ (lt_of_block hz)).trans hz; replace hB := hB.trans (q3.mono hB.size); clear hw3 hbl q3; have hsz := hA.size)
    | (go_at_call 178; refine (isSetOf_is (L.length : Int) f _ (by omega) n6' HW.out).mono ?_; rintro e w4 ⟨rfl, rfl⟩)
    | (refine wpList_store_row rfl 73 _ _ rfl (w.heap.size + 1) zeroAlg rfl rfl _ _ hz size_zeroAlg rfl one_zeroAlg ?_))
  exact bodyPost_ret (v := .tuple #[.agg zeroAlg, .bool false]) (results_alg_tmp rfl _ _ (w.heap.size + 1) rfl _ (algA_size _ _ _ _ _ _) (setRow_heap _ _ _ _ _ _ hz) rfl) rfl ⟨rfl, below_setRow' hB (by omega) _⟩

set_option maxRecDepth 100000 in
set_option maxHeartbeats 2000000 in
theorem readSet_yes (a b : Option Addr) (ca cb : Nat) (L : List Int) (T : List (List Int)) (f : Int) (w : World) (hr : Rd w a L) (hT : RdT w b T) (ha : algB L T = true) (hs : setB L f = true) :
    Calls Try.prog 129 #[.agg #[.slice a L.length ca, .slice b T.length cb], .int .i64 f] w fun e w' => e = .returned (.tuple #[.agg (algOf L T), .bool true]) ∧ Below w.heap.size w w' := by
  have hB1 : Below w.heap.size w ((w.alloc (.cells #[.slice a L.length ca, .slice b T.length cb] 27)).alloc (.cells zeroAlg 73)) := ((Below.refl _ _).alloc (Nat.le_refl _) _).alloc (by simp) _
  have hr1 := hr.below hB1
  have hT1 := hT.below hB1
  have hz1 : ((w.alloc (.cells #[.slice a L.length ca, .slice b T.length cb] 27)).alloc (.cells zeroAlg 73)).heap[w.heap.size + 1]? = some (.cells zeroAlg 73 (0, 0)) := heap_alloc2_new _ _ _
  have hx1 : ((w.alloc (.cells #[.slice a L.length ca, .slice b T.length cb] 27)).alloc (.cells zeroAlg 73)).heap[w.heap.size]? = some (.cells #[.slice a L.length ca, .slice b T.length cb] 27 (0, 0)) := by rw [Below.heap_alloc _ _ _ (by simp)]; exact heap_alloc_new w _
  have n6' : (L.length : Int) ≤ 6 := (lat_len (alg_lat ha)).2
  have hw : soB (L.length : Int) f = true := hs
  have HW := Lib.hid hw
  clear hw
  have HA := Lib.hid ha
  clear ha
  clear hr hT
  go_enter Try.func129, Try.ntmps129
  go_wp2_with (first
    | go_skip
    | (refine wpList_load_row_w rfl 27 _ rfl w.heap.size rfl _ _ _ _ hx1 Try.underlying27 rfl (size_Alg _ _) ?_)
    | (go_at_call 62; refine (readAlgebra_yes a b ca cb L T _ hr1 hT1 HA.out).mono ?_; rintro e w2 ⟨rfl, h2⟩; have hz := (h2.block _ (lt_of_block hz1)).trans hz1; have hB := hB1.trans (h2.mono hB1.size); clear h2)
    | (refine wpList_store_row rfl 73 _ _ rfl w2.heap.size (algOf L T) rfl rfl _ _ (heap_alloc_new w2 (.cells zeroAlg 73)) (size_alg _ _ _ _ _ _) rfl (one_alg _ _ _ _ _ _) ?_; rw [World.setRow_alloc_new]; obtain ⟨bl, hbl⟩ : ∃ bl, bl = w2.heap.size := ⟨_, rfl⟩; obtain ⟨w3, hw3⟩ : ∃ w3, w3 = w2.alloc (.cells (algOf L T) 73) := ⟨_, rfl⟩; rw [← hw3, ← hbl]; have hA : AlgAt w3 bl L T := (by rw [hw3, hbl]; exact AlgAt.new w2 L T); have q3 : Below w2.heap.size w2 w3 := (by rw [hw3]; exact (Below.refl _ _).alloc (Nat.le_refl _) _); replace hz := (q3.block _ (lt_of_block hz)).trans hz; replace hB := hB.trans (q3.mono hB.size); clear hw3 hbl q3; have hsz := hA.size)
    | (go_at_call 178; refine (isSetOf_is (L.length : Int) f _ (by omega) n6' HW.out).mono ?_; rintro e w4 ⟨rfl, rfl⟩)
    | (refine wpList_load_row_w rfl 73 _ rfl bl rfl _ _ _ _ hA Try.underlying73 rfl (size_alg _ _ _ _ _ _) ?_)
    | (refine wpList_store_row rfl 73 _ _ rfl (w.heap.size + 1) (algOf L T) rfl rfl _ _ hz (size_alg _ _ _ _ _ _) rfl (one_alg _ _ _ _ _ _) ?_))
  exact bodyPost_ret (v := .tuple #[.agg (algOf L T), .bool true]) (results_alg_tmp rfl _ _ (w.heap.size + 1) rfl _ (algA_size _ _ _ _ _ _) (setRow_heap _ _ _ _ _ _ hz) rfl) rfl ⟨rfl, below_setRow' hB (by omega) _⟩

theorem readSet_no (a b : Option Addr) (ca cb : Nat) (L : List Int) (T : List (List Int)) (f : Int) (w : World) (hr : Rd w a L) (hT : RdT w b T) (h : asB L T f = false) :
    Calls Try.prog 129 #[.agg #[.slice a L.length ca, .slice b T.length cb], .int .i64 f] w fun e w' => e = .returned (.tuple #[.agg zeroAlg, .bool false]) ∧ Below w.heap.size w w' := by
  cases ha : algB L T with
  | false => exact readSet_alg a b ca cb L T f w hr hT ha
  | true =>
    unfold asB at h
    rw [ha, Bool.true_and] at h
    exact readSet_set a b ca cb L T f w hr hT ha h
theorem readSet_good (a b : Option Addr) (ca cb : Nat) (L : List Int) (T : List (List Int)) (f : Int) (w : World) (hr : Rd w a L) (hT : RdT w b T) (h : asB L T f = true) :
    Calls Try.prog 129 #[.agg #[.slice a L.length ca, .slice b T.length cb], .int .i64 f] w fun e w' => e = .returned (.tuple #[.agg (algOf L T), .bool true]) ∧ Below w.heap.size w w' := by
  unfold asB at h; rw [Bool.and_eq_true] at h
  exact readSet_yes a b ca cb L T f w hr hT h.1 h.2
set_option maxRecDepth 100000 in
set_option maxHeartbeats 2000000 in
theorem readFil_set (a b : Option Addr) (ca cb : Nat) (L : List Int) (T : List (List Int)) (f : Int) (w : World) (hr : Rd w a L) (hT : RdT w b T) (hs : asB L T f = false) :
    Calls Try.prog 73 #[.agg #[.slice a L.length ca, .slice b T.length cb], .int .i64 f] w fun e w' => e = .returned (.tuple #[.agg zeroAlg, .bool false]) ∧ Below w.heap.size w w' := by
  have hB1 : Below w.heap.size w ((w.alloc (.cells #[.slice a L.length ca, .slice b T.length cb] 27)).alloc (.cells zeroAlg 73)) := ((Below.refl _ _).alloc (Nat.le_refl _) _).alloc (by simp) _
  have hr1 := hr.below hB1
  have hT1 := hT.below hB1
  have hz1 : ((w.alloc (.cells #[.slice a L.length ca, .slice b T.length cb] 27)).alloc (.cells zeroAlg 73)).heap[w.heap.size + 1]? = some (.cells zeroAlg 73 (0, 0)) := heap_alloc2_new _ _ _
  have hx1 : ((w.alloc (.cells #[.slice a L.length ca, .slice b T.length cb] 27)).alloc (.cells zeroAlg 73)).heap[w.heap.size]? = some (.cells #[.slice a L.length ca, .slice b T.length cb] 27 (0, 0)) := by rw [Below.heap_alloc _ _ _ (by simp)]; exact heap_alloc_new w _
  have HA := Lib.hid hs
  clear hs
  clear hr hT
  go_enter Try.func73, Try.ntmps73
  go_wp2_with (first
    | go_skip
    | (refine wpList_load_row_w rfl 27 _ rfl w.heap.size rfl _ _ _ _ hx1 Try.underlying27 rfl (size_Alg _ _) ?_)
    | (go_at_call 129; refine (readSet_no a b ca cb L T f _ hr1 hT1 HA.out).mono ?_; rintro e w2 ⟨rfl, h2⟩; have hz := (h2.block _ (lt_of_block hz1)).trans hz1; have hB := hB1.trans (h2.mono hB1.size); clear h2)
    | (refine wpList_store_row rfl 73 _ _ rfl w2.heap.size zeroAlg rfl rfl _ _ (heap_alloc_new w2 (.cells zeroAlg 73)) size_zeroAlg rfl one_zeroAlg ?_; rw [World.setRow_alloc_new]; obtain ⟨bl, hbl⟩ : ∃ bl, bl = w2.heap.size := ⟨_, rfl⟩; obtain ⟨w3, hw3⟩ : ∃ w3, w3 = w2.alloc (.cells zeroAlg 73) := ⟨_, rfl⟩; rw [← hw3, ← hbl]; have q3 : Below w2.heap.size w2 w3 := (by rw [hw3]; exact (Below.refl _ _).alloc (Nat.le_refl _) _); replace hz := (q3.block _ (lt_of_block hz)).trans hz; replace hB := hB.trans (q3.mono hB.size); clear hw3 hbl q3)
    | (refine wpList_store_row rfl 73 _ _ rfl (w.heap.size + 1) zeroAlg rfl rfl _ _ hz size_zeroAlg rfl one_zeroAlg ?_))
  exact bodyPost_ret (v := .tuple #[.agg zeroAlg, .bool false]) (results_alg_tmp rfl _ _ (w.heap.size + 1) rfl _ (algA_size _ _ _ _ _ _) (setRow_heap _ _ _ _ _ _ hz) rfl) rfl ⟨rfl, below_setRow' hB (by omega) _⟩

set_option maxRecDepth 100000 in
set_option maxHeartbeats 2000000 in
theorem readFil_fil (a b : Option Addr) (ca cb : Nat) (L : List Int) (T : List (List Int)) (f : Int) (w : World) (hr : Rd w a L) (hT : RdT w b T) (hs : asB L T f = true) (hw : filB L T f = false) :
    Calls Try.prog 73 #[.agg #[.slice a L.length ca, .slice b T.length cb], .int .i64 f] w fun e w' => e = .returned (.tuple #[.agg zeroAlg, .bool false]) ∧ Below w.heap.size w w' := by
  have hB1 : Below w.heap.size w ((w.alloc (.cells #[.slice a L.length ca, .slice b T.length cb] 27)).alloc (.cells zeroAlg 73)) := ((Below.refl _ _).alloc (Nat.le_refl _) _).alloc (by simp) _
  have hr1 := hr.below hB1
  have hT1 := hT.below hB1
  have hz1 : ((w.alloc (.cells #[.slice a L.length ca, .slice b T.length cb] 27)).alloc (.cells zeroAlg 73)).heap[w.heap.size + 1]? = some (.cells zeroAlg 73 (0, 0)) := heap_alloc2_new _ _ _
  have hx1 : ((w.alloc (.cells #[.slice a L.length ca, .slice b T.length cb] 27)).alloc (.cells zeroAlg 73)).heap[w.heap.size]? = some (.cells #[.slice a L.length ca, .slice b T.length cb] 27 (0, 0)) := by rw [Below.heap_alloc _ _ _ (by simp)]; exact heap_alloc_new w _
  have hs2 := hs
  unfold asB at hs2
  rw [Bool.and_eq_true] at hs2
  have ha := hs2.1
  have n6 := (lat_len (alg_lat ha)).2
  obtain ⟨f0, f6⟩ := setB_63 hs2.2 n6
  clear hs2
  have HW := Lib.hid hw
  clear hw
  have HA := Lib.hid hs
  clear hs
  have HALG := Lib.hid ha
  clear ha
  clear hr hT
  go_enter Try.func73, Try.ntmps73
  go_wp2_with (first
    | go_skip
    | (refine wpList_load_row_w rfl 27 _ rfl w.heap.size rfl _ _ _ _ hx1 Try.underlying27 rfl (size_Alg _ _) ?_)
    | (go_at_call 129; refine (readSet_good a b ca cb L T f _ hr1 hT1 HA.out).mono ?_; rintro e w2 ⟨rfl, h2⟩; have hz := (h2.block _ (lt_of_block hz1)).trans hz1; have hB := hB1.trans (h2.mono hB1.size); clear h2)
    | (refine wpList_store_row rfl 73 _ _ rfl w2.heap.size (algOf L T) rfl rfl _ _ (heap_alloc_new w2 (.cells zeroAlg 73)) (size_alg _ _ _ _ _ _) rfl (one_alg _ _ _ _ _ _) ?_; rw [World.setRow_alloc_new]; obtain ⟨bl, hbl⟩ : ∃ bl, bl = w2.heap.size := ⟨_, rfl⟩; obtain ⟨w3, hw3⟩ : ∃ w3, w3 = w2.alloc (.cells (algOf L T) 73) := ⟨_, rfl⟩; rw [← hw3, ← hbl]; have hA : AlgAt w3 bl L T := (by rw [hw3, hbl]; exact AlgAt.new w2 L T); have q3 : Below w2.heap.size w2 w3 := (by rw [hw3]; exact (Below.refl _ _).alloc (Nat.le_refl _) _); replace hz := (q3.block _ (lt_of_block hz)).trans hz; replace hB := hB.trans (q3.mono hB.size); clear hw3 hbl q3; have hsz := hA.size)
    | (refine wpList_load_row_w rfl 73 _ rfl bl rfl _ _ _ _ hA Try.underlying73 rfl (size_alg _ _ _ _ _ _) ?_)
    | (go_at_call 130; refine (isFilterM_is L T f _ HALG.out f0 f6 HW.out).mono ?_; rintro e w4 ⟨rfl, h4⟩; replace hA := hA.below h4 hA.lt; replace hz := (h4.block _ (lt_of_block hz)).trans hz; replace hB := hB.trans (h4.mono hB.size); clear h4)
    | (refine wpList_store_row rfl 73 _ _ rfl (w.heap.size + 1) zeroAlg rfl rfl _ _ hz size_zeroAlg rfl one_zeroAlg ?_))
  exact bodyPost_ret (v := .tuple #[.agg zeroAlg, .bool false]) (results_alg_tmp rfl _ _ (w.heap.size + 1) rfl _ (algA_size _ _ _ _ _ _) (setRow_heap _ _ _ _ _ _ hz) rfl) rfl ⟨rfl, below_setRow' hB (by omega) _⟩

set_option maxRecDepth 100000 in
set_option maxHeartbeats 2000000 in
theorem readFil_yes (a b : Option Addr) (ca cb : Nat) (L : List Int) (T : List (List Int)) (f : Int) (w : World) (hr : Rd w a L) (hT : RdT w b T) (hs : asB L T f = true) (hw : filB L T f = true) :
    Calls Try.prog 73 #[.agg #[.slice a L.length ca, .slice b T.length cb], .int .i64 f] w fun e w' => e = .returned (.tuple #[.agg (algOf L T), .bool true]) ∧ Below w.heap.size w w' := by
  have hB1 : Below w.heap.size w ((w.alloc (.cells #[.slice a L.length ca, .slice b T.length cb] 27)).alloc (.cells zeroAlg 73)) := ((Below.refl _ _).alloc (Nat.le_refl _) _).alloc (by simp) _
  have hr1 := hr.below hB1
  have hT1 := hT.below hB1
  have hz1 : ((w.alloc (.cells #[.slice a L.length ca, .slice b T.length cb] 27)).alloc (.cells zeroAlg 73)).heap[w.heap.size + 1]? = some (.cells zeroAlg 73 (0, 0)) := heap_alloc2_new _ _ _
  have hx1 : ((w.alloc (.cells #[.slice a L.length ca, .slice b T.length cb] 27)).alloc (.cells zeroAlg 73)).heap[w.heap.size]? = some (.cells #[.slice a L.length ca, .slice b T.length cb] 27 (0, 0)) := by rw [Below.heap_alloc _ _ _ (by simp)]; exact heap_alloc_new w _
  have hs2 := hs
  unfold asB at hs2
  rw [Bool.and_eq_true] at hs2
  have ha := hs2.1
  have n6 := (lat_len (alg_lat ha)).2
  obtain ⟨f0, f6⟩ := setB_63 hs2.2 n6
  clear hs2
  have HW := Lib.hid hw
  clear hw
  have HA := Lib.hid hs
  clear hs
  have HALG := Lib.hid ha
  clear ha
  clear hr hT
  go_enter Try.func73, Try.ntmps73
  go_wp2_with (first
    | go_skip
    | (refine wpList_load_row_w rfl 27 _ rfl w.heap.size rfl _ _ _ _ hx1 Try.underlying27 rfl (size_Alg _ _) ?_)
    | (go_at_call 129; refine (readSet_good a b ca cb L T f _ hr1 hT1 HA.out).mono ?_; rintro e w2 ⟨rfl, h2⟩; have hz := (h2.block _ (lt_of_block hz1)).trans hz1; have hB := hB1.trans (h2.mono hB1.size); clear h2)
    | (refine wpList_store_row rfl 73 _ _ rfl w2.heap.size (algOf L T) rfl rfl _ _ (heap_alloc_new w2 (.cells zeroAlg 73)) (size_alg _ _ _ _ _ _) rfl (one_alg _ _ _ _ _ _) ?_; rw [World.setRow_alloc_new]; obtain ⟨bl, hbl⟩ : ∃ bl, bl = w2.heap.size := ⟨_, rfl⟩; obtain ⟨w3, hw3⟩ : ∃ w3, w3 = w2.alloc (.cells (algOf L T) 73) := ⟨_, rfl⟩; rw [← hw3, ← hbl]; have hA : AlgAt w3 bl L T := (by rw [hw3, hbl]; exact AlgAt.new w2 L T); have q3 : Below w2.heap.size w2 w3 := (by rw [hw3]; exact (Below.refl _ _).alloc (Nat.le_refl _) _); replace hz := (q3.block _ (lt_of_block hz)).trans hz; replace hB := hB.trans (q3.mono hB.size); clear hw3 hbl q3; have hsz := hA.size)
    | (refine wpList_load_row_w rfl 73 _ rfl bl rfl _ _ _ _ hA Try.underlying73 rfl (size_alg _ _ _ _ _ _) ?_)
    | (go_at_call 130; refine (isFilterM_is L T f _ HALG.out f0 f6 HW.out).mono ?_; rintro e w4 ⟨rfl, h4⟩; replace hA := hA.below h4 hA.lt; replace hz := (h4.block _ (lt_of_block hz)).trans hz; replace hB := hB.trans (h4.mono hB.size); clear h4)
    | (refine wpList_store_row rfl 73 _ _ rfl (w.heap.size + 1) (algOf L T) rfl rfl _ _ hz (size_alg _ _ _ _ _ _) rfl (one_alg _ _ _ _ _ _) ?_))
  exact bodyPost_ret (v := .tuple #[.agg (algOf L T), .bool true]) (results_alg_tmp rfl _ _ (w.heap.size + 1) rfl _ (algA_size _ _ _ _ _ _) (setRow_heap _ _ _ _ _ _ hz) rfl) rfl ⟨rfl, below_setRow' hB (by omega) _⟩

theorem afB_as {L : List Int} {T : List (List Int)} {f : Int} : afB L T f = (asB L T f && filB L T f) := by
  unfold afB asB isFilB; rw [Bool.and_assoc]
theorem readFil_no (a b : Option Addr) (ca cb : Nat) (L : List Int) (T : List (List Int)) (f : Int) (w : World) (hr : Rd w a L) (hT : RdT w b T) (h : afB L T f = false) :
    Calls Try.prog 73 #[.agg #[.slice a L.length ca, .slice b T.length cb], .int .i64 f] w fun e w' => e = .returned (.tuple #[.agg zeroAlg, .bool false]) ∧ Below w.heap.size w w' := by
  rw [afB_as] at h
  cases ha : asB L T f with
  | false => exact readFil_set a b ca cb L T f w hr hT ha
  | true =>
    rw [ha, Bool.true_and] at h
    exact readFil_fil a b ca cb L T f w hr hT ha h
theorem readFil_good (a b : Option Addr) (ca cb : Nat) (L : List Int) (T : List (List Int)) (f : Int) (w : World) (hr : Rd w a L) (hT : RdT w b T) (h : afB L T f = true) :
    Calls Try.prog 73 #[.agg #[.slice a L.length ca, .slice b T.length cb], .int .i64 f] w fun e w' => e = .returned (.tuple #[.agg (algOf L T), .bool true]) ∧ Below w.heap.size w w' := by
  rw [afB_as, Bool.and_eq_true] at h
  exact readFil_yes a b ca cb L T f w hr hT h.1 h.2
end Go.Proofs.Ytmlbdlobdnhimab

namespace Go.Proofs.Ytmlbdlobdnhimab
open Go.RowKit

/-- the list, of an algebra alone -/
def algV (L : List Int) (T : List (List Int)) (V : List Int) : List Int := if algB L T then V else []
theorem algV_t {L : List Int} {T : List (List Int)} {V : List Int} (h : algB L T = true) : algV L T V = V := if_pos h
theorem algV_f {L : List Int} {T : List (List Int)} {V : List Int} (h : algB L T = false) : algV L T V = [] := if_neg (by rw [h]; decide)
theorem algV_len {L : List Int} {T : List (List Int)} {V : List Int} {n : Nat} (h : algB L T = true → V.length ≤ n) : (algV L T V).length ≤ n := by
  cases hA : algB L T with
  | false => rw [algV_f hA]; simp
  | true => rw [algV_t hA]; exact h hA
end Go.Proofs.Ytmlbdlobdnhimab
