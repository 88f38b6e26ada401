import Derived.Test.YtbellklaoecpbaaG4
import Derived.Test.YtbellklaoecpbaaM5
namespace Go.Proofs.Ytbellklaoecpbaa
open Go.RowKit

set_option maxRecDepth 100000 in
set_option maxHeartbeats 2000000 in
/-- spec.near -/
theorem near_any (a b : Option Addr) (ca cb : Nat) (L : List Int) (T : List (List Int)) (x y : Int) (w : World) (hr : Rd w a L) (hT : RdT w b T) (h : algB L T = true) (x0 : 0 ≤ x) (x1 : x < num L) (y0 : 0 ≤ y) (y1 : y < num L) :
    Calls Try.prog 76 #[.agg #[.slice a L.length ca, .slice b T.length cb], .int .i64 x, .int .i64 y] w fun e w' => e = .returned (.int .i64 (nearI L T x y)) ∧ Below w.heap.size w w' := by
  obtain ⟨hlat, hsh, _⟩ := algB_parts h
  obtain ⟨n1, n6, hs⟩ := latB_parts hlat
  have hn : num L = L.length := rfl
  have hlt := shape_len hsh
  obtain ⟨w1, hw1⟩ : ∃ w1, w1 = w.alloc (.cells #[.slice a L.length ca, .slice b T.length cb] 26) := ⟨_, rfl⟩
  have hB : Below w.heap.size w w1 := by rw [hw1]; exact (Below.refl _ _).alloc (Nat.le_refl _) _
  have hx : w1.heap[w.heap.size]? = some (.cells #[.slice a L.length ca, .slice b T.length cb] 26 (0, 0)) := by rw [hw1]; exact heap_alloc_new w _
  obtain ⟨c0, c1⟩ := bx_cells hx
  have Kx := Lib.hid (show ∀ wz, Below w1.heap.size w1 wz → wz.heap[w.heap.size]? = some (.cells #[.slice a L.length ca, .slice b T.length cb] 26 (0, 0)) from fun wz h => (h.block _ (lt_of_block hx)).trans hx)
  have KR := Lib.hid (show ∀ wz, Below w1.heap.size w1 wz → Rd wz a L from fun wz h => (hr.below hB).below h)
  have KT := Lib.hid (show ∀ wz, Below w1.heap.size w1 wz → RdT wz b T from fun wz h => (hT.below hB).below h)
  have z1 : Below w1.heap.size w1 w1 := Below.refl _ _
  clear hr hT hx
  obtain ⟨B, off, rfl, rb, ro, rc, htab⟩ := tab_of (KT.out _ z1) hsh n1
  obtain ⟨i0, i1⟩ := imp_lt T x y hlat
  obtain ⟨j0, j1⟩ := imp_lt T y x hlat
  have i2 : imp L T x y < T.length := by omega
  have j2 : imp L T y x < L.length := by omega
  have q0 := Lib.hid (show ∀ wz, Below w1.heap.size w1 wz → wz.cell? ⟨w.heap.size, 1, none⟩ = some (.slice (some ⟨B, off, none⟩) T.length cb) from fun wz hz => by rw [hz.cell (by exact block_lt_of_cell c1)]; exact c1)
  have q1 := Lib.hid (show ∀ wz, Below w1.heap.size w1 wz → wz.cell? ⟨B, off + (imp L T x y).toNat, none⟩ = some (.slice (some ⟨rb (imp L T x y), ro (imp L T x y), none⟩) L.length (rc (imp L T x y))) from fun wz hz => (htab.below hz).row i0 i1)
  have q2 := Lib.hid (show ∀ wz, Below w1.heap.size w1 wz → wz.cell? ⟨rb (imp L T x y), ro (imp L T x y) + (imp L T y x).toNat, none⟩ = some (.int .i64 (tv T (imp L T x y) (imp L T y x))) from fun wz hz => (htab.below hz).cell i0 i1 j0 j1)
  have hv := Lib.hid (show nearI L T x y = tv T (imp L T x y) (imp L T y x) from rfl)
  have HA := Lib.hid h
  clear htab hsh hlat hn hlt h c0 c1
  go_enter Try.func76, Try.ntmps76
  go_wp2_with (rw [← hw1]; clear hw1)
  refine region_in (Below w1.heap.size w1) (by kernel_rfl) (by kernel_rfl) (Dr.below ⟨1, rfl⟩ _) fun hne => ?_
  have r0 : ∀ s : In (Below w1.heap.size w1), s.w.cell? ⟨w.heap.size, 1, none⟩ = some (.slice (some ⟨B, off, none⟩) T.length cb) := fun s => q0.out _ s.h
  have r1 : ∀ s : In (Below w1.heap.size w1), s.w.cell? ⟨B, off + (imp L T x y).toNat, none⟩ = some (.slice (some ⟨rb (imp L T x y), ro (imp L T x y), none⟩) L.length (rc (imp L T x y))) := fun s => q1.out _ s.h
  have r2 : ∀ s : In (Below w1.heap.size w1), s.w.cell? ⟨rb (imp L T x y), ro (imp L T x y) + (imp L T y x).toNat, none⟩ = some (.int .i64 (tv T (imp L T x y) (imp L T y x))) := fun s => q2.out _ s.h
  repeat (first
    | (go_big_quiet_want; refine quiet_load_row 26 _ rfl w.heap.size rfl _ _ _ _ (fun w' ⟨s, hs⟩ => by rw [hs]; exact Kx.out _ s.h) Try.underlying26 rfl (size_Alg _ _) ?_; simp only [Act.put, List.setIfInBounds_toArray, List.set_cons_succ, List.set_cons_zero]; go_big_quiet_on)
    | go_big_quiet_step ((first | (go_at_call 73; exact in_below _ (Nat.le_refl _) (imply_any _ _ _ _ L T _ _ _ (KR.out _ (In.h _)) (KT.out _ (In.h _)) HA.out x0 x1 y0 y1)) | (go_at_call 73; exact in_below _ (Nat.le_refl _) (imply_any _ _ _ _ L T _ _ _ (KR.out _ (In.h _)) (KT.out _ (In.h _)) HA.out y0 y1 x0 x1)))))
  refine wpQuiet_nil ?_
  intro s
  have hw2 := s.h
  obtain ⟨w7, hw2'⟩ : ∃ w7, w7 = s.w := ⟨_, rfl⟩
  rw [← hw2'] at hw2 ⊢
  clear hw2'
  go_wp2
  go_ret
  exact ⟨ret_int (by rw [hv.out]), hB.trans (hw2.mono hB.size)⟩

def implyI (L : List Int) (T : List (List Int)) (x y : Int) : Int := if algIn L T x y then imp L T x y else -1
set_option maxRecDepth 100000 in
set_option maxHeartbeats 1000000 in
/-- spec.ImplyOf -/
theorem specImplyOf_any (a b : Option Addr) (ca cb : Nat) (L : List Int) (T : List (List Int)) (x y : Int) (w : World) (hr : Rd w a L) (hT : RdT w b T) (hm : (L.length : Int) ≤ 9223372036854775807) :
    Calls Try.prog 23 #[.agg #[.slice a L.length ca, .slice b T.length cb], .int .i64 x, .int .i64 y] w fun e w' => e = .returned (.int .i64 (implyI L T x y)) ∧ Below w.heap.size w w' := by
  obtain ⟨w1, hw1⟩ : ∃ w1, w1 = w.alloc (.cells #[.slice a L.length ca, .slice b T.length cb] 26) := ⟨_, rfl⟩
  have hB : Below w.heap.size w w1 := by rw [hw1]; exact (Below.refl _ _).alloc (Nat.le_refl _) _
  have hx : w1.heap[w.heap.size]? = some (.cells #[.slice a L.length ca, .slice b T.length cb] 26 (0, 0)) := by rw [hw1]; exact heap_alloc_new w _
  obtain ⟨c0, c1⟩ := bx_cells hx
  have Kx := Lib.hid (show ∀ wz, Below w1.heap.size w1 wz → wz.heap[w.heap.size]? = some (.cells #[.slice a L.length ca, .slice b T.length cb] 26 (0, 0)) from fun wz h => (h.block _ (lt_of_block hx)).trans hx)
  have KR := Lib.hid (show ∀ wz, Below w1.heap.size w1 wz → Rd wz a L from fun wz h => (hr.below hB).below h)
  have KT := Lib.hid (show ∀ wz, Below w1.heap.size w1 wz → RdT wz b T from fun wz h => (hT.below hB).below h)
  have z1 : Below w1.heap.size w1 w1 := Below.refl _ _
  clear hr hT hx
  cases hA : algIn L T x y with
  | false =>
    have hv := Lib.hid (show implyI L T x y = -1 by unfold implyI; rw [hA]; rfl)
    have HA := Lib.hid hA; clear hA
    go_enter Try.func23, Try.ntmps23
    go_wp2_with (first
    | go_skip
    | (rw [← hw1]; clear hw1)
    | (refine wpList_load_row_w rfl 26 _ rfl w.heap.size rfl _ _ _ _ (Kx.out _ (by assumption)) Try.underlying26 rfl (size_Alg _ _) ?_)
    | (go_at_call 72; refine (ret_below (specHas_any _ _ _ _ L T _ _ _ (KR.out _ z1) (KT.out _ z1) hm) HA.out).mono ?_; rintro e w2 ⟨rfl, h2⟩; have z2 : Below w1.heap.size w1 w2 := h2))
    go_ret
    exact ⟨ret_int (by rw [hv.out]), hB.trans (z2.mono hB.size)⟩
  | true =>
    obtain ⟨ha, x0, x1, y0, y1⟩ := algIn_parts hA
    have hv := Lib.hid (show implyI L T x y = imp L T x y by unfold implyI; rw [hA]; rfl)
    have HA := Lib.hid hA; clear hA
    go_enter Try.func23, Try.ntmps23
    go_wp2_with (first
    | go_skip
    | (rw [← hw1]; clear hw1)
    | (refine wpList_load_row_w rfl 26 _ rfl w.heap.size rfl _ _ _ _ (Kx.out _ (by assumption)) Try.underlying26 rfl (size_Alg _ _) ?_)
    | (go_at_call 72; refine (ret_below (specHas_any _ _ _ _ L T _ _ _ (KR.out _ z1) (KT.out _ z1) hm) HA.out).mono ?_; rintro e w2 ⟨rfl, h2⟩; have z2 : Below w1.heap.size w1 w2 := h2; clear z1)
    | (go_at_call 73; refine (imply_any _ _ _ _ L T _ _ _ (KR.out _ z2) (KT.out _ z2) ha x0 x1 y0 y1).mono ?_; rintro e w3 ⟨rfl, h3⟩; have z3 : Below w1.heap.size w1 w3 := z2.trans (h3.mono z2.size)))
    go_ret
    exact ⟨ret_int (by rw [hv.out]), hB.trans (z3.mono hB.size)⟩

def notI (L : List Int) (T : List (List Int)) (x : Int) : Int := if algIn L T x x then imp L T x 0 else -1
set_option maxRecDepth 100000 in
set_option maxHeartbeats 1000000 in
/-- spec.NotOf -/
theorem specNotOf_any (a b : Option Addr) (ca cb : Nat) (L : List Int) (T : List (List Int)) (x : Int) (w : World) (hr : Rd w a L) (hT : RdT w b T) (hm : (L.length : Int) ≤ 9223372036854775807) :
    Calls Try.prog 26 #[.agg #[.slice a L.length ca, .slice b T.length cb], .int .i64 x] w fun e w' => e = .returned (.int .i64 (notI L T x)) ∧ Below w.heap.size w w' := by
  obtain ⟨w1, hw1⟩ : ∃ w1, w1 = w.alloc (.cells #[.slice a L.length ca, .slice b T.length cb] 26) := ⟨_, rfl⟩
  have hB : Below w.heap.size w w1 := by rw [hw1]; exact (Below.refl _ _).alloc (Nat.le_refl _) _
  have hx : w1.heap[w.heap.size]? = some (.cells #[.slice a L.length ca, .slice b T.length cb] 26 (0, 0)) := by rw [hw1]; exact heap_alloc_new w _
  obtain ⟨c0, c1⟩ := bx_cells hx
  have Kx := Lib.hid (show ∀ wz, Below w1.heap.size w1 wz → wz.heap[w.heap.size]? = some (.cells #[.slice a L.length ca, .slice b T.length cb] 26 (0, 0)) from fun wz h => (h.block _ (lt_of_block hx)).trans hx)
  have KR := Lib.hid (show ∀ wz, Below w1.heap.size w1 wz → Rd wz a L from fun wz h => (hr.below hB).below h)
  have KT := Lib.hid (show ∀ wz, Below w1.heap.size w1 wz → RdT wz b T from fun wz h => (hT.below hB).below h)
  have z1 : Below w1.heap.size w1 w1 := Below.refl _ _
  clear hr hT hx
  cases hA : algIn L T x x with
  | false =>
    have hv := Lib.hid (show notI L T x = -1 by unfold notI; rw [hA]; rfl)
    have HA := Lib.hid hA; clear hA
    go_enter Try.func26, Try.ntmps26
    go_wp2_with (first
    | go_skip
    | (rw [← hw1]; clear hw1)
    | (refine wpList_load_row_w rfl 26 _ rfl w.heap.size rfl _ _ _ _ (Kx.out _ (by assumption)) Try.underlying26 rfl (size_Alg _ _) ?_)
    | (go_at_call 72; refine (ret_below (specHas_any _ _ _ _ L T _ _ _ (KR.out _ z1) (KT.out _ z1) hm) HA.out).mono ?_; rintro e w2 ⟨rfl, h2⟩; have z2 : Below w1.heap.size w1 w2 := h2))
    go_ret
    exact ⟨ret_int (by rw [hv.out]), hB.trans (z2.mono hB.size)⟩
  | true =>
    obtain ⟨ha, x0, x1, y0, y1⟩ := algIn_parts hA
    have hv := Lib.hid (show notI L T x = imp L T x 0 by unfold notI; rw [hA]; rfl)
    have HA := Lib.hid hA; clear hA
    go_enter Try.func26, Try.ntmps26
    go_wp2_with (first
    | go_skip
    | (rw [← hw1]; clear hw1)
    | (refine wpList_load_row_w rfl 26 _ rfl w.heap.size rfl _ _ _ _ (Kx.out _ (by assumption)) Try.underlying26 rfl (size_Alg _ _) ?_)
    | (go_at_call 72; refine (ret_below (specHas_any _ _ _ _ L T _ _ _ (KR.out _ z1) (KT.out _ z1) hm) HA.out).mono ?_; rintro e w2 ⟨rfl, h2⟩; have z2 : Below w1.heap.size w1 w2 := h2; clear z1)
    | (go_at_call 73; refine (imply_any _ _ _ _ L T _ _ _ (KR.out _ z2) (KT.out _ z2) ha x0 x1 (by omega) (by omega)).mono ?_; rintro e w3 ⟨rfl, h3⟩; have z3 : Below w1.heap.size w1 w3 := z2.trans (h3.mono z2.size)))
    go_ret
    exact ⟨ret_int (by rw [hv.out]), hB.trans (z3.mono hB.size)⟩

def nearO (L : List Int) (T : List (List Int)) (x y : Int) : Int := if algIn L T x y then nearI L T x y else -1
set_option maxRecDepth 100000 in
set_option maxHeartbeats 1000000 in
/-- spec.NearOf -/
theorem specNearOf_any (a b : Option Addr) (ca cb : Nat) (L : List Int) (T : List (List Int)) (x y : Int) (w : World) (hr : Rd w a L) (hT : RdT w b T) (hm : (L.length : Int) ≤ 9223372036854775807) :
    Calls Try.prog 29 #[.agg #[.slice a L.length ca, .slice b T.length cb], .int .i64 x, .int .i64 y] w fun e w' => e = .returned (.int .i64 (nearO L T x y)) ∧ Below w.heap.size w w' := by
  obtain ⟨w1, hw1⟩ : ∃ w1, w1 = w.alloc (.cells #[.slice a L.length ca, .slice b T.length cb] 26) := ⟨_, rfl⟩
  have hB : Below w.heap.size w w1 := by rw [hw1]; exact (Below.refl _ _).alloc (Nat.le_refl _) _
  have hx : w1.heap[w.heap.size]? = some (.cells #[.slice a L.length ca, .slice b T.length cb] 26 (0, 0)) := by rw [hw1]; exact heap_alloc_new w _
  obtain ⟨c0, c1⟩ := bx_cells hx
  have Kx := Lib.hid (show ∀ wz, Below w1.heap.size w1 wz → wz.heap[w.heap.size]? = some (.cells #[.slice a L.length ca, .slice b T.length cb] 26 (0, 0)) from fun wz h => (h.block _ (lt_of_block hx)).trans hx)
  have KR := Lib.hid (show ∀ wz, Below w1.heap.size w1 wz → Rd wz a L from fun wz h => (hr.below hB).below h)
  have KT := Lib.hid (show ∀ wz, Below w1.heap.size w1 wz → RdT wz b T from fun wz h => (hT.below hB).below h)
  have z1 : Below w1.heap.size w1 w1 := Below.refl _ _
  clear hr hT hx
  cases hA : algIn L T x y with
  | false =>
    have hv := Lib.hid (show nearO L T x y = -1 by unfold nearO; rw [hA]; rfl)
    have HA := Lib.hid hA; clear hA
    go_enter Try.func29, Try.ntmps29
    go_wp2_with (first
    | go_skip
    | (rw [← hw1]; clear hw1)
    | (refine wpList_load_row_w rfl 26 _ rfl w.heap.size rfl _ _ _ _ (Kx.out _ (by assumption)) Try.underlying26 rfl (size_Alg _ _) ?_)
    | (go_at_call 72; refine (ret_below (specHas_any _ _ _ _ L T _ _ _ (KR.out _ z1) (KT.out _ z1) hm) HA.out).mono ?_; rintro e w2 ⟨rfl, h2⟩; have z2 : Below w1.heap.size w1 w2 := h2))
    go_ret
    exact ⟨ret_int (by rw [hv.out]), hB.trans (z2.mono hB.size)⟩
  | true =>
    obtain ⟨ha, x0, x1, y0, y1⟩ := algIn_parts hA
    have hv := Lib.hid (show nearO L T x y = nearI L T x y by unfold nearO; rw [hA]; rfl)
    have HA := Lib.hid hA; clear hA
    go_enter Try.func29, Try.ntmps29
    go_wp2_with (first
    | go_skip
    | (rw [← hw1]; clear hw1)
    | (refine wpList_load_row_w rfl 26 _ rfl w.heap.size rfl _ _ _ _ (Kx.out _ (by assumption)) Try.underlying26 rfl (size_Alg _ _) ?_)
    | (go_at_call 72; refine (ret_below (specHas_any _ _ _ _ L T _ _ _ (KR.out _ z1) (KT.out _ z1) hm) HA.out).mono ?_; rintro e w2 ⟨rfl, h2⟩; have z2 : Below w1.heap.size w1 w2 := h2; clear z1)
    | (go_at_call 76; refine (near_any _ _ _ _ L T _ _ _ (KR.out _ z2) (KT.out _ z2) ha x0 x1 y0 y1).mono ?_; rintro e w3 ⟨rfl, h3⟩; have z3 : Below w1.heap.size w1 w3 := z2.trans (h3.mono z2.size)))
    go_ret
    exact ⟨ret_int (by rw [hv.out]), hB.trans (z3.mono hB.size)⟩

end Go.Proofs.Ytbellklaoecpbaa
