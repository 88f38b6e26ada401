import Derived.Test.YtljnbhnnjfnjeaaG3
import Derived.Test.YtljnbhnnjfnjeaaD3
import Derived.Test.YtljnbhnnjfnjeaaA5
import Derived.Test.YtljnbhnnjfnjeaaM5
namespace Go.Proofs.Ytljnbhnnjfnjeaa
open Go.RowKit

theorem validAlgebra_any (a b : Option Addr) (ca cb : Nat) (L : List Int) (T : List (List Int)) (w : World) (hr : Rd w a L) (hT : RdT w b T) :
    Calls Try.prog 27 #[.agg #[.slice a L.length ca, .slice b T.length cb]] w fun e w' => e = .returned (.bool (algB L T)) ∧ Below w.heap.size w w' := by
  by_cases h : latB L = true ∧ T.length = L.length
  · have := validAlgebra_rows a b ca cb L T w hr hT h.1 h.2
    rwa [h.2]
  · have hf : algB L T = false := by
      cases hl : latB L with
      | false => exact algB_f0 hl
      | true => exact algB_f1 (shape_f_len (by intro e; refine h ⟨hl, ?_⟩; have : num L = L.length := rfl; omega))
    rw [hf]
    refine validAlgebra_len a b ca cb L T w hr ?_
    cases hl : latB L with
    | false => exact .inl rfl
    | true => exact .inr (fun e => h ⟨hl, by omega⟩)
/-- x and y are elements of the algebra -/
def algIn (L : List Int) (T : List (List Int)) (x y : Int) : Bool := algB L T && (decide (0 ≤ x) && decide (x ≤ L.length - 1)) && (decide (0 ≤ y) && decide (y ≤ L.length - 1))
theorem algIn_parts {L : List Int} {T : List (List Int)} {x y : Int} (h : algIn L T x y = true) : algB L T = true ∧ 0 ≤ x ∧ x < num L ∧ 0 ≤ y ∧ y < num L := by
  unfold algIn at h
  simp only [Bool.and_eq_true, decide_eq_true_eq] at h
  have : num L = L.length := rfl
  exact ⟨h.1.1, h.1.2.1, by omega, h.2.1, by omega⟩
set_option maxRecDepth 100000 in
set_option maxHeartbeats 2000000 in
/-- spec.imply -/
theorem imply_any (a b : Option Addr) (ca cb : Nat) (L : List Int) (T : List (List Int)) (x y : Int) (w : World) (hr : Rd w a L) (hT : RdT w b T) (h : algB L T = true) (x0 : 0 ≤ x) (x1 : x < num L) (y0 : 0 ≤ y) (y1 : y < num L) :
    Calls Try.prog 62 #[.agg #[.slice a L.length ca, .slice b T.length cb], .int .i64 x, .int .i64 y] w fun e w' => e = .returned (.int .i64 (imp L T x y)) ∧ Below w.heap.size w w' := by
  obtain ⟨hlat, hsh, _⟩ := algB_parts h
  obtain ⟨n1, n6, hs⟩ := latB_parts hlat
  have hn : num L = L.length := rfl
  have hlt := shape_len hsh
  obtain ⟨w1, hw1⟩ : ∃ w1, w1 = w.alloc (.cells #[.slice a L.length ca, .slice b T.length cb] 26) := ⟨_, rfl⟩
  have hB : Below w.heap.size w w1 := by rw [hw1]; exact (Below.refl _ _).alloc (Nat.le_refl _) _
  have hx : w1.heap[w.heap.size]? = some (.cells #[.slice a L.length ca, .slice b T.length cb] 26 (0, 0)) := by rw [hw1]; exact heap_alloc_new w _
  obtain ⟨c0, c1⟩ := bx_cells hx
  have Kx := Lib.hid (show ∀ wz, Below w1.heap.size w1 wz → wz.heap[w.heap.size]? = some (.cells #[.slice a L.length ca, .slice b T.length cb] 26 (0, 0)) from fun wz h => (h.block _ (lt_of_block hx)).trans hx)
  have KR := Lib.hid (show ∀ wz, Below w1.heap.size w1 wz → Rd wz a L from fun wz h => (hr.below hB).below h)
  have KT := Lib.hid (show ∀ wz, Below w1.heap.size w1 wz → RdT wz b T from fun wz h => (hT.below hB).below h)
  have z1 : Below w1.heap.size w1 w1 := Below.refl _ _
  clear hr hT hx
  obtain ⟨ab, ao, rfl, hcl⟩ := (KR.out _ z1).pos n1
  obtain ⟨B, off, rfl, rb, ro, rc, htab⟩ := tab_of (KT.out _ z1) hsh n1
  have HCL := Lib.hid hcl
  have HTAB := Lib.hid htab
  have HS := Lib.hid hsh
  have HL := Lib.hid hlat
  have HN := Lib.hid hn
  have hxt : x < T.length := by omega
  have hn1 : num L ≤ L.length := by omega
  have hn2 : (L.length : Int) ≤ num L := by omega
  have y30 : y ≤ 30 := by omega
  clear hcl htab hsh hlat hn KR KT Kx hlt h
  go_enter Try.func62, Try.ntmps62
  go_wp2_with (rw [← hw1]; clear hw1)
  go_loopw [7, 8] (fun o c wr => ∃ z : Int, 0 ≤ z ∧ z ≤ num L ∧ c = .int .i64 z ∧ o = .int .i64 (impTo L T x y z) ∧ Dr w1 wr) (fun _ c _ => (6 - intOf c).toNat)
  case atStart => exact ⟨0, by omega, by omega, rfl, rfl, Dr.refl _⟩
  case round =>
    obtain ⟨z, z0, zn, rfl, rfl, hd⟩ := hrel
    have e0 := hd.cell c0
    have e1 := hd.cell c1
    have hcl := hd.cells HCL.out
    by_cases hz : z < num L
    · have hzl : z < L.length := by omega
      obtain ⟨t0, t1⟩ := shape_cell HS.out x0 x1 z0 hz
      obtain ⟨i0, i1⟩ := impTo_lt T x y HL.out z0 (by omega : z ≤ num L)
      have dx := hd.cell (HTAB.out.row x0 x1)
      have exz := hd.cell (HTAB.out.cell x0 x1 z0 hz)
      cases hb : bl L (tv T x z) y with
      | false =>
        have hsk := Lib.hid (impTo_f (L := L) (T := T) (x := x) (y := y) z0 hb)
        have HB := Lib.hid hb; clear hb
        go_wp2
        go_quiet (first | (go_at_call 91; exact q_same (below_is _ _ _ L _ _ _ (Cells.drewN hcl _) hs t0 t1 y0 y30 HB.out)))
        go_wp2
        go_roundw
        case rel => exact ⟨z + 1, by omega, by omega, rfl, by rw [hsk.out], hd.more _⟩
        case measure => simp [intOf]; omega
      | true =>
        have hsu := Lib.hid (impTo_t (L := L) (T := T) (x := x) (y := y) z0 hb)
        have HB := Lib.hid hb; clear hb
        go_wp2
        go_quiet (first | (go_at_call 91; exact q_same (below_is _ _ _ L _ _ _ (Cells.drewN hcl _) hs t0 t1 y0 y30 HB.out)))
        go_wp2_with (go_at_call 61; refine (join_any _ _ _ L _ _ _ (Cells.drewN hcl _) hs i0 i1 z0 hz).mono ?_; rintro e w' ⟨rfl, rfl⟩)
        go_roundw
        case rel => exact ⟨z + 1, by omega, by omega, rfl, by rw [hsu.out], hd.more _⟩
        case measure => simp [intOf]; omega
    · have ht := Lib.hid (show imp L T x y = impTo L T x y z by unfold imp; rw [show num L = z by omega])
      go_wp2
      go_ret
      exact ⟨ret_int (by rw [ht.out]), hB.trans (hd.below _)⟩

end Go.Proofs.Ytljnbhnnjfnjeaa

namespace Go.Proofs.Ytljnbhnnjfnjeaa
open Go.RowKit

set_option maxRecDepth 100000 in
set_option maxHeartbeats 2000000 in
/-- spec.near -/
theorem near_any (a b : Option Addr) (ca cb : Nat) (L : List Int) (T : List (List Int)) (x y : Int) (w : World) (hr : Rd w a L) (hT : RdT w b T) (h : algB L T = true) (x0 : 0 ≤ x) (x1 : x < num L) (y0 : 0 ≤ y) (y1 : y < num L) :
    Calls Try.prog 115 #[.agg #[.slice a L.length ca, .slice b T.length cb], .int .i64 x, .int .i64 y] w fun e w' => e = .returned (.int .i64 (nearI L T x y)) ∧ Below w.heap.size w w' := by
  obtain ⟨hlat, hsh, _⟩ := algB_parts h
  obtain ⟨n1, n6, hs⟩ := latB_parts hlat
  have hn : num L = L.length := rfl
  have hlt := shape_len hsh
  obtain ⟨w1, hw1⟩ : ∃ w1, w1 = w.alloc (.cells #[.slice a L.length ca, .slice b T.length cb] 26) := ⟨_, rfl⟩
  have hB : Below w.heap.size w w1 := by rw [hw1]; exact (Below.refl _ _).alloc (Nat.le_refl _) _
  have hx : w1.heap[w.heap.size]? = some (.cells #[.slice a L.length ca, .slice b T.length cb] 26 (0, 0)) := by rw [hw1]; exact heap_alloc_new w _
  obtain ⟨c0, c1⟩ := bx_cells hx
  have Kx := Lib.hid (show ∀ wz, Below w1.heap.size w1 wz → wz.heap[w.heap.size]? = some (.cells #[.slice a L.length ca, .slice b T.length cb] 26 (0, 0)) from fun wz h => (h.block _ (lt_of_block hx)).trans hx)
  have KR := Lib.hid (show ∀ wz, Below w1.heap.size w1 wz → Rd wz a L from fun wz h => (hr.below hB).below h)
  have KT := Lib.hid (show ∀ wz, Below w1.heap.size w1 wz → RdT wz b T from fun wz h => (hT.below hB).below h)
  have z1 : Below w1.heap.size w1 w1 := Below.refl _ _
  clear hr hT hx
  obtain ⟨B, off, rfl, rb, ro, rc, htab⟩ := tab_of (KT.out _ z1) hsh n1
  obtain ⟨i0, i1⟩ := imp_lt T x y hlat
  obtain ⟨j0, j1⟩ := imp_lt T y x hlat
  have i2 : imp L T x y < T.length := by omega
  have j2 : imp L T y x < L.length := by omega
  have q0 := Lib.hid (show ∀ wz, Below w1.heap.size w1 wz → wz.cell? ⟨w.heap.size, 1, none⟩ = some (.slice (some ⟨B, off, none⟩) T.length cb) from fun wz hz => by rw [hz.cell (by exact block_lt_of_cell c1)]; exact c1)
  have q1 := Lib.hid (show ∀ wz, Below w1.heap.size w1 wz → wz.cell? ⟨B, off + (imp L T x y).toNat, none⟩ = some (.slice (some ⟨rb (imp L T x y), ro (imp L T x y), none⟩) L.length (rc (imp L T x y))) from fun wz hz => (htab.below hz).row i0 i1)
  have q2 := Lib.hid (show ∀ wz, Below w1.heap.size w1 wz → wz.cell? ⟨rb (imp L T x y), ro (imp L T x y) + (imp L T y x).toNat, none⟩ = some (.int .i64 (tv T (imp L T x y) (imp L T y x))) from fun wz hz => (htab.below hz).cell i0 i1 j0 j1)
  have hv := Lib.hid (show nearI L T x y = tv T (imp L T x y) (imp L T y x) from rfl)
  have HA := Lib.hid h
  clear htab hsh hlat hn hlt h c0 c1
  go_enter Try.func115, Try.ntmps115
  go_wp2_with (rw [← hw1]; clear hw1)
  refine region_in (Below w1.heap.size w1) (by kernel_rfl) (by kernel_rfl) (Dr.below ⟨1, rfl⟩ _) fun hne => ?_
  have r0 : ∀ s : In (Below w1.heap.size w1), s.w.cell? ⟨w.heap.size, 1, none⟩ = some (.slice (some ⟨B, off, none⟩) T.length cb) := fun s => q0.out _ s.h
  have r1 : ∀ s : In (Below w1.heap.size w1), s.w.cell? ⟨B, off + (imp L T x y).toNat, none⟩ = some (.slice (some ⟨rb (imp L T x y), ro (imp L T x y), none⟩) L.length (rc (imp L T x y))) := fun s => q1.out _ s.h
  have r2 : ∀ s : In (Below w1.heap.size w1), s.w.cell? ⟨rb (imp L T x y), ro (imp L T x y) + (imp L T y x).toNat, none⟩ = some (.int .i64 (tv T (imp L T x y) (imp L T y x))) := fun s => q2.out _ s.h
  repeat (first
    | (go_big_quiet_want; refine quiet_load_row 26 _ rfl w.heap.size rfl _ _ _ _ (fun w' ⟨s, hs⟩ => by rw [hs]; exact Kx.out _ s.h) Try.underlying26 rfl (size_Alg _ _) ?_; simp only [Act.put, List.setIfInBounds_toArray, List.set_cons_succ, List.set_cons_zero]; go_big_quiet_on)
    | go_big_quiet_step ((first | (go_at_call 62; exact in_below _ (Nat.le_refl _) (imply_any _ _ _ _ L T _ _ _ (KR.out _ (In.h _)) (KT.out _ (In.h _)) HA.out x0 x1 y0 y1)) | (go_at_call 62; exact in_below _ (Nat.le_refl _) (imply_any _ _ _ _ L T _ _ _ (KR.out _ (In.h _)) (KT.out _ (In.h _)) HA.out y0 y1 x0 x1)))))
  refine wpQuiet_nil ?_
  intro s
  have hw2 := s.h
  obtain ⟨w7, hw2'⟩ : ∃ w7, w7 = s.w := ⟨_, rfl⟩
  rw [← hw2'] at hw2 ⊢
  clear hw2'
  go_wp2
  go_ret
  exact ⟨ret_int (by rw [hv.out]), hB.trans (hw2.mono hB.size)⟩

def implyI (L : List Int) (T : List (List Int)) (x y : Int) : Int := if algIn L T x y then imp L T x y else -1
def notI (L : List Int) (T : List (List Int)) (x : Int) : Int := if algIn L T x x then imp L T x 0 else -1
def nearO (L : List Int) (T : List (List Int)) (x y : Int) : Int := if algIn L T x y then nearI L T x y else -1
end Go.Proofs.Ytljnbhnnjfnjeaa

namespace Go.Proofs.Ytljnbhnnjfnjeaa
open Go.RowKit

theorem withB_twoI {L : List Int} {x y : Int} : withB L [x, y] = ((decide (0 ≤ x) && decide (x ≤ (L.length : Int) - 1)) && (decide (0 ≤ y) && decide (y ≤ (L.length : Int) - 1))) := by
  unfold withB
  rw [show ((List.length [x, y] : Nat) : Int) = (0 + 1) + 1 from rfl, allI_succ _ (by omega), allI_succ _ (by omega), allI_zero, Bool.true_and]
  unfold inE
  rw [show nth [x, y] 0 = x from rfl, show nth [x, y] (0 + 1) = y from rfl, decide_eq_decide.2 (show x < (L.length : Int) ↔ x ≤ (L.length : Int) - 1 by omega), decide_eq_decide.2 (show y < (L.length : Int) ↔ y ≤ (L.length : Int) - 1 by omega)]
theorem withB_one {L : List Int} {x : Int} : withB L [x] = (decide (0 ≤ x) && decide (x ≤ (L.length : Int) - 1)) := by
  unfold withB
  rw [show ((List.length [x] : Nat) : Int) = 0 + 1 from rfl, allI_succ _ (by omega), allI_zero, Bool.true_and]
  unfold inE
  rw [show nth [x] 0 = x from rfl, decide_eq_decide.2 (show x < (L.length : Int) ↔ x ≤ (L.length : Int) - 1 by omega)]
theorem aw_two {L : List Int} {T : List (List Int)} {x y : Int} : awB L T [x, y] = algIn L T x y := by
  unfold awB algIn; rw [withB_twoI]; exact (Bool.and_assoc _ _ _).symm
theorem aw_one {L : List Int} {T : List (List Int)} {x : Int} : awB L T [x] = algIn L T x x := by
  unfold awB algIn; rw [withB_one]
  cases algB L T <;> cases (decide (0 ≤ x) && decide (x ≤ (L.length : Int) - 1)) <;> rfl
theorem readAW_good (a b a2 : Option Addr) (ca cb c2 : Nat) (L : List Int) (T : List (List Int)) (E : List Int) (w : World) (hr : Rd w a L) (hT : RdT w b T) (hr2 : Rd w a2 E) (hE : E.length ≤ 1048576) (h : awB L T E = true) :
    Calls Try.prog 29 #[.agg #[.slice a L.length ca, .slice b T.length cb], .slice a2 E.length c2] w fun e w' => e = .returned (.tuple #[.agg (algOf L T), .bool true]) ∧ Below w.heap.size w w' := by
  unfold awB at h
  rw [Bool.and_eq_true] at h
  exact readAW_yes a b a2 ca cb c2 L T E w hr hT hr2 hE h.1 h.2
theorem readAW2_no (a b a2 : Option Addr) (ca cb c2 : Nat) (L : List Int) (T : List (List Int)) (x y : Int) (w : World) (hr : Rd w a L) (hT : RdT w b T) (hr2 : Rd w a2 [x, y]) (h : awB L T [x, y] = false) :
    Calls Try.prog 29 #[.agg #[.slice a L.length ca, .slice b T.length cb], .slice a2 2 c2] w fun e w' => e = .returned (.tuple #[.agg zeroAlg, .bool false]) ∧ Below w.heap.size w w' :=
  readAW_no a b a2 ca cb c2 L T [x, y] w hr hT hr2 (by simp) h
theorem readAW2_good (a b a2 : Option Addr) (ca cb c2 : Nat) (L : List Int) (T : List (List Int)) (x y : Int) (w : World) (hr : Rd w a L) (hT : RdT w b T) (hr2 : Rd w a2 [x, y]) (h : awB L T [x, y] = true) :
    Calls Try.prog 29 #[.agg #[.slice a L.length ca, .slice b T.length cb], .slice a2 2 c2] w fun e w' => e = .returned (.tuple #[.agg (algOf L T), .bool true]) ∧ Below w.heap.size w w' :=
  readAW_good a b a2 ca cb c2 L T [x, y] w hr hT hr2 (by simp) h
theorem readAW1_no (a b a2 : Option Addr) (ca cb c2 : Nat) (L : List Int) (T : List (List Int)) (x : Int) (w : World) (hr : Rd w a L) (hT : RdT w b T) (hr2 : Rd w a2 [x]) (h : awB L T [x] = false) :
    Calls Try.prog 29 #[.agg #[.slice a L.length ca, .slice b T.length cb], .slice a2 1 c2] w fun e w' => e = .returned (.tuple #[.agg zeroAlg, .bool false]) ∧ Below w.heap.size w w' :=
  readAW_no a b a2 ca cb c2 L T [x] w hr hT hr2 (by simp) h
theorem readAW1_good (a b a2 : Option Addr) (ca cb c2 : Nat) (L : List Int) (T : List (List Int)) (x : Int) (w : World) (hr : Rd w a L) (hT : RdT w b T) (hr2 : Rd w a2 [x]) (h : awB L T [x] = true) :
    Calls Try.prog 29 #[.agg #[.slice a L.length ca, .slice b T.length cb], .slice a2 1 c2] w fun e w' => e = .returned (.tuple #[.agg (algOf L T), .bool true]) ∧ Below w.heap.size w w' :=
  readAW_good a b a2 ca cb c2 L T [x] w hr hT hr2 (by simp) h
theorem AlgAt.alloc {w : World} {b : Nat} {L : List Int} {T : List (List Int)} (h : AlgAt w b L T) (o : Obj) : AlgAt (w.alloc o) b L T := h.below ((Below.refl w.heap.size w).alloc (Nat.le_refl _) o) h.lt
set_option maxRecDepth 100000 in
set_option maxHeartbeats 1000000 in
/-- impl.algebra.not -/
theorem not_any (L : List Int) (T : List (List Int)) (x : Int) (w : World) (h : algB L T = true) (x0 : 0 ≤ x) (x1 : x < num L) :
    Calls Try.prog 31 #[.agg (algOf L T), .int .i64 x] w fun e w' => e = .returned (.int .i64 (imp L T x 0)) ∧ Below w.heap.size w w' := by
  obtain ⟨n1, n6⟩ := lat_len (algB_parts h).1
  have x6 : x < 6 := by omega
  have d : (w.alloc (.cells (algOf L T) 52)).cell? ⟨w.heap.size, 145 + x.toNat * 6, none⟩ = some (.int .i64 (imp L T x 0)) := by
    have := (AlgAt.new w L T).i x0 x6 (y := 0) (by omega) (by omega)
    rwa [impG_in x1 (by omega)] at this
  obtain ⟨w1, hw1⟩ : ∃ w1, w1 = w.alloc (.cells (algOf L T) 52) := ⟨_, rfl⟩
  rw [← hw1] at d
  have hB : Below w.heap.size w w1 := by rw [hw1]; exact (Below.refl _ _).alloc (Nat.le_refl _) _
  go_enter Try.func31, Try.ntmps31
  go_wp2_with (rw [← hw1]; clear hw1)
  go_ret
  exact ⟨rfl, hB⟩

set_option maxRecDepth 100000 in
set_option maxHeartbeats 1000000 in
/-- impl.algebra.near -/
theorem nearM_any (L : List Int) (T : List (List Int)) (x y : Int) (w : World) (h : algB L T = true) (x0 : 0 ≤ x) (x1 : x < num L) (y0 : 0 ≤ y) (y1 : y < num L) :
    Calls Try.prog 30 #[.agg (algOf L T), .int .i64 x, .int .i64 y] w fun e w' => e = .returned (.int .i64 (nearI L T x y)) ∧ Below w.heap.size w w' := by
  obtain ⟨n1, n6⟩ := lat_len (algB_parts h).1
  obtain ⟨i0, i1⟩ := imp_lt T x y (algB_parts h).1
  obtain ⟨j0, j1⟩ := imp_lt T y x (algB_parts h).1
  have x6 : x < 6 := by omega
  have y6 : y < 6 := by omega
  have i6 : imp L T x y < 6 := by omega
  have j6 : imp L T y x < 6 := by omega
  have d0 := (AlgAt.new w L T).i x0 x6 y0 y6
  have d1 := (AlgAt.new w L T).i y0 y6 x0 x6
  have d2 := (AlgAt.new w L T).t i0 i6 j0 j6
  rw [impG_in x1 y1] at d0
  rw [impG_in y1 x1] at d1
  rw [timG_in i1 j1] at d2
  obtain ⟨w1, hw1⟩ : ∃ w1, w1 = w.alloc (.cells (algOf L T) 52) := ⟨_, rfl⟩
  rw [← hw1] at d0 d1 d2
  have hB : Below w.heap.size w w1 := by rw [hw1]; exact (Below.refl _ _).alloc (Nat.le_refl _) _
  have hv := Lib.hid (show nearI L T x y = tv T (imp L T x y) (imp L T y x) from rfl)
  go_enter Try.func30, Try.ntmps30
  go_wp2_with (rw [← hw1]; clear hw1)
  go_quiet (fail)
  go_wp2
  go_ret
  exact ⟨ret_int (by rw [hv.out]), hB.trans (Dr.below ⟨_, rfl⟩ _)⟩

set_option maxRecDepth 100000 in
set_option maxHeartbeats 1000000 in
theorem implNotOf_no (a b : Option Addr) (ca cb : Nat) (L : List Int) (T : List (List Int)) (x : Int) (w : World) (hr : Rd w a L) (hT : RdT w b T) (h : algIn L T x x = false) :
    Calls Try.prog 10 #[.agg #[.slice a L.length ca, .slice b T.length cb], .int .i64 x] w fun e w' => e = .returned (.int .i64 (-1)) ∧ Below w.heap.size w w' := by
  obtain ⟨w1, hw1⟩ : ∃ w1, w1 = w.alloc (.cells #[.slice a L.length ca, .slice b T.length cb] 26) := ⟨_, rfl⟩
  have hB : Below w.heap.size w w1 := by rw [hw1]; exact (Below.refl _ _).alloc (Nat.le_refl _) _
  have hx : w1.heap[w.heap.size]? = some (.cells #[.slice a L.length ca, .slice b T.length cb] 26 (0, 0)) := by rw [hw1]; exact heap_alloc_new w _
  obtain ⟨c0, c1⟩ := bx_cells hx
  have Kx := Lib.hid (show ∀ wz, Below w1.heap.size w1 wz → wz.heap[w.heap.size]? = some (.cells #[.slice a L.length ca, .slice b T.length cb] 26 (0, 0)) from fun wz h => (h.block _ (lt_of_block hx)).trans hx)
  have KR := Lib.hid (show ∀ wz, Below w1.heap.size w1 wz → Rd wz a L from fun wz h => (hr.below hB).below h)
  have KT := Lib.hid (show ∀ wz, Below w1.heap.size w1 wz → RdT wz b T from fun wz h => (hT.below hB).below h)
  have z1 : Below w1.heap.size w1 w1 := Below.refl _ _
  clear hr hT hx
  have hE : Row (w1.alloc (.cells #[.int .i64 x] 3)) w1.heap.size [x] := heap_alloc_new w1 _
  have zE : Below w1.heap.size w1 (w1.alloc (.cells #[.int .i64 x] 3)) := (Below.refl _ _).alloc (Nat.le_refl _) _
  have HE := Lib.hid hE.rd
  have HAW := Lib.hid (show awB L T [x] = false by rw [aw_one]; exact h)
  clear hE
  go_enter Try.func10, Try.ntmps10
  go_wp2_with (first
    | go_skip
    | (rw [← hw1]; clear hw1)
    | (refine wpList_load_row_w rfl 26 _ rfl w.heap.size rfl _ _ _ _ (Kx.out _ (by assumption)) Try.underlying26 rfl (size_Alg _ _) ?_)
    | (go_at_call 29; refine (readAW1_no _ _ _ _ _ _ L T x _ (KR.out _ zE) (KT.out _ zE) HE.out HAW.out).mono ?_; rintro e w2 ⟨rfl, h2⟩; have z2 : Below w1.heap.size w1 w2 := zE.trans (h2.mono zE.size))
    | (refine wpList_store_row rfl 52 _ _ rfl w2.heap.size zeroAlg rfl rfl _ _ (heap_alloc_new w2 (.cells zeroAlg 52)) size_zeroAlg rfl one_zeroAlg ?_; rw [World.setRow_alloc_new]; obtain ⟨bl, hbl⟩ : ∃ bl, bl = w2.heap.size := ⟨_, rfl⟩; obtain ⟨w9, hw9⟩ : ∃ w9, w9 = w2.alloc (.cells zeroAlg 52) := ⟨_, rfl⟩; rw [← hw9, ← hbl]; have B9 : Below w1.heap.size w1 w9 := (by rw [hw9]; exact z2.alloc z2.size _); clear hw9 hbl))
  go_ret
  exact ⟨rfl, hB.trans (B9.mono hB.size)⟩

set_option maxRecDepth 100000 in
set_option maxHeartbeats 1000000 in
theorem implNotOf_yes (a b : Option Addr) (ca cb : Nat) (L : List Int) (T : List (List Int)) (x : Int) (w : World) (hr : Rd w a L) (hT : RdT w b T) (h : algIn L T x x = true) :
    Calls Try.prog 10 #[.agg #[.slice a L.length ca, .slice b T.length cb], .int .i64 x] w fun e w' => e = .returned (.int .i64 (imp L T x 0)) ∧ Below w.heap.size w w' := by
  obtain ⟨w1, hw1⟩ : ∃ w1, w1 = w.alloc (.cells #[.slice a L.length ca, .slice b T.length cb] 26) := ⟨_, rfl⟩
  have hB : Below w.heap.size w w1 := by rw [hw1]; exact (Below.refl _ _).alloc (Nat.le_refl _) _
  have hx : w1.heap[w.heap.size]? = some (.cells #[.slice a L.length ca, .slice b T.length cb] 26 (0, 0)) := by rw [hw1]; exact heap_alloc_new w _
  obtain ⟨c0, c1⟩ := bx_cells hx
  have Kx := Lib.hid (show ∀ wz, Below w1.heap.size w1 wz → wz.heap[w.heap.size]? = some (.cells #[.slice a L.length ca, .slice b T.length cb] 26 (0, 0)) from fun wz h => (h.block _ (lt_of_block hx)).trans hx)
  have KR := Lib.hid (show ∀ wz, Below w1.heap.size w1 wz → Rd wz a L from fun wz h => (hr.below hB).below h)
  have KT := Lib.hid (show ∀ wz, Below w1.heap.size w1 wz → RdT wz b T from fun wz h => (hT.below hB).below h)
  have z1 : Below w1.heap.size w1 w1 := Below.refl _ _
  clear hr hT hx
  have hE : Row (w1.alloc (.cells #[.int .i64 x] 3)) w1.heap.size [x] := heap_alloc_new w1 _
  have zE : Below w1.heap.size w1 (w1.alloc (.cells #[.int .i64 x] 3)) := (Below.refl _ _).alloc (Nat.le_refl _) _
  have HE := Lib.hid hE.rd
  have HAW := Lib.hid (show awB L T [x] = true by rw [aw_one]; exact h)
  clear hE
  obtain ⟨ha, x0, x1, y0, y1⟩ := algIn_parts h
  obtain ⟨n1, n6⟩ := lat_len (algB_parts ha).1
  have x6 : x < 6 := by omega
  go_enter Try.func10, Try.ntmps10
  go_wp2_with (first
    | go_skip
    | (rw [← hw1]; clear hw1)
    | (refine wpList_load_row_w rfl 26 _ rfl w.heap.size rfl _ _ _ _ (Kx.out _ (by assumption)) Try.underlying26 rfl (size_Alg _ _) ?_)
    | (go_at_call 29; refine (readAW1_good _ _ _ _ _ _ L T x _ (KR.out _ zE) (KT.out _ zE) HE.out HAW.out).mono ?_; rintro e w2 ⟨rfl, h2⟩; have z2 : Below w1.heap.size w1 w2 := zE.trans (h2.mono zE.size))
    | (refine wpList_store_row rfl 52 _ _ rfl w2.heap.size (algOf L T) rfl rfl _ _ (heap_alloc_new w2 (.cells zeroAlg 52)) (size_alg _ _ _ _ _ _) rfl (one_alg _ _ _ _ _ _) ?_; rw [World.setRow_alloc_new]; obtain ⟨bl, hbl⟩ : ∃ bl, bl = w2.heap.size := ⟨_, rfl⟩; obtain ⟨w9, hw9⟩ : ∃ w9, w9 = w2.alloc (.cells (algOf L T) 52) := ⟨_, rfl⟩; rw [← hw9, ← hbl]; have hA : AlgAt w9 bl L T := (by rw [hw9, hbl]; exact AlgAt.new w2 L T); have B9 : Below w1.heap.size w1 w9 := (by rw [hw9]; exact z2.alloc z2.size _); clear hw9 hbl; skip)
    | (refine wpList_load_row_w rfl 52 _ rfl bl rfl _ _ _ _ hA Try.underlying52 rfl (size_alg _ _ _ _ _ _) ?_)
    | (go_at_call 31; refine (not_any L T x _ ha x0 x1).mono ?_; rintro e w10 ⟨rfl, h10⟩; have B10 : Below w1.heap.size w1 w10 := B9.trans (h10.mono B9.size)))
  go_ret
  exact ⟨rfl, hB.trans (B10.mono hB.size)⟩

set_option maxRecDepth 100000 in
set_option maxHeartbeats 1000000 in
theorem implNearOf_no (a b : Option Addr) (ca cb : Nat) (L : List Int) (T : List (List Int)) (x y : Int) (w : World) (hr : Rd w a L) (hT : RdT w b T) (h : algIn L T x y = false) :
    Calls Try.prog 9 #[.agg #[.slice a L.length ca, .slice b T.length cb], .int .i64 x, .int .i64 y] w fun e w' => e = .returned (.int .i64 (-1)) ∧ Below w.heap.size w w' := by
  obtain ⟨w1, hw1⟩ : ∃ w1, w1 = w.alloc (.cells #[.slice a L.length ca, .slice b T.length cb] 26) := ⟨_, rfl⟩
  have hB : Below w.heap.size w w1 := by rw [hw1]; exact (Below.refl _ _).alloc (Nat.le_refl _) _
  have hx : w1.heap[w.heap.size]? = some (.cells #[.slice a L.length ca, .slice b T.length cb] 26 (0, 0)) := by rw [hw1]; exact heap_alloc_new w _
  obtain ⟨c0, c1⟩ := bx_cells hx
  have Kx := Lib.hid (show ∀ wz, Below w1.heap.size w1 wz → wz.heap[w.heap.size]? = some (.cells #[.slice a L.length ca, .slice b T.length cb] 26 (0, 0)) from fun wz h => (h.block _ (lt_of_block hx)).trans hx)
  have KR := Lib.hid (show ∀ wz, Below w1.heap.size w1 wz → Rd wz a L from fun wz h => (hr.below hB).below h)
  have KT := Lib.hid (show ∀ wz, Below w1.heap.size w1 wz → RdT wz b T from fun wz h => (hT.below hB).below h)
  have z1 : Below w1.heap.size w1 w1 := Below.refl _ _
  clear hr hT hx
  have hE : Row (w1.alloc (.cells #[.int .i64 x, .int .i64 y] 3)) w1.heap.size [x, y] := heap_alloc_new w1 _
  have zE : Below w1.heap.size w1 (w1.alloc (.cells #[.int .i64 x, .int .i64 y] 3)) := (Below.refl _ _).alloc (Nat.le_refl _) _
  have HE := Lib.hid hE.rd
  have HAW := Lib.hid (show awB L T [x, y] = false by rw [aw_two]; exact h)
  clear hE
  go_enter Try.func9, Try.ntmps9
  go_wp2_with (first
    | go_skip
    | (rw [← hw1]; clear hw1)
    | (refine wpList_load_row_w rfl 26 _ rfl w.heap.size rfl _ _ _ _ (Kx.out _ (by assumption)) Try.underlying26 rfl (size_Alg _ _) ?_)
    | (go_at_call 29; refine (readAW2_no _ _ _ _ _ _ L T x  y _ (KR.out _ zE) (KT.out _ zE) HE.out HAW.out).mono ?_; rintro e w2 ⟨rfl, h2⟩; have z2 : Below w1.heap.size w1 w2 := zE.trans (h2.mono zE.size))
    | (refine wpList_store_row rfl 52 _ _ rfl w2.heap.size zeroAlg rfl rfl _ _ (heap_alloc_new w2 (.cells zeroAlg 52)) size_zeroAlg rfl one_zeroAlg ?_; rw [World.setRow_alloc_new]; obtain ⟨bl, hbl⟩ : ∃ bl, bl = w2.heap.size := ⟨_, rfl⟩; obtain ⟨w9, hw9⟩ : ∃ w9, w9 = w2.alloc (.cells zeroAlg 52) := ⟨_, rfl⟩; rw [← hw9, ← hbl]; have B9 : Below w1.heap.size w1 w9 := (by rw [hw9]; exact z2.alloc z2.size _); clear hw9 hbl))
  go_ret
  exact ⟨rfl, hB.trans (B9.mono hB.size)⟩

set_option maxRecDepth 100000 in
set_option maxHeartbeats 1000000 in
theorem implNearOf_yes (a b : Option Addr) (ca cb : Nat) (L : List Int) (T : List (List Int)) (x y : Int) (w : World) (hr : Rd w a L) (hT : RdT w b T) (h : algIn L T x y = true) :
    Calls Try.prog 9 #[.agg #[.slice a L.length ca, .slice b T.length cb], .int .i64 x, .int .i64 y] w fun e w' => e = .returned (.int .i64 (nearI L T x y)) ∧ Below w.heap.size w w' := by
  obtain ⟨w1, hw1⟩ : ∃ w1, w1 = w.alloc (.cells #[.slice a L.length ca, .slice b T.length cb] 26) := ⟨_, rfl⟩
  have hB : Below w.heap.size w w1 := by rw [hw1]; exact (Below.refl _ _).alloc (Nat.le_refl _) _
  have hx : w1.heap[w.heap.size]? = some (.cells #[.slice a L.length ca, .slice b T.length cb] 26 (0, 0)) := by rw [hw1]; exact heap_alloc_new w _
  obtain ⟨c0, c1⟩ := bx_cells hx
  have Kx := Lib.hid (show ∀ wz, Below w1.heap.size w1 wz → wz.heap[w.heap.size]? = some (.cells #[.slice a L.length ca, .slice b T.length cb] 26 (0, 0)) from fun wz h => (h.block _ (lt_of_block hx)).trans hx)
  have KR := Lib.hid (show ∀ wz, Below w1.heap.size w1 wz → Rd wz a L from fun wz h => (hr.below hB).below h)
  have KT := Lib.hid (show ∀ wz, Below w1.heap.size w1 wz → RdT wz b T from fun wz h => (hT.below hB).below h)
  have z1 : Below w1.heap.size w1 w1 := Below.refl _ _
  clear hr hT hx
  have hE : Row (w1.alloc (.cells #[.int .i64 x, .int .i64 y] 3)) w1.heap.size [x, y] := heap_alloc_new w1 _
  have zE : Below w1.heap.size w1 (w1.alloc (.cells #[.int .i64 x, .int .i64 y] 3)) := (Below.refl _ _).alloc (Nat.le_refl _) _
  have HE := Lib.hid hE.rd
  have HAW := Lib.hid (show awB L T [x, y] = true by rw [aw_two]; exact h)
  clear hE
  obtain ⟨ha, x0, x1, y0, y1⟩ := algIn_parts h
  obtain ⟨n1, n6⟩ := lat_len (algB_parts ha).1
  have x6 : x < 6 := by omega
  have y6 : y < 6 := by omega
  go_enter Try.func9, Try.ntmps9
  go_wp2_with (first
    | go_skip
    | (rw [← hw1]; clear hw1)
    | (refine wpList_load_row_w rfl 26 _ rfl w.heap.size rfl _ _ _ _ (Kx.out _ (by assumption)) Try.underlying26 rfl (size_Alg _ _) ?_)
    | (go_at_call 29; refine (readAW2_good _ _ _ _ _ _ L T x  y _ (KR.out _ zE) (KT.out _ zE) HE.out HAW.out).mono ?_; rintro e w2 ⟨rfl, h2⟩; have z2 : Below w1.heap.size w1 w2 := zE.trans (h2.mono zE.size))
    | (refine wpList_store_row rfl 52 _ _ rfl w2.heap.size (algOf L T) rfl rfl _ _ (heap_alloc_new w2 (.cells zeroAlg 52)) (size_alg _ _ _ _ _ _) rfl (one_alg _ _ _ _ _ _) ?_; rw [World.setRow_alloc_new]; obtain ⟨bl, hbl⟩ : ∃ bl, bl = w2.heap.size := ⟨_, rfl⟩; obtain ⟨w9, hw9⟩ : ∃ w9, w9 = w2.alloc (.cells (algOf L T) 52) := ⟨_, rfl⟩; rw [← hw9, ← hbl]; have hA : AlgAt w9 bl L T := (by rw [hw9, hbl]; exact AlgAt.new w2 L T); have B9 : Below w1.heap.size w1 w9 := (by rw [hw9]; exact z2.alloc z2.size _); clear hw9 hbl; skip)
    | (refine wpList_load_row_w rfl 52 _ rfl bl rfl _ _ _ _ hA Try.underlying52 rfl (size_alg _ _ _ _ _ _) ?_)
    | (go_at_call 30; refine (nearM_any L T x y _ ha x0 x1 y0 y1).mono ?_; rintro e w10 ⟨rfl, h10⟩; have B10 : Below w1.heap.size w1 w10 := B9.trans (h10.mono B9.size)))
  go_ret
  exact ⟨rfl, hB.trans (B10.mono hB.size)⟩

theorem implNotOf_any (a b : Option Addr) (ca cb : Nat) (L : List Int) (T : List (List Int)) (x : Int) (w : World) (hr : Rd w a L) (hT : RdT w b T) :
    Calls Try.prog 10 #[.agg #[.slice a L.length ca, .slice b T.length cb], .int .i64 x] w fun e w' => e = .returned (.int .i64 (notI L T x)) ∧ Below w.heap.size w w' := by
  cases h : algIn L T x x with
  | false =>
    have := implNotOf_no a b ca cb L T x w hr hT h
    unfold notI; rw [h]; exact this
  | true =>
    have := implNotOf_yes a b ca cb L T x w hr hT h
    unfold notI; rw [h]; exact this
theorem implNearOf_any (a b : Option Addr) (ca cb : Nat) (L : List Int) (T : List (List Int)) (x y : Int) (w : World) (hr : Rd w a L) (hT : RdT w b T) :
    Calls Try.prog 9 #[.agg #[.slice a L.length ca, .slice b T.length cb], .int .i64 x, .int .i64 y] w fun e w' => e = .returned (.int .i64 (nearO L T x y)) ∧ Below w.heap.size w w' := by
  cases h : algIn L T x y with
  | false =>
    have := implNearOf_no a b ca cb L T x y w hr hT h
    unfold nearO; rw [h]; exact this
  | true =>
    have := implNearOf_yes a b ca cb L T x y w hr hT h
    unfold nearO; rw [h]; exact this
end Go.Proofs.Ytljnbhnnjfnjeaa
