import Derived.Test.YtmapofenghjinaaG9
import Derived.Test.YtmapofenghjinaaH10
namespace Go.Proofs.Ytmapofenghjinaa
open Go.RowKit
set_option linter.unusedVariables false

def prQ0 (L : List Int) (T : List (List Int)) (x y : Int) : Bool := jn L (imp L T x y) (imp L T y x) == (L.length : Int) - 1
def prQ1 (L : List Int) (T : List (List Int)) (x y : Int) : Bool := tv T x (imp L T x y) == mt L x y
def prQ2 (L : List Int) (T : List (List Int)) (x y : Int) : Bool := imp L T (imp L T x 0) 0 == x
def prQ3 (L : List Int) (T : List (List Int)) (x y : Int) : Bool := tv T x x == x
def prQ4 (L : List Int) (T : List (List Int)) (x y : Int) : Bool := jn L x (imp L T x 0) == (L.length : Int) - 1
/-- the properties, by number -/
def prQ : Nat → List Int → List (List Int) → Int → Int → Bool
  | 0 => prQ0
  | 1 => prQ1
  | 2 => prQ2
  | 3 => prQ3
  | _ => prQ4
/-- which property a name is, 5 for none -/
def prIx (s : ByteArray) : Nat :=
  if s.toList == [112, 114, 101, 108, 105, 110, 101, 97, 114] then 0 else if s.toList == [100, 105, 118, 105, 115, 105, 98, 108, 101] then 1 else if s.toList == [105, 110, 118, 111, 108, 117, 116, 105, 118, 101] then 2 else if s.toList == [105, 100, 101, 109, 112, 111, 116, 101, 110, 116] then 3 else if s.toList == [98, 111, 111, 108, 101, 97, 110] then 4 else 5
def hasB (k : Nat) (L : List Int) (T : List (List Int)) : Bool := all2 (L.length : Int) (prQ k L T)
set_option maxRecDepth 100000 in
set_option maxHeartbeats 4000000 in
/-- spec.is: prelinear -/
theorem specIs_0 (s : ByteArray) (q0 : (s.toList == [112, 114, 101, 108, 105, 110, 101, 97, 114]) = true) (a b : Option Addr) (ca cb : Nat) (L : List Int) (T : List (List Int)) (w : World) (hr : Rd w a L) (hT : RdT w b T) (h : algB L T = true) :
    Calls Try.prog 51 #[.string s, .agg #[.slice a L.length ca, .slice b T.length cb]] w fun e w' => e = .returned (.tuple #[.bool (all2 (L.length : Int) (prQ0 L T)), .bool true]) ∧ Below w.heap.size w w' := by
  obtain ⟨l1, l6, hs⟩ := latB_parts (alg_lat h)
  obtain ⟨ab, ao, rfl, _⟩ := hr (fun e => by rw [e] at l1; simp [num] at l1)
  obtain ⟨tb, to, rfl, _⟩ := tab_of hT (alg_shape h) l1
  obtain ⟨w1, hw1⟩ : ∃ w1, w1 = w.alloc (.cells #[.slice (some ⟨ab, ao, none⟩) L.length ca, .slice (some ⟨tb, to, none⟩) T.length cb] 28) := ⟨_, rfl⟩
  have hB : Below w.heap.size w w1 := by rw [hw1]; exact (Below.refl _ _).alloc (Nat.le_refl _) _
  have hx1 : w1.heap[w.heap.size]? = some (.cells #[.slice (some ⟨ab, ao, none⟩) L.length ca, .slice (some ⟨tb, to, none⟩) T.length cb] 28 (0, 0)) := by rw [hw1]; exact heap_alloc_new w _
  have Kx := Lib.hid (show ∀ wz, Below w1.heap.size w1 wz → wz.heap[w.heap.size]? = some (.cells #[.slice (some ⟨ab, ao, none⟩) L.length ca, .slice (some ⟨tb, to, none⟩) T.length cb] 28 (0, 0)) from fun wz h => (h.block _ (lt_of_block hx1)).trans hx1)
  have KR := Lib.hid (show ∀ wz, Below w1.heap.size w1 wz → Rd wz (some ⟨ab, ao, none⟩) L from fun wz h => (hr.below hB).below h)
  have KT := Lib.hid (show ∀ wz, Below w1.heap.size w1 wz → RdT wz (some ⟨tb, to, none⟩) T from fun wz h => (hT.below hB).below h)
  have KC := Lib.hid (show ∀ wz, Below w1.heap.size w1 wz → Cells wz ab ao L from fun wz hb => by
    obtain ⟨b', off', e, hc⟩ := (KR.out wz hb) (fun e => by rw [e] at l1; simp [num] at l1)
    simp only [Option.some.injEq, Addr.mk.injEq] at e
    rw [e.1, e.2.1]; exact hc)
  obtain ⟨tb', to', e1, rb, ro, rc, hTA⟩ := tab_of (KT.out _ (Below.refl _ _)) (alg_shape h) l1
  simp only [Option.some.injEq, Addr.mk.injEq] at e1
  obtain ⟨rfl, rfl, _⟩ := e1
  have KA := Lib.hid (show ∀ wz, Below w1.heap.size w1 wz → TabAt wz tb to (num L) L.length rb ro rc T from fun wz hb => hTA.below hb)
  have HA := Lib.hid h
  have n6 : (L.length : Int) ≤ 6 := l6
  have n1 : 1 ≤ (L.length : Int) := l1
  have zl : (0 : Int) < num L := by omega
  obtain ⟨c0, c1⟩ := bx_cells hx1
  clear h hTA hr hT hx1 l1 l6
  go_enter Try.func51, Try.ntmps51
  go_wp2_with (rw [← hw1]; clear hw1)
  clear c0 c1
  go_loopw [7, 8, 9] (fun okv xv _ wr => ∃ x : Int, 0 ≤ x ∧ x ≤ L.length ∧ xv = .int .i64 x ∧ okv = .bool (allI x fun x => allI L.length ((prQ0 L T) x)) ∧ Below w1.heap.size w1 wr) (fun _ xv _ _ => (6 - intOf xv).toNat)
  case atStart => exact ⟨0, by omega, by omega, rfl, rfl, Below.refl _ _⟩
  case round =>
    obtain ⟨x, x0, x1, rfl, rfl, hbel⟩ := hrel
    by_cases hx : x < L.length
    · go_wp2
      obtain ⟨wo, rfl⟩ : ∃ wo : World, wo = wr := ⟨_, rfl⟩
      go_loopw [7, 9] (fun okv yv wr => ∃ y : Int, 0 ≤ y ∧ y ≤ L.length ∧ yv = .int .i64 y ∧ okv = .bool ((allI x fun x => allI L.length ((prQ0 L T) x)) && allI y ((prQ0 L T) x)) ∧ Below w1.heap.size w1 wr) (fun _ yv _ => (6 - intOf yv).toNat)
      case atStart => exact ⟨0, by omega, by omega, rfl, by rw [allI_zero, Bool.and_true], hbel⟩
      case round =>
        obtain ⟨y, y0, y1, rfl, rfl, z3⟩ := hrel
        by_cases hy : y < L.length
        · have hsu := Lib.hid (show ((allI x fun x => allI L.length ((prQ0 L T) x)) && allI (y + 1) ((prQ0 L T) x)) = (((allI x fun x => allI L.length ((prQ0 L T) x)) && allI y ((prQ0 L T) x)) && prQ0 L T x y) by rw [allI_succ y y0, Bool.and_assoc])
          cases hok : ((allI x fun x => allI L.length ((prQ0 L T) x)) && allI y ((prQ0 L T) x))
          · have hst := Lib.hid (show ((allI x fun x => allI L.length ((prQ0 L T) x)) && allI (y + 1) ((prQ0 L T) x)) = false by rw [hsu.out, hok]; rfl)
            clear hok
            go_wp2
            refine region_in (Below wr.heap.size wr) (by kernel_rfl) (by kernel_rfl) (Dr.below ⟨1, rfl⟩ _) fun hne => ?_
            repeat go_big_quiet_step (fail)
            refine wpQuiet_nil ?_
            intro s
            have z4 := in_trans z3 s
            obtain ⟨w7, hw7⟩ : ∃ x : World, x = s.w := ⟨_, rfl⟩
            rw [← hw7] at z4 ⊢
            clear hw7
            go_wp2
            go_roundw
            case rel => exact ⟨y + 1, by omega, by omega, rfl, by rw [hst.out], z4⟩
            case measure => simp [intOf]; omega
          · have hst := Lib.hid (show ((allI x fun x => allI L.length ((prQ0 L T) x)) && allI (y + 1) ((prQ0 L T) x)) = (jn L (imp L T x y) (imp L T y x) == (L.length : Int) - 1) by rw [hsu.out, hok]; rfl)
            clear hok
            have ie := imp_el HA.out x y
            have i0 : 0 ≤ imp L T x y := ie.1
            have i1 : imp L T x y < L.length := ie.2
            have je := imp_el HA.out y x
            have j0 : 0 ≤ imp L T y x := je.1
            have j1 : imp L T y x < L.length := je.2
            clear ie je
            go_wp2
            refine region_in (Below wr.heap.size wr) (by kernel_rfl) (by kernel_rfl) (Dr.below ⟨1, rfl⟩ _) fun hne => ?_
            have r0 : ∀ s : In (Below wr.heap.size wr), s.w.cell? ⟨w.heap.size, 0, none⟩ = some (.slice (some ⟨ab, ao, none⟩) L.length ca) := fun s => (bx_cells (Kx.out _ (in_trans z3 s))).1
            have r1 : ∀ s : In (Below wr.heap.size wr), s.w.cell? ⟨w.heap.size, 1, none⟩ = some (.slice (some ⟨tb, to, none⟩) T.length cb) := fun s => (bx_cells (Kx.out _ (in_trans z3 s))).2
            repeat (first
              | (go_big_quiet_want; refine quiet_load_row 28 _ rfl w.heap.size rfl _ _ _ _ (fun w' ⟨s, hs⟩ => by rw [hs]; exact Kx.out _ (in_trans z3 s)) Try.underlying28 rfl (size_Alg _ _) ?_; simp only [Act.put, List.setIfInBounds_toArray, List.set_cons_succ, List.set_cons_zero]; go_big_quiet_on)
              | go_big_quiet_step ((first | (go_at_call 107; exact in_below _ (Nat.le_refl _) (imply_any _ _ _ _ L T _ _ _ (KR.out _ (in_trans z3 _)) (KT.out _ (in_trans z3 _)) HA.out x0 hx y0 hy)) | (go_at_call 107; exact in_below _ (Nat.le_refl _) (imply_any _ _ _ _ L T _ _ _ (KR.out _ (in_trans z3 _)) (KT.out _ (in_trans z3 _)) HA.out y0 hy x0 hx)) | (go_at_call 106; exact in_same _ (join_any _ _ _ L _ _ _ (KC.out _ (in_trans z3 _)) hs i0 i1 j0 j1)))))
            refine wpQuiet_nil ?_
            intro s
            have z4 := in_trans z3 s
            obtain ⟨w7, hw7⟩ : ∃ x : World, x = s.w := ⟨_, rfl⟩
            rw [← hw7] at z4 ⊢
            clear hw7
            go_wp2
            go_roundw
            case rel => exact ⟨y + 1, by omega, by omega, rfl, by rw [hst.out], z4⟩
            case measure => simp [intOf]; omega
        · have e : y = L.length := by omega
          subst e
          go_wp2
          go_roundw
          case rel => exact ⟨x + 1, by omega, by omega, rfl, by rw [allI_succ x x0], z3⟩
          case measure => simp [intOf]; omega
    · have e : x = L.length := by omega
      subst e
      go_wp2
      go_ret2
      exact ⟨rfl, hB.trans (hbel.mono hB.size)⟩
set_option maxRecDepth 100000 in
set_option maxHeartbeats 4000000 in
/-- spec.is: divisible -/
theorem specIs_1 (s : ByteArray) (q0 : (s.toList == [112, 114, 101, 108, 105, 110, 101, 97, 114]) = false) (q1 : (s.toList == [100, 105, 118, 105, 115, 105, 98, 108, 101]) = true) (a b : Option Addr) (ca cb : Nat) (L : List Int) (T : List (List Int)) (w : World) (hr : Rd w a L) (hT : RdT w b T) (h : algB L T = true) :
    Calls Try.prog 51 #[.string s, .agg #[.slice a L.length ca, .slice b T.length cb]] w fun e w' => e = .returned (.tuple #[.bool (all2 (L.length : Int) (prQ1 L T)), .bool true]) ∧ Below w.heap.size w w' := by
  obtain ⟨l1, l6, hs⟩ := latB_parts (alg_lat h)
  obtain ⟨ab, ao, rfl, _⟩ := hr (fun e => by rw [e] at l1; simp [num] at l1)
  obtain ⟨tb, to, rfl, _⟩ := tab_of hT (alg_shape h) l1
  obtain ⟨w1, hw1⟩ : ∃ w1, w1 = w.alloc (.cells #[.slice (some ⟨ab, ao, none⟩) L.length ca, .slice (some ⟨tb, to, none⟩) T.length cb] 28) := ⟨_, rfl⟩
  have hB : Below w.heap.size w w1 := by rw [hw1]; exact (Below.refl _ _).alloc (Nat.le_refl _) _
  have hx1 : w1.heap[w.heap.size]? = some (.cells #[.slice (some ⟨ab, ao, none⟩) L.length ca, .slice (some ⟨tb, to, none⟩) T.length cb] 28 (0, 0)) := by rw [hw1]; exact heap_alloc_new w _
  have Kx := Lib.hid (show ∀ wz, Below w1.heap.size w1 wz → wz.heap[w.heap.size]? = some (.cells #[.slice (some ⟨ab, ao, none⟩) L.length ca, .slice (some ⟨tb, to, none⟩) T.length cb] 28 (0, 0)) from fun wz h => (h.block _ (lt_of_block hx1)).trans hx1)
  have KR := Lib.hid (show ∀ wz, Below w1.heap.size w1 wz → Rd wz (some ⟨ab, ao, none⟩) L from fun wz h => (hr.below hB).below h)
  have KT := Lib.hid (show ∀ wz, Below w1.heap.size w1 wz → RdT wz (some ⟨tb, to, none⟩) T from fun wz h => (hT.below hB).below h)
  have KC := Lib.hid (show ∀ wz, Below w1.heap.size w1 wz → Cells wz ab ao L from fun wz hb => by
    obtain ⟨b', off', e, hc⟩ := (KR.out wz hb) (fun e => by rw [e] at l1; simp [num] at l1)
    simp only [Option.some.injEq, Addr.mk.injEq] at e
    rw [e.1, e.2.1]; exact hc)
  obtain ⟨tb', to', e1, rb, ro, rc, hTA⟩ := tab_of (KT.out _ (Below.refl _ _)) (alg_shape h) l1
  simp only [Option.some.injEq, Addr.mk.injEq] at e1
  obtain ⟨rfl, rfl, _⟩ := e1
  have KA := Lib.hid (show ∀ wz, Below w1.heap.size w1 wz → TabAt wz tb to (num L) L.length rb ro rc T from fun wz hb => hTA.below hb)
  have HA := Lib.hid h
  have n6 : (L.length : Int) ≤ 6 := l6
  have n1 : 1 ≤ (L.length : Int) := l1
  have zl : (0 : Int) < num L := by omega
  obtain ⟨c0, c1⟩ := bx_cells hx1
  clear h hTA hr hT hx1 l1 l6
  go_enter Try.func51, Try.ntmps51
  go_wp2_with (rw [← hw1]; clear hw1)
  clear c0 c1
  go_loopw [7, 8, 9] (fun okv xv _ wr => ∃ x : Int, 0 ≤ x ∧ x ≤ L.length ∧ xv = .int .i64 x ∧ okv = .bool (allI x fun x => allI L.length ((prQ1 L T) x)) ∧ Below w1.heap.size w1 wr) (fun _ xv _ _ => (6 - intOf xv).toNat)
  case atStart => exact ⟨0, by omega, by omega, rfl, rfl, Below.refl _ _⟩
  case round =>
    obtain ⟨x, x0, x1, rfl, rfl, hbel⟩ := hrel
    by_cases hx : x < L.length
    · go_wp2
      obtain ⟨wo, rfl⟩ : ∃ wo : World, wo = wr := ⟨_, rfl⟩
      go_loopw [7, 9] (fun okv yv wr => ∃ y : Int, 0 ≤ y ∧ y ≤ L.length ∧ yv = .int .i64 y ∧ okv = .bool ((allI x fun x => allI L.length ((prQ1 L T) x)) && allI y ((prQ1 L T) x)) ∧ Below w1.heap.size w1 wr) (fun _ yv _ => (6 - intOf yv).toNat)
      case atStart => exact ⟨0, by omega, by omega, rfl, by rw [allI_zero, Bool.and_true], hbel⟩
      case round =>
        obtain ⟨y, y0, y1, rfl, rfl, z3⟩ := hrel
        by_cases hy : y < L.length
        · have hsu := Lib.hid (show ((allI x fun x => allI L.length ((prQ1 L T) x)) && allI (y + 1) ((prQ1 L T) x)) = (((allI x fun x => allI L.length ((prQ1 L T) x)) && allI y ((prQ1 L T) x)) && prQ1 L T x y) by rw [allI_succ y y0, Bool.and_assoc])
          cases hok : ((allI x fun x => allI L.length ((prQ1 L T) x)) && allI y ((prQ1 L T) x))
          · have hst := Lib.hid (show ((allI x fun x => allI L.length ((prQ1 L T) x)) && allI (y + 1) ((prQ1 L T) x)) = false by rw [hsu.out, hok]; rfl)
            clear hok
            go_wp2
            refine region_in (Below wr.heap.size wr) (by kernel_rfl) (by kernel_rfl) (Dr.below ⟨1, rfl⟩ _) fun hne => ?_
            repeat go_big_quiet_step (fail)
            refine wpQuiet_nil ?_
            intro s
            have z4 := in_trans z3 s
            obtain ⟨w7, hw7⟩ : ∃ x : World, x = s.w := ⟨_, rfl⟩
            rw [← hw7] at z4 ⊢
            clear hw7
            go_wp2
            go_roundw
            case rel => exact ⟨y + 1, by omega, by omega, rfl, by rw [hst.out], z4⟩
            case measure => simp [intOf]; omega
          · have hst := Lib.hid (show ((allI x fun x => allI L.length ((prQ1 L T) x)) && allI (y + 1) ((prQ1 L T) x)) = (tv T x (imp L T x y) == mt L x y) by rw [hsu.out, hok]; rfl)
            clear hok
            have ie := imp_el HA.out x y
            have i0 : 0 ≤ imp L T x y := ie.1
            have i1 : imp L T x y < L.length := ie.2
            clear ie
            have xt : x < (T.length : Int) := by have := shape_len (alg_shape HA.out); have hn : num L = L.length := rfl; omega
            go_wp2
            refine region_in (Below wr.heap.size wr) (by kernel_rfl) (by kernel_rfl) (Dr.below ⟨1, rfl⟩ _) fun hne => ?_
            have r0 : ∀ s : In (Below wr.heap.size wr), s.w.cell? ⟨w.heap.size, 0, none⟩ = some (.slice (some ⟨ab, ao, none⟩) L.length ca) := fun s => (bx_cells (Kx.out _ (in_trans z3 s))).1
            have r1 : ∀ s : In (Below wr.heap.size wr), s.w.cell? ⟨w.heap.size, 1, none⟩ = some (.slice (some ⟨tb, to, none⟩) T.length cb) := fun s => (bx_cells (Kx.out _ (in_trans z3 s))).2
            have r2 : ∀ s : In (Below wr.heap.size wr), s.w.cell? ⟨tb, to + (x).toNat, none⟩ = some (.slice (some ⟨rb (x), ro (x), none⟩) L.length (rc (x))) := fun s => (KA.out _ (in_trans z3 s)).row x0 hx
            have r3 : ∀ s : In (Below wr.heap.size wr), s.w.cell? ⟨rb (x), ro (x) + (imp L T x y).toNat, none⟩ = some (.int .i64 (tv T (x) (imp L T x y))) := fun s => (KA.out _ (in_trans z3 s)).cell x0 hx i0 i1
            repeat (first
              | (go_big_quiet_want; refine quiet_load_row 28 _ rfl w.heap.size rfl _ _ _ _ (fun w' ⟨s, hs⟩ => by rw [hs]; exact Kx.out _ (in_trans z3 s)) Try.underlying28 rfl (size_Alg _ _) ?_; simp only [Act.put, List.setIfInBounds_toArray, List.set_cons_succ, List.set_cons_zero]; go_big_quiet_on)
              | go_big_quiet_step ((first | (go_at_call 107; exact in_below _ (Nat.le_refl _) (imply_any _ _ _ _ L T _ _ _ (KR.out _ (in_trans z3 _)) (KT.out _ (in_trans z3 _)) HA.out x0 hx y0 hy)) | (go_at_call 108; exact in_same _ (meet_any _ _ _ L _ _ _ (KC.out _ (in_trans z3 _)) hs x0 hx y0 hy)))))
            refine wpQuiet_nil ?_
            intro s
            have z4 := in_trans z3 s
            obtain ⟨w7, hw7⟩ : ∃ x : World, x = s.w := ⟨_, rfl⟩
            rw [← hw7] at z4 ⊢
            clear hw7
            go_wp2
            go_roundw
            case rel => exact ⟨y + 1, by omega, by omega, rfl, by rw [hst.out], z4⟩
            case measure => simp [intOf]; omega
        · have e : y = L.length := by omega
          subst e
          go_wp2
          go_roundw
          case rel => exact ⟨x + 1, by omega, by omega, rfl, by rw [allI_succ x x0], z3⟩
          case measure => simp [intOf]; omega
    · have e : x = L.length := by omega
      subst e
      go_wp2
      go_ret2
      exact ⟨rfl, hB.trans (hbel.mono hB.size)⟩
set_option maxRecDepth 100000 in
set_option maxHeartbeats 4000000 in
/-- spec.is: involutive -/
theorem specIs_2 (s : ByteArray) (q0 : (s.toList == [112, 114, 101, 108, 105, 110, 101, 97, 114]) = false) (q1 : (s.toList == [100, 105, 118, 105, 115, 105, 98, 108, 101]) = false) (q2 : (s.toList == [105, 110, 118, 111, 108, 117, 116, 105, 118, 101]) = true) (a b : Option Addr) (ca cb : Nat) (L : List Int) (T : List (List Int)) (w : World) (hr : Rd w a L) (hT : RdT w b T) (h : algB L T = true) :
    Calls Try.prog 51 #[.string s, .agg #[.slice a L.length ca, .slice b T.length cb]] w fun e w' => e = .returned (.tuple #[.bool (all2 (L.length : Int) (prQ2 L T)), .bool true]) ∧ Below w.heap.size w w' := by
  obtain ⟨l1, l6, hs⟩ := latB_parts (alg_lat h)
  obtain ⟨ab, ao, rfl, _⟩ := hr (fun e => by rw [e] at l1; simp [num] at l1)
  obtain ⟨tb, to, rfl, _⟩ := tab_of hT (alg_shape h) l1
  obtain ⟨w1, hw1⟩ : ∃ w1, w1 = w.alloc (.cells #[.slice (some ⟨ab, ao, none⟩) L.length ca, .slice (some ⟨tb, to, none⟩) T.length cb] 28) := ⟨_, rfl⟩
  have hB : Below w.heap.size w w1 := by rw [hw1]; exact (Below.refl _ _).alloc (Nat.le_refl _) _
  have hx1 : w1.heap[w.heap.size]? = some (.cells #[.slice (some ⟨ab, ao, none⟩) L.length ca, .slice (some ⟨tb, to, none⟩) T.length cb] 28 (0, 0)) := by rw [hw1]; exact heap_alloc_new w _
  have Kx := Lib.hid (show ∀ wz, Below w1.heap.size w1 wz → wz.heap[w.heap.size]? = some (.cells #[.slice (some ⟨ab, ao, none⟩) L.length ca, .slice (some ⟨tb, to, none⟩) T.length cb] 28 (0, 0)) from fun wz h => (h.block _ (lt_of_block hx1)).trans hx1)
  have KR := Lib.hid (show ∀ wz, Below w1.heap.size w1 wz → Rd wz (some ⟨ab, ao, none⟩) L from fun wz h => (hr.below hB).below h)
  have KT := Lib.hid (show ∀ wz, Below w1.heap.size w1 wz → RdT wz (some ⟨tb, to, none⟩) T from fun wz h => (hT.below hB).below h)
  have KC := Lib.hid (show ∀ wz, Below w1.heap.size w1 wz → Cells wz ab ao L from fun wz hb => by
    obtain ⟨b', off', e, hc⟩ := (KR.out wz hb) (fun e => by rw [e] at l1; simp [num] at l1)
    simp only [Option.some.injEq, Addr.mk.injEq] at e
    rw [e.1, e.2.1]; exact hc)
  obtain ⟨tb', to', e1, rb, ro, rc, hTA⟩ := tab_of (KT.out _ (Below.refl _ _)) (alg_shape h) l1
  simp only [Option.some.injEq, Addr.mk.injEq] at e1
  obtain ⟨rfl, rfl, _⟩ := e1
  have KA := Lib.hid (show ∀ wz, Below w1.heap.size w1 wz → TabAt wz tb to (num L) L.length rb ro rc T from fun wz hb => hTA.below hb)
  have HA := Lib.hid h
  have n6 : (L.length : Int) ≤ 6 := l6
  have n1 : 1 ≤ (L.length : Int) := l1
  have zl : (0 : Int) < num L := by omega
  obtain ⟨c0, c1⟩ := bx_cells hx1
  clear h hTA hr hT hx1 l1 l6
  go_enter Try.func51, Try.ntmps51
  go_wp2_with (rw [← hw1]; clear hw1)
  clear c0 c1
  go_loopw [7, 8, 9] (fun okv xv _ wr => ∃ x : Int, 0 ≤ x ∧ x ≤ L.length ∧ xv = .int .i64 x ∧ okv = .bool (allI x fun x => allI L.length ((prQ2 L T) x)) ∧ Below w1.heap.size w1 wr) (fun _ xv _ _ => (6 - intOf xv).toNat)
  case atStart => exact ⟨0, by omega, by omega, rfl, rfl, Below.refl _ _⟩
  case round =>
    obtain ⟨x, x0, x1, rfl, rfl, hbel⟩ := hrel
    by_cases hx : x < L.length
    · go_wp2
      obtain ⟨wo, rfl⟩ : ∃ wo : World, wo = wr := ⟨_, rfl⟩
      go_loopw [7, 9] (fun okv yv wr => ∃ y : Int, 0 ≤ y ∧ y ≤ L.length ∧ yv = .int .i64 y ∧ okv = .bool ((allI x fun x => allI L.length ((prQ2 L T) x)) && allI y ((prQ2 L T) x)) ∧ Below w1.heap.size w1 wr) (fun _ yv _ => (6 - intOf yv).toNat)
      case atStart => exact ⟨0, by omega, by omega, rfl, by rw [allI_zero, Bool.and_true], hbel⟩
      case round =>
        obtain ⟨y, y0, y1, rfl, rfl, z3⟩ := hrel
        by_cases hy : y < L.length
        · have hsu := Lib.hid (show ((allI x fun x => allI L.length ((prQ2 L T) x)) && allI (y + 1) ((prQ2 L T) x)) = (((allI x fun x => allI L.length ((prQ2 L T) x)) && allI y ((prQ2 L T) x)) && prQ2 L T x y) by rw [allI_succ y y0, Bool.and_assoc])
          cases hok : ((allI x fun x => allI L.length ((prQ2 L T) x)) && allI y ((prQ2 L T) x))
          · have hst := Lib.hid (show ((allI x fun x => allI L.length ((prQ2 L T) x)) && allI (y + 1) ((prQ2 L T) x)) = false by rw [hsu.out, hok]; rfl)
            clear hok
            go_wp2
            refine region_in (Below wr.heap.size wr) (by kernel_rfl) (by kernel_rfl) (Dr.below ⟨1, rfl⟩ _) fun hne => ?_
            repeat go_big_quiet_step (fail)
            refine wpQuiet_nil ?_
            intro s
            have z4 := in_trans z3 s
            obtain ⟨w7, hw7⟩ : ∃ x : World, x = s.w := ⟨_, rfl⟩
            rw [← hw7] at z4 ⊢
            clear hw7
            go_wp2
            go_roundw
            case rel => exact ⟨y + 1, by omega, by omega, rfl, by rw [hst.out], z4⟩
            case measure => simp [intOf]; omega
          · have hst := Lib.hid (show ((allI x fun x => allI L.length ((prQ2 L T) x)) && allI (y + 1) ((prQ2 L T) x)) = (imp L T (imp L T x 0) 0 == x) by rw [hsu.out, hok]; rfl)
            clear hok
            have ie := imp_el HA.out x 0
            have i0 : 0 ≤ imp L T x 0 := ie.1
            have i1 : imp L T x 0 < L.length := ie.2
            clear ie
            go_wp2
            refine region_in (Below wr.heap.size wr) (by kernel_rfl) (by kernel_rfl) (Dr.below ⟨1, rfl⟩ _) fun hne => ?_
            have r0 : ∀ s : In (Below wr.heap.size wr), s.w.cell? ⟨w.heap.size, 0, none⟩ = some (.slice (some ⟨ab, ao, none⟩) L.length ca) := fun s => (bx_cells (Kx.out _ (in_trans z3 s))).1
            have r1 : ∀ s : In (Below wr.heap.size wr), s.w.cell? ⟨w.heap.size, 1, none⟩ = some (.slice (some ⟨tb, to, none⟩) T.length cb) := fun s => (bx_cells (Kx.out _ (in_trans z3 s))).2
            repeat (first
              | (go_big_quiet_want; refine quiet_load_row 28 _ rfl w.heap.size rfl _ _ _ _ (fun w' ⟨s, hs⟩ => by rw [hs]; exact Kx.out _ (in_trans z3 s)) Try.underlying28 rfl (size_Alg _ _) ?_; simp only [Act.put, List.setIfInBounds_toArray, List.set_cons_succ, List.set_cons_zero]; go_big_quiet_on)
              | go_big_quiet_step ((first | (go_at_call_of 107 (Value.int .i64 x); exact in_below _ (Nat.le_refl _) (imply_any _ _ _ _ L T _ _ _ (KR.out _ (in_trans z3 _)) (KT.out _ (in_trans z3 _)) HA.out x0 hx (Int.le_refl 0) zl)) | (go_at_call 107; exact in_below _ (Nat.le_refl _) (imply_any _ _ _ _ L T _ _ _ (KR.out _ (in_trans z3 _)) (KT.out _ (in_trans z3 _)) HA.out i0 i1 (Int.le_refl 0) zl)))))
            refine wpQuiet_nil ?_
            intro s
            have z4 := in_trans z3 s
            obtain ⟨w7, hw7⟩ : ∃ x : World, x = s.w := ⟨_, rfl⟩
            rw [← hw7] at z4 ⊢
            clear hw7
            go_wp2
            go_roundw
            case rel => exact ⟨y + 1, by omega, by omega, rfl, by rw [hst.out], z4⟩
            case measure => simp [intOf]; omega
        · have e : y = L.length := by omega
          subst e
          go_wp2
          go_roundw
          case rel => exact ⟨x + 1, by omega, by omega, rfl, by rw [allI_succ x x0], z3⟩
          case measure => simp [intOf]; omega
    · have e : x = L.length := by omega
      subst e
      go_wp2
      go_ret2
      exact ⟨rfl, hB.trans (hbel.mono hB.size)⟩
set_option maxRecDepth 100000 in
set_option maxHeartbeats 4000000 in
/-- spec.is: idempotent -/
theorem specIs_3 (s : ByteArray) (q0 : (s.toList == [112, 114, 101, 108, 105, 110, 101, 97, 114]) = false) (q1 : (s.toList == [100, 105, 118, 105, 115, 105, 98, 108, 101]) = false) (q2 : (s.toList == [105, 110, 118, 111, 108, 117, 116, 105, 118, 101]) = false) (q3 : (s.toList == [105, 100, 101, 109, 112, 111, 116, 101, 110, 116]) = true) (a b : Option Addr) (ca cb : Nat) (L : List Int) (T : List (List Int)) (w : World) (hr : Rd w a L) (hT : RdT w b T) (h : algB L T = true) :
    Calls Try.prog 51 #[.string s, .agg #[.slice a L.length ca, .slice b T.length cb]] w fun e w' => e = .returned (.tuple #[.bool (all2 (L.length : Int) (prQ3 L T)), .bool true]) ∧ Below w.heap.size w w' := by
  obtain ⟨l1, l6, hs⟩ := latB_parts (alg_lat h)
  obtain ⟨ab, ao, rfl, _⟩ := hr (fun e => by rw [e] at l1; simp [num] at l1)
  obtain ⟨tb, to, rfl, _⟩ := tab_of hT (alg_shape h) l1
  obtain ⟨w1, hw1⟩ : ∃ w1, w1 = w.alloc (.cells #[.slice (some ⟨ab, ao, none⟩) L.length ca, .slice (some ⟨tb, to, none⟩) T.length cb] 28) := ⟨_, rfl⟩
  have hB : Below w.heap.size w w1 := by rw [hw1]; exact (Below.refl _ _).alloc (Nat.le_refl _) _
  have hx1 : w1.heap[w.heap.size]? = some (.cells #[.slice (some ⟨ab, ao, none⟩) L.length ca, .slice (some ⟨tb, to, none⟩) T.length cb] 28 (0, 0)) := by rw [hw1]; exact heap_alloc_new w _
  have Kx := Lib.hid (show ∀ wz, Below w1.heap.size w1 wz → wz.heap[w.heap.size]? = some (.cells #[.slice (some ⟨ab, ao, none⟩) L.length ca, .slice (some ⟨tb, to, none⟩) T.length cb] 28 (0, 0)) from fun wz h => (h.block _ (lt_of_block hx1)).trans hx1)
  have KR := Lib.hid (show ∀ wz, Below w1.heap.size w1 wz → Rd wz (some ⟨ab, ao, none⟩) L from fun wz h => (hr.below hB).below h)
  have KT := Lib.hid (show ∀ wz, Below w1.heap.size w1 wz → RdT wz (some ⟨tb, to, none⟩) T from fun wz h => (hT.below hB).below h)
  have KC := Lib.hid (show ∀ wz, Below w1.heap.size w1 wz → Cells wz ab ao L from fun wz hb => by
    obtain ⟨b', off', e, hc⟩ := (KR.out wz hb) (fun e => by rw [e] at l1; simp [num] at l1)
    simp only [Option.some.injEq, Addr.mk.injEq] at e
    rw [e.1, e.2.1]; exact hc)
  obtain ⟨tb', to', e1, rb, ro, rc, hTA⟩ := tab_of (KT.out _ (Below.refl _ _)) (alg_shape h) l1
  simp only [Option.some.injEq, Addr.mk.injEq] at e1
  obtain ⟨rfl, rfl, _⟩ := e1
  have KA := Lib.hid (show ∀ wz, Below w1.heap.size w1 wz → TabAt wz tb to (num L) L.length rb ro rc T from fun wz hb => hTA.below hb)
  have HA := Lib.hid h
  have n6 : (L.length : Int) ≤ 6 := l6
  have n1 : 1 ≤ (L.length : Int) := l1
  have zl : (0 : Int) < num L := by omega
  obtain ⟨c0, c1⟩ := bx_cells hx1
  clear h hTA hr hT hx1 l1 l6
  go_enter Try.func51, Try.ntmps51
  go_wp2_with (rw [← hw1]; clear hw1)
  clear c0 c1
  go_loopw [7, 8, 9] (fun okv xv _ wr => ∃ x : Int, 0 ≤ x ∧ x ≤ L.length ∧ xv = .int .i64 x ∧ okv = .bool (allI x fun x => allI L.length ((prQ3 L T) x)) ∧ Below w1.heap.size w1 wr) (fun _ xv _ _ => (6 - intOf xv).toNat)
  case atStart => exact ⟨0, by omega, by omega, rfl, rfl, Below.refl _ _⟩
  case round =>
    obtain ⟨x, x0, x1, rfl, rfl, hbel⟩ := hrel
    by_cases hx : x < L.length
    · go_wp2
      obtain ⟨wo, rfl⟩ : ∃ wo : World, wo = wr := ⟨_, rfl⟩
      go_loopw [7, 9] (fun okv yv wr => ∃ y : Int, 0 ≤ y ∧ y ≤ L.length ∧ yv = .int .i64 y ∧ okv = .bool ((allI x fun x => allI L.length ((prQ3 L T) x)) && allI y ((prQ3 L T) x)) ∧ Below w1.heap.size w1 wr) (fun _ yv _ => (6 - intOf yv).toNat)
      case atStart => exact ⟨0, by omega, by omega, rfl, by rw [allI_zero, Bool.and_true], hbel⟩
      case round =>
        obtain ⟨y, y0, y1, rfl, rfl, z3⟩ := hrel
        by_cases hy : y < L.length
        · have hsu := Lib.hid (show ((allI x fun x => allI L.length ((prQ3 L T) x)) && allI (y + 1) ((prQ3 L T) x)) = (((allI x fun x => allI L.length ((prQ3 L T) x)) && allI y ((prQ3 L T) x)) && prQ3 L T x y) by rw [allI_succ y y0, Bool.and_assoc])
          cases hok : ((allI x fun x => allI L.length ((prQ3 L T) x)) && allI y ((prQ3 L T) x))
          · have hst := Lib.hid (show ((allI x fun x => allI L.length ((prQ3 L T) x)) && allI (y + 1) ((prQ3 L T) x)) = false by rw [hsu.out, hok]; rfl)
            clear hok
            go_wp2
            go_roundw
            case rel => exact ⟨y + 1, by omega, by omega, rfl, by rw [hst.out], z3⟩
            case measure => simp [intOf]; omega
          · have hst := Lib.hid (show ((allI x fun x => allI L.length ((prQ3 L T) x)) && allI (y + 1) ((prQ3 L T) x)) = (tv T x x == x) by rw [hsu.out, hok]; rfl)
            clear hok
            have e0 := (KA.out _ z3).row x0 hx
            have e1 := (KA.out _ z3).cell x0 hx x0 hx
            obtain ⟨f0, f1⟩ := bx_cells (Kx.out _ z3)
            have xt : x < (T.length : Int) := by have := shape_len (alg_shape HA.out); have hn : num L = L.length := rfl; omega
            go_wp2
            go_roundw
            case rel => exact ⟨y + 1, by omega, by omega, rfl, by rw [hst.out], z3⟩
            case measure => simp [intOf]; omega
        · have e : y = L.length := by omega
          subst e
          go_wp2
          go_roundw
          case rel => exact ⟨x + 1, by omega, by omega, rfl, by rw [allI_succ x x0], z3⟩
          case measure => simp [intOf]; omega
    · have e : x = L.length := by omega
      subst e
      go_wp2
      go_ret2
      exact ⟨rfl, hB.trans (hbel.mono hB.size)⟩
set_option maxRecDepth 100000 in
set_option maxHeartbeats 4000000 in
/-- spec.is: boolean -/
theorem specIs_4 (s : ByteArray) (q0 : (s.toList == [112, 114, 101, 108, 105, 110, 101, 97, 114]) = false) (q1 : (s.toList == [100, 105, 118, 105, 115, 105, 98, 108, 101]) = false) (q2 : (s.toList == [105, 110, 118, 111, 108, 117, 116, 105, 118, 101]) = false) (q3 : (s.toList == [105, 100, 101, 109, 112, 111, 116, 101, 110, 116]) = false) (q4 : (s.toList == [98, 111, 111, 108, 101, 97, 110]) = true) (a b : Option Addr) (ca cb : Nat) (L : List Int) (T : List (List Int)) (w : World) (hr : Rd w a L) (hT : RdT w b T) (h : algB L T = true) :
    Calls Try.prog 51 #[.string s, .agg #[.slice a L.length ca, .slice b T.length cb]] w fun e w' => e = .returned (.tuple #[.bool (all2 (L.length : Int) (prQ4 L T)), .bool true]) ∧ Below w.heap.size w w' := by
  obtain ⟨l1, l6, hs⟩ := latB_parts (alg_lat h)
  obtain ⟨ab, ao, rfl, _⟩ := hr (fun e => by rw [e] at l1; simp [num] at l1)
  obtain ⟨tb, to, rfl, _⟩ := tab_of hT (alg_shape h) l1
  obtain ⟨w1, hw1⟩ : ∃ w1, w1 = w.alloc (.cells #[.slice (some ⟨ab, ao, none⟩) L.length ca, .slice (some ⟨tb, to, none⟩) T.length cb] 28) := ⟨_, rfl⟩
  have hB : Below w.heap.size w w1 := by rw [hw1]; exact (Below.refl _ _).alloc (Nat.le_refl _) _
  have hx1 : w1.heap[w.heap.size]? = some (.cells #[.slice (some ⟨ab, ao, none⟩) L.length ca, .slice (some ⟨tb, to, none⟩) T.length cb] 28 (0, 0)) := by rw [hw1]; exact heap_alloc_new w _
  have Kx := Lib.hid (show ∀ wz, Below w1.heap.size w1 wz → wz.heap[w.heap.size]? = some (.cells #[.slice (some ⟨ab, ao, none⟩) L.length ca, .slice (some ⟨tb, to, none⟩) T.length cb] 28 (0, 0)) from fun wz h => (h.block _ (lt_of_block hx1)).trans hx1)
  have KR := Lib.hid (show ∀ wz, Below w1.heap.size w1 wz → Rd wz (some ⟨ab, ao, none⟩) L from fun wz h => (hr.below hB).below h)
  have KT := Lib.hid (show ∀ wz, Below w1.heap.size w1 wz → RdT wz (some ⟨tb, to, none⟩) T from fun wz h => (hT.below hB).below h)
  have KC := Lib.hid (show ∀ wz, Below w1.heap.size w1 wz → Cells wz ab ao L from fun wz hb => by
    obtain ⟨b', off', e, hc⟩ := (KR.out wz hb) (fun e => by rw [e] at l1; simp [num] at l1)
    simp only [Option.some.injEq, Addr.mk.injEq] at e
    rw [e.1, e.2.1]; exact hc)
  obtain ⟨tb', to', e1, rb, ro, rc, hTA⟩ := tab_of (KT.out _ (Below.refl _ _)) (alg_shape h) l1
  simp only [Option.some.injEq, Addr.mk.injEq] at e1
  obtain ⟨rfl, rfl, _⟩ := e1
  have KA := Lib.hid (show ∀ wz, Below w1.heap.size w1 wz → TabAt wz tb to (num L) L.length rb ro rc T from fun wz hb => hTA.below hb)
  have HA := Lib.hid h
  have n6 : (L.length : Int) ≤ 6 := l6
  have n1 : 1 ≤ (L.length : Int) := l1
  have zl : (0 : Int) < num L := by omega
  obtain ⟨c0, c1⟩ := bx_cells hx1
  clear h hTA hr hT hx1 l1 l6
  go_enter Try.func51, Try.ntmps51
  go_wp2_with (rw [← hw1]; clear hw1)
  clear c0 c1
  go_loopw [7, 8, 9] (fun okv xv _ wr => ∃ x : Int, 0 ≤ x ∧ x ≤ L.length ∧ xv = .int .i64 x ∧ okv = .bool (allI x fun x => allI L.length ((prQ4 L T) x)) ∧ Below w1.heap.size w1 wr) (fun _ xv _ _ => (6 - intOf xv).toNat)
  case atStart => exact ⟨0, by omega, by omega, rfl, rfl, Below.refl _ _⟩
  case round =>
    obtain ⟨x, x0, x1, rfl, rfl, hbel⟩ := hrel
    by_cases hx : x < L.length
    · go_wp2
      obtain ⟨wo, rfl⟩ : ∃ wo : World, wo = wr := ⟨_, rfl⟩
      go_loopw [7, 9] (fun okv yv wr => ∃ y : Int, 0 ≤ y ∧ y ≤ L.length ∧ yv = .int .i64 y ∧ okv = .bool ((allI x fun x => allI L.length ((prQ4 L T) x)) && allI y ((prQ4 L T) x)) ∧ Below w1.heap.size w1 wr) (fun _ yv _ => (6 - intOf yv).toNat)
      case atStart => exact ⟨0, by omega, by omega, rfl, by rw [allI_zero, Bool.and_true], hbel⟩
      case round =>
        obtain ⟨y, y0, y1, rfl, rfl, z3⟩ := hrel
        by_cases hy : y < L.length
        · have hsu := Lib.hid (show ((allI x fun x => allI L.length ((prQ4 L T) x)) && allI (y + 1) ((prQ4 L T) x)) = (((allI x fun x => allI L.length ((prQ4 L T) x)) && allI y ((prQ4 L T) x)) && prQ4 L T x y) by rw [allI_succ y y0, Bool.and_assoc])
          cases hok : ((allI x fun x => allI L.length ((prQ4 L T) x)) && allI y ((prQ4 L T) x))
          · have hst := Lib.hid (show ((allI x fun x => allI L.length ((prQ4 L T) x)) && allI (y + 1) ((prQ4 L T) x)) = false by rw [hsu.out, hok]; rfl)
            clear hok
            go_wp2
            refine region_in (Below wr.heap.size wr) (by kernel_rfl) (by kernel_rfl) (Dr.below ⟨1, rfl⟩ _) fun hne => ?_
            repeat go_big_quiet_step (fail)
            refine wpQuiet_nil ?_
            intro s
            have z4 := in_trans z3 s
            obtain ⟨w7, hw7⟩ : ∃ x : World, x = s.w := ⟨_, rfl⟩
            rw [← hw7] at z4 ⊢
            clear hw7
            go_wp2
            go_roundw
            case rel => exact ⟨y + 1, by omega, by omega, rfl, by rw [hst.out], z4⟩
            case measure => simp [intOf]; omega
          · have hst := Lib.hid (show ((allI x fun x => allI L.length ((prQ4 L T) x)) && allI (y + 1) ((prQ4 L T) x)) = (jn L x (imp L T x 0) == (L.length : Int) - 1) by rw [hsu.out, hok]; rfl)
            clear hok
            have ie := imp_el HA.out x 0
            have i0 : 0 ≤ imp L T x 0 := ie.1
            have i1 : imp L T x 0 < L.length := ie.2
            clear ie
            go_wp2
            refine region_in (Below wr.heap.size wr) (by kernel_rfl) (by kernel_rfl) (Dr.below ⟨1, rfl⟩ _) fun hne => ?_
            have r0 : ∀ s : In (Below wr.heap.size wr), s.w.cell? ⟨w.heap.size, 0, none⟩ = some (.slice (some ⟨ab, ao, none⟩) L.length ca) := fun s => (bx_cells (Kx.out _ (in_trans z3 s))).1
            have r1 : ∀ s : In (Below wr.heap.size wr), s.w.cell? ⟨w.heap.size, 1, none⟩ = some (.slice (some ⟨tb, to, none⟩) T.length cb) := fun s => (bx_cells (Kx.out _ (in_trans z3 s))).2
            repeat (first
              | (go_big_quiet_want; refine quiet_load_row 28 _ rfl w.heap.size rfl _ _ _ _ (fun w' ⟨s, hs⟩ => by rw [hs]; exact Kx.out _ (in_trans z3 s)) Try.underlying28 rfl (size_Alg _ _) ?_; simp only [Act.put, List.setIfInBounds_toArray, List.set_cons_succ, List.set_cons_zero]; go_big_quiet_on)
              | go_big_quiet_step ((first | (go_at_call 107; exact in_below _ (Nat.le_refl _) (imply_any _ _ _ _ L T _ _ _ (KR.out _ (in_trans z3 _)) (KT.out _ (in_trans z3 _)) HA.out x0 hx (Int.le_refl 0) zl)) | (go_at_call 106; exact in_same _ (join_any _ _ _ L _ _ _ (KC.out _ (in_trans z3 _)) hs x0 hx i0 i1)))))
            refine wpQuiet_nil ?_
            intro s
            have z4 := in_trans z3 s
            obtain ⟨w7, hw7⟩ : ∃ x : World, x = s.w := ⟨_, rfl⟩
            rw [← hw7] at z4 ⊢
            clear hw7
            go_wp2
            go_roundw
            case rel => exact ⟨y + 1, by omega, by omega, rfl, by rw [hst.out], z4⟩
            case measure => simp [intOf]; omega
        · have e : y = L.length := by omega
          subst e
          go_wp2
          go_roundw
          case rel => exact ⟨x + 1, by omega, by omega, rfl, by rw [allI_succ x x0], z3⟩
          case measure => simp [intOf]; omega
    · have e : x = L.length := by omega
      subst e
      go_wp2
      go_ret2
      exact ⟨rfl, hB.trans (hbel.mono hB.size)⟩
end Go.Proofs.Ytmapofenghjinaa
