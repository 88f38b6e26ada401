import Derived.Test.YtmapofenghjinaaH4
import Derived.Test.YtmapofenghjinaaL4
import Derived.Test.YtmapofenghjinaaR2
namespace Go.Proofs.Ytmapofenghjinaa
open Go.RowKit

set_option maxRecDepth 100000 in
set_option maxHeartbeats 2000000 in
/-- impl.upOf at whatever closure -/
theorem upOf_any (f : Nat) (env : Array Value) (n : Int) (g : Int → Int → Bool) (w : World) (n0 : 0 ≤ n) (n6 : n ≤ 6) (he : Enters f)
    (H : ∀ (x y : Int) (wr : World), 0 ≤ x → x < n → 0 ≤ y → y < n → Below w.heap.size w wr → Calls Try.prog f (#[.int .i64 x, .int .i64 y] ++ env) wr fun e w' => e = .returned (.bool (g x y)) ∧ Dr wr w') :
    Calls Try.prog 71 #[.int .i64 n, .func (.func f) #[] env] w fun e w' => e = .returned (.slice (some ⟨w.heap.size, 0, none⟩) n.toNat n.toNat) ∧ Row w' w.heap.size (upL g n) ∧ Below w.heap.size w w' := by
  have hmk := run_make_ints n.toNat (by omega)
  rw [Int.toNat_of_nonneg n0] at hmk
  have HH := Lib.hid H; clear H
  have HE := Lib.hid (show ∀ (args : Array Value) (w : World), (callFunc f args).run Try.prog w = .ok (.enter f args) w from he); clear he
  go_enter Try.func71, Try.ntmps71
  go_wp2
  clear hmk
  go_loopw [6, 7, 11] (fun _ _ c wr => ∃ x : Int, 0 ≤ x ∧ x ≤ n ∧ c = .int .i64 x ∧ Row wr w.heap.size (upTo g n x 0) ∧ Below w.heap.size w wr) (fun _ _ c _ => (6 - intOf c).toNat)
  case atStart => exact ⟨0, by omega, by omega, rfl, by rw [upTo_zero]; exact heap_alloc_new w _, (Below.refl _ _).alloc (Nat.le_refl _) _⟩
  case round =>
    obtain ⟨x, x0, x1, rfl, hrow, hbel⟩ := hrel
    by_cases hx : x < n
    · go_wp2
      obtain ⟨w1, rfl⟩ : ∃ w1 : World, w1 = wr := ⟨_, rfl⟩
      go_loopw [7, 15] (fun _ c wr => ∃ y : Int, 0 ≤ y ∧ y ≤ n ∧ c = .int .i64 y ∧ Row wr w.heap.size (upTo g n x y) ∧ Below w.heap.size w wr) (fun _ c _ => (6 - intOf c).toNat)
      case atStart => exact ⟨0, by omega, by omega, rfl, hrow, hbel⟩
      case round =>
        obtain ⟨y, y0, y1, rfl, hrow, hbel⟩ := hrel
        by_cases hy : y < n
        · have hlen := upTo_len g n x y
          have hcc : ∀ wz, Row wz w.heap.size (upTo g n x y) → wz.cell? ⟨w.heap.size, x.toNat, none⟩ = some (.int .i64 (rowTo (g x) y)) := fun wz hz => by
            have := hz.cell x0 (by rw [hlen]; omega)
            rwa [upTo_nth _ x0 hx] at this
          have HCC := Lib.hid hcc
          have hpw := wrap_pwI y (by omega)
          have hxl : x.toNat < n.toNat := by omega
          have hC := HH.out x y wr x0 hx y0 hy hbel
          clear hlen hcc
          cases hq : g x y with
          | false =>
            rw [hq] at hC
            have HC := Lib.hid hC
            have hs := Lib.hid (upTo_skip g (n := n) (x := x) y0 hq)
            clear hq hC
            go_wp2_with (rw [HE.out]; refine (HC.out).mono ?_; rintro e w9 ⟨rfl, hd⟩)
            go_roundw
            case rel => exact ⟨y + 1, by omega, by omega, rfl, by rw [hs.out]; exact hrow.dr hd, hbel.trans (hd.below _)⟩
            case measure => simp [intOf]; omega
          | true =>
            rw [hq] at hC
            have HC := Lib.hid hC
            have hs := Lib.hid (upTo_next g (n := n) (y := y) x0)
            have ho := rowTo_or (g x) y0 (by omega) hq
            clear hq hC
            go_wp2_with (rw [HE.out]; refine (HC.out).mono ?_; rintro e w9 ⟨rfl, hd⟩; have hrow9 := hrow.dr hd; have hc0 := HCC.out w9 hrow9; have hf0 := hrow9.free x.toNat)
            go_region
            go_wp2
            go_roundw
            case rel => exact ⟨y + 1, by omega, by omega, rfl, by rw [← hs.out]; exact (hrow9.set _ _).dr ⟨1, rfl⟩, ((hbel.trans (hd.below _)).setCell (by simp) _).drew⟩
            case measure => simp [intOf]; omega
        · have e : y = n := by omega
          subst e
          go_wp2
          go_roundw
          case rel => exact ⟨x + 1, by omega, by omega, rfl, by rw [← upTo_row]; exact hrow, hbel⟩
          case measure => simp [intOf]; omega
    · have e : x = n := by omega
      subst e
      go_wp2
      go_ret
      exact ⟨rfl, by rw [← upTo_all]; exact hrow, hbel⟩

/-- the order of pairs -/
def crossG (A B : List Int) (p q : Int) : Bool := bl A (p / num B) (q / num B) && bl B (p % num B) (q % num B)
theorem div_fits {p m n : Int} (p0 : 0 ≤ p) (m1 : 1 ≤ m) (h : p < n * m) : 0 ≤ p / m ∧ p / m < n ∧ 0 ≤ p % m ∧ p % m < m :=
  ⟨Int.ediv_nonneg p0 (by omega), Int.ediv_lt_of_lt_mul (by omega) h, Int.emod_nonneg _ (by omega), Int.emod_lt_of_pos _ (by omega)⟩
theorem enters_cross : Enters 128 := enters_of Try.func128 (by kernel_rfl) rfl

set_option maxRecDepth 100000 in
set_option maxHeartbeats 2000000 in
theorem crossClo_any (A B : List Int) (ba bb bn : Nat) (p q : Int) (w : World) (hA : LatAt w ba A) (hB : LatAt w bb B) (hn : w.heap[bn]? = some (.cells #[.int .i64 B.length] 3 (0, 0))) (a6 : num A ≤ 6) (b1 : 1 ≤ num B) (b6 : num B ≤ 6) (p0 : 0 ≤ p) (p1 : p < num A * num B) (q0 : 0 ≤ q) (q1 : q < num A * num B) :
    Calls Try.prog 128 #[.int .i64 p, .int .i64 q, .pointer (some ⟨ba, 0, none⟩), .pointer (some ⟨bn, 0, none⟩), .pointer (some ⟨bb, 0, none⟩)] w fun e w' => e = .returned (.bool (crossG A B p q)) ∧ Dr w w' := by
  have cn := cell_of_one hn
  obtain ⟨x0, x1, u0, u1⟩ := div_fits p0 b1 p1
  obtain ⟨y0, y1, v0, v1⟩ := div_fits q0 b1 q1
  have hnb : num B = B.length := rfl
  have d0 := hA.g x0 (by omega : p / num B < 6) y0 (by omega : q / num B < 6)
  have d1 := hB.g u0 (by omega : p % num B < 6) v0 (by omega : q % num B < 6)
  rw [ordG_in x1 y1] at d0
  rw [ordG_in u1 v1] at d1
  have hv := Lib.hid (show crossG A B p q = (bl A (p / num B) (q / num B) && bl B (p % num B) (q % num B)) from rfl)
  have t1 : p.tdiv (B.length : Int) = p / num B := Int.tdiv_eq_ediv_of_nonneg p0
  have t2 : q.tdiv (B.length : Int) = q / num B := Int.tdiv_eq_ediv_of_nonneg q0
  have t3 : p.tmod (B.length : Int) = p % num B := Int.tmod_eq_emod_of_nonneg p0
  have t4 : q.tmod (B.length : Int) = q % num B := Int.tmod_eq_emod_of_nonneg q0
  have t5 : IntKind.i64.wrap (p / num B) = p / num B := IntWalk.i64_in _ (by omega)
  have t6 : IntKind.i64.wrap (q / num B) = q / num B := IntWalk.i64_in _ (by omega)
  have t7 : IntKind.i64.wrap (p % num B) = p % num B := IntWalk.i64_in _ (by omega)
  have t8 : IntKind.i64.wrap (q % num B) = q % num B := IntWalk.i64_in _ (by omega)
  have hz : ((B.length : Int) == 0) = false := by rw [beq_eq_false_iff_ne]; omega
  have hz2 : (B.length : Int) ≠ 0 := by omega
  obtain ⟨X, hX⟩ : ∃ X, X = p / num B := ⟨_, rfl⟩
  obtain ⟨Y, hY⟩ : ∃ Y, Y = q / num B := ⟨_, rfl⟩
  obtain ⟨U, hU⟩ : ∃ U, U = p % num B := ⟨_, rfl⟩
  obtain ⟨Z, hZ⟩ : ∃ Z, Z = q % num B := ⟨_, rfl⟩
  rw [← hX] at x0 x1 d0 t1 t5 hv
  rw [← hY] at y0 y1 d0 t2 t6 hv
  rw [← hU] at u0 u1 d1 t3 t7 hv
  rw [← hZ] at v0 v1 d1 t4 t8 hv
  have x6 : X < 6 := by omega
  have y6 : Y < 6 := by omega
  have u6 : U < 6 := by omega
  have z6 : Z < 6 := by omega
  clear hX hY hU hZ hnb p1 q1
  cases hC : bl A X Y <;> cases hD : bl B U Z
  all_goals
    rw [hC] at d0
    rw [hD] at d1
    rw [hC, hD] at hv
    go_enter Try.func128, Try.ntmps128
    go_wp2
    go_quiet (fail)
    go_wp2
    go_ret
    exact ⟨ret_bool (by rw [hv.out]; rfl), ⟨_, rfl⟩⟩
end Go.Proofs.Ytmapofenghjinaa
