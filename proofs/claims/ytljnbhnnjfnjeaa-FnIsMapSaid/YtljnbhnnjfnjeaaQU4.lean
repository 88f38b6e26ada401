import Derived.Test.YtljnbhnnjfnjeaaQU3
import Derived.Test.YtljnbhnnjfnjeaaP2
import Derived.Test.YtljnbhnnjfnjeaaA5
import Derived.Deep.RegionHeld3
import Derived.Deep.AppendLies
namespace Go.Proofs.Ytljnbhnnjfnjeaa
open Go.RowKit
set_option linter.unusedVariables false

theorem fresh_neQ {B : Nat} {w : World} {u v v' : Value} {L : List Int} {n : Nat} (h : Own B w u L) (hn : u.ownBlock = none ∨ u.ownBlock ≠ v.ownBlock) (hat : v'.ownBlock = v.ownBlock ∨ v'.ownBlock = some n) (hl : ∀ q, u.ownBlock = some q → q < n) : u.ownBlock = none ∨ u.ownBlock ≠ v'.ownBlock := by
  rcases hat with e | e
  · rw [e]; exact hn
  · rw [e]
    cases hq : u.ownBlock with
    | none => exact .inl rfl
    | some k =>
      right
      intro he
      have := hl k hq
      simp only [Option.some.injEq] at he
      omega
/-- an algebra and a list that a model made -/
def RetRdS (L : List Int) (T : List (List Int)) (V : List Int) (w : World) (e : Ending) (w' : World) : Prop :=
  ∃ a ca b cb s q, e = .returned (.tuple #[.agg #[.slice a L.length ca, .slice b T.length cb], .slice s V.length q]) ∧ Own w.heap.size w' (.slice a L.length ca) L ∧ RowsAt w.heap.size w' (.slice b T.length cb) T ∧ Own w.heap.size w' (.slice s V.length q) V ∧ Below w.heap.size w w'
set_option maxRecDepth 100000 in
set_option maxHeartbeats 8000000 in
/-- spec.quotient -/
theorem specQuotientS_any (a b : Option Addr) (ca cb : Nat) (L : List Int) (T : List (List Int)) (f : Int) (w : World) (hr : Rd w a L) (hT : RdT w b T) (haf : afB L T f = true) : Calls Try.prog 50 #[.agg #[.slice a L.length ca, .slice b T.length cb], .int .i64 f] w (RetRdS (upL (quG L T f) ((quW L T f).length : Int)) (tabL (quM L T f) ((quW L T f).length : Int)) (quT L T f) w) := by
  obtain ⟨h, hf, f0, f6⟩ := afB_parts haf
  obtain ⟨i0, hi, hz0, hz1, hz2⟩ := info_parts info_int
  obtain ⟨i1, hi1, hy0, hy1, hy2⟩ := info_parts info_ints
  obtain ⟨l1, l6, hsA⟩ := latB_parts (alg_lat h)
  have n1 : 1 ≤ (L.length : Int) := l1
  have n6 : (L.length : Int) ≤ 6 := l6
  have nl1 : num L ≤ (L.length : Int) := Int.le_refl _
  have nl2 : (L.length : Int) ≤ num L := Int.le_refl _
  have W6 := quW_6 haf
  have W0 := quW_pos (L := L) (T := T) (f := f)
  have HWE := Lib.hid (show ∀ i, 0 ≤ i → i < ((quW L T f).length : Int) → El L (nth (quW L T f) i) from fun i i0 i1 => (quW_el h hf i0 i1).1)
  have HQ := Lib.hid (show ∀ x, El L x → 0 ≤ quC L T f x ∧ quC L T f x < ((quW L T f).length : Int) from fun x hx => ⟨(quC_ok h hf hx).1, (quC_ok h hf hx).2.1⟩)
  have HTL := Lib.hid (show (quT L T f).length = L.length from quT_len (by omega))
  have HTN := Lib.hid (show ∀ x, El L x → nth (quT L T f) x = quC L T f x from fun x hx => by unfold quT; exact lstTo_nth _ hx.1 hx.2)
  have HFE := Lib.hid (show ∀ i, 0 ≤ i → i < ((quW L T f).length : Int) → nth (quF L T f (num L).toNat) i = nth (quW L T f) i from fun i i0 i1 => quF_end h hf i0 i1)
  have HFL := Lib.hid (show ∀ k, (quF L T f k).length = (quW L T f).length from fun k => quF_len k)
  obtain ⟨ab, ao, rfl, _⟩ := hr (lat_ne l1)
  obtain ⟨tb, tof, rfl, _⟩ := tab_of hT (alg_shape h) l1
  obtain ⟨w1, hw1⟩ : ∃ w1, w1 = (w.alloc (.cells #[.slice (some ⟨ab, ao, none⟩) L.length ca, .slice (some ⟨tb, tof, none⟩) T.length cb] 26)).alloc (.cells #[.slice none 0 0, .slice none 0 0] 26) := ⟨_, rfl⟩
  have hB : Below w.heap.size w w1 := by rw [hw1]; exact ((Below.refl _ _).alloc (Nat.le_refl _) _).alloc (by simp) _
  have hx : w1.heap[w.heap.size]? = some (.cells #[.slice (some ⟨ab, ao, none⟩) L.length ca, .slice (some ⟨tb, tof, none⟩) T.length cb] 26 (0, 0)) := by rw [hw1, Below.heap_alloc _ _ _ (by simp)]; exact heap_alloc_new w _
  have hz : w1.heap[w.heap.size + 1]? = some (.cells #[.slice none 0 0, .slice none 0 0] 26 (0, 0)) := by rw [hw1]; exact heap_alloc2_new _ _ _
  have Kx := Lib.hid (show ∀ wz, Below w1.heap.size w1 wz → wz.heap[w.heap.size]? = some (.cells #[.slice (some ⟨ab, ao, none⟩) L.length ca, .slice (some ⟨tb, tof, none⟩) T.length cb] 26 (0, 0)) from fun wz h => (h.block _ (lt_of_block hx)).trans hx)
  have Kz := Lib.hid (show ∀ wz, Below w1.heap.size w1 wz → wz.heap[w.heap.size + 1]? = some (.cells #[.slice none 0 0, .slice none 0 0] 26 (0, 0)) from fun wz h => (h.block _ (lt_of_block hz)).trans hz)
  have KR := Lib.hid (show ∀ wz, Below w1.heap.size w1 wz → Rd wz (some ⟨ab, ao, none⟩) L from fun wz h => (hr.below hB).below h)
  have KT := Lib.hid (show ∀ wz, Below w1.heap.size w1 wz → RdT wz (some ⟨tb, tof, none⟩) T from fun wz h => (hT.below hB).below h)
  obtain ⟨tb', tof', e1, rb, ro, rc, hTA⟩ := tab_of (hT.below hB) (alg_shape h) l1
  simp only [Option.some.injEq, Addr.mk.injEq] at e1
  obtain ⟨rfl, rfl, _⟩ := e1
  have KA := Lib.hid (show ∀ wz, Below w1.heap.size w1 wz → TabAt wz tb tof (num L) L.length rb ro rc T from fun wz hb => hTA.below hb)
  have HA := Lib.hid h
  have HAF := Lib.hid haf
  have hsz : w.heap.size + 1 < w1.heap.size := lt_of_block hz
  have hmk := run_make_ints (quW L T f).length (by omega)
  have z1 : Below w1.heap.size w1 w1 := Below.refl _ _
  have s1 := hB.size
  have kw : IntKind.i64.wrap ((((quT L T f).length : Nat) : Int) - 1) = (L.length : Int) - 1 := (IntWalk.i64_in _ (by have := HTL.out; omega)).trans (by have := HTL.out; omega)
  clear h haf hf hr hT hx hz hTA l1 l6
  go_enter Try.func50, Try.ntmps50
  go_wp2_with (first
    | (rw [← hw1]; clear hw1)
    | (refine wpList_load_row_w rfl 26 _ rfl w.heap.size rfl _ _ _ _ (Kx.out _ (by assumption)) Try.underlying26 rfl (size_Alg _ _) ?_)
    | (go_at_call 81; refine (numbersOfQ_any _ _ _ _ L T f _ (KR.out _ z1) (KT.out _ z1) HAF.out).mono ?_; rintro e w2 ⟨a2, cto, rfl, o2, h2⟩; have z2 : Below w1.heap.size w1 w2 := h2; have s2 := h2.size; obtain ⟨gto, rfl, lto, tto, hcT⟩ := own_ix o2 (by have := HTL.out; omega); have HOT := Lib.hid o2; have KTo := Lib.hid hcT; clear hcT h2 o2))
  clear hmk kw
  go_loopw [9] (fun xv wr => ∃ k : Nat, (k : Int) ≤ L.length ∧ xv = .int .i64 ((L.length : Int) - 1 - k) ∧ Row wr w2.heap.size (quF L T f k) ∧ Below w2.heap.size w2 wr) (fun xv _ => (intOf xv + 1).toNat)
  case atStart => exact ⟨0, by omega, by simp, heap_alloc_new w2 _, (Below.refl _ _).alloc (Nat.le_refl _) _⟩
  case round =>
    obtain ⟨k, k1, rfl, hrow, hbel⟩ := hrel
    have sb := hbel.size
    by_cases hk : (k : Int) < L.length
    · have x0 : 0 ≤ (L.length : Int) - 1 - k := by omega
      obtain ⟨x, hxe⟩ : ∃ x : Int, x = (L.length : Int) - 1 - k := ⟨_, rfl⟩
      have hset := Lib.hid (show (quF L T f k).set (quC L T f x).toNat x = quF L T f (k + 1) from by rw [hxe]; rfl)
      rw [← hxe] at x0 ⊢
      have hx : x < (L.length : Int) := by omega
      have c0 := KTo.out _ hbel x x0 (by have := HTL.out; omega)
      rw [HTN.out x ⟨x0, hx⟩] at c0
      obtain ⟨q0, q1⟩ := HQ.out x ⟨x0, hx⟩
      have hxt : x < ((quT L T f).length : Int) := by have := HTL.out; omega
      obtain ⟨q, hq⟩ : ∃ q, q = quC L T f x := ⟨_, rfl⟩
      rw [← hq] at c0 q0 q1 hset
      have c1 := hrow.cell q0 (by rw [HFL.out]; exact q1)
      have f1 := hrow.free q.toNat
      have hwx : IntKind.i64.wrap (x - 1) = x - 1 := IntWalk.i64_in _ (by omega)
      have HX := Lib.hid hxe
      clear hq hxe
      go_wp2
      go_roundw
      case rel => exact ⟨k + 1, by omega, by have := HX.out; congr 1; omega, by rw [← hset.out]; exact hrow.set _ _, hbel.setCell (by simp) _⟩
      case measure => simp [intOf]; omega
    · have e : (k : Int) = L.length := by omega
      have ek : k = L.length := by omega
      have zL : Below w1.heap.size w1 wr := z2.trans (hbel.mono z2.size)
      obtain ⟨wL, hwL⟩ : ∃ x : World, x = wr := ⟨_, rfl⟩
      rw [← hwL] at zL sb hrow hbel ⊢
      clear hwL
      have sL := zL.size
      have y2L := hbel
      have s2L := hbel.size
      have hrow2 : Row wL w2.heap.size (quF L T f (num L).toNat) := by rw [ek] at hrow; exact hrow
      have ltg := hrow2.lt
      obtain ⟨g, hg⟩ : ∃ g : Nat, g = w2.heap.size := ⟨_, rfl⟩
      rw [← hg] at hrow2 ltg
      have KW := Lib.hid (show ∀ wz, Below wL.heap.size wL wz → ∀ k : Int, 0 ≤ k → k < ((quW L T f).length : Int) → wz.cell? ⟨g, k.toNat, none⟩ = some (.int .i64 (nth (quW L T f) k)) from fun wz hb k k0 k1 => by
        have := (hrow2.below hb hrow2.lt).cell k0 (by rw [HFL.out]; exact k1)
        rw [HFE.out k k0 k1] at this
        exact this)
      have KTO := Lib.hid (show ∀ wz, Below wL.heap.size wL wz → ∀ x y : Int, 0 ≤ x → x < ((quW L T f).length : Int) → 0 ≤ y → y < ((quW L T f).length : Int) → wz.cell? ⟨gto, (tv T (nth (quW L T f) x) (nth (quW L T f) y)).toNat, none⟩ = some (.int .i64 ((quM L T f) x y)) from fun wz hb x y x0 x1 y0 y1 => by
        have hel := tv_el HA.out (HWE.out x x0 x1) (HWE.out y y0 y1)
        exact KTo.out _ (y2L.trans (hb.mono s2L)) _ hel.1 (by have := HTL.out; have := hel.2; omega))
      clear hrow hrow2 ek
      rw [← hg] at *
      skip
      go_wp2_with (refine wpList_store_row rfl 26 _ _ rfl wL.heap.size #[.slice none 0 0, .slice none 0 0] rfl rfl _ _ (heap_alloc_new wL (.cells #[.slice none 0 0, .slice none 0 0] 26)) (size_Alg _ _) rfl (one_sl2 _ _ _ _ _ _) ?_; rw [World.setRow_alloc_new]; obtain ⟨gq, hgq⟩ : ∃ g : Nat, g = wL.heap.size := ⟨_, rfl⟩; obtain ⟨w3, hw3⟩ : ∃ x : World, x = wL.alloc (.cells #[.slice none 0 0, .slice none 0 0] 26) := ⟨_, rfl⟩; rw [← hw3, ← hgq]; have hx3 : w3.heap[gq]? = some (.cells #[.slice none 0 0, .slice none 0 0] 26 (0, 0)) := (by rw [hw3, hgq]; exact heap_alloc_new wL _); have z3 : Below wL.heap.size wL w3 := (by rw [hw3]; exact (Below.refl _ _).alloc (Nat.le_refl _) _); have hgl : wL.heap.size ≤ gq := Nat.le_of_eq hgq.symm; clear hw3 hgq)
      go_loopw [11, 12, 13, 14] (fun xv _ _ _ wr => ∃ x : Int, 0 ≤ x ∧ x ≤ ((quW L T f).length : Int) ∧ xv = .int .i64 x ∧ (∃ u v, wr.heap[gq]? = some (.cells #[u, v] 26 (0, 0)) ∧ Own wL.heap.size wr u (upQ (quG L T f) ((quW L T f).length : Int) x) ∧ RowsX wL.heap.size wr v (tabK (quM L T f) ((quW L T f).length : Int) x) u.ownBlock) ∧ Below wL.heap.size wL wr) (fun xv _ _ _ _ => (6 - intOf xv).toNat)
      case atStart => exact ⟨0, by omega, by omega, rfl, ⟨_, _, hx3, Own.nothing _ _, RowsX.nothing _ _ _⟩, z3⟩
      case round =>
        clear hbel
        obtain ⟨x, x0, x1, rfl, ⟨uv, v, hxg, hup, hrows⟩, hbel⟩ := hrel
        obtain ⟨tb2, tc2, rfl, _⟩ := hrows.at.rd
        obtain ⟨ua, uc, rfl, _⟩ := hup.slice
        by_cases hx : x < ((quW L T f).length : Int)
        · obtain ⟨wo, rfl⟩ : ∃ wo : World, wo = wr := ⟨_, rfl⟩
          have hlo := hbel.size
          obtain ⟨p0, p1⟩ := HWE.out x x0 hx
          have p30 : nth (quW L T f) x ≤ 30 := by omega
          go_wp2
          go_loopw [12, 13, 14] (fun pv rv yv wr => ∃ y : Int, 0 ≤ y ∧ y ≤ ((quW L T f).length : Int) ∧ yv = .int .i64 y ∧ pv = .int .i64 (rowTo ((quG L T f) x) y) ∧ Own wo.heap.size wr rv (lstTo ((quM L T f) x) y) ∧ Below wo.heap.size wo wr) (fun _ _ yv _ => (6 - intOf yv).toNat)
          case atStart => exact ⟨0, by omega, by omega, rfl, rfl, Own.row (L := []) (heap_alloc_new wo _) (Nat.le_refl _) (Nat.zero_le _), (Below.refl _ _).alloc (Nat.le_refl _) _⟩
          case round =>
            obtain ⟨y, y0, y1, rfl, rfl, hown, hbi⟩ := hrel
            by_cases hy : y < ((quW L T f).length : Int)
            · obtain ⟨q0, q1⟩ := HWE.out y y0 hy
              have q30 : nth (quW L T f) y ≤ 30 := by omega
              obtain ⟨t0, t1⟩ := tv_el HA.out (show El L (nth (quW L T f) x) from ⟨p0, p1⟩) (show El L (nth (quW L T f) y) from ⟨q0, q1⟩)
              obtain ⟨m0, m1⟩ := imp_el HA.out (nth (quW L T f) x) (nth (quW L T f) y)
              have pt : nth (quW L T f) x < (T.length : Int) := by have := shape_len (alg_shape HA.out); have hnn : num L = L.length := rfl; omega
              have ql : nth (quW L T f) y < (L.length : Int) := q1
              have vj : tv T (nth (quW L T f) x) (nth (quW L T f) y) < ((quT L T f).length : Int) := by have := HTL.out; omega
              have hrl : Below wL.heap.size wL wr := hbel.trans (hbi.mono hlo)
              have hr1 : Below w1.heap.size w1 wr := zL.trans (hrl.mono sL)
              have KWr := Lib.hid (show ∀ wz, Below wr.heap.size wr wz → ∀ k : Int, 0 ≤ k → k < ((quW L T f).length : Int) → wz.cell? ⟨g, k.toNat, none⟩ = some (.int .i64 (nth (quW L T f) k)) from fun wz hb => KW.out _ (hrl.trans (hb.mono hrl.size)))
              have K1 := Lib.hid (show ∀ wz, Below wr.heap.size wr wz → Below w1.heap.size w1 wz from fun wz hb => hr1.trans (hb.mono hr1.size))
              have hsucc := Lib.hid (lstTo_succ ((quM L T f) x) y y0)
              have hrs := Lib.hid (rowTo_succ ((quG L T f) x) y y0)
              have hlen := lstTo_len ((quM L T f) x) y y0
              obtain ⟨rb0, rb1⟩ := rowTo_bound ((quG L T f) x) y0
              have pq := pw_30 y (by omega)
              have pq0 := pw_pos y
              have kadd : IntKind.i64.wrap (rowTo ((quG L T f) x) y + pw y) = rowTo ((quG L T f) x) y + pw y := IntWalk.i64_in _ (by omega)
              have hgx : (quG L T f) x y = ib f (imp L T (nth (quW L T f) x) (nth (quW L T f) y)) := rfl
              obtain ⟨iv, hiv⟩ : ∃ i, i = imp L T (nth (quW L T f) x) (nth (quW L T f) y) := ⟨_, rfl⟩
              rw [← hiv] at m0 m1 hgx
              have HIV := Lib.hid (show ∀ wz, Below wr.heap.size wr wz → Calls Try.prog 62 #[.agg #[.slice (some ⟨ab, ao, none⟩) L.length ca, .slice (some ⟨tb, tof, none⟩) T.length cb], .int .i64 (nth (quW L T f) x), .int .i64 (nth (quW L T f) y)] wz fun e w' => e = .returned (.int .i64 iv) ∧ Below wz.heap.size wz w' from fun wz hb => by rw [hiv]; exact imply_any _ _ _ _ L T _ _ wz (KR.out _ (K1.out _ hb)) (KT.out _ (K1.out _ hb)) HA.out p0 p1 q0 q1)
              clear hiv
              cases hbl : ib f iv
              all_goals
                have HBL := Lib.hid (show bt f iv = _ from by first | exact ib_f hbl | exact ib_t hbl)
                have hst := Lib.hid (show rowTo ((quG L T f) x) (y + 1) = (if (quG L T f) x y then rowTo ((quG L T f) x) y + pw y else rowTo ((quG L T f) x) y) from hrs.out)
                rw [hgx, hbl] at hst
                clear hbl
                go_wp2
                refine region_in (Below wr.heap.size wr) (by kernel_rfl) (by kernel_rfl) (Dr.below ⟨1, rfl⟩ _) fun hne => ?_
                have r1 : ∀ s : In (Below wr.heap.size wr), s.w.cell? ⟨g, x.toNat, none⟩ = some (.int .i64 (nth (quW L T f) x)) := fun s => KWr.out _ s.h x x0 hx
                have r2 : ∀ s : In (Below wr.heap.size wr), s.w.cell? ⟨g, y.toNat, none⟩ = some (.int .i64 (nth (quW L T f) y)) := fun s => KWr.out _ s.h y y0 hy
                repeat (first
                  | (go_big_quiet_want; refine quiet_load_row 26 _ rfl w.heap.size rfl _ _ _ _ (fun w' ⟨s, hs⟩ => by rw [hs]; exact Kx.out _ (K1.out _ s.h)) Try.underlying26 rfl (size_Alg _ _) ?_; simp only [Act.put, List.setIfInBounds_toArray, List.set_cons_succ, List.set_cons_zero]; go_big_quiet_on)
                  | go_big_quiet_step ((first | (go_at_call 62; exact in_below _ (Nat.le_refl _) (HIV.out _ (In.h _))) | (go_at_call 82; exact in_same _ (bit_is f iv _ f0 f6 m0 (by omega) HBL.out)))))
                refine wpQuiet_nil ?_
                intro s
                have hq7 := s.h
                obtain ⟨w7, hw7⟩ : ∃ x : World, x = s.w := ⟨_, rfl⟩
                rw [← hw7] at hq7 ⊢
                clear hw7 r1 r2
                go_wp2_with (go_at_call 36; refine (power_any _ _ (by omega) (by omega)).mono ?_; rintro e w' ⟨rfl, rfl⟩)
                have h7l : Below wL.heap.size wL w7 := hrl.trans (hq7.mono hrl.size)
                have h71 := K1.out _ hq7
                have own7 := hown.below hq7
                have hb7 : Below wo.heap.size wo w7 := hbi.trans (hq7.mono hbi.size)
                have hs7 := hb7.size
                obtain ⟨va, vc, rfl, _⟩ := own7.slice
                have c0 : w7.cell? ⟨w.heap.size, 1, none⟩ = some (.slice (some ⟨tb, tof, none⟩) T.length cb) := (bx_cells (Kx.out _ h71)).2
                have c1 : w7.cell? ⟨g, x.toNat, none⟩ = some (.int .i64 (nth (quW L T f) x)) := KW.out _ h7l x x0 hx
                have c2 : w7.cell? ⟨g, y.toNat, none⟩ = some (.int .i64 (nth (quW L T f) y)) := KW.out _ h7l y y0 hy
                have c3 : w7.cell? ⟨tb, tof + (nth (quW L T f) x).toNat, none⟩ = some (.slice (some ⟨rb (nth (quW L T f) x), ro (nth (quW L T f) x), none⟩) L.length (rc (nth (quW L T f) x))) := (KA.out _ h71).row p0 p1
                have c4 : w7.cell? ⟨rb (nth (quW L T f) x), ro (nth (quW L T f) x) + (nth (quW L T f) y).toNat, none⟩ = some (.int .i64 (tv T (nth (quW L T f) x) (nth (quW L T f) y))) := (KA.out _ h71).cell p0 p1 q0 q1
                have c5 : w7.cell? ⟨gto, (tv T (nth (quW L T f) x) (nth (quW L T f) y)).toNat, none⟩ = some (.int .i64 ((quM L T f) x y)) := KTO.out _ h7l x y x0 hx y0 hy
                have b0 : w.heap.size < wo.heap.size := by omega
                have b1 : g < wo.heap.size := by omega
                have b2 : tb < wo.heap.size := by have := block_lt_of_cell ((KA.out _ (Below.refl _ _)).row p0 p1); simp at this; omega
                have b3 : rb (nth (quW L T f) x) < wo.heap.size := by have := block_lt_of_cell ((KA.out _ (Below.refl _ _)).cell p0 p1 q0 q1); simp at this; omega
                have b4 : gto < wo.heap.size := by omega
                have hno : ∀ B, B < wo.heap.size → some B ≠ (Value.slice va (lstTo ((quM L T f) x) y).length vc).ownBlock := fun B hB e => by
                  have := (World.ownsRow.lt own7 B e.symm).1
                  omega
                have HNO := Lib.hid hno
                have OW := Lib.hid own7
                clear hno own7 hown
                go_region_held3 (fun w' => w'.cell? ⟨w.heap.size, 1, none⟩ = some (.slice (some ⟨tb, tof, none⟩) T.length cb) ∧ w'.cell? ⟨g, x.toNat, none⟩ = some (.int .i64 (nth (quW L T f) x)) ∧ w'.cell? ⟨g, y.toNat, none⟩ = some (.int .i64 (nth (quW L T f) y)) ∧ w'.cell? ⟨tb, tof + (nth (quW L T f) x).toNat, none⟩ = some (.slice (some ⟨rb (nth (quW L T f) x), ro (nth (quW L T f) x), none⟩) L.length (rc (nth (quW L T f) x))) ∧ w'.cell? ⟨rb (nth (quW L T f) x), ro (nth (quW L T f) x) + (nth (quW L T f) y).toNat, none⟩ = some (.int .i64 (tv T (nth (quW L T f) x) (nth (quW L T f) y))) ∧ w'.cell? ⟨gto, (tv T (nth (quW L T f) x) (nth (quW L T f) y)).toNat, none⟩ = some (.int .i64 ((quM L T f) x y)))
                  (first
                    | go_keep
                    | (go_split_ands
                       refine ⟨?_, ?_, ?_, ?_, ?_, ?_⟩
                       · (rw [hgrow.cell_far _ (by simp; omega) (HNO.out _ b0)]; assumption)
                       · (rw [hgrow.cell_far _ (by simp; omega) (HNO.out _ b1)]; assumption)
                       · (rw [hgrow.cell_far _ (by simp; omega) (HNO.out _ b1)]; assumption)
                       · (rw [hgrow.cell_far _ (by simp; omega) (HNO.out _ b2)]; assumption)
                       · (rw [hgrow.cell_far _ (by simp; omega) (HNO.out _ b3)]; assumption)
                       · (rw [hgrow.cell_far _ (by simp; omega) (HNO.out _ b4)]; assumption)))
                  ((refine step_append_lies _ (by rfl) _ _ _ (by rfl) wo.heap.size 3 i0 _ 1 8 Try.underlying23 hi hz0 hz1 hz2 rfl (by omega) _ _ _ (by rfl) (World.ownsRow.drew (World.ownsRow.alloc OW.out _))
                      ⟨w7.heap.size, 0, none⟩ 1 1 [.int .i64 ((quM L T f) x y)] (by rfl) (by rfl) (World.news_of_block (cs := #[.int .i64 ((quM L T f) x y)]) (t := 3) (fr := (0, 0)) (heap_alloc_new w7 _)) (by simp [Value.oneCell'])
                      (by omega) (by have := lstTo_len ((quM L T f) x) y y0; unfold maxLen; omega) (by have := lstTo_len ((quM L T f) x) y y0; omega) (by simp; omega) (w7.heap.size + 1) (by simp) ?_; intro gg cap w9 hown1 hgrow hat hlt))
                have hb9 : Below wo.heap.size wo w9 := ((hb7.alloc hs7 _).drew).grown hgrow (by simp; omega) (fun q hq => (World.ownsRow.lt OW.out q hq).1)
                clear c0 c1 c2 c3 c4 c5 hgrow hat
                go_wp2
                exact ⟨⟨y + 1, by omega, by omega, rfl, by rw [hst.out]; rfl, by unfold Own; rw [hsucc.out, List.map_append, List.length_append]; exact hown1, hb9⟩, by simp [intOf]; omega⟩
            · have e : y = ((quW L T f).length : Int) := by omega
              rw [e] at hown ⊢
              obtain ⟨ra, rc2, rfl, _⟩ := hown.slice
              have hg1 := (hbi.block gq (lt_of_block hxg)).trans hxg
              obtain ⟨d0, d1⟩ := bx_cells hg1
              have hrowsB := hrows.below hbi
              have hupB := hup.below hbi
              have hrx := own_new hown hup (Nat.le_refl _)
              have hra0 := hown.from hlo
              have hsz2 := hbi.size
              have hbl0 : Below wL.heap.size wL wr := hbel.trans (hbi.mono hlo)
              have tl := Lib.hid (tabK_len (quM L T f) ((quW L T f).length : Int) x)
              have ul := Lib.hid (upQ_len (quG L T f) ((quW L T f).length : Int) x)
              have hsu := Lib.hid (upQ_succ (quG L T f) ((quW L T f).length : Int) x x0)
              have hst := Lib.hid (tabK_succ (quM L T f) ((quW L T f).length : Int) x x0)
              have hupa := World.ownsRow.alloc hupB (Obj.cells #[.int .i64 (rowTo ((quG L T f) x) ((quW L T f).length : Int))] 3)
              clear hrows hup hown
              go_wp2_with (first
                | (at_builtin; refine wpList_append_own_at _ rfl _ _ 23 rfl wL.heap.size 3 i0 (.int .i64 0) 1 8 Try.underlying23 hi hz0 hz1 hz2 rfl (by decide) _ _ _ rfl hupa ⟨wr.heap.size, 0, none⟩ 1 1 [.int .i64 (rowTo ((quG L T f) x) ((quW L T f).length : Int))] rfl rfl (cell_one_new _ _ _) (fun x hx => by simp at hx; subst hx; rfl) (by have := ul.out; unfold maxLen; omega) (by have := ul.out; omega) (by simp; omega) ?_; intro v2 w8 hown8 hgrow8 _ hat8; have hg7 := (heap_alloc_old wr (Obj.cells #[.int .i64 (rowTo ((quG L T f) x) ((quW L T f).length : Int))] 3) (lt_of_block hg1)).trans hg1; have hg8 := grown_keep hgrow8 hupa hg7 (by decide); obtain ⟨e4, e5⟩ := bx_cells hg8; have f8 := frozen_of_row w8 _ 0 _ _ hg8; obtain ⟨va, vn, vc, rfl⟩ := own_shape hown8; have hr8 := RowsX.grown (hrowsB.below ((Below.refl _ _).alloc (Nat.le_refl _) (Obj.cells #[.int .i64 (rowTo ((quG L T f) x) ((quW L T f).length : Int))] 3))) hgrow8 hupa hat8; have hra8 : Own wL.heap.size w8 _ _ := World.ownsRow.kept (hra0.alloc (Obj.cells #[.int .i64 (rowTo ((quG L T f) x) ((quW L T f).length : Int))] 3)) hgrow8 hrx; have hrx8 := fresh_neQ hra8 hrx hat8 (fun q hq => by have := (World.ownsRow.lt hra0 q hq).2; simp; omega); have hb8 : Below wL.heap.size wL w8 := (hbl0.alloc (by omega) _).grown hgrow8 (by simp; omega) (fun q hq => (World.ownsRow.lt hupa q hq).1); clear hgrow8 hupa hg7 hat8 hrowsB hra0 hrx)
                | (obtain ⟨w9, hw9⟩ : ∃ wq : World, wq = w8.setCell ⟨gq, 0, none⟩ (.slice va vn vc) := ⟨_, rfl⟩; rw [← hw9]; have hg9 : w9.heap[gq]? = some (.cells #[.slice va vn vc, .slice tb2 (tabK (quM L T f) ((quW L T f).length : Int) x).length tc2] 26 (0, 0)) := (by rw [hw9, setCell_eq_setRow w8 _ _ _ _ _ _ hg8, setRow_heap w8 _ _ _ _ _ hg8]; rfl); have ho9 : ∀ k, k ≠ gq → w9.heap[k]? = w8.heap[k]? := (fun k hk => by rw [hw9]; exact heap_setCell_other w8 _ k _ hk); have hr9 := RowsX.other hr8 hg8 (by decide) (by decide) ho9; have hu9 := ownsRow_other hown8 hg8 (by decide) ho9; have hra9 : Own wL.heap.size w9 _ _ := ownsRow_other hra8 hg8 (by decide) ho9; have hb9 : Below wL.heap.size wL w9 := (by rw [hw9]; exact hb8.setCell (by simp; omega) _); have s9 := hb9.size; obtain ⟨e6, e7⟩ := bx_cells hg9; obtain ⟨vs, h1v, h2v⟩ := hr9; have h1a := World.ownsRow.alloc h1v (Obj.cells #[.slice ra (lstTo ((quM L T f) x) ((quW L T f).length : Int)).length rc2] 23); have h2a := Lib.hid (show ∀ j : Nat, j < (tabK (quM L T f) ((quW L T f).length : Int) x).length → ∃ u, vs[j]? = some u ∧ Own wL.heap.size (w9.alloc (Obj.cells #[.slice ra (lstTo ((quM L T f) x) ((quW L T f).length : Int)).length rc2] 23)) u (rowAt (tabK (quM L T f) ((quW L T f).length : Int) x) j) ∧ (u.ownBlock = none ∨ u.ownBlock ≠ (Value.slice va vn vc).ownBlock) from fun j hj => by obtain ⟨u, hu, ho, hn⟩ := h2v j hj; exact ⟨u, hu, ho.alloc _, hn⟩); have hraa := hra9.alloc (Obj.cells #[.slice ra (lstTo ((quM L T f) x) ((quW L T f).length : Int)).length rc2] 23); have hu9a := World.ownsRow.alloc hu9 (Obj.cells #[.slice ra (lstTo ((quM L T f) x) ((quW L T f).length : Int)).length rc2] 23); have hg9a := (heap_alloc_old w9 (Obj.cells #[.slice ra (lstTo ((quM L T f) x) ((quW L T f).length : Int)).length rc2] 23) (lt_of_block hg9)).trans hg9; have hb9a := hb9.alloc s9 (Obj.cells #[.slice ra (lstTo ((quM L T f) x) ((quW L T f).length : Int)).length rc2] 23); clear hw9 e4 e5 f8 hown8 hr8 hra8 hb8 h2v)
                | (at_builtin; refine wpList_append_own _ rfl _ _ 24 rfl wL.heap.size 23 i1 (.slice none 0 0) 1 24 Try.underlying24 hi1 hy0 hy1 hy2 rfl (by decide) _ _ _ rfl h1a ⟨w9.heap.size, 0, none⟩ 1 1 [.slice ra (lstTo ((quM L T f) x) ((quW L T f).length : Int)).length rc2] rfl rfl (cell_one_new _ _ _) (fun x hx => by simp at hx; subst hx; rfl) (by have := tl.out; unfold maxLen; omega) (by have := tl.out; omega) (by simp; omega) ?_; intro v3 w10 hown10 hgrow10 _; have hg10 := grown_keep hgrow10 h1a hg9a (by decide); have hr10 := RowsX.push h1a h2a.out hraa hrx8 hown10 hgrow10; have hu10 := World.ownsRow.kept hu9a hgrow10 (own_types hu9a h1a (by decide)); have hb10 : Below wL.heap.size wL w10 := hb9a.grown hgrow10 (by simp; omega) (fun q hq => (World.ownsRow.lt h1a q hq).1); obtain ⟨k0, k1⟩ := bx_cells hg10; have f10 := frozen_of_row w10 _ 1 _ _ hg10; obtain ⟨za, zn, zc, rfl⟩ := own_shape hown10))
              have ho11 : ∀ k, k ≠ gq → (w10.setCell ⟨gq, 1, none⟩ (.slice za zn zc)).heap[k]? = w10.heap[k]? := fun k hk => heap_setCell_other w10 _ k _ hk
              have hr11 := RowsX.other hr10 hg10 (by decide) (by decide) ho11
              rw [← hst.out] at hr11
              have hu11 : Own wL.heap.size (w10.setCell ⟨gq, 1, none⟩ (.slice za zn zc)) (.slice va vn vc) (upQ (quG L T f) ((quW L T f).length : Int) (x + 1)) := by
                rw [hsu.out]
                refine ownsRow_other ?_ hg10 (by decide) ho11
                rw [List.map_append, List.length_append]; exact hu10
              refine ⟨⟨x + 1, by omega, by omega, rfl, ⟨_, _, ?_, hu11, hr11⟩, hb10.setCell (by simp; omega) _⟩, by simp [intOf]; omega⟩
              rw [setCell_eq_setRow w10 _ _ _ _ _ _ hg10, setRow_heap w10 _ _ _ _ _ hg10]
              rfl
        · have e : x = ((quW L T f).length : Int) := by omega
          rw [e] at hrows hxg hup
          have hz := Kz.out _ (zL.trans (hbel.mono sL))
          have zz := zL.trans (hbel.mono sL)
          have hsB := hB.size
          go_wp2_with (first
            | (refine wpList_load_row_w rfl 26 _ rfl gq rfl _ _ _ _ hxg Try.underlying26 rfl (size_Alg _ _) ?_)
            | (refine wpList_store_row rfl 26 _ _ rfl (w.heap.size + 1) #[.slice ua (upQ (quG L T f) ((quW L T f).length : Int) ((quW L T f).length : Int)).length uc, .slice tb2 (tabK (quM L T f) ((quW L T f).length : Int) ((quW L T f).length : Int)).length tc2] rfl rfl _ _ hz (size_Alg _ _) rfl (one_sl2 _ _ _ _ _ _) ?_))
          refine bodyPost_ret (v := .tuple #[.agg #[.slice ua (upQ (quG L T f) ((quW L T f).length : Int) ((quW L T f).length : Int)).length uc, .slice tb2 (tabK (quM L T f) ((quW L T f).length : Int) ((quW L T f).length : Int)).length tc2], .slice (some ⟨gto, 0, none⟩) (quT L T f).length cto]) (results_Alg_tmp rfl _ _ (w.heap.size + 1) rfl _ _ (setRow_heap _ _ _ _ _ _ hz) rfl) rfl ?_
          have hr6 := RowsAt.other hrows.at hz (by decide) (by decide) (fun k hk => setRow_other wr (w.heap.size + 1) k #[.slice ua (upQ (quG L T f) ((quW L T f).length : Int) ((quW L T f).length : Int)).length uc, .slice tb2 (tabK (quM L T f) ((quW L T f).length : Int) ((quW L T f).length : Int)).length tc2] hk)
          have hu6 := ownsRow_other hup hz (by decide) (fun k hk => setRow_other wr (w.heap.size + 1) k #[.slice ua (upQ (quG L T f) ((quW L T f).length : Int) ((quW L T f).length : Int)).length uc, .slice tb2 (tabK (quM L T f) ((quW L T f).length : Int) ((quW L T f).length : Int)).length tc2] hk)
          have ho6 := ownsRow_other (HOT.out.below (y2L.trans (hbel.mono s2L))) hz (by decide) (fun k hk => setRow_other wr (w.heap.size + 1) k #[.slice ua (upQ (quG L T f) ((quW L T f).length : Int) ((quW L T f).length : Int)).length uc, .slice tb2 (tabK (quM L T f) ((quW L T f).length : Int) ((quW L T f).length : Int)).length tc2] hk)
          exact ⟨ua, uc, tb2, tc2, _, _, rfl, ownsRow_from hu6 (by omega), RowsAt.from hr6 (by omega), ownsRow_from ho6 (by omega), below_setRow' (hB.trans (zz.mono hB.size)) (by omega) _⟩
end Go.Proofs.Ytljnbhnnjfnjeaa
