import Derived.Test.YtjcambkjcagcoaaGreatN12
namespace Go.Proofs.YtjcambkjcagcoaaGreat
open Go.RowKit

/-- among V the set f lies under none but itself -/
def grT (f g : Int) : Bool := ib g 0 || g == f || !hasA g f
def grV (V : List Int) (f : Int) : Bool := !ib f 0 && V.all fun g => grT f g
theorem grs_V (L : List Int) (T : List (List Int)) : grs L T = (fls L T).filter (grV (fls L T)) := rfl
/-- what spec.greatest knows of f after k of V -/
structure GK (V : List Int) (f k : Int) (ok : Bool) : Prop where
  t : ok = true → ib f 0 = false ∧ ∀ j : Int, 0 ≤ j → j < k → grT f (nth V j) = true
  f : ok = false → grV V f = false
theorem GK.start (V : List Int) (f : Int) : GK V f 0 (!ib f 0) := by
  refine ⟨fun h => ⟨by simpa using h, fun j j0 j1 => by omega⟩, fun h => ?_⟩
  unfold grV; rw [h, Bool.false_and]
theorem GK.succ {V : List Int} {f k : Int} (h : GK V f k true) (hg : grT f (nth V k) = true) : GK V f (k + 1) true := by
  refine ⟨fun _ => ⟨(h.t rfl).1, fun j j0 j1 => ?_⟩, fun h => by simp at h⟩
  by_cases e : j = k
  · rw [e]; exact hg
  · exact (h.t rfl).2 j j0 (by omega)
theorem GK.fail {V : List Int} {f k : Int} (k0 : 0 ≤ k) (hk : k < V.length) (hg : grT f (nth V k) = false) : GK V f (k + 1) false := by
  refine ⟨fun h => by simp at h, fun _ => ?_⟩
  unfold grV
  rw [show (V.all fun g => grT f g) = false from ?_, Bool.and_false]
  rw [List.all_eq_false]
  exact ⟨nth V k, nth_mem _ k0 hk, by rw [hg]; simp⟩
theorem GK.done {V : List Int} {f k : Int} (hk : (V.length : Int) ≤ k) (h : GK V f k true) : grV V f = true := by
  unfold grV
  rw [(h.t rfl).1, Bool.not_false, Bool.true_and, List.all_eq_true]
  intro g hg
  obtain ⟨i, hi, rfl⟩ := List.getElem_of_mem hg
  have := (h.t rfl).2 (i : Int) (by omega) (by omega)
  rwa [show nth V (i : Int) = V[i] by unfold nth; rw [Int.toNat_natCast, List.getD_eq_getElem?_getD, List.getElem?_eq_getElem hi]; rfl] at this
theorem bt_not (f : Int) : (bt f 0 == 0) = !ib f 0 := by
  cases h : ib f 0 with
  | true => rw [ib_t h]; rfl
  | false => rw [ib_f h]; rfl
set_option maxRecDepth 100000 in
set_option maxHeartbeats 4000000 in
/-- spec.greatest -/
theorem specGreatest_any (a b : Option Addr) (ca cb : Nat) (L : List Int) (T : List (List Int)) (w : World) (hr : Rd w a L) (hT : RdT w b T) (h : algB L T = true) :
    Calls Tryz.prog 76 #[.agg #[.slice a L.length ca, .slice b T.length cb]] w (RetSl w.heap.size (grs L T) w) := by
  obtain ⟨w1, hw1⟩ : ∃ w1, w1 = w.alloc (.cells #[.slice a L.length ca, .slice b T.length cb] 26) := ⟨_, rfl⟩
  have hB : Below w.heap.size w w1 := by rw [hw1]; exact (Below.refl _ _).alloc (Nat.le_refl _) _
  have hx : w1.heap[w.heap.size]? = some (.cells #[.slice a L.length ca, .slice b T.length cb] 26 (0, 0)) := by rw [hw1]; exact heap_alloc_new w _
  obtain ⟨c0, c1⟩ := bx_cells hx
  have Kx := Lib.hid (show ∀ wz, Below w1.heap.size w1 wz → wz.heap[w.heap.size]? = some (.cells #[.slice a L.length ca, .slice b T.length cb] 26 (0, 0)) from fun wz h => (h.block _ (lt_of_block hx)).trans hx)
  have KR := Lib.hid (show ∀ wz, Below w1.heap.size w1 wz → Rd wz a L from fun wz h => (hr.below hB).below h)
  have KT := Lib.hid (show ∀ wz, Below w1.heap.size w1 wz → RdT wz b T from fun wz h => (hT.below hB).below h)
  have z1 : Below w1.heap.size w1 w1 := Below.refl _ _
  clear hr hT hx
  have n6 := (lat_len (alg_lat h)).2
  obtain ⟨V, hV⟩ : ∃ V, V = fls L T := ⟨_, rfl⟩
  have hlen : V.length ≤ 64 := by rw [hV]; exact fls_len L T n6
  have hv := Lib.hid (show grs L T = V.filter (grV V) by rw [hV]; exact grs_V L T)
  have HM := Lib.hid (show ∀ i : Int, 0 ≤ i → i < V.length → 0 ≤ nth V i ∧ nth V i ≤ 63 from fun i i0 i1 => by rw [hV] at i1 ⊢; exact fls_63 (alg_lat h) (nth_mem _ i0 i1))
  have HF := Lib.hid (show ∀ (a b : Option Addr) (ca cb : Nat) (w : World), Rd w a L → RdT w b T → Calls Tryz.prog 47 #[.agg #[.slice a L.length ca, .slice b T.length cb]] w (RetSl w.heap.size V w) from fun a b ca cb w h1 h2 => by rw [hV]; exact specFilters_any a b ca cb L T w h1 h2 h)
  obtain ⟨i0, hi, hz0, hz1, hz2⟩ := info_parts info_int
  have hs1 := hB.size
  have z1a : Below w1.heap.size w1 (w1.alloc (.cells #[] 3)) := z1.alloc z1.size _
  clear h hV
  go_enter Tryz.func76, Tryz.ntmps76
  go_wp2_with (first
      | go_skip
      | (rw [← hw1]; clear hw1)
      | (refine wpList_load_row_w rfl 26 _ rfl w.heap.size rfl _ _ _ _ (Kx.out _ (by assumption)) Tryz.underlying26 rfl (size_Alg _ _) ?_)
      | (go_at_call 47; refine (HF.out _ _ _ _ _ (KR.out _ z1a) (KT.out _ z1a)).mono ?_; rintro e w3 ⟨a3, c3, rfl, o3, h3⟩))
  have z3 : Below w1.heap.size w1 w3 := z1a.trans (h3.mono z1a.size)
  have ob : Own w1.heap.size w3 (.slice (some ⟨w1.heap.size, 0, none⟩) 0 0) [] := Own.below (Own.row (L := []) (heap_alloc_new w1 _) (Nat.le_refl _) (Nat.zero_le _)) h3
  have hap : ∀ q, (Value.slice a3 V.length c3).ownBlock = some q → (Value.slice (some ⟨w1.heap.size, 0, none⟩) 0 0).ownBlock ≠ some q := fun q hq e => by
    have h1 := (World.ownsRow.lt o3 q hq).1
    simp [Value.ownBlock] at e h1
    omega
  replace o3 := o3.from z1a.size
  clear z1a h3 KR KT Kx HF
  go_loopw [3, 5, 6, 7] (fun o c _ _ wr => ∃ i : Int, 0 ≤ i ∧ i ≤ V.length ∧ c = .int .i64 i ∧ Own w1.heap.size wr o ((V.take i.toNat).filter (grV V)) ∧ Own w1.heap.size wr (.slice a3 V.length c3) V ∧ (∀ q, (Value.slice a3 V.length c3).ownBlock = some q → o.ownBlock ≠ some q) ∧ Below w1.heap.size w1 wr) (fun _ c _ _ _ => (64 - intOf c).toNat)
  case atStart => exact ⟨0, by omega, by omega, rfl, ob, o3, hap, z3⟩
  case round =>
    clear z3 ob o3 hap
    obtain ⟨i, j0, j1, rfl, hown, hlist, hap, z3⟩ := hrel
    by_cases hj : i < V.length
    · obtain ⟨wi, rfl⟩ : ∃ wi : World, wi = wr := ⟨_, rfl⟩
      obtain ⟨vb, vo, rfl, hcl⟩ := hlist.rd (by intro e; rw [e] at hj; simp at hj; omega)
      have d0 := hcl.at i j0 hj
      have hvl := hcl.lt (show (1 : Int) ≤ num V by show (1 : Int) ≤ (V.length : Int); omega)
      have HD := Lib.hid (show ∀ wz, Below wi.heap.size wi wz → ∀ k : Int, 0 ≤ k → k < V.length → wz.cell? ⟨vb, vo + k.toNat, none⟩ = some (.int .i64 (nth V k)) from fun wz hz k k0 hk => (hcl.below hz hvl).at k k0 hk)
      obtain ⟨m0, m1⟩ := HM.out i j0 hj
      have ht := Lib.hid (take_next V j0 hj)
      have hfl := take_flen V (grV V) i
      have hb0 := bt_not (nth V i)
      have hgs := Lib.hid (GK.start V (nth V i))
      clear hcl
      go_wp2_with (go_at_call 94; refine (bit_any (nth V i) 0 _ m0 m1 (by omega) (by omega)).mono ?_; rintro e w4 ⟨rfl, rfl⟩)
      clear hb0
      go_loopw [6, 7] (fun o c wr => ∃ k : Int, 0 ≤ k ∧ k ≤ V.length ∧ c = .int .i64 k ∧ ∃ ok, o = .bool ok ∧ GK V (nth V i) k ok ∧ Below wi.heap.size wi wr) (fun _ c _ => (64 - intOf c).toNat)
      case atStart => exact ⟨0, by omega, by omega, rfl, _, rfl, hgs.out, Below.refl _ _⟩
      case round =>
        clear hgs d0
        obtain ⟨k, k0, k1, rfl, ok, rfl, hgk, hbi⟩ := hrel
        by_cases hk : k < V.length
        · cases ok with
          | true =>
            obtain ⟨g0, g6⟩ := HM.out k k0 hk
            have hq := Lib.hid (show grT (nth V i) (nth V k) = (ib (nth V k) 0 || nth V k == nth V i || !hasA (nth V k) (nth V i)) from rfl)
            cases hX : ib (nth V k) 0 with
            | true =>
              have HX := Lib.hid (ib_t hX)
              have hgn := Lib.hid (hgk.succ (by rw [hq.out, hX]; rfl))
              clear hX hgk
              go_wp2
              refine region_in (Below wi.heap.size wi) (by kernel_rfl) (by kernel_rfl) (hbi.drew) fun hne => ?_
              have r0 : ∀ s : In (Below wi.heap.size wi), s.w.cell? ⟨vb, vo + k.toNat, none⟩ = some (.int .i64 (nth V k)) := fun s => HD.out _ s.h k k0 hk
              have r1 : ∀ s : In (Below wi.heap.size wi), s.w.cell? ⟨vb, vo + i.toNat, none⟩ = some (.int .i64 (nth V i)) := fun s => HD.out _ s.h i j0 hj
              repeat (go_big_quiet_step ((go_at_call 94; exact in_same _ (bit_is (nth V k) 0 _ g0 g6 (by omega) (by omega) HX.out))))
              refine wpQuiet_nil ?_
              intro s
              have hq7 := s.h
              obtain ⟨w7, hw7⟩ : ∃ x : World, x = s.w := ⟨_, rfl⟩
              rw [← hw7] at hq7 ⊢
              clear hw7 r0 r1
              go_wp2
              go_roundw
              case rel => exact ⟨k + 1, by omega, by omega, rfl, true, by first | rfl | (simp; simpa using hC2), hgn.out, by trivial⟩
              case measure => simp [intOf]; omega
            | false =>
              have HX := Lib.hid (ib_f hX)
              cases hE : (nth V k == nth V i) with
              | true =>
                have hgn := Lib.hid (hgk.succ (by rw [hq.out, hX, hE]; rfl))
                clear hX hgk
                go_wp2
                refine region_in (Below wi.heap.size wi) (by kernel_rfl) (by kernel_rfl) (hbi.drew) fun hne => ?_
                have r0 : ∀ s : In (Below wi.heap.size wi), s.w.cell? ⟨vb, vo + k.toNat, none⟩ = some (.int .i64 (nth V k)) := fun s => HD.out _ s.h k k0 hk
                have r1 : ∀ s : In (Below wi.heap.size wi), s.w.cell? ⟨vb, vo + i.toNat, none⟩ = some (.int .i64 (nth V i)) := fun s => HD.out _ s.h i j0 hj
                repeat (go_big_quiet_step ((go_at_call 94; exact in_same _ (bit_is (nth V k) 0 _ g0 g6 (by omega) (by omega) HX.out))))
                refine wpQuiet_nil ?_
                intro s
                have hq7 := s.h
                obtain ⟨w7, hw7⟩ : ∃ x : World, x = s.w := ⟨_, rfl⟩
                rw [← hw7] at hq7 ⊢
                clear hw7 r0 r1
                go_wp2
                go_roundw
                case rel => exact ⟨k + 1, by omega, by omega, rfl, true, by first | rfl | (simp; simpa using hC2), hgn.out, by trivial⟩
                case measure => simp [intOf]; omega
              | false =>
                have hb2 := bits_and_i64 (nth V k) (nth V i) g0 (by omega) m0 (by omega)
                cases hC : hasA (nth V k) (nth V i) with
                | true =>
                  have hC2 : (an (nth V k) (nth V i) == nth V i) = true := hC
                  have hgn := Lib.hid (GK.fail k0 hk (by rw [hq.out, hX, hE, hC]; rfl))
                  clear hX hgk hC
                  go_wp2
                  refine region_in (Below wi.heap.size wi) (by kernel_rfl) (by kernel_rfl) (hbi.drew) fun hne => ?_
                  have r0 : ∀ s : In (Below wi.heap.size wi), s.w.cell? ⟨vb, vo + k.toNat, none⟩ = some (.int .i64 (nth V k)) := fun s => HD.out _ s.h k k0 hk
                  have r1 : ∀ s : In (Below wi.heap.size wi), s.w.cell? ⟨vb, vo + i.toNat, none⟩ = some (.int .i64 (nth V i)) := fun s => HD.out _ s.h i j0 hj
                  repeat (go_big_quiet_step ((go_at_call 94; exact in_same _ (bit_is (nth V k) 0 _ g0 g6 (by omega) (by omega) HX.out))))
                  refine wpQuiet_nil ?_
                  intro s
                  have hq7 := s.h
                  obtain ⟨w7, hw7⟩ : ∃ x : World, x = s.w := ⟨_, rfl⟩
                  rw [← hw7] at hq7 ⊢
                  clear hw7 r0 r1
                  go_wp2
                  go_roundw
                  case rel => exact ⟨k + 1, by omega, by omega, rfl, false, by first | rfl | (simp; simpa using hC2), hgn.out, by trivial⟩
                  case measure => simp [intOf]; omega
                | false =>
                  have hC2 : (an (nth V k) (nth V i) == nth V i) = false := hC
                  have hgn := Lib.hid (hgk.succ (by rw [hq.out, hX, hE, hC]; rfl))
                  clear hX hgk hC
                  go_wp2
                  refine region_in (Below wi.heap.size wi) (by kernel_rfl) (by kernel_rfl) (hbi.drew) fun hne => ?_
                  have r0 : ∀ s : In (Below wi.heap.size wi), s.w.cell? ⟨vb, vo + k.toNat, none⟩ = some (.int .i64 (nth V k)) := fun s => HD.out _ s.h k k0 hk
                  have r1 : ∀ s : In (Below wi.heap.size wi), s.w.cell? ⟨vb, vo + i.toNat, none⟩ = some (.int .i64 (nth V i)) := fun s => HD.out _ s.h i j0 hj
                  repeat (go_big_quiet_step ((go_at_call 94; exact in_same _ (bit_is (nth V k) 0 _ g0 g6 (by omega) (by omega) HX.out))))
                  refine wpQuiet_nil ?_
                  intro s
                  have hq7 := s.h
                  obtain ⟨w7, hw7⟩ : ∃ x : World, x = s.w := ⟨_, rfl⟩
                  rw [← hw7] at hq7 ⊢
                  clear hw7 r0 r1
                  go_wp2
                  go_roundw
                  case rel => exact ⟨k + 1, by omega, by omega, rfl, true, by first | rfl | (simp; simpa using hC2), hgn.out, by trivial⟩
                  case measure => simp [intOf]; omega
          | false =>
            have hsu := Lib.hid (show (V.take (i + 1).toNat).filter (grV V) = (V.take i.toNat).filter (grV V) by
              rw [ht.out, List.filter_append, List.filter_cons, hgk.f rfl, if_neg (by decide), List.filter_nil, List.append_nil])
            go_wp2
            replace hown := hown.below hbi
            replace hlist := hlist.below hbi
            replace z3 := z3.trans (hbi.mono z3.size)
            go_roundw
            case rel => exact ⟨i + 1, by omega, by omega, rfl, by rw [hsu.out]; exact hown, hlist, hap, z3⟩
            case measure => simp [intOf]; omega
        · cases ok with
          | true =>
            have hC := hgk.done (show (V.length : Int) ≤ k by omega)
            have hsu := Lib.hid (show (V.take (i + 1).toNat).filter (grV V) = (V.take i.toNat).filter (grV V) ++ [nth V i] by
              rw [ht.out, List.filter_append, List.filter_cons, hC, if_pos rfl, List.filter_nil])
            clear hC hgk
            have d1 := HD.out _ hbi i j0 hj
            replace hown := hown.below hbi
            replace hlist := hlist.below hbi
            replace z3 := z3.trans (hbi.mono z3.size)
            go_wp2_with (at_builtin; refine wpList_append_own_at _ rfl _ _ 23 rfl w1.heap.size 3 i0 (.int .i64 0) 1 8 Tryz.underlying23 hi hz0 hz1 hz2 rfl (by decide) _ _ _ rfl (World.ownsRow.alloc hown _) ⟨wr.heap.size, 0, none⟩ 1 1 [.int .i64 (nth V i)] rfl rfl (cell_one_new _ _ _) (fun x hx => by simp at hx; subst hx; rfl) (by unfold maxLen; omega) (by omega) (by have := z3.size; simp; omega) ?_; intro v9 w8 hown1 hgrow _ hloc)
            go_roundw
            case rel => exact ⟨i + 1, by omega, by omega, rfl, by unfold Own; rw [hsu.out, List.map_append, List.length_append]; exact hown1, World.ownsRow.kept (World.ownsRow.alloc hlist _) hgrow (apart_kept hap), apart_new hap hloc (fun q hq => by have := (World.ownsRow.lt hlist q hq).2; simp; omega), (z3.alloc z3.size _).grown hgrow (by have := z3.size; simp; omega) (fun q hq => (World.ownsRow.lt hown q hq).1)⟩
            case measure => simp [intOf]; omega
          | false =>
            have hsu := Lib.hid (show (V.take (i + 1).toNat).filter (grV V) = (V.take i.toNat).filter (grV V) by
              rw [ht.out, List.filter_append, List.filter_cons, hgk.f rfl, if_neg (by decide), List.filter_nil, List.append_nil])
            go_wp2
            replace hown := hown.below hbi
            replace hlist := hlist.below hbi
            replace z3 := z3.trans (hbi.mono z3.size)
            go_roundw
            case rel => exact ⟨i + 1, by omega, by omega, rfl, by rw [hsu.out]; exact hown, hlist, hap, z3⟩
            case measure => simp [intOf]; omega
    · have ht := Lib.hid (take_end V (show (V.length : Int) ≤ i by omega))
      go_wp2
      go_ret
      rw [hv.out, ← ht.out]
      exact RetOwn.sl ⟨_, rfl, by rw [ht.out] at hown ⊢; exact hown.from hs1, hB.trans (z3.mono hB.size)⟩
end Go.Proofs.YtjcambkjcagcoaaGreat
