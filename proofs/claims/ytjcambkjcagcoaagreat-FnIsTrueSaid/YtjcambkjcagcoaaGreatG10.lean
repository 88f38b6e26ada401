import Derived.Test.YtjcambkjcagcoaaGreatG6
namespace Go.Proofs.YtjcambkjcagcoaaGreat
open Go.RowKit

/-- more things than places: two in one -/
theorem pigeons : ∀ (n : Nat) (f : Nat → Nat), (∀ i, i ≤ n → f i < n) → ∃ i j, i < j ∧ j ≤ n ∧ f i = f j
  | 0, f, h => absurd (h 0 (Nat.le_refl _)) (Nat.not_lt_zero _)
  | n + 1, f, h => by
    by_cases hm : ∃ i, i ≤ n ∧ f i = f (n + 1)
    · obtain ⟨i, hi, e⟩ := hm
      exact ⟨i, n + 1, by omega, Nat.le_refl _, e⟩
    · have hne : ∀ i, i ≤ n → f i ≠ f (n + 1) := fun i hi e => hm ⟨i, hi, e⟩
      obtain ⟨i, j, hij, hj, e⟩ := pigeons n (fun i => if f (n + 1) < f i then f i - 1 else f i) (fun i hi => by
        have a := h i (by omega)
        have b := h (n + 1) (Nat.le_refl _)
        have c := hne i hi
        show (if f (n + 1) < f i then f i - 1 else f i) < n
        split <;> omega)
      refine ⟨i, j, hij, by omega, ?_⟩
      have c := hne i (by omega)
      have d := hne j hj
      have e' : (if f (n + 1) < f i then f i - 1 else f i) = (if f (n + 1) < f j then f j - 1 else f j) := e
      split at e' <;> split at e' <;> omega
theorem pwN_same {L : List Int} {T : List (List Int)} {x : Int} {i j : Nat} (h : pwN L T x i = pwN L T x j) : ∀ t, pwN L T x (i + t) = pwN L T x (j + t)
  | 0 => h
  | t + 1 => by
    show tv T (pwN L T x (i + t)) x = tv T (pwN L T x (j + t)) x
    rw [pwN_same h t]
def depQ (L : List Int) (T : List (List Int)) (x k : Int) : Bool := powr L T x k == 0
/-- if a power ends, one of the first does -/
theorem dep_first {L : List Int} {T : List (List Int)} {x : Int} (h : algB L T = true) (x0 : 0 ≤ x) (x1 : x < num L) : firstI 21 (depQ L T x) = firstI (num L + 1) (depQ L T x) := by
  obtain ⟨hl, hs, _⟩ := algB_parts h
  obtain ⟨n1, n6⟩ := lat_len hl
  rcases firstI_cases 21 (depQ L T x) with ⟨e, hn⟩ | ⟨k0, k1, hk, hb⟩
  · rw [e]; exact (firstI_none fun j j0 j1 => hn j j0 (by omega)).symm
  · obtain ⟨k, hkk⟩ : ∃ k, k = firstI 21 (depQ L T x) := ⟨_, rfl⟩
    rw [← hkk] at k0 k1 hk hb ⊢
    by_cases hle : k ≤ num L
    · exact (firstI_some k0 (by omega) hb hk).symm
    · exfalso
      obtain ⟨i, j, hij, hj, e⟩ := pigeons (num L).toNat (fun i => (pwN L T x i).toNat) (fun i _ => by
        have := pwN_lt hl hs x0 x1 i
        show (pwN L T x i).toNat < (num L).toNat
        omega)
      have e' : (pwN L T x i).toNat = (pwN L T x j).toNat := e
      have a := pwN_lt hl hs x0 x1 i
      have b := pwN_lt hl hs x0 x1 j
      have hp := pwN_same (L := L) (T := T) (x := x) (i := i) (j := j) (by omega) (k.toNat - j)
      have h1 : j + (k.toNat - j) = k.toNat := by omega
      rw [h1] at hp
      have hz : pwN L T x k.toNat = 0 := by simpa [depQ, powr] using hk
      have hm := hb ((i + (k.toNat - j) : Nat) : Int) (by omega) (by omega)
      unfold depQ powr at hm
      rw [Int.toNat_natCast, hp, hz] at hm
      cases hm
def depV (L : List Int) (T : List (List Int)) (x : Int) : Int := if firstI (num L + 1) (depQ L T x) < 0 then 0 else firstI (num L + 1) (depQ L T x)
def depI (L : List Int) (T : List (List Int)) (x : Int) : Int := if algIn L T x x then depV L T x else 0
def depB (L : List Int) (T : List (List Int)) (x : Int) : Bool := algIn L T x x && decide (0 ≤ firstI (num L + 1) (depQ L T x))
theorem dep_out {L : List Int} {T : List (List Int)} {x : Int} (h : algIn L T x x = false) : depI L T x = 0 ∧ depB L T x = false := by
  unfold depI depB; rw [h]; exact ⟨rfl, rfl⟩
theorem dep_no {L : List Int} {T : List (List Int)} {x : Int} (h : algIn L T x x = true) (hf : firstI (num L + 1) (depQ L T x) = -1) : depI L T x = 0 ∧ depB L T x = false := by
  unfold depI depB depV; rw [h, hf]; exact ⟨rfl, rfl⟩
theorem dep_yes {L : List Int} {T : List (List Int)} {x k : Int} (h : algIn L T x x = true) (k0 : 0 ≤ k) (hf : firstI (num L + 1) (depQ L T x) = k) : depI L T x = k ∧ depB L T x = true := by
  unfold depI depB depV
  rw [h, hf]
  have : ¬ k < 0 := by omega
  simp [this, k0]
set_option maxRecDepth 100000 in
set_option maxHeartbeats 2000000 in
/-- impl.algebra.depth -/
theorem depthM_any (L : List Int) (T : List (List Int)) (x : Int) (w : World) (h : algIn L T x x = true) :
    Calls Tryz.prog 80 #[.agg (algOf L T), .int .i64 x] w fun e w' => e = .returned (.tuple #[.int .i64 (depI L T x), .bool (depB L T x)]) ∧ Below w.heap.size w w' := by
  obtain ⟨ha, x0, x1, _, _⟩ := algIn_parts h
  obtain ⟨n1, n6⟩ := lat_len (algB_parts ha).1
  have hfe := Lib.hid (dep_first ha x0 x1)
  have HA := Lib.hid h
  obtain ⟨w1, hw1⟩ : ∃ w1, w1 = w.alloc (.cells (algOf L T) 63) := ⟨_, rfl⟩
  have hB : Below w.heap.size w w1 := by rw [hw1]; exact (Below.refl _ _).alloc (Nat.le_refl _) _
  have hG : AlgAt w1 w.heap.size L T := by rw [hw1]; exact AlgAt.new w L T
  have Q := Lib.hid (show ∀ wz, Below w1.heap.size w1 wz → AlgAt wz w.heap.size L T from fun wz hz => hG.below hz hG.lt)
  clear hG h
  go_enter Tryz.func80, Tryz.ntmps80
  go_wp2_with (rw [← hw1]; clear hw1)
  go_loopw [6, 7] (fun _ c wr => ∃ k : Int, 0 ≤ k ∧ k ≤ 21 ∧ c = .int .i64 k ∧ NoneTo k (depQ L T x) ∧ Below w1.heap.size w1 wr) (fun _ c _ => (21 - intOf c).toNat)
  case atStart => exact ⟨0, by omega, by omega, rfl, NoneTo.zero _, Below.refl _ _⟩
  case round =>
    obtain ⟨k, k0, k1, rfl, hno, z3⟩ := hrel
    by_cases hk : k < 21
    · have hq := Lib.hid (show depQ L T x k = (powr L T x k == 0) from rfl)
      cases hC : powr L T x k == 0
      all_goals rw [hC] at hq
      case true =>
        have hv := Lib.hid (dep_yes HA.out k0 (by rw [← hfe.out]; exact firstI_some k0 hk hno hq.out))
        go_wp2_with (first
          | (refine wpList_load_row_w rfl 63 _ rfl w.heap.size rfl _ _ _ _ (Q.out _ z3) Tryz.underlying63 rfl (size_alg _ _ _ _ _ _) ?_)
          | (go_at_call 82; refine (powerM_any L T x k _ ha x0 x1 k0 (by omega)).mono ?_; rintro e w4 ⟨rfl, h4⟩; have z4 : Below w1.heap.size w1 w4 := z3.trans (h4.mono z3.size)))
        go_ret2
        exact ⟨by rw [hv.out.1, hv.out.2]; rfl, hB.trans (z4.mono hB.size)⟩
      case false =>
        go_wp2_with (first
          | (refine wpList_load_row_w rfl 63 _ rfl w.heap.size rfl _ _ _ _ (Q.out _ z3) Tryz.underlying63 rfl (size_alg _ _ _ _ _ _) ?_)
          | (go_at_call 82; refine (powerM_any L T x k _ ha x0 x1 k0 (by omega)).mono ?_; rintro e w4 ⟨rfl, h4⟩; have z4 : Below w1.heap.size w1 w4 := z3.trans (h4.mono z3.size)))
        go_roundw
        case rel => exact ⟨k + 1, by omega, by omega, rfl, hno.succ hq.out, z4⟩
        case measure => simp [intOf]; omega
    · have hv := Lib.hid (dep_no HA.out (by rw [← hfe.out]; exact firstI_none fun j j0 j1 => hno j j0 (by omega)))
      go_wp2
      go_ret2
      exact ⟨by rw [hv.out.1, hv.out.2]; rfl, hB.trans (z3.mono hB.size)⟩

set_option maxRecDepth 100000 in
set_option maxHeartbeats 1000000 in
theorem implDepthOf_no (a b : Option Addr) (ca cb : Nat) (L : List Int) (T : List (List Int)) (x : Int) (w : World) (hr : Rd w a L) (hT : RdT w b T) (h : algIn L T x x = false) :
    Calls Tryz.prog 33 #[.agg #[.slice a L.length ca, .slice b T.length cb], .int .i64 x] w fun e w' => e = .returned (.tuple #[.int .i64 (depI L T x), .bool (depB L T x)]) ∧ Below w.heap.size w w' := by
  obtain ⟨w1, hw1⟩ : ∃ w1, w1 = w.alloc (.cells #[.slice a L.length ca, .slice b T.length cb] 26) := ⟨_, rfl⟩
  have hB : Below w.heap.size w w1 := by rw [hw1]; exact (Below.refl _ _).alloc (Nat.le_refl _) _
  have hx : w1.heap[w.heap.size]? = some (.cells #[.slice a L.length ca, .slice b T.length cb] 26 (0, 0)) := by rw [hw1]; exact heap_alloc_new w _
  obtain ⟨c0, c1⟩ := bx_cells hx
  have Kx := Lib.hid (show ∀ wz, Below w1.heap.size w1 wz → wz.heap[w.heap.size]? = some (.cells #[.slice a L.length ca, .slice b T.length cb] 26 (0, 0)) from fun wz h => (h.block _ (lt_of_block hx)).trans hx)
  have KR := Lib.hid (show ∀ wz, Below w1.heap.size w1 wz → Rd wz a L from fun wz h => (hr.below hB).below h)
  have KT := Lib.hid (show ∀ wz, Below w1.heap.size w1 wz → RdT wz b T from fun wz h => (hT.below hB).below h)
  have z1 : Below w1.heap.size w1 w1 := Below.refl _ _
  clear hr hT hx
  have hE : Row (w1.alloc (.cells #[.int .i64 x] 3)) w1.heap.size [x] := heap_alloc_new w1 _
  have zE : Below w1.heap.size w1 (w1.alloc (.cells #[.int .i64 x] 3)) := (Below.refl _ _).alloc (Nat.le_refl _) _
  have HE := Lib.hid hE.rd
  have HAW := Lib.hid (show awB L T [x] = false by rw [aw_one]; exact h)
  have HALG := Lib.hid h
  have hv := Lib.hid (dep_out h)
  clear hE h
  go_enter Tryz.func33, Tryz.ntmps33
  go_wp2_with (first
    | go_skip
    | (rw [← hw1]; clear hw1)
    | (refine wpList_load_row_w rfl 26 _ rfl w.heap.size rfl _ _ _ _ (Kx.out _ (by assumption)) Tryz.underlying26 rfl (size_Alg _ _) ?_)
    | (go_at_call 79; refine (readAW1_no _ _ _ _ _ _ L T x _ (KR.out _ zE) (KT.out _ zE) HE.out HAW.out).mono ?_; rintro e w2 ⟨rfl, h2⟩; have z2 : Below w1.heap.size w1 w2 := zE.trans (h2.mono zE.size))
    | (refine wpList_store_row rfl 63 _ _ rfl w2.heap.size zeroAlg rfl rfl _ _ (heap_alloc_new w2 (.cells zeroAlg 63)) size_zeroAlg rfl one_zeroAlg ?_; rw [World.setRow_alloc_new]; obtain ⟨bl, hbl⟩ : ∃ bl, bl = w2.heap.size := ⟨_, rfl⟩; obtain ⟨w9, hw9⟩ : ∃ w9, w9 = w2.alloc (.cells zeroAlg 63) := ⟨_, rfl⟩; rw [← hw9, ← hbl]; have B9 : Below w1.heap.size w1 w9 := (by rw [hw9]; exact z2.alloc z2.size _); clear hw9 hbl))
  go_ret2
  exact ⟨by rw [hv.out.1, hv.out.2]; rfl, hB.trans (B9.mono hB.size)⟩

set_option maxRecDepth 100000 in
set_option maxHeartbeats 1000000 in
theorem implDepthOf_yes (a b : Option Addr) (ca cb : Nat) (L : List Int) (T : List (List Int)) (x : Int) (w : World) (hr : Rd w a L) (hT : RdT w b T) (h : algIn L T x x = true) :
    Calls Tryz.prog 33 #[.agg #[.slice a L.length ca, .slice b T.length cb], .int .i64 x] w fun e w' => e = .returned (.tuple #[.int .i64 (depI L T x), .bool (depB L T x)]) ∧ Below w.heap.size w w' := by
  obtain ⟨w1, hw1⟩ : ∃ w1, w1 = w.alloc (.cells #[.slice a L.length ca, .slice b T.length cb] 26) := ⟨_, rfl⟩
  have hB : Below w.heap.size w w1 := by rw [hw1]; exact (Below.refl _ _).alloc (Nat.le_refl _) _
  have hx : w1.heap[w.heap.size]? = some (.cells #[.slice a L.length ca, .slice b T.length cb] 26 (0, 0)) := by rw [hw1]; exact heap_alloc_new w _
  obtain ⟨c0, c1⟩ := bx_cells hx
  have Kx := Lib.hid (show ∀ wz, Below w1.heap.size w1 wz → wz.heap[w.heap.size]? = some (.cells #[.slice a L.length ca, .slice b T.length cb] 26 (0, 0)) from fun wz h => (h.block _ (lt_of_block hx)).trans hx)
  have KR := Lib.hid (show ∀ wz, Below w1.heap.size w1 wz → Rd wz a L from fun wz h => (hr.below hB).below h)
  have KT := Lib.hid (show ∀ wz, Below w1.heap.size w1 wz → RdT wz b T from fun wz h => (hT.below hB).below h)
  have z1 : Below w1.heap.size w1 w1 := Below.refl _ _
  clear hr hT hx
  have hE : Row (w1.alloc (.cells #[.int .i64 x] 3)) w1.heap.size [x] := heap_alloc_new w1 _
  have zE : Below w1.heap.size w1 (w1.alloc (.cells #[.int .i64 x] 3)) := (Below.refl _ _).alloc (Nat.le_refl _) _
  have HE := Lib.hid hE.rd
  have HAW := Lib.hid (show awB L T [x] = true by rw [aw_one]; exact h)
  have HALG := Lib.hid h
  clear hE h
  go_enter Tryz.func33, Tryz.ntmps33
  go_wp2_with (first
    | go_skip
    | (rw [← hw1]; clear hw1)
    | (refine wpList_load_row_w rfl 26 _ rfl w.heap.size rfl _ _ _ _ (Kx.out _ (by assumption)) Tryz.underlying26 rfl (size_Alg _ _) ?_)
    | (go_at_call 79; refine (readAW1_good _ _ _ _ _ _ L T x _ (KR.out _ zE) (KT.out _ zE) HE.out HAW.out).mono ?_; rintro e w2 ⟨rfl, h2⟩; have z2 : Below w1.heap.size w1 w2 := zE.trans (h2.mono zE.size))
    | (refine wpList_store_row rfl 63 _ _ rfl w2.heap.size (algOf L T) rfl rfl _ _ (heap_alloc_new w2 (.cells zeroAlg 63)) (size_alg _ _ _ _ _ _) rfl (one_alg _ _ _ _ _ _) ?_; rw [World.setRow_alloc_new]; obtain ⟨bl, hbl⟩ : ∃ bl, bl = w2.heap.size := ⟨_, rfl⟩; obtain ⟨w9, hw9⟩ : ∃ w9, w9 = w2.alloc (.cells (algOf L T) 63) := ⟨_, rfl⟩; rw [← hw9, ← hbl]; have hA : AlgAt w9 bl L T := (by rw [hw9, hbl]; exact AlgAt.new w2 L T); have B9 : Below w1.heap.size w1 w9 := (by rw [hw9]; exact z2.alloc z2.size _); clear hw9 hbl)
    | (refine wpList_load_row_w rfl 63 _ rfl bl rfl _ _ _ _ hA Tryz.underlying63 rfl (size_alg _ _ _ _ _ _) ?_)
    | (go_at_call 80; refine (depthM_any L T x _ HALG.out).mono ?_; rintro e w10 ⟨rfl, h10⟩; have B10 : Below w1.heap.size w1 w10 := B9.trans (h10.mono B9.size)))
  go_ret2
  exact ⟨rfl, hB.trans (B10.mono hB.size)⟩

theorem implDepthOf_any (a b : Option Addr) (ca cb : Nat) (L : List Int) (T : List (List Int)) (x : Int) (w : World) (hr : Rd w a L) (hT : RdT w b T) :
    Calls Tryz.prog 33 #[.agg #[.slice a L.length ca, .slice b T.length cb], .int .i64 x] w fun e w' => e = .returned (.tuple #[.int .i64 (depI L T x), .bool (depB L T x)]) ∧ Below w.heap.size w w' := by
  cases h : algIn L T x x with
  | false => exact implDepthOf_no a b ca cb L T x w hr hT h
  | true => exact implDepthOf_yes a b ca cb L T x w hr hT h
end Go.Proofs.YtjcambkjcagcoaaGreat
