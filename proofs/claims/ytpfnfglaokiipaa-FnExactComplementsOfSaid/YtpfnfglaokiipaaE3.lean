import Derived.Test.YtpfnfglaokiipaaE2
namespace Go.Proofs.Ytpfnfglaokiipaa
open Go.RowKit

theorem readOne_no' (a : Option Addr) (cap m : Nat) (L : List Int) (x : Int) (w : World) (hm : m = w.heap.size) (hr : Rd w a L) (h : goodB L x x = false) :
    Calls Try.prog 50 #[.slice a L.length cap, .slice (some ⟨m, 0, none⟩) 1 1] (w.alloc (.cells #[.int .i64 x] 3)) fun e w' => e = .returned (.tuple #[.agg zeroLat, .bool false]) ∧ Below w.heap.size w w' := by
  subst hm; exact readOne_no a cap L x w hr h
theorem readOne_yes' (a : Option Addr) (cap m : Nat) (L : List Int) (x : Int) (w : World) (hm : m = w.heap.size) (hr : Rd w a L) (h : goodB L x x = true) :
    Calls Try.prog 50 #[.slice a L.length cap, .slice (some ⟨m, 0, none⟩) 1 1] (w.alloc (.cells #[.int .i64 x] 3)) fun e w' => e = .returned (.tuple #[.agg (latOf L), .bool true]) ∧ Below w.heap.size w w' := by
  subst hm; exact readOne_yes a cap L x w hr h

theorem compClo_is (L : List Int) (b6 b3 : Nat) (x y : Int) (w : World) (hlat : latB L = true) (hL : LatAt w b6 L) (h3 : w.heap[b3]? = some (.cells #[.int .i64 x] 3 (0, 0))) (x0 : 0 ≤ x) (x1 : x < num L) (y0 : 0 ≤ y) (y1 : y < num L) {r : Bool} (hr : compQ L x y = r) :
    Calls Try.prog 61 #[.int .i64 y, .pointer (some ⟨b6, 0, none⟩), .pointer (some ⟨b3, 0, none⟩)] w fun e w' => e = .returned (.bool r) ∧ Below w.heap.size w w' := by
  rw [← hr]; exact compClo_any L b6 b3 x y w hlat hL h3 x0 x1 y0 y1

set_option maxRecDepth 100000 in
set_option maxHeartbeats 2000000 in
/-- impl.elementsThat at the closure of comp -/
theorem elementsThat_comp (L : List Int) (b6 b3 : Nat) (x : Int) (n : Int) (w : World) (n0 : 0 ≤ n) (n6 : n ≤ 6) (hn1 : n ≤ num L) (hlat : Hid (latB L = true)) (hL : LatAt w b6 L) (h3 : w.heap[b3]? = some (.cells #[.int .i64 x] 3 (0, 0))) (x0 : 0 ≤ x) (x1 : x < num L) :
    Calls Try.prog 54 #[.int .i64 n, .func (.func 61) #[] #[.pointer (some ⟨b6, 0, none⟩), .pointer (some ⟨b3, 0, none⟩)]] w (RetOwn w.heap.size (filtTo (compQ L x) n) w) := by
  obtain ⟨i0, hi, hz0, hz1, hz2⟩ := info_parts info_int
  go_enter Try.func54, Try.ntmps54
  go_wp2
  go_loopw [5, 6, 8] (fun v _ c wr => ∃ y : Int, 0 ≤ y ∧ y ≤ n ∧ c = .int .i64 y ∧ Own w.heap.size wr v (filtTo (compQ L x) y) ∧ Below w.heap.size w wr) (fun _ _ c _ => (6 - intOf c).toNat)
  case atStart => exact ⟨0, by omega, by omega, rfl, Own.nothing _ _, Below.refl _ _⟩
  case round =>
    obtain ⟨y, y0, y1, rfl, hown, hbel⟩ := hrel
    by_cases hy : y < n
    · have hlen := filtTo_len (compQ L x) y
      have hsu := Lib.hid (filtTo_succ (compQ L x) y y0)
      have eL := hL.below hbel hL.lt
      have e3 : wr.heap[b3]? = some (.cells #[.int .i64 x] 3 (0, 0)) := (hbel.block _ (lt_of_block h3)).trans h3
      cases hq : (compQ L x) y with
      | true =>
        have hsu2 := Lib.hid (show filtTo (compQ L x) (y + 1) = filtTo (compQ L x) y ++ [y] by rw [hsu.out, hq]; rfl)
        have HQ := Lib.hid hq
        clear hq
        go_wp2_with (first
          | (go_at_call 61; refine (compClo_is L b6 b3 x y wr hlat.out eL e3 x0 x1 y0 (by omega) HQ.out).mono ?_; rintro e w3 ⟨rfl, hd3⟩; have hown3 := hown.below hd3; have hbel3 := hbel.trans (hd3.mono hbel.size))
          | (at_builtin; refine wpList_append_own _ rfl _ _ 22 rfl w.heap.size 3 i0 (.int .i64 0) 1 8 Try.underlying22 hi hz0 hz1 hz2 rfl (by decide) _ _ _ rfl (World.ownsRow.alloc hown3 _) ⟨w3.heap.size, 0, none⟩ 1 1 [.int .i64 y] rfl rfl (cell_one_new _ _ _) (fun x hx => by simp at hx; subst hx; rfl) (by unfold maxLen; omega) (by omega) (by have := hbel3.size; simp; omega) ?_; intro v' w2 hown1 hgrow _))
        go_roundw
        case rel => exact ⟨y + 1, by omega, by omega, rfl, by unfold Own; rw [hsu2.out, List.map_append, List.length_append]; exact hown1, (hbel3.alloc hbel3.size _).grown hgrow (by have := hbel3.size; simp; omega) (fun q hq => (World.ownsRow.lt hown3 q hq).1)⟩
        case measure => simp [intOf]; omega
      | false =>
        have hsu2 := Lib.hid (show filtTo (compQ L x) (y + 1) = filtTo (compQ L x) y by rw [hsu.out, hq]; rfl)
        have HQ := Lib.hid hq
        clear hq
        go_wp2_with (go_at_call 61; refine (compClo_is L b6 b3 x y wr hlat.out eL e3 x0 x1 y0 (by omega) HQ.out).mono ?_; rintro e w3 ⟨rfl, hd3⟩; have hown3 := hown.below hd3; have hbel3 := hbel.trans (hd3.mono hbel.size))
        go_roundw
        case rel => exact ⟨y + 1, by omega, by omega, rfl, by rw [hsu2.out]; exact hown3, hbel3⟩
        case measure => simp [intOf]; omega
    · have e : y = n := by omega
      subst e
      go_wp2
      go_ret
      exact ⟨_, rfl, hown, hbel⟩

set_option maxRecDepth 100000 in
set_option maxHeartbeats 1000000 in
/-- impl.ComplementsOf -/
theorem implComplementsOf_any (a : Option Addr) (cap : Nat) (L : List Int) (x : Int) (w : World) (hr : Rd w a L) :
    Calls Try.prog 34 #[.slice a L.length cap, .int .i64 x] w (RetSl w.heap.size (compI L x) w) := by
  have hb0 : Below w.heap.size w (w.alloc (.cells #[.int .i64 x] 3)) := (Below.refl _ _).alloc (Nat.le_refl _) _
  have hrx : Rd (w.alloc (.cells #[.int .i64 x] 3)) a L := hr.below hb0
  cases hB : goodB L x x with
  | false =>
    have hv := Lib.hid (compI_f hB)
    have HB := Lib.hid hB; clear hB
    go_enter Try.func34, Try.ntmps34
    go_wp2_with (first
      | (go_at_call 50; refine (readOne_no' _ _ (w.heap.size + 1) L x (w.alloc (.cells #[.int .i64 x] 3)) (by simp) hrx HB.out).mono ?_; rintro e w1 ⟨rfl, h1⟩)
      | (refine wpList_store_row rfl 45 _ _ rfl w1.heap.size zeroLat rfl rfl _ _ (heap_alloc_new w1 (.cells zeroLat 45)) (size_lat _ _ _ _) rfl (one_lat _ _ _ _) ?_; rw [World.setRow_alloc_new]; obtain ⟨w2, hw2⟩ : ∃ w2, w2 = w1.alloc (.cells zeroLat 45) := ⟨_, rfl⟩; rw [← hw2]; have h2 : Below (w.alloc (.cells #[.int .i64 x] 3)).heap.size (w.alloc (.cells #[.int .i64 x] 3)) w2 := (by rw [hw2]; exact h1.alloc h1.size _); clear hw2))
    go_ret
    rw [hv.out]
    exact ⟨none, 0, rfl, Own.nothing _ _, hb0.trans (h2.mono (by simp))⟩
  | true =>
    obtain ⟨hlat, p1, p6, _, x0, x1, _, _⟩ := goodB_parts hB
    have hv := Lib.hid (compI_t hB)
    have HB := Lib.hid hB; clear hB
    have HL := Lib.hid hlat; clear hlat
    have l6 : (L.length : Int) ≤ 6 := p6
    go_enter Try.func34, Try.ntmps34
    go_wp2_with (first
      | (go_at_call 50; refine (readOne_yes' _ _ (w.heap.size + 1) L x (w.alloc (.cells #[.int .i64 x] 3)) (by simp) hrx HB.out).mono ?_; rintro e w1 ⟨rfl, h1⟩)
      | (refine wpList_store_row rfl 45 _ _ rfl w1.heap.size (latOf L) rfl rfl _ _ (heap_alloc_new w1 (.cells zeroLat 45)) (size_lat _ _ _ _) rfl (one_lat _ _ _ _) ?_; rw [World.setRow_alloc_new]; obtain ⟨b6, hb6⟩ : ∃ b6, b6 = w1.heap.size := ⟨_, rfl⟩; obtain ⟨w2, hw2⟩ : ∃ w2, w2 = w1.alloc (.cells (latOf L) 45) := ⟨_, rfl⟩; rw [← hw2, ← hb6]; have hL : LatAt w2 b6 L := (by rw [hw2, hb6]; exact LatAt.new w1 L); replace h1 : Below (w.alloc (.cells #[.int .i64 x] 3)).heap.size (w.alloc (.cells #[.int .i64 x] 3)) w2 := (by rw [hw2]; exact h1.alloc h1.size _); clear hw2 hb6; have c0 := hL.size; have h3 : w2.heap[w.heap.size]? = some (.cells #[.int .i64 x] 3 (0, 0)) := (h1.block _ (by simp)).trans (heap_alloc_new w _))
      | (go_at_call 54; refine (elementsThat_comp L b6 w.heap.size x L.length _ (by omega) l6 (Int.le_refl _) HL hL h3 x0 x1).mono ?_; intro e w9 hret; obtain ⟨a9, c9, rfl, ho, hb⟩ := hret.sl))
    go_ret
    rw [hv.out]
    have hz := h1.size
    have hz2 : w.heap.size + 1 ≤ w2.heap.size := by simpa using hz
    exact ⟨a9, c9, rfl, ho.from (by omega), (hb0.trans (h1.mono (by simp))).trans (hb.mono (by omega))⟩

set_option maxRecDepth 100000 in
set_option maxHeartbeats 2000000 in
/-- the law -/
theorem lawComplementsOf (a : Option Addr) (cap : Nat) (L : List Int) (x : Int) (w : World) (hr : Rd w a L) (hm : L.length ≤ maxLen) :
    Calls Try.prog 10 #[.slice a L.length cap, .int .i64 x] w fun e w' => e = .returned (.bool true) ∧ Below w.heap.size w w' := by
  have hmm := hm
  unfold maxLen at hm
  by_cases hbig : 1048576 < L.length
  · go_enter Try.func10, Try.ntmps10
    go_wp2
    go_ret
    exact ⟨rfl, Below.refl _ _⟩
  · have hs : L.length ≤ 1048576 := by omega
    have hs2 : (L.length : Int) ≤ 1048576 := by omega
    obtain ⟨V, hV⟩ : ∃ V, V = compI L x := ⟨_, rfl⟩
    have hlen : V.length ≤ 6 := by rw [hV]; exact compI_len L x
    have heq : eqL V V = true := decide_eq_true rfl
    have heq2 : eqL L L = true := decide_eq_true rfl
    have hspec : ∀ (a : Option Addr) (cap : Nat) (w : World), Rd w a L → Calls Try.prog 33 #[.slice a L.length cap, .int .i64 x] w (RetSl w.heap.size V w) := fun a cap w h => by rw [hV]; exact specComplementsOf_any a cap L x w h hmm
    have himpl : ∀ (a : Option Addr) (cap : Nat) (w : World), Rd w a L → Calls Try.prog 34 #[.slice a L.length cap, .int .i64 x] w (RetSl w.heap.size V w) := fun a cap w h => by rw [hV]; exact implComplementsOf_any a cap L x w h
    have HS := Lib.hid hspec
    have HI := Lib.hid himpl
    clear hspec himpl hV
    go_enter Try.func10, Try.ntmps10
    go_wp2_with fail
    refine (toIntS_any _ _ L _ hr hs).mono ?_
    rintro e w1 ⟨rfl, hrow1, hb1⟩
    go_wp2_with fail
    refine (HS.out _ _ _ hrow1.rd).mono ?_
    rintro e w2 ⟨a2, c2, rfl, o2, hb2⟩
    have l2 := World.ownsRow.lt (Own.from o2 hb1.size)
    have hr2 : Rd w2 a L := (hr.below hb1).below hb2
    have hB2 : Below w.heap.size w w2 := hb1.trans (hb2.mono hb1.size)
    replace o2 := o2.from hb1.size
    clear hrow1 hb1 hb2
    go_wp2_with fail
    refine (toIntS_any _ _ L _ hr2 hs).mono ?_
    rintro e w3 ⟨rfl, hrow3, hb3⟩
    have hr3 : Rd w3 a L := hr2.below hb3
    have o3 := o2.below hb3
    have hB3 : Below w.heap.size w w3 := hB2.trans (hb3.mono hB2.size)
    have hz2 := hB2.size
    obtain ⟨b3, hb3'⟩ : ∃ b3, b3 = w2.heap.size := ⟨_, rfl⟩
    rw [← hb3'] at hrow3 l2 hz2 ⊢
    clear hr2 hB2 hb3 hb3' o2
    go_wp2_with fail
    refine (HI.out _ _ _ hrow3.rd).mono ?_
    rintro e w4 ⟨a4, c4, rfl, o4, hb4⟩
    have hr4 : Rd w4 a L := hr3.below hb4
    have hrow4 := hrow3.below hb4 hrow3.lt
    have o3b := o3.below hb4
    have hB4 : Below w.heap.size w w4 := hB3.trans (hb4.mono hB3.size)
    have hz3 := hB3.size
    have hlt3 := hrow3.lt
    obtain ⟨z3, hz3'⟩ : ∃ z3, z3 = w3.heap.size := ⟨_, rfl⟩
    rw [← hz3'] at o4 hz3 hlt3
    clear hr3 hrow3 o3 hB3 hb4 hz3'
    go_wp2_with fail
    refine (eqIntS_any _ _ _ _ _ _ _ o4.rd o3b.rd (by omega)).mono ?_
    rintro e w5 ⟨rfl, hd5⟩
    have hr5 := hd5.rd hr4
    have hrow5 := hrow4.dr hd5
    have o5 := o3b.below (hd5.below _)
    have p5 := o4.below (hd5.below _)
    have hB5 : Below w.heap.size w w5 := hB4.trans (hd5.below _)
    clear hr4 hrow4 o3b o4 hB4 hd5
    go_wp2_with fail
    refine (toIntS_any _ _ L _ hr5 hs).mono ?_
    rintro e w6 ⟨rfl, hrow6, hb6⟩
    have hr6 := hr5.below hb6
    have hrow6b := hrow5.below hb6 hrow5.lt
    have o6 := o5.below hb6
    have p6 := p5.below hb6
    have hB6 : Below w.heap.size w w6 := hB5.trans (hb6.mono hB5.size)
    clear hr5 hrow5 o5 p5 hB5 hb6
    go_wp2_with fail
    refine (eqIntS_any _ _ _ _ L L _ hrow6b.rd hrow6.rd (by omega)).mono ?_
    rintro e w7 ⟨rfl, hd7⟩
    have hr7 := hd7.rd hr6
    have hrow7 := hrow6b.dr hd7
    have o7 := o6.below (hd7.below _)
    have p7 := p6.below (hd7.below _)
    have hB7 : Below w.heap.size w w7 := hB6.trans (hd7.below _)
    clear hr6 hrow6 hrow6b o6 p6 hB6 hd7
    have x7 : Own b3 w7 (.slice (some ⟨b3, 0, none⟩) L.length L.length) L := Own.row hrow7 (Nat.le_refl _) hmm
    have lx : ∀ q, (Value.slice (some ⟨b3, 0, none⟩) L.length L.length).ownBlock = some q → b3 ≤ q ∧ q < z3 := fun q hq => by
      have e : q = b3 := by simpa [Value.ownBlock] using hq.symm
      omega
    go_wp2_with fail
    refine (markIntS_any _ _ L _ _ x7 (by omega) (by omega) (by omega)).mono ?_
    rintro e w8 ⟨rfl, _, hg8⟩
    have o8 := own_apart l2 x7 o7 hg8
    have p8 : Own z3 w8 (.slice a4 V.length c4) V := World.ownsRow.kept p7 hg8 (by
      cases h : (Value.slice a4 V.length c4).ownBlock with
      | none => exact .inl rfl
      | some q =>
        right
        intro e
        have h1 := (World.ownsRow.lt p7 q h).1
        have h2 := lx q e.symm
        omega)
    have hB8 : Below w.heap.size w w8 := hB7.grown hg8 hB7.size (fun k hk => by have := lx k hk; omega)
    have hr8 : Rd w8 a L := fun hne => by
      obtain ⟨bb, oo, ea, hcc⟩ := hr hne
      refine ⟨bb, oo, ea, hcc.below hB8 ?_⟩
      exact block_lt_of_cell (hcc 0 (by cases L with | nil => exact absurd rfl hne | cons _ _ => simp))
    clear o7 p7 hB7 hrow7 x7 hg8 hr7
    go_wp2_with fail
    refine (eqIntS_any _ _ _ _ _ _ _ p8.rd o8.rd (by omega)).mono ?_
    rintro e w9 ⟨rfl, hd9⟩
    have hr9 := hd9.rd hr8
    have o9 := o8.below (hd9.below _)
    have p9 := p8.below (hd9.below _)
    have hB9 : Below w.heap.size w w9 := hB8.trans (hd9.below _)
    clear hr8 o8 p8 hB8 hd9
    go_wp2_with fail
    refine (markIntS_any _ _ _ _ _ p9 (by omega) (by omega) (by omega)).mono ?_
    rintro e w10 ⟨rfl, p10, hg10⟩
    have o10 := own_apart (C := z3) (fun q hq => ⟨(l2 q hq).1, by have := (l2 q hq).2; omega⟩) p9 o9 hg10
    have hB10 : Below w.heap.size w w10 := hB9.grown hg10 hB9.size (fun k hk => Nat.le_trans hz3 (World.ownsRow.lt p9 k hk).1)
    have r10 : Rd w10 a4 (markL 1 V.length) := Own.rd (B := z3) (cap := c4) (by rw [markL_len]; exact p10)
    have hr10 : Rd w10 a L := fun hne => by
      obtain ⟨bb, oo, ea, hcc⟩ := hr hne
      refine ⟨bb, oo, ea, hcc.below hB10 ?_⟩
      exact block_lt_of_cell (hcc 0 (by cases L with | nil => exact absurd rfl hne | cons _ _ => simp))
    clear o9 p9 hB9 hg10 hr9 p10
    go_wp2_with fail
    refine (heldIntS_any _ _ _ _ _ r10 (by omega) (by omega) (by omega)).mono ?_
    rintro e w11 ⟨rfl, rfl⟩
    have hne : ((1 : Int) + (V.length : Int) != 1 + (V.length : Int)) = false := by simp
    go_wp2_with fail
    refine (toIntS_any _ _ L _ hr10 hs).mono ?_
    rintro e w12 ⟨rfl, hrow12, hb12⟩
    have o12 := o10.below hb12
    have r12 := r10.below hb12
    have hB12 : Below w.heap.size w w12 := hB10.trans (hb12.mono hB10.size)
    clear o10 r10 hB10 hb12 hr10
    go_wp2_with fail
    refine (HI.out _ _ _ hrow12.rd).mono ?_
    rintro e w13 ⟨a13, c13, rfl, o13, hb13⟩
    have q13 := o12.below hb13
    have r13 := r12.below hb13
    have hB13 : Below w.heap.size w w13 := hB12.trans (hb13.mono hB12.size)
    clear o12 r12 hB12 hb13 hrow12
    go_wp2_with fail
    refine (eqIntS_any _ _ _ _ _ _ _ o13.rd q13.rd (by omega)).mono ?_
    rintro e w14 ⟨rfl, hd14⟩
    have r14 := hd14.rd r13
    have hB14 : Below w.heap.size w w14 := hB13.trans (hd14.below _)
    clear o13 q13 r13 hB13 hd14
    go_wp2_with fail
    refine (heldIntS_any _ _ _ _ _ r14 (by omega) (by omega) (by omega)).mono ?_
    rintro e w15 ⟨rfl, rfl⟩
    go_wp2
    go_ret
    exact ⟨rfl, hB14⟩

end Go.Proofs.Ytpfnfglaokiipaa
