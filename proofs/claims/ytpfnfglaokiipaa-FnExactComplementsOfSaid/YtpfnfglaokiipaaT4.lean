import Derived.Test.YtpfnfglaokiipaaT3
import Derived.Test.YtpfnfglaokiipaaC3
import Derived.Test.YtpfnfglaokiipaaR3
namespace Go.Proofs.Ytpfnfglaokiipaa
open Go.RowKit

def turnedI (L : List Int) : List Int := if latB L then turnL L else []
theorem turnedI_t {L : List Int} (h : latB L = true) : turnedI L = turnL L := if_pos h
theorem turnedI_f {L : List Int} (h : latB L = false) : turnedI L = [] := if_neg (by rw [h]; decide)
theorem turnL_len (L : List Int) : (turnL L).length = L.length := by simp [turnL, upL, num]
theorem turnedI_len (L : List Int) : (turnedI L).length ≤ 6 := by
  cases h : latB L with
  | false => rw [turnedI_f h]; simp
  | true => rw [turnedI_t h, turnL_len]; have := (latB_parts h).2.1; unfold num at this; omega

set_option maxHeartbeats 400000 in
/-- spec.TurnedLattice -/
theorem specTurnedLattice_any (a : Option Addr) (cap : Nat) (L : List Int) (w : World) (hr : Rd w a L) :
    Calls Try.prog 35 #[.slice a L.length cap] w (RetSl w.heap.size (turnedI L) w) := by
  cases hA : latB L with
  | false =>
    have hv := Lib.hid (turnedI_f hA)
    go_enter Try.func35, Try.ntmps35
    go_wp2_with (go_at_call 46; refine (validLattice_any _ _ _ _ hr).mono ?_; rintro e w1 ⟨rfl, hd⟩)
    go_ret
    rw [hv.out]
    exact ⟨none, 0, rfl, Own.nothing _ _, hd.below _⟩
  | true =>
    obtain ⟨h1, h6, hs⟩ := latB_parts hA
    obtain ⟨b, off, rfl, hc⟩ := hr.pos h1
    have hv := Lib.hid (turnedI_t hA)
    have hl := Lib.hid (turnL_len L)
    have hm : L.length ≤ 6 := by unfold num at h6; omega
    go_enter Try.func35, Try.ntmps35
    go_wp2_with (first | (go_at_call 46; refine (validLattice_any _ _ _ _ hr).mono ?_; rintro e w1 ⟨rfl, hd⟩) | (go_at_call 63; refine (turned_any _ _ _ L _ (hd.cells hc) hs h1).mono ?_; rintro e w2 ⟨rfl, hrow, hb⟩))
    go_ret
    rw [hv.out]
    have ho := Own.row hrow (hd.below 0).size (by rw [hl.out]; unfold maxLen; omega)
    refine ⟨_, _, by rw [hl.out]; rfl, ?_, (hd.below _).trans (hb.mono (hd.below 0).size)⟩
    rw [hl.out] at ho ⊢
    exact ho

set_option maxRecDepth 100000 in
set_option maxHeartbeats 1000000 in
/-- impl.TurnedLattice -/
theorem implTurnedLattice_any (a : Option Addr) (cap : Nat) (L : List Int) (w : World) (hr : Rd w a L) :
    Calls Try.prog 36 #[.slice a L.length cap] w (RetSl w.heap.size (turnedI L) w) := by
  cases hB : latB L with
  | false =>
    have hv := Lib.hid (turnedI_f hB)
    have HB := Lib.hid hB; clear hB
    go_enter Try.func36, Try.ntmps36
    go_wp2_with (first
      | (go_at_call 47; refine (readLattice_no _ _ _ _ hr HB.out).mono ?_; rintro e w1 ⟨rfl, h1⟩)
      | (refine wpList_store_row rfl 45 _ _ rfl w1.heap.size zeroLat rfl rfl _ _ (heap_alloc_new w1 (.cells zeroLat 45)) (size_lat _ _ _ _) rfl (one_lat _ _ _ _) ?_; rw [World.setRow_alloc_new]))
    go_ret
    rw [hv.out]
    exact ⟨none, 0, rfl, Own.nothing _ _, h1.alloc h1.size _⟩
  | true =>
    obtain ⟨p1, p6, _⟩ := latB_parts hB
    have hv := Lib.hid (turnedI_t hB)
    have hl := Lib.hid (turnL_len L)
    have hm : L.length ≤ 6 := by unfold num at p6; omega
    have hm1 : (L.length : Int) ≤ 6 := by omega
    have hm2 : 1 ≤ (L.length : Int) := p1
    have HB := Lib.hid hB; clear hB
    go_enter Try.func36, Try.ntmps36
    go_wp2_with (first
      | (go_at_call 47; refine (readLattice_yes _ _ _ _ hr HB.out).mono ?_; rintro e w1 ⟨rfl, h1⟩)
      | (refine wpList_store_row rfl 45 _ _ rfl w1.heap.size (latOf L) rfl rfl _ _ (heap_alloc_new w1 (.cells zeroLat 45)) (size_lat _ _ _ _) rfl (one_lat _ _ _ _) ?_; rw [World.setRow_alloc_new]; obtain ⟨b6, hb6⟩ : ∃ b6, b6 = w1.heap.size := ⟨_, rfl⟩; obtain ⟨w2, hw2⟩ : ∃ w2, w2 = w1.alloc (.cells (latOf L) 45) := ⟨_, rfl⟩; rw [← hw2, ← hb6]; have hL : LatAt w2 b6 L := (by rw [hw2, hb6]; exact LatAt.new w1 L); replace h1 : Below w.heap.size w w2 := (by rw [hw2]; exact h1.alloc h1.size _); clear hw2 hb6; have c0 := hL.size; have hlt6 := hL.lt)
      | (refine wpList_load_row_w rfl 45 _ rfl b6 rfl _ _ _ _ hL Try.underlying45 rfl (size_lat _ _ _ _) ?_)
      | (go_at_call 62; refine (greatest_any L _ hm1).mono ?_; rintro e w3 ⟨rfl, h3⟩; replace hL := hL.below h3 hL.lt; replace h1 := h1.trans (h3.mono h1.size); clear c0 hlt6 h3; have c0 := hL.size; have hlt6 := hL.lt)
      | (go_at_call 64; refine (upOf_turn L b6 w3.heap.size L.length _ (by omega) hm1 rfl (hL.below ((Below.refl _ _).alloc (Nat.le_refl _) _) hL.lt) (heap_alloc_new w3 _)).mono ?_; rintro e w9 ⟨rfl, hrow, hb⟩))
    go_ret
    rw [hv.out]
    have hz := h1.size
    have ho := Own.row (B := w.heap.size) hrow (by simp; omega) (by rw [show upL (turnG L) L.length = turnL L from rfl, hl.out]; unfold maxLen; omega)
    rw [show upL (turnG L) L.length = turnL L from rfl, hl.out] at ho
    have e9 : ∀ o, (w3.alloc o).heap.size = w3.heap.size + 1 := fun o => by simp
    rw [e9] at ho
    refine ⟨_, _, by rw [hl.out]; rfl, ?_, (h1.alloc h1.size _).trans (hb.mono (by simp; omega))⟩
    rw [hl.out]
    exact ho

set_option maxRecDepth 100000 in
set_option maxHeartbeats 2000000 in
/-- the law -/
theorem lawTurnedLattice (a : Option Addr) (cap : Nat) (L : List Int) (w : World) (hr : Rd w a L) (hm : L.length ≤ maxLen) :
    Calls Try.prog 11 #[.slice a L.length cap] w fun e w' => e = .returned (.bool true) ∧ Below w.heap.size w w' := by
  have hmm := hm
  unfold maxLen at hm
  by_cases hbig : 1048576 < L.length
  · go_enter Try.func11, Try.ntmps11
    go_wp2
    go_ret
    exact ⟨rfl, Below.refl _ _⟩
  · have hs : L.length ≤ 1048576 := by omega
    have hs2 : (L.length : Int) ≤ 1048576 := by omega
    obtain ⟨V, hV⟩ : ∃ V, V = turnedI L := ⟨_, rfl⟩
    have hlen : V.length ≤ 6 := by rw [hV]; exact turnedI_len L
    have heq : eqL V V = true := decide_eq_true rfl
    have heq2 : eqL L L = true := decide_eq_true rfl
    have hspec : ∀ (a : Option Addr) (cap : Nat) (w : World), Rd w a L → Calls Try.prog 35 #[.slice a L.length cap] w (RetSl w.heap.size V w) := fun a cap w h => by rw [hV]; exact specTurnedLattice_any a cap L w h
    have himpl : ∀ (a : Option Addr) (cap : Nat) (w : World), Rd w a L → Calls Try.prog 36 #[.slice a L.length cap] w (RetSl w.heap.size V w) := fun a cap w h => by rw [hV]; exact implTurnedLattice_any a cap L w h
    have HS := Lib.hid hspec
    have HI := Lib.hid himpl
    clear hspec himpl hV
    go_enter Try.func11, Try.ntmps11
    go_wp2_with fail
    refine (toIntS_any _ _ L _ hr hs).mono ?_
    rintro e w1 ⟨rfl, hrow1, hb1⟩
    go_wp2_with fail
    refine (HS.out _ _ _ hrow1.rd).mono ?_
    rintro e w2 ⟨a2, c2, rfl, o2, hb2⟩
    have l2 := World.ownsRow.lt (Own.from o2 hb1.size)
    have hr2 : Rd w2 a L := (hr.below hb1).below hb2
    have hB2 : Below w.heap.size w w2 := hb1.trans (hb2.mono hb1.size)
    replace o2 := o2.from hb1.size
    clear hrow1 hb1 hb2
    go_wp2_with fail
    refine (toIntS_any _ _ L _ hr2 hs).mono ?_
    rintro e w3 ⟨rfl, hrow3, hb3⟩
    have hr3 : Rd w3 a L := hr2.below hb3
    have o3 := o2.below hb3
    have hB3 : Below w.heap.size w w3 := hB2.trans (hb3.mono hB2.size)
    have hz2 := hB2.size
    obtain ⟨b3, hb3'⟩ : ∃ b3, b3 = w2.heap.size := ⟨_, rfl⟩
    rw [← hb3'] at hrow3 l2 hz2 ⊢
    clear hr2 hB2 hb3 hb3' o2
    go_wp2_with fail
    refine (HI.out _ _ _ hrow3.rd).mono ?_
    rintro e w4 ⟨a4, c4, rfl, o4, hb4⟩
    have hr4 : Rd w4 a L := hr3.below hb4
    have hrow4 := hrow3.below hb4 hrow3.lt
    have o3b := o3.below hb4
    have hB4 : Below w.heap.size w w4 := hB3.trans (hb4.mono hB3.size)
    have hz3 := hB3.size
    have hlt3 := hrow3.lt
    obtain ⟨z3, hz3'⟩ : ∃ z3, z3 = w3.heap.size := ⟨_, rfl⟩
    rw [← hz3'] at o4 hz3 hlt3
    clear hr3 hrow3 o3 hB3 hb4 hz3'
    go_wp2_with fail
    refine (eqIntS_any _ _ _ _ _ _ _ o4.rd o3b.rd (by omega)).mono ?_
    rintro e w5 ⟨rfl, hd5⟩
    have hr5 := hd5.rd hr4
    have hrow5 := hrow4.dr hd5
    have o5 := o3b.below (hd5.below _)
    have p5 := o4.below (hd5.below _)
    have hB5 : Below w.heap.size w w5 := hB4.trans (hd5.below _)
    clear hr4 hrow4 o3b o4 hB4 hd5
    go_wp2_with fail
    refine (toIntS_any _ _ L _ hr5 hs).mono ?_
    rintro e w6 ⟨rfl, hrow6, hb6⟩
    have hr6 := hr5.below hb6
    have hrow6b := hrow5.below hb6 hrow5.lt
    have o6 := o5.below hb6
    have p6 := p5.below hb6
    have hB6 : Below w.heap.size w w6 := hB5.trans (hb6.mono hB5.size)
    clear hr5 hrow5 o5 p5 hB5 hb6
    go_wp2_with fail
    refine (eqIntS_any _ _ _ _ L L _ hrow6b.rd hrow6.rd (by omega)).mono ?_
    rintro e w7 ⟨rfl, hd7⟩
    have hr7 := hd7.rd hr6
    have hrow7 := hrow6b.dr hd7
    have o7 := o6.below (hd7.below _)
    have p7 := p6.below (hd7.below _)
    have hB7 : Below w.heap.size w w7 := hB6.trans (hd7.below _)
    clear hr6 hrow6 hrow6b o6 p6 hB6 hd7
    have x7 : Own b3 w7 (.slice (some ⟨b3, 0, none⟩) L.length L.length) L := Own.row hrow7 (Nat.le_refl _) hmm
    have lx : ∀ q, (Value.slice (some ⟨b3, 0, none⟩) L.length L.length).ownBlock = some q → b3 ≤ q ∧ q < z3 := fun q hq => by
      have e : q = b3 := by simpa [Value.ownBlock] using hq.symm
      omega
    go_wp2_with fail
    refine (markIntS_any _ _ L _ _ x7 (by omega) (by omega) (by omega)).mono ?_
    rintro e w8 ⟨rfl, _, hg8⟩
    have o8 := own_apart l2 x7 o7 hg8
    have p8 : Own z3 w8 (.slice a4 V.length c4) V := World.ownsRow.kept p7 hg8 (by
      cases h : (Value.slice a4 V.length c4).ownBlock with
      | none => exact .inl rfl
      | some q =>
        right
        intro e
        have h1 := (World.ownsRow.lt p7 q h).1
        have h2 := lx q e.symm
        omega)
    have hB8 : Below w.heap.size w w8 := hB7.grown hg8 hB7.size (fun k hk => by have := lx k hk; omega)
    have hr8 : Rd w8 a L := fun hne => by
      obtain ⟨bb, oo, ea, hcc⟩ := hr hne
      refine ⟨bb, oo, ea, hcc.below hB8 ?_⟩
      exact block_lt_of_cell (hcc 0 (by cases L with | nil => exact absurd rfl hne | cons _ _ => simp))
    clear o7 p7 hB7 hrow7 x7 hg8 hr7
    go_wp2_with fail
    refine (eqIntS_any _ _ _ _ _ _ _ p8.rd o8.rd (by omega)).mono ?_
    rintro e w9 ⟨rfl, hd9⟩
    have hr9 := hd9.rd hr8
    have o9 := o8.below (hd9.below _)
    have p9 := p8.below (hd9.below _)
    have hB9 : Below w.heap.size w w9 := hB8.trans (hd9.below _)
    clear hr8 o8 p8 hB8 hd9
    go_wp2_with fail
    refine (markIntS_any _ _ _ _ _ p9 (by omega) (by omega) (by omega)).mono ?_
    rintro e w10 ⟨rfl, p10, hg10⟩
    have o10 := own_apart (C := z3) (fun q hq => ⟨(l2 q hq).1, by have := (l2 q hq).2; omega⟩) p9 o9 hg10
    have hB10 : Below w.heap.size w w10 := hB9.grown hg10 hB9.size (fun k hk => Nat.le_trans hz3 (World.ownsRow.lt p9 k hk).1)
    have r10 : Rd w10 a4 (markL 1 V.length) := Own.rd (B := z3) (cap := c4) (by rw [markL_len]; exact p10)
    have hr10 : Rd w10 a L := fun hne => by
      obtain ⟨bb, oo, ea, hcc⟩ := hr hne
      refine ⟨bb, oo, ea, hcc.below hB10 ?_⟩
      exact block_lt_of_cell (hcc 0 (by cases L with | nil => exact absurd rfl hne | cons _ _ => simp))
    clear o9 p9 hB9 hg10 hr9 p10
    go_wp2_with fail
    refine (heldIntS_any _ _ _ _ _ r10 (by omega) (by omega) (by omega)).mono ?_
    rintro e w11 ⟨rfl, rfl⟩
    have hne : ((1 : Int) + (V.length : Int) != 1 + (V.length : Int)) = false := by simp
    go_wp2_with fail
    refine (toIntS_any _ _ L _ hr10 hs).mono ?_
    rintro e w12 ⟨rfl, hrow12, hb12⟩
    have o12 := o10.below hb12
    have r12 := r10.below hb12
    have hB12 : Below w.heap.size w w12 := hB10.trans (hb12.mono hB10.size)
    clear o10 r10 hB10 hb12 hr10
    go_wp2_with fail
    refine (HI.out _ _ _ hrow12.rd).mono ?_
    rintro e w13 ⟨a13, c13, rfl, o13, hb13⟩
    have q13 := o12.below hb13
    have r13 := r12.below hb13
    have hB13 : Below w.heap.size w w13 := hB12.trans (hb13.mono hB12.size)
    clear o12 r12 hB12 hb13 hrow12
    go_wp2_with fail
    refine (eqIntS_any _ _ _ _ _ _ _ o13.rd q13.rd (by omega)).mono ?_
    rintro e w14 ⟨rfl, hd14⟩
    have r14 := hd14.rd r13
    have hB14 : Below w.heap.size w w14 := hB13.trans (hd14.below _)
    clear o13 q13 r13 hB13 hd14
    go_wp2_with fail
    refine (heldIntS_any _ _ _ _ _ r14 (by omega) (by omega) (by omega)).mono ?_
    rintro e w15 ⟨rfl, rfl⟩
    go_wp2
    go_ret
    exact ⟨rfl, hB14⟩

end Go.Proofs.Ytpfnfglaokiipaa
