import Derived.Test.YtpophjloedpcfaaGreatDoorL5
import Derived.OpenShut
import Derived.Deep.MidRow
import Derived.Test.YtpophjloedpcfaaGreatDoorY1
import Derived.Test.YtpophjloedpcfaaGreatDoorA5
import Derived.BigQuiet
import Derived.Test.YtpophjloedpcfaaGreatDoorD3
import Derived.Test.YtpophjloedpcfaaGreatDoorU3
import Derived.OwnWalk
namespace Go.Proofs.YtpophjloedpcfaaGreatDoor
open Go.RowKit

/-! The readers of the drawn arguments. -/
/-- n bytes from an address on, in a block below C -/
def RdY (w : World) (a : Option Addr) (n C : Nat) : Prop := 0 < n → ∃ b off, a = some ⟨b, off, none⟩ ∧ b < C ∧ ∀ j : Nat, j < n → ∃ v : Int, w.cell? ⟨b, off + j, none⟩ = some (.int .u8 v) ∧ 0 ≤ v ∧ v ≤ 255
theorem RdY.below {w w' : World} {a : Option Addr} {n C : Nat} (h : RdY w a n C) (hb : Below C w w') : RdY w' a n C := fun hn => by
  obtain ⟨b, off, ha, hC, hc⟩ := h hn
  exact ⟨b, off, ha, hC, fun j hj => by obtain ⟨v, hv, h0, h1⟩ := hc j hj; exact ⟨v, (hb.cell hC).trans hv, h0, h1⟩⟩
theorem RdY.less {w : World} {a : Option Addr} {n m C : Nat} (h : RdY w a n C) (hm : m ≤ n) : RdY w a m C := fun h0 => by
  obtain ⟨b, off, ha, hC, hc⟩ := h (by omega)
  exact ⟨b, off, ha, hC, fun j hj => hc j (by omega)⟩
/-- a reader at block g over bytes below C, at most at place m -/
def Rdr (w : World) (C g : Nat) (m : Int) : Prop := ∃ a n cap, ∃ p : Int, w.heap[g]? = some (.cells #[.slice a n cap, .int .i64 p] 93 (0, 0)) ∧ RdY w a n C ∧ C ≤ g ∧ n ≤ 2000 ∧ 0 ≤ p ∧ p ≤ m
theorem Rdr.lt {w : World} {C g : Nat} {m : Int} (h : Rdr w C g m) : g < w.heap.size := by
  obtain ⟨a, n, cap, p, hg, _⟩ := h; exact lt_of_block hg
theorem Rdr.low {w : World} {C g : Nat} {m : Int} (h : Rdr w C g m) : C ≤ g := by
  obtain ⟨a, n, cap, p, hg, _, hC, _⟩ := h; exact hC
theorem Rdr.keep {w w' : World} {C g : Nat} {m : Int} (h : Rdr w C g m) (hb : Below C w w') (hg : w'.heap[g]? = w.heap[g]?) : Rdr w' C g m := by
  obtain ⟨a, n, cap, p, h1, h2, h3⟩ := h
  exact ⟨a, n, cap, p, hg.trans h1, h2.below hb, h3⟩
theorem Rdr.below {w w' : World} {C g : Nat} {m : Int} (h : Rdr w C g m) (hb : Below w.heap.size w w') : Rdr w' C g m :=
  h.keep (hb.mono (by have := h.low; have := h.lt; omega)) (hb.block _ h.lt)
theorem Rdr.more {w : World} {C g : Nat} {m m' : Int} (h : Rdr w C g m) (hm : m ≤ m') : Rdr w C g m' := by
  obtain ⟨a, n, cap, p, h1, h2, h3, h4, h5, h6⟩ := h
  exact ⟨a, n, cap, p, h1, h2, h3, h4, h5, by omega⟩
theorem Rdr.type {w : World} {C g : Nat} {m : Int} (h : Rdr w C g m) : ∃ c, w.heap[g]? = some (.cells c 93 (0, 0)) := by
  obtain ⟨a, n, cap, p, h1, _⟩ := h; exact ⟨_, h1⟩
/-- what was there but for one block is as it was -/
theorem grown_of_below {w w' : World} {row : Option Nat} (h : Below w.heap.size w w') : w.grownBy w' row := ⟨h.os, h.tape, h.output, h.size, fun k hk _ => h.block k hk⟩
theorem grown_below {w w' : World} {g C : Nat} (h : w.grownBy w' (some g)) (hC : C ≤ g) (hw : C ≤ w.heap.size) : Below C w w' := ⟨h.os, h.tape, h.output, h.size, fun k hk => h.block k (by omega) (by intro e; injection e with e; omega)⟩
/-- lists of the call's own stay while a reader goes on -/
theorem Own.drawn {B : Nat} {w w' : World} {v : Value} {L : List Int} {C g : Nat} {m : Int} (h : Own B w v L) (hr : Rdr w C g m) (hg : w.grownBy w' (some g)) : Own B w' v L := by
  obtain ⟨c, hc⟩ := hr.type
  refine World.ownsRow.kept h hg ?_
  rcases h.2 with ⟨rfl, _⟩ | ⟨b, cap, cur, rfl, _, hb, _⟩
  · exact .inl rfl
  · right
    simp only [Value.ownBlock, ne_eq, Option.some.injEq]
    intro e
    rw [e, hc] at hb
    injection hb with hb
    injection hb with _ hb
    exact absurd hb (by decide)
theorem rdr_cells {w : World} {g : Nat} {x y : Value} (h : w.heap[g]? = some (.cells #[x, y] 93 (0, 0))) : w.cell? ⟨g, 0, none⟩ = some x ∧ w.cell? ⟨g, 1, none⟩ = some y :=
  ⟨by rw [cell_of_row w g 0 _ _ _ h]; rfl, by rw [cell_of_row w g 1 _ _ _ h]; rfl⟩
theorem rdr_set {w : World} {g : Nat} {x y z : Value} (h : w.heap[g]? = some (.cells #[x, y] 93 (0, 0))) : (w.setCell ⟨g, 1, none⟩ z).heap[g]? = some (.cells #[x, z] 93 (0, 0)) := by
  rw [heap_setCell_same w g 1 _ _ _ h]; rfl
theorem rdr_grown (w : World) (g : Nat) (o : Nat) (z : Value) : w.grownBy (w.setCell ⟨g, o, none⟩ z) (some g) :=
  ⟨rfl, rfl, rfl, by simp [World.setCell], fun k _ hk => Below.heap_setCell _ _ _ _ (by intro e; exact hk (by rw [e]))⟩
/-- a number is drawn -/
def RetPick (C g : Nat) (m n : Int) (w : World) (e : Ending) (w' : World) : Prop := ∃ v : Int, e = .returned (.int .i64 v) ∧ 0 ≤ v ∧ v < n ∧ w.grownBy w' (some g) ∧ Rdr w' C g m
theorem bits_xor_i64 (a b : Nat) (ha : a < 1073741824) (hb : b < 1073741824) : bits .xor .i64 (a : Int) (b : Int) = ((a ^^^ b : Nat) : Int) := by
  have hx : a ^^^ b < 2 ^ 30 := Nat.xor_lt_two_pow (by omega) (by omega)
  have h1 : (BitVec.ofInt 64 (a : Int)).toNat = a := by
    rw [BitVec.ofInt_natCast, BitVec.toNat_ofNat]; exact Nat.mod_eq_of_lt (by omega)
  have h2 : (BitVec.ofInt 64 (b : Int)).toNat = b := by
    rw [BitVec.ofInt_natCast, BitVec.toNat_ofNat]; exact Nat.mod_eq_of_lt (by omega)
  show IntKind.i64.wrap ((BitVec.ofInt 64 (a : Int) ^^^ BitVec.ofInt 64 (b : Int)).toNat : Int) = _
  rw [BitVec.toNat_xor, h1, h2, IntKind.wrap_i64]
  omega
theorem xor_pos {a b : Int} (a0 : 0 ≤ a) (a1 : a < 1073741824) (b0 : 0 ≤ b) (b1 : b < 1073741824) : 0 ≤ bits .xor .i64 a b := by
  obtain ⟨x, rfl⟩ := Int.eq_ofNat_of_zero_le a0
  obtain ⟨y, rfl⟩ := Int.eq_ofNat_of_zero_le b0
  rw [bits_xor_i64 x y (by omega) (by omega)]
  omega
/-- what the frame says of bytes that came in -/
theorem rdy_of_row {w : World} {a : Option Addr} {len cap : Nat} {zs : List Int}
    (h : (a = none ∧ len = 0 ∧ cap = 0 ∧ zs = []) ∨ ∃ x, a = some x ∧ len ≤ cap ∧ cap ≤ maxLen ∧ zs.length = cap ∧ (∀ i, i < zs.length → w.cell? (x.add i) = some (.int .u8 (zs.getD i 0))) ∧ ∀ n ∈ zs, (Lit.int .u8 n).wf = true) :
    RdY w a len w.heap.size ∧ len ≤ cap ∧ len ≤ maxLen := by
  rcases h with ⟨rfl, rfl, rfl, rfl⟩ | ⟨x, rfl, hl, hm, hz, hc, hw⟩
  · exact ⟨fun h => absurd h (by omega), Nat.le_refl _, Nat.zero_le _⟩
  · refine ⟨fun hne => ?_, hl, by omega⟩
    have hpos : 0 < zs.length := by omega
    obtain ⟨b, off, spot⟩ := x
    have h0 := hc 0 hpos
    have hs : spot = none := by
      cases spot with
      | none => rfl
      | some s => simp [Addr.add, World.cell?] at h0; split at h0 <;> simp at h0
    subst hs
    have h0' := h0
    rw [Addr.add_mid] at h0'
    refine ⟨b, off, rfl, block_lt_of_cell h0', fun j hj => ?_⟩
    have := hc j (by omega)
    rw [Addr.add_mid] at this
    refine ⟨_, this, ?_⟩
    have hm : zs.getD j 0 ∈ zs := by
      rw [List.getD_eq_getElem?_getD, List.getElem?_eq_getElem (by omega), Option.getD_some]
      exact List.getElem_mem _
    have := hw _ hm
    simp [Lit.wf, IntKind.min, IntKind.max, IntKind.signed, IntKind.bits] at this
    simp only [List.getD_eq_getElem?_getD]
    omega
end Go.Proofs.YtpophjloedpcfaaGreatDoor

/- spec.latticesFrom: what it lists. -/
namespace Go.Proofs.YtpophjloedpcfaaGreatDoor
open Go.RowKit

/-- may the row stand at x -/
def lfQ (x row : Int) : Bool := row % pw x == 0 && bt row x == 1
def catTo (f : Int → List (List Int)) (a : Int) : Nat → List (List Int)
  | 0 => []
  | j + 1 => catTo f a j ++ f (a + j)
/-- all lattices of n whose first rows are the head, k rows on -/
def latF (n : Int) : Nat → List Int → List (List Int)
  | 0, head => if latB head then [head] else []
  | k + 1, head => catTo (fun row => if lfQ head.length row then latF n k (head ++ [row]) else []) (pw head.length) (pw n - pw head.length).toNat
theorem catTo_succ (f : Int → List (List Int)) (a : Int) {j : Int} (h : 0 ≤ j) : catTo f a (j + 1).toNat = catTo f a j.toNat ++ f (a + j) := by
  rw [show (j + 1).toNat = j.toNat + 1 by omega]
  show catTo f a j.toNat ++ f (a + (j.toNat : Int)) = _
  rw [Int.toNat_of_nonneg h]
theorem catTo_mem {f : Int → List (List Int)} {a : Int} {L : List Int} : ∀ {j : Nat}, L ∈ catTo f a j ↔ ∃ i : Nat, i < j ∧ L ∈ f (a + i)
  | 0 => ⟨fun h => (by cases h), fun ⟨i, hi, _⟩ => (by omega)⟩
  | j + 1 => by
    show L ∈ catTo f a j ++ f (a + j) ↔ _
    rw [List.mem_append, catTo_mem]
    constructor
    · rintro (⟨i, hi, h⟩ | h)
      · exact ⟨i, by omega, h⟩
      · exact ⟨j, by omega, h⟩
    · rintro ⟨i, hi, h⟩
      by_cases e : i = j
      · subst e; exact .inr h
      · exact .inl ⟨i, by omega, h⟩
theorem catTo_len {f : Int → List (List Int)} {a : Int} {B : Nat} (hf : ∀ i, (f i).length ≤ B) : ∀ j, (catTo f a j).length ≤ j * B
  | 0 => by rw [Nat.zero_mul]; exact Nat.zero_le _
  | j + 1 => by
    show (catTo f a j ++ f (a + j)).length ≤ _
    rw [List.length_append, Nat.succ_mul]
    exact Nat.add_le_add (catTo_len hf j) (hf _)
theorem latF_bound {n : Int} (n5 : n ≤ 5) : ∀ (k : Nat) (H : List Int), (latF n k H).length ≤ 32 ^ k
  | 0, H => by
    show (if latB H then [H] else []).length ≤ _
    split <;> simp
  | k + 1, H => by
    have h1 := catTo_len (f := fun row => if lfQ H.length row then latF n k (H ++ [row]) else []) (a := pw H.length) (B := 32 ^ k) (fun i => by
      split
      · exact latF_bound n5 k _
      · exact Nat.zero_le _) (pw n - pw H.length).toNat
    have h2 := pw_mono n 5 n5
    have h3 : pw 5 = 32 := by decide
    have h4 := pw_pos (H.length : Int)
    refine Nat.le_trans h1 ?_
    rw [Nat.pow_succ, Nat.mul_comm]
    exact Nat.mul_le_mul_left _ (by omega)
theorem latF_lat {n : Int} {L : List Int} : ∀ {k : Nat} {H : List Int}, L ∈ latF n k H → latB L = true ∧ L.length = H.length + k
  | 0, H, h => by
    change L ∈ (if latB H then [H] else []) at h
    split at h
    · rename_i hb
      rw [List.mem_singleton.1 h]; exact ⟨hb, rfl⟩
    · cases h
  | k + 1, H, h => by
    obtain ⟨i, hi, h⟩ := catTo_mem.1 h
    split at h
    · obtain ⟨a, b⟩ := latF_lat h
      rw [List.length_append, List.length_singleton] at b
      exact ⟨a, by omega⟩
    · cases h
theorem lfQ_fin : ∀ n : Fin 7, ∀ i : Fin 7, i.val < n.val → lfQ (i.val : Int) (pw (n.val : Int) - pw (i.val : Int)) = true ∧ pw (i.val : Int) ≤ pw (n.val : Int) - pw (i.val : Int) := by decide +kernel
theorem chain_fin : ∀ n : Fin 7, 1 ≤ n.val → latB (chainTo (n.val : Int) (n.val : Int)) = true := by decide +kernel
theorem chain_lat {n : Int} (n1 : 1 ≤ n) (n6 : n ≤ 6) : latB (chainTo n n) = true := by
  have := chain_fin ⟨n.toNat, by omega⟩ (by show 1 ≤ n.toNat; omega)
  simpa [Int.toNat_of_nonneg (show 0 ≤ n by omega)] using this
theorem latF_chain {n : Int} (n6 : n ≤ 6) (n1 : 1 ≤ n) : ∀ (k : Nat) (H : List Int), (H.length : Int) + k = n → H = chainTo n H.length → chainTo n n ∈ latF n k H
  | 0, H, hl, hH => by
    have e : (H.length : Int) = n := by omega
    rw [e] at hH
    show _ ∈ (if latB H then [H] else [])
    rw [hH, if_pos (chain_lat n1 n6)]
    exact List.mem_singleton.2 rfl
  | k + 1, H, hl, hH => by
    obtain ⟨q1, q2⟩ := lfQ_fin ⟨n.toNat, by omega⟩ ⟨H.length, by omega⟩ (by show H.length < n.toNat; omega)
    simp only [Int.toNat_of_nonneg (show 0 ≤ n by omega)] at q1 q2
    refine catTo_mem.2 ⟨(pw n - pw H.length - pw H.length).toNat, by have := pw_pos (H.length : Int); omega, ?_⟩
    have e : pw H.length + ((pw n - pw H.length - pw H.length).toNat : Int) = pw n - pw H.length := by omega
    rw [e, if_pos q1]
    refine latF_chain n6 n1 k _ (by rw [List.length_append, List.length_singleton]; omega) ?_
    rw [List.length_append, List.length_singleton, show ((H.length + 1 : Nat) : Int) = (H.length : Int) + 1 by omega, chainTo_succ _ _ (by omega), ← hH]
theorem latF_some {n : Int} (n1 : 1 ≤ n) (n6 : n ≤ 6) : latF n n.toNat [] ≠ [] := fun e => by
  have := latF_chain n6 n1 n.toNat [] (by simp; omega) rfl
  rw [e] at this
  cases this
end Go.Proofs.YtpophjloedpcfaaGreatDoor

namespace Go.Proofs.YtpophjloedpcfaaGreatDoor
open Go.RowKit

set_option maxRecDepth 100000 in
set_option maxHeartbeats 2000000 in
/-- spec.newReader -/
theorem newReader_any (a : Option Addr) (n cap : Nat) (w : World) (hy : RdY w a n w.heap.size) (hc : n ≤ cap) (hm : n ≤ 1048576) :
    Calls Tryz.prog 27 #[.slice a n cap] w fun e w' => e = .returned (.pointer (some ⟨w.heap.size, 0, none⟩)) ∧ Below w.heap.size w w' ∧ Rdr w' w.heap.size w.heap.size 0 := by
  by_cases hb : 2000 < n
  · obtain ⟨b, off, rfl, hC, hd⟩ := hy (by omega)
    have h2 : (2000 : Int) < n := by omega
    have h3 : 2000 ≤ cap := by omega
    have hy2 := hy.less (show 2000 ≤ n by omega)
    go_enter Tryz.func27, Tryz.ntmps27
    go_wp2
    go_ret
    refine ⟨rfl, (Below.refl _ _).alloc (Nat.le_refl _) _, _, _, _, _, heap_alloc_new w _, hy2.below ((Below.refl _ _).alloc (Nat.le_refl _) _), Nat.le_refl _, by omega, by omega, by omega⟩
  · have h2 : ¬ (2000 : Int) < n := by omega
    go_enter Tryz.func27, Tryz.ntmps27
    go_wp2
    go_ret
    refine ⟨rfl, (Below.refl _ _).alloc (Nat.le_refl _) _, _, _, _, _, heap_alloc_new w _, hy.below ((Below.refl _ _).alloc (Nat.le_refl _) _), Nat.le_refl _, by omega, by omega, by omega⟩
set_option maxRecDepth 100000 in
set_option maxHeartbeats 4000000 in
/-- spec.pick -/
theorem pick_any (C g : Nat) (m n : Int) (w : World) (hr : Rdr w C g m) (m1 : m ≤ 100000) (n1 : 1 ≤ n) (n2 : n ≤ 1073741824) :
    Calls Tryz.prog 40 #[.pointer (some ⟨g, 0, none⟩), .int .i64 n] w (RetPick C g (m + 1) n w) := by
  obtain ⟨a, N, cap, p, hg, hy, hC, hN, p0, pm⟩ := hr
  obtain ⟨c0, c1⟩ := rdr_cells hg
  have hz := frozen_of_row w g 1 _ _ hg
  have hg2 := rdr_set (z := .int .i64 (p + 1)) hg
  have hgr := rdr_grown w g 1 (.int .i64 (p + 1))
  have hw : IntKind.i64.wrap (p + 1) = p + 1 := IntWalk.i64_in _ (by omega)
  have hlt := lt_of_block hg
  have hR : Rdr (w.setCell ⟨g, 1, none⟩ (.int .i64 (p + 1))) C g (m + 1) := ⟨a, N, cap, p + 1, hg2, hy.below ((Below.refl _ _).setCell hC _), hC, hN, by omega, by omega⟩
  obtain ⟨d0, d1⟩ := rdr_cells hg2
  by_cases hN0 : N = 0
  · subst hN0
    go_enter Tryz.func40, Tryz.ntmps40
    go_wp2
    go_ret
    exact ⟨0, rfl, by omega, by omega, hgr, hR⟩
  · obtain ⟨b, off, rfl, hbC, hd⟩ := (hy.below ((Below.refl C w).setCell (p := ⟨g, 1, none⟩) hC (.int .i64 (p + 1)))) (by omega)
    have hNz : ((N : Int) == 0) = false := by rw [beq_eq_false_iff_ne]; omega
    by_cases hp : p < N
    · obtain ⟨v, hv, v0, v1⟩ := hd p.toNat (by omega)
      have hw2 : IntKind.i64.wrap (p + 1 - 1) = p := by rw [show p + 1 - 1 = p by omega]; exact IntWalk.i64_in _ (by omega)
      have r0 : 0 ≤ v % n := Int.emod_nonneg _ (by omega)
      have r1 : v % n < n := Int.emod_lt_of_pos _ (by omega)
      go_enter Tryz.func40, Tryz.ntmps40
      go_wp2
      all_goals go_ret
      all_goals exact ⟨_, rfl, r0, r1, hgr, hR⟩
    · have hN1 : (0 : Int) < N := by omega
      obtain ⟨i1, hi1⟩ : ∃ i : Nat, i = (p % N).toNat := ⟨_, rfl⟩
      obtain ⟨i2, hi2⟩ : ∃ i : Nat, i = ((p * 7 + 3) % N).toNat := ⟨_, rfl⟩
      have e1 := Int.emod_nonneg p (show (N : Int) ≠ 0 by omega)
      have e2 := Int.emod_lt_of_pos p hN1
      have e3 := Int.emod_nonneg (p * 7 + 3) (show (N : Int) ≠ 0 by omega)
      have e4 := Int.emod_lt_of_pos (p * 7 + 3) hN1
      obtain ⟨v, hv, v0, v1⟩ := hd (p % N).toNat (by omega)
      obtain ⟨u, hu, u0, u1⟩ := hd ((p * 7 + 3) % N).toNat (by omega)
      have hw2 : IntKind.i64.wrap (p + 1 - 1) = p := by rw [show p + 1 - 1 = p by omega]; exact IntWalk.i64_in _ (by omega)
      have q0 : 0 ≤ p / N := Int.ediv_nonneg p0 (by omega)
      have q1 : p / N ≤ p := Int.ediv_le_self _ p0
      have t1 : Int.tmod p N = p % N := Int.tmod_eq_emod_of_nonneg p0
      have t2 : Int.tmod (p * 7 + 3) N = (p * 7 + 3) % N := Int.tmod_eq_emod_of_nonneg (by omega)
      have t3 : Int.tdiv p N = p / N := Int.tdiv_eq_ediv_of_nonneg p0
      clear hi1 hi2
      go_enter Tryz.func40, Tryz.ntmps40
      go_wp2
      go_quiet (fail)
      go_wp2
      all_goals go_ret
      have x0 : 0 ≤ v * 131 + u * 1117 + p * 29 + p / N * 53 := by omega
      have x1 : v * 131 + u * 1117 + p * 29 + p / N * 53 < 1073741824 := by omega
      have y0 := xor_pos x0 x1 (b := (v * 131 + u * 1117 + p * 29 + p / N * 53) / 64) (by omega) (by omega)
      refine ⟨_, rfl, ?_, ?_, ⟨hgr.os, hgr.tape, hgr.output, hgr.size, hgr.block⟩, hR⟩
      · rw [Int.tmod_eq_emod_of_nonneg y0]; exact Int.emod_nonneg _ (by omega)
      · rw [Int.tmod_eq_emod_of_nonneg y0]; exact Int.emod_lt_of_pos _ (by omega)
theorem nth_mem' (V : List Int) {i : Int} (i0 : 0 ≤ i) (h : i < V.length) : nth V i ∈ V := by
  unfold nth
  have : i.toNat < V.length := by omega
  rw [List.getD_eq_getElem?_getD, List.getElem?_eq_getElem this, Option.getD_some]
  exact List.getElem_mem this
/-- a reading that no draw turns -/
def Held (g : Nat) (w : World) (a : Option Addr) (L : List Int) : Prop := ∀ w' : World, w.grownBy w' (some g) → Rd w' a L
theorem Own.held {B : Nat} {w : World} {a : Option Addr} {cap : Nat} {L : List Int} {C g : Nat} {m : Int} (h : Own B w (.slice a L.length cap) L) (hr : Rdr w C g m) : Held g w a L := fun _ hg => (h.drawn hr hg).rd
theorem grown_refl (w : World) (r : Option Nat) : w.grownBy w r := ⟨rfl, rfl, rfl, Nat.le_refl _, fun _ _ _ => rfl⟩
set_option maxRecDepth 100000 in
set_option maxHeartbeats 4000000 in
/-- spec.pick of nothing -/
theorem pick_nil (C g : Nat) (m n : Int) (w : World) (hr : Rdr w C g m) (m1 : m ≤ 100000) (n1 : n < 1) :
    Calls Tryz.prog 40 #[.pointer (some ⟨g, 0, none⟩), .int .i64 n] w (RetPick C g (m + 1) 1 w) := by
  obtain ⟨a, N, cap, p, hg, hy, hC, hN, p0, pm⟩ := hr
  obtain ⟨c0, c1⟩ := rdr_cells hg
  have hz := frozen_of_row w g 1 _ _ hg
  have hg2 := rdr_set (z := .int .i64 (p + 1)) hg
  have hgr := rdr_grown w g 1 (.int .i64 (p + 1))
  have hw : IntKind.i64.wrap (p + 1) = p + 1 := IntWalk.i64_in _ (by omega)
  have hlt := lt_of_block hg
  have hR : Rdr (w.setCell ⟨g, 1, none⟩ (.int .i64 (p + 1))) C g (m + 1) := ⟨a, N, cap, p + 1, hg2, hy.below ((Below.refl _ _).setCell hC _), hC, hN, by omega, by omega⟩
  obtain ⟨d0, d1⟩ := rdr_cells hg2
  go_enter Tryz.func40, Tryz.ntmps40
  go_wp2
  all_goals go_ret
  all_goals exact ⟨0, rfl, by omega, by omega, hgr, hR⟩
set_option maxRecDepth 100000 in
set_option maxHeartbeats 2000000 in
/-- spec.one -/
theorem one_any (C g : Nat) (m : Int) (a : Option Addr) (cap : Nat) (L : List Int) (w : World) (hr : Rdr w C g m) (m1 : m ≤ 100000) (hh : Held g w a L) (l1 : 1 ≤ L.length) (l2 : L.length ≤ 1000) :
    Calls Tryz.prog 43 #[.pointer (some ⟨g, 0, none⟩), .slice a L.length cap] w fun e w' => ∃ k : Int, 0 ≤ k ∧ k < L.length ∧ e = .returned (.int .i64 (nth L k)) ∧ w.grownBy w' (some g) ∧ Rdr w' C g (m + 1) := by
  have l3 : (1 : Int) ≤ L.length := by omega
  have l4 : (L.length : Int) ≤ 1073741824 := by omega
  have hne : L ≠ [] := by intro e; rw [e] at l1; simp at l1
  have HH := Lib.hid hh; clear hh
  obtain ⟨b, off, rfl, _⟩ := HH.out w (grown_refl w _) hne
  go_enter Tryz.func43, Tryz.ntmps43
  go_wp2_with fail
  refine (pick_any C g m L.length w hr m1 l3 l4).mono ?_
  rintro e w1 ⟨k, rfl, k0, k1, hg, hr1⟩
  obtain ⟨b', off', e', hc⟩ := HH.out w1 hg hne
  simp only [Option.some.injEq, Addr.mk.injEq, and_true] at e'
  obtain ⟨rfl, rfl⟩ := e'
  have c1 := hc.at k k0 k1
  go_wp2
  go_ret
  exact ⟨k, k0, k1, rfl, hg, hr1⟩
end Go.Proofs.YtpophjloedpcfaaGreatDoor

namespace Go.Proofs.YtpophjloedpcfaaGreatDoor
open Go.RowKit

/-- a table of the call's own is handed back -/
def RetRows (B : Nat) (T : List (List Int)) (w : World) (e : Ending) (w' : World) : Prop := ∃ v, e = .returned v ∧ RowsAt B w' v T ∧ v ≠ .slice none 0 0 ∧ Below w.heap.size w w'
theorem rows_one {B : Nat} {w : World} {v : Value} {H : List Int} (h : Own B w v H) (hB : B ≤ w.heap.size) : RowsAt B (w.alloc (.cells #[v] 23)) (.slice (some ⟨w.heap.size, 0, none⟩) 1 1) [H] :=
  ⟨[v], ⟨by simp, .inr ⟨w.heap.size, 1, #[v], rfl, hB, heap_alloc_new w _, Nat.le_refl _, by unfold maxLen; omega, by simp, by simp⟩⟩, fun j hj => by
    have e : j = 0 := by simp at hj; omega
    subst e
    exact ⟨v, rfl, h.alloc _⟩⟩
theorem rows_none {B : Nat} (w : World) (hB : B ≤ w.heap.size) : RowsAt B (w.alloc (.cells #[] 23)) (.slice (some ⟨w.heap.size, 0, none⟩) 0 0) [] :=
  ⟨[], ⟨by simp, .inr ⟨w.heap.size, 0, #[], rfl, hB, heap_alloc_new w _, Nat.le_refl _, by unfold maxLen; omega, by simp, by simp⟩⟩, fun j hj => absurd hj (by simp)⟩
theorem rowAt_cat_l {T U : List (List Int)} {j : Nat} (h : j < T.length) : rowAt (T ++ U) j = rowAt T j := by
  unfold rowAt; simp [List.getElem?_append_left h]
theorem rowAt_cat_r {T U : List (List Int)} {j : Nat} (h : T.length ≤ j) : rowAt (T ++ U) j = rowAt U ((j - T.length : Nat) : Int) := by
  unfold rowAt; simp [List.getElem?_append_right h]
theorem RowsAt.cat {B : Nat} {w w' : World} {v v' : Value} {T U : List (List Int)} {vs us : List Value} (h1 : w.ownsRow B 23 1 v T.length vs) (h2 : ∀ j : Nat, j < T.length → ∃ u, vs[j]? = some u ∧ Own B w u (rowAt T j))
    (_ : us.length = U.length) (k2 : ∀ j : Nat, j < U.length → ∃ u, us[j]? = some u ∧ Own B w u (rowAt U j)) (h3 : w'.ownsRow B 23 1 v' (T.length + U.length) (vs ++ us)) (hg : w.grownBy w' v.ownBlock) : RowsAt B w' v' (T ++ U) := by
  have hvl : vs.length = T.length := by have := h1.1; omega
  refine ⟨vs ++ us, by rw [List.length_append]; exact h3, fun j hj => ?_⟩
  rw [List.length_append] at hj
  by_cases e : j < T.length
  · obtain ⟨u', hu', ho⟩ := h2 j e
    refine ⟨u', by rw [List.getElem?_append_left (by omega)]; exact hu', ?_⟩
    rw [rowAt_cat_l e]
    exact World.ownsRow.kept ho hg (own_types ho h1 (by decide))
  · obtain ⟨u', hu', ho⟩ := k2 (j - T.length) (by omega)
    refine ⟨u', by rw [List.getElem?_append_right (by omega), hvl]; exact hu', ?_⟩
    rw [rowAt_cat_r (by omega)]
    exact World.ownsRow.kept ho hg (own_types ho h1 (by decide))
theorem rd_newsZ {w : World} {a : Option Addr} {L : List Int} (h : Rd w a L) (hL : L ≠ []) : ∃ b off, a = some ⟨b, off, none⟩ ∧ ∀ j u, (L.map fun x => Value.int .i64 x)[j]? = some u → w.cell? ((⟨b, off, none⟩ : Addr).add j) = some u := by
  obtain ⟨b, off, rfl, hc⟩ := h hL
  refine ⟨b, off, rfl, fun j u hj => ?_⟩
  rw [List.getElem?_map] at hj
  cases hx : L[j]? with
  | none => rw [hx] at hj; simp at hj
  | some x =>
    rw [hx] at hj
    simp at hj
    subst hj
    have hlt : j < L.length := (List.getElem?_eq_some_iff.1 hx).1
    have := hc j hlt
    have hn : nth L j = x := by unfold nth; simp [hx]
    rw [hn] at this
    rcases Nat.eq_zero_or_pos j with h0 | h0
    · subst h0; simpa [Addr.add] using this
    · simpa [Addr.add, show j ≠ 0 by omega] using this
theorem old_newsZ {w : World} {b off : Nat} {xs : List Value} (o : Obj) (h : ∀ j u, xs[j]? = some u → w.cell? ((⟨b, off, none⟩ : Addr).add j) = some u) : ∀ j u, xs[j]? = some u → (w.alloc o).cell? ((⟨b, off, none⟩ : Addr).add j) = some u := fun j u hj =>
  (((Below.refl w.heap.size w).alloc (Nat.le_refl _) o).cell (by exact block_lt_of_cell (h j u hj))).trans (h j u hj)
theorem rows_shape {w : World} {B : Nat} {v : Value} {n : Nat} {us : List Value} (h : w.ownsRow B 23 1 v n us) (hv : v ≠ .slice none 0 0) : ∃ g c, v = .slice (some ⟨g, 0, none⟩) n c ∧ B ≤ g ∧ ∀ j u, us[j]? = some u → w.cell? ((⟨g, 0, none⟩ : Addr).add j) = some u := by
  rcases h.2 with ⟨rfl, _⟩ | ⟨g, cap, cur, rfl, hb, _⟩
  · exact absurd rfl hv
  · exact ⟨g, cap, rfl, hb, h.cells rfl⟩
theorem rows_cells {B : Nat} {w : World} {us : List Value} {U : List (List Int)} (h : ∀ j : Nat, j < U.length → ∃ u, us[j]? = some u ∧ Own B w u (rowAt U j)) (hl : us.length = U.length * 1) : ∀ u ∈ us, u.oneCell' = true := fun u hu => by
  obtain ⟨i, hi, rfl⟩ := List.getElem_of_mem hu
  obtain ⟨u', hu', ho⟩ := h i (by omega)
  rw [List.getElem?_eq_getElem hi] at hu'
  injection hu' with hu'
  obtain ⟨a, c, e, _⟩ := ho.slice
  rw [hu', e]; rfl
theorem rd_cells {w : World} {b off : Nat} {L : List Int} (h : Rd w (some ⟨b, off, none⟩) L) : ∀ j u, (L.map fun x => Value.int .i64 x)[j]? = some u → w.cell? ((⟨b, off, none⟩ : Addr).add j) = some u := by
  by_cases hL : L = []
  · subst hL; intro j u hu; simp at hu
  · obtain ⟨b', off', e, hn⟩ := rd_newsZ h hL
    simp only [Option.some.injEq, Addr.mk.injEq, and_true] at e
    obtain ⟨rfl, rfl⟩ := e
    exact hn
end Go.Proofs.YtpophjloedpcfaaGreatDoor

namespace Go.Proofs.YtpophjloedpcfaaGreatDoor
open Go.RowKit

/-! Frames of the draws: all is as it was but the reader. -/
section
variable {w w' w'' : World} {g C B : Nat} {m : Int} {v : Value} {L : List Int}
theorem grown_app {row : Option Nat} (h : w.grownBy w' (some g)) (k : w'.grownBy w'' row) (hr : ∀ q, row = some q → w.heap.size ≤ q) : w.grownBy w'' (some g) :=
  ⟨k.os.trans h.os, k.tape.trans h.tape, k.output.trans h.output, Nat.le_trans h.size k.size, fun i hi hne => (k.block i (Nat.lt_of_lt_of_le hi h.size) fun e => by have := hr i e.symm; omega).trans (h.block i hi hne)⟩
theorem grown_new (h : w.grownBy w' (some g)) (k : Below w'.heap.size w' w'') : w.grownBy w'' (some g) := grown_trans h (grown_of_below k)
theorem grown_alloc (h : w.grownBy w' (some g)) (o : Obj) : w.grownBy (w'.alloc o) (some g) := grown_new h ((Below.refl _ _).alloc (Nat.le_refl _) o)
theorem Rdr.alloc (h : Rdr w C g m) (o : Obj) : Rdr (w.alloc o) C g m := h.below ((Below.refl _ _).alloc (Nat.le_refl _) o)
theorem Own.notRdr (ho : Own B w v L) (h : Rdr w C g m) : ∀ q, v.ownBlock = some q → q ≠ g := fun q hq e => by
  obtain ⟨c, hc⟩ := h.type
  rcases ho.2 with ⟨rfl, _⟩ | ⟨b, cap, cur, rfl, _, hb, _⟩
  · simp [Value.ownBlock] at hq
  · simp only [Value.ownBlock, Option.some.injEq] at hq
    rw [hq, e, hc] at hb
    injection hb with hb
    injection hb with _ hb
    exact absurd hb (by decide)
theorem Rdr.app (h : Rdr w C g m) (ho : Own B w v L) (hCB : C ≤ B) (hg : w.grownBy w' v.ownBlock) : Rdr w' C g m := by
  have hlt := h.lt
  have hlo := h.low
  refine h.keep ((Below.refl C w).grown hg (by omega) fun q hq => ?_) (hg.block g hlt fun e => (ho.notRdr h g e.symm) rfl)
  exact Nat.le_trans hCB (World.ownsRow.lt ho q hq).1
end
/-- a list of its own is drawn -/
def RetList (C g : Nat) (m : Int) (lo top : Nat) (w : World) (e : Ending) (w' : World) : Prop := ∃ L v, e = .returned v ∧ Own w.heap.size w' v L ∧ lo ≤ L.length ∧ L.length ≤ top ∧ w.grownBy w' (some g) ∧ Rdr w' C g m
theorem RowsAt.drawn {B : Nat} {w w' : World} {v : Value} {T : List (List Int)} {C g : Nat} {m : Int} (h : RowsAt B w v T) (hr : Rdr w C g m) (hg : w.grownBy w' (some g)) : RowsAt B w' v T := by
  obtain ⟨c, hc⟩ := hr.type
  obtain ⟨vs, h1, h2⟩ := h
  refine ⟨vs, World.ownsRow.kept h1 hg ?_, fun j hj => by obtain ⟨u, hu, ho⟩ := h2 j hj; exact ⟨u, hu, ho.drawn hr hg⟩⟩
  rcases h1.2 with ⟨rfl, _⟩ | ⟨b, cap, cur, rfl, _, hb, _⟩
  · exact .inl rfl
  · right
    simp only [Value.ownBlock, ne_eq, Option.some.injEq]
    intro e
    rw [e, hc] at hb
    injection hb with hb
    injection hb with _ hb
    exact absurd hb (by decide)
theorem RowsAt.at {B : Nat} {w : World} {G cap n : Nat} {T : List (List Int)} (h : RowsAt B w (.slice (some ⟨G, 0, none⟩) n cap) T) {k : Int} (k0 : 0 ≤ k) (k1 : k < T.length) : ∃ a c, w.cell? ⟨G, k.toNat, none⟩ = some (.slice a (rowAt T k).length c) ∧ Own B w (.slice a (rowAt T k).length c) (rowAt T k) := by
  obtain ⟨vs, h1, h2⟩ := h
  obtain ⟨u, hu, ho⟩ := h2 k.toNat (by omega)
  rw [Int.toNat_of_nonneg k0] at ho
  obtain ⟨a, c, rfl, _⟩ := ho.slice
  refine ⟨a, c, ?_, ho⟩
  have := h1.cells rfl k.toNat _ hu
  rcases Nat.eq_zero_or_pos k.toNat with h0 | h0
  · rw [h0] at this ⊢; simpa [Addr.add] using this
  · simpa [Addr.add, show k.toNat ≠ 0 by omega] using this
theorem rowAt_mem {T : List (List Int)} {k : Int} (k0 : 0 ≤ k) (k1 : k < T.length) : rowAt T k ∈ T := by
  rw [rowAt_nat T k k0 k1]; exact List.getElem_mem _
theorem latF_row {n k : Int} (n0 : 0 ≤ n) (k0 : 0 ≤ k) (k1 : k < (latF n n.toNat []).length) : latB (rowAt (latF n n.toNat []) k) = true ∧ ((rowAt (latF n n.toNat []) k).length : Int) = n := by
  obtain ⟨a, b⟩ := latF_lat (rowAt_mem k0 k1)
  refine ⟨a, ?_⟩
  rw [b]; simp; omega
theorem RetRows.parts {B : Nat} {T : List (List Int)} {w w' : World} {e : Ending} (h : RetRows B T w e w') : ∃ G cap, e = .returned (.slice (some ⟨G, 0, none⟩) T.length cap) ∧ RowsAt B w' (.slice (some ⟨G, 0, none⟩) T.length cap) T ∧ Below w.heap.size w w' := by
  obtain ⟨v, rfl, hr, hn, hb⟩ := h
  have hr' := hr
  obtain ⟨vs, h1, _⟩ := hr'
  obtain ⟨G, c, rfl, _⟩ := rows_shape h1 hn
  exact ⟨G, c, rfl, hr, hb⟩
end Go.Proofs.YtpophjloedpcfaaGreatDoor

namespace Go.Proofs.YtpophjloedpcfaaGreatDoor
open Go.RowKit

/-- rows of a literal, wherever a reader has gone on to -/
def Lits (g : Nat) (w : World) (G : Nat) (T : List (List Int)) : Prop := ∀ w' : World, w.grownBy w' (some g) → ∀ k : Int, 0 ≤ k → k < T.length → ∃ rb c, w'.cell? ⟨G, k.toNat, none⟩ = some (.slice (some ⟨rb, 0, none⟩) (rowAt T k).length c) ∧ Rd w' (some ⟨rb, 0, none⟩) (rowAt T k) ∧ (rowAt T k).length ≤ 6
/-- someLattice's four lists, laid -/
def lit4 (w : World) : World := ((((w.alloc (.cells #[.int .i64 15, .int .i64 10, .int .i64 12, .int .i64 8] 3)).alloc (.cells #[.int .i64 63, .int .i64 58, .int .i64 60, .int .i64 40, .int .i64 48, .int .i64 32] 3)).alloc (.cells #[.int .i64 1, .int .i64 2] 3)).alloc (.cells #[] 3)).alloc
  (.cells #[.slice (some ⟨w.heap.size, 0, none⟩) 4 4, .slice (some ⟨w.heap.size + 1, 0, none⟩) 6 6, .slice (some ⟨w.heap.size + 1 + 1, 0, none⟩) 2 2, .slice (some ⟨w.heap.size + 1 + 1 + 1, 0, none⟩) 0 0] 23)
theorem lits_four {C g : Nat} {m : Int} (w : World) (hr : Rdr w C g m) : Lits g (lit4 w) (w.heap.size + 1 + 1 + 1 + 1) [[15, 10, 12, 8], [63, 58, 60, 40, 48, 32], [1, 2], []] ∧ Below w.heap.size w (lit4 w) := by
  have hlt := hr.lt
  have n0 := heap_alloc_new w (.cells #[.int .i64 15, .int .i64 10, .int .i64 12, .int .i64 8] 3)
  have n1 := heap_alloc_new (w.alloc (.cells #[.int .i64 15, .int .i64 10, .int .i64 12, .int .i64 8] 3)) (.cells #[.int .i64 63, .int .i64 58, .int .i64 60, .int .i64 40, .int .i64 48, .int .i64 32] 3)
  have n2 := heap_alloc_new ((w.alloc (.cells #[.int .i64 15, .int .i64 10, .int .i64 12, .int .i64 8] 3)).alloc (.cells #[.int .i64 63, .int .i64 58, .int .i64 60, .int .i64 40, .int .i64 48, .int .i64 32] 3)) (.cells #[.int .i64 1, .int .i64 2] 3)
  have n4 := heap_alloc_new ((((w.alloc (.cells #[.int .i64 15, .int .i64 10, .int .i64 12, .int .i64 8] 3)).alloc (.cells #[.int .i64 63, .int .i64 58, .int .i64 60, .int .i64 40, .int .i64 48, .int .i64 32] 3)).alloc (.cells #[.int .i64 1, .int .i64 2] 3)).alloc (.cells #[] 3)) (.cells #[.slice (some ⟨w.heap.size, 0, none⟩) 4 4, .slice (some ⟨w.heap.size + 1, 0, none⟩) 6 6, .slice (some ⟨w.heap.size + 1 + 1, 0, none⟩) 2 2, .slice (some ⟨w.heap.size + 1 + 1 + 1, 0, none⟩) 0 0] 23)
  simp only [World.size_alloc] at n1 n2 n4
  have h0 : (lit4 w).heap[w.heap.size]? = some (.cells (IL [15, 10, 12, 8]) 3 (0, 0)) := by
    unfold lit4
    rw [Below.heap_alloc _ _ _ (by simp; try omega), Below.heap_alloc _ _ _ (by simp; try omega), Below.heap_alloc _ _ _ (by simp; try omega), Below.heap_alloc _ _ _ (by simp)]
    exact n0
  have h1 : (lit4 w).heap[w.heap.size + 1]? = some (.cells (IL [63, 58, 60, 40, 48, 32]) 3 (0, 0)) := by
    unfold lit4
    rw [Below.heap_alloc _ _ _ (by simp; try omega), Below.heap_alloc _ _ _ (by simp; try omega), Below.heap_alloc _ _ _ (by simp)]
    exact n1
  have h2 : (lit4 w).heap[w.heap.size + 1 + 1]? = some (.cells (IL [1, 2]) 3 (0, 0)) := by
    unfold lit4
    rw [Below.heap_alloc _ _ _ (by simp; try omega), Below.heap_alloc _ _ _ (by simp)]
    exact n2
  have h4 : (lit4 w).heap[w.heap.size + 1 + 1 + 1 + 1]? = some (.cells #[.slice (some ⟨w.heap.size, 0, none⟩) 4 4, .slice (some ⟨w.heap.size + 1, 0, none⟩) 6 6, .slice (some ⟨w.heap.size + 1 + 1, 0, none⟩) 2 2, .slice (some ⟨w.heap.size + 1 + 1 + 1, 0, none⟩) 0 0] 23 (0, 0)) := n4
  refine ⟨fun w' hg k k0 k1 => ?_, ?_⟩
  · have K : ∀ b o, w.heap.size ≤ b → (lit4 w).heap[b]? = some o → w'.heap[b]? = some o := fun b o hb ho => (hg.block b (lt_of_block ho) (by intro e; injection e with e; omega)).trans ho
    have r0 : Row w' w.heap.size [15, 10, 12, 8] := K _ _ (by omega) h0
    have r1 : Row w' (w.heap.size + 1) [63, 58, 60, 40, 48, 32] := K _ _ (by omega) h1
    have r2 : Row w' (w.heap.size + 1 + 1) [1, 2] := K _ _ (by omega) h2
    have r4 := K _ _ (by omega) h4
    have hk : k = 0 ∨ k = 1 ∨ k = 2 ∨ k = 3 := by simp at k1; omega
    rcases hk with rfl | rfl | rfl | rfl
    · exact ⟨_, _, by rw [cell_of_row w' _ _ _ _ _ r4]; rfl, r0.rd, by decide⟩
    · exact ⟨_, _, by rw [cell_of_row w' _ _ _ _ _ r4]; rfl, r1.rd, by decide⟩
    · exact ⟨_, _, by rw [cell_of_row w' _ _ _ _ _ r4]; rfl, r2.rd, by decide⟩
    · exact ⟨_, _, by rw [cell_of_row w' _ _ _ _ _ r4]; rfl, fun h => absurd rfl h, by decide⟩
  · unfold lit4
    exact (((((Below.refl _ _).alloc (Nat.le_refl _) _).alloc (by simp) _).alloc (by simp; omega) _).alloc (by simp; omega) _).alloc (by simp; omega) _
end Go.Proofs.YtpophjloedpcfaaGreatDoor

namespace Go.Proofs.YtpophjloedpcfaaGreatDoor
open Go.RowKit

/-- a list is drawn -/
def RetS (w : World) (e : Ending) (w' : World) : Prop := ∃ L a cap, e = .returned (.slice a L.length cap) ∧ Own w.heap.size w' (.slice a L.length cap) L ∧ L.length ≤ 8 ∧ Below w.heap.size w w'
def RetSi (w : World) (e : Ending) (w' : World) : Prop := ∃ (L : List Int) (a : Option Addr) (cap : Nat) (x : Int), e = .returned (.tuple #[.slice a L.length cap, .int .i64 x]) ∧ Own w.heap.size w' (.slice a L.length cap) L ∧ L.length ≤ 8 ∧ -1 ≤ x ∧ x ≤ 1000 ∧ Below w.heap.size w w'
def RetSii (w : World) (e : Ending) (w' : World) : Prop := ∃ (L : List Int) (a : Option Addr) (cap : Nat) (x y : Int), e = .returned (.tuple #[.slice a L.length cap, .int .i64 x, .int .i64 y]) ∧ Own w.heap.size w' (.slice a L.length cap) L ∧ L.length ≤ 8 ∧ -1 ≤ x ∧ x ≤ 1000 ∧ -1 ≤ y ∧ y ≤ 1000 ∧ Below w.heap.size w w'
def RetI (lo hi : Int) (w : World) (e : Ending) (w' : World) : Prop := ∃ x : Int, e = .returned (.int .i64 x) ∧ lo ≤ x ∧ x ≤ hi ∧ Below w.heap.size w w'
end Go.Proofs.YtpophjloedpcfaaGreatDoor
