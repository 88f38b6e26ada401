import Derived.Test.YtmlbdlobdnhimaaL5
import Derived.OpenShut
import Derived.Deep.MidRow
import Derived.Test.YtmlbdlobdnhimaaY1
import Derived.Test.YtmlbdlobdnhimaaA4
import Derived.BigQuiet
import Derived.Test.YtmlbdlobdnhimaaD3
import Derived.Test.YtmlbdlobdnhimaaU3
import Derived.Test.YtmlbdlobdnhimaaT4
import Derived.OwnWalk
namespace Go.Proofs.Ytmlbdlobdnhimaa
open Go.RowKit

/-! The readers of the drawn arguments. -/
/-- n bytes from an address on, in a block below C -/
def RdY (w : World) (a : Option Addr) (n C : Nat) : Prop := 0 < n → ∃ b off, a = some ⟨b, off, none⟩ ∧ b < C ∧ ∀ j : Nat, j < n → ∃ v : Int, w.cell? ⟨b, off + j, none⟩ = some (.int .u8 v) ∧ 0 ≤ v ∧ v ≤ 255
theorem RdY.below {w w' : World} {a : Option Addr} {n C : Nat} (h : RdY w a n C) (hb : Below C w w') : RdY w' a n C := fun hn => by
  obtain ⟨b, off, ha, hC, hc⟩ := h hn
  exact ⟨b, off, ha, hC, fun j hj => by obtain ⟨v, hv, h0, h1⟩ := hc j hj; exact ⟨v, (hb.cell hC).trans hv, h0, h1⟩⟩
theorem RdY.less {w : World} {a : Option Addr} {n m C : Nat} (h : RdY w a n C) (hm : m ≤ n) : RdY w a m C := fun h0 => by
  obtain ⟨b, off, ha, hC, hc⟩ := h (by omega)
  exact ⟨b, off, ha, hC, fun j hj => hc j (by omega)⟩
/-- a reader at block g over bytes below C, at most at place m -/
def Rdr (w : World) (C g : Nat) (m : Int) : Prop := ∃ a n cap, ∃ p : Int, w.heap[g]? = some (.cells #[.slice a n cap, .int .i64 p] 78 (0, 0)) ∧ RdY w a n C ∧ C ≤ g ∧ n ≤ 2000 ∧ 0 ≤ p ∧ p ≤ m
theorem Rdr.lt {w : World} {C g : Nat} {m : Int} (h : Rdr w C g m) : g < w.heap.size := by
  obtain ⟨a, n, cap, p, hg, _⟩ := h; exact lt_of_block hg
theorem Rdr.low {w : World} {C g : Nat} {m : Int} (h : Rdr w C g m) : C ≤ g := by
  obtain ⟨a, n, cap, p, hg, _, hC, _⟩ := h; exact hC
theorem Rdr.keep {w w' : World} {C g : Nat} {m : Int} (h : Rdr w C g m) (hb : Below C w w') (hg : w'.heap[g]? = w.heap[g]?) : Rdr w' C g m := by
  obtain ⟨a, n, cap, p, h1, h2, h3⟩ := h
  exact ⟨a, n, cap, p, hg.trans h1, h2.below hb, h3⟩
theorem Rdr.below {w w' : World} {C g : Nat} {m : Int} (h : Rdr w C g m) (hb : Below w.heap.size w w') : Rdr w' C g m :=
  h.keep (hb.mono (by have := h.low; have := h.lt; omega)) (hb.block _ h.lt)
theorem Rdr.more {w : World} {C g : Nat} {m m' : Int} (h : Rdr w C g m) (hm : m ≤ m') : Rdr w C g m' := by
  obtain ⟨a, n, cap, p, h1, h2, h3, h4, h5, h6⟩ := h
  exact ⟨a, n, cap, p, h1, h2, h3, h4, h5, by omega⟩
theorem Rdr.type {w : World} {C g : Nat} {m : Int} (h : Rdr w C g m) : ∃ c, w.heap[g]? = some (.cells c 78 (0, 0)) := by
  obtain ⟨a, n, cap, p, h1, _⟩ := h; exact ⟨_, h1⟩
/-- what was there but for one block is as it was -/
theorem grown_of_below {w w' : World} {row : Option Nat} (h : Below w.heap.size w w') : w.grownBy w' row := ⟨h.os, h.tape, h.output, h.size, fun k hk _ => h.block k hk⟩
theorem grown_below {w w' : World} {g C : Nat} (h : w.grownBy w' (some g)) (hC : C ≤ g) (hw : C ≤ w.heap.size) : Below C w w' := ⟨h.os, h.tape, h.output, h.size, fun k hk => h.block k (by omega) (by intro e; injection e with e; omega)⟩
/-- lists of the call's own stay while a reader goes on -/
theorem Own.drawn {B : Nat} {w w' : World} {v : Value} {L : List Int} {C g : Nat} {m : Int} (h : Own B w v L) (hr : Rdr w C g m) (hg : w.grownBy w' (some g)) : Own B w' v L := by
  obtain ⟨c, hc⟩ := hr.type
  refine World.ownsRow.kept h hg ?_
  rcases h.2 with ⟨rfl, _⟩ | ⟨b, cap, cur, rfl, _, hb, _⟩
  · exact .inl rfl
  · right
    simp only [Value.ownBlock, ne_eq, Option.some.injEq]
    intro e
    rw [e, hc] at hb
    injection hb with hb
    injection hb with _ hb
    exact absurd hb (by decide)
theorem rdr_cells {w : World} {g : Nat} {x y : Value} (h : w.heap[g]? = some (.cells #[x, y] 78 (0, 0))) : w.cell? ⟨g, 0, none⟩ = some x ∧ w.cell? ⟨g, 1, none⟩ = some y :=
  ⟨by rw [cell_of_row w g 0 _ _ _ h]; rfl, by rw [cell_of_row w g 1 _ _ _ h]; rfl⟩
theorem rdr_set {w : World} {g : Nat} {x y z : Value} (h : w.heap[g]? = some (.cells #[x, y] 78 (0, 0))) : (w.setCell ⟨g, 1, none⟩ z).heap[g]? = some (.cells #[x, z] 78 (0, 0)) := by
  rw [heap_setCell_same w g 1 _ _ _ h]; rfl
theorem rdr_grown (w : World) (g : Nat) (o : Nat) (z : Value) : w.grownBy (w.setCell ⟨g, o, none⟩ z) (some g) :=
  ⟨rfl, rfl, rfl, by simp [World.setCell], fun k _ hk => Below.heap_setCell _ _ _ _ (by intro e; exact hk (by rw [e]))⟩
/-- a number is drawn -/
def RetPick (C g : Nat) (m n : Int) (w : World) (e : Ending) (w' : World) : Prop := ∃ v : Int, e = .returned (.int .i64 v) ∧ 0 ≤ v ∧ v < n ∧ w.grownBy w' (some g) ∧ Rdr w' C g m
theorem bits_xor_i64 (a b : Nat) (ha : a < 1073741824) (hb : b < 1073741824) : bits .xor .i64 (a : Int) (b : Int) = ((a ^^^ b : Nat) : Int) := by
  have hx : a ^^^ b < 2 ^ 30 := Nat.xor_lt_two_pow (by omega) (by omega)
  have h1 : (BitVec.ofInt 64 (a : Int)).toNat = a := by
    rw [BitVec.ofInt_natCast, BitVec.toNat_ofNat]; exact Nat.mod_eq_of_lt (by omega)
  have h2 : (BitVec.ofInt 64 (b : Int)).toNat = b := by
    rw [BitVec.ofInt_natCast, BitVec.toNat_ofNat]; exact Nat.mod_eq_of_lt (by omega)
  show IntKind.i64.wrap ((BitVec.ofInt 64 (a : Int) ^^^ BitVec.ofInt 64 (b : Int)).toNat : Int) = _
  rw [BitVec.toNat_xor, h1, h2, IntKind.wrap_i64]
  omega
theorem xor_pos {a b : Int} (a0 : 0 ≤ a) (a1 : a < 1073741824) (b0 : 0 ≤ b) (b1 : b < 1073741824) : 0 ≤ bits .xor .i64 a b := by
  obtain ⟨x, rfl⟩ := Int.eq_ofNat_of_zero_le a0
  obtain ⟨y, rfl⟩ := Int.eq_ofNat_of_zero_le b0
  rw [bits_xor_i64 x y (by omega) (by omega)]
  omega
/-- what the frame says of bytes that came in -/
theorem rdy_of_row {w : World} {a : Option Addr} {len cap : Nat} {zs : List Int}
    (h : (a = none ∧ len = 0 ∧ cap = 0 ∧ zs = []) ∨ ∃ x, a = some x ∧ len ≤ cap ∧ cap ≤ maxLen ∧ zs.length = cap ∧ (∀ i, i < zs.length → w.cell? (x.add i) = some (.int .u8 (zs.getD i 0))) ∧ ∀ n ∈ zs, (Lit.int .u8 n).wf = true) :
    RdY w a len w.heap.size ∧ len ≤ cap ∧ len ≤ maxLen := by
  rcases h with ⟨rfl, rfl, rfl, rfl⟩ | ⟨x, rfl, hl, hm, hz, hc, hw⟩
  · exact ⟨fun h => absurd h (by omega), Nat.le_refl _, Nat.zero_le _⟩
  · refine ⟨fun hne => ?_, hl, by omega⟩
    have hpos : 0 < zs.length := by omega
    obtain ⟨b, off, spot⟩ := x
    have h0 := hc 0 hpos
    have hs : spot = none := by
      cases spot with
      | none => rfl
      | some s => simp [Addr.add, World.cell?] at h0; split at h0 <;> simp at h0
    subst hs
    have h0' := h0
    rw [Addr.add_mid] at h0'
    refine ⟨b, off, rfl, block_lt_of_cell h0', fun j hj => ?_⟩
    have := hc j (by omega)
    rw [Addr.add_mid] at this
    refine ⟨_, this, ?_⟩
    have hm : zs.getD j 0 ∈ zs := by
      rw [List.getD_eq_getElem?_getD, List.getElem?_eq_getElem (by omega), Option.getD_some]
      exact List.getElem_mem _
    have := hw _ hm
    simp [Lit.wf, IntKind.min, IntKind.max, IntKind.signed, IntKind.bits] at this
    simp only [List.getD_eq_getElem?_getD]
    omega
end Go.Proofs.Ytmlbdlobdnhimaa

/- spec.latticesFrom: what it lists. -/
namespace Go.Proofs.Ytmlbdlobdnhimaa
open Go.RowKit

/-- may the row stand at x -/
def lfQ (x row : Int) : Bool := row % pw x == 0 && bt row x == 1
def catTo (f : Int → List (List Int)) (a : Int) : Nat → List (List Int)
  | 0 => []
  | j + 1 => catTo f a j ++ f (a + j)
/-- all lattices of n whose first rows are the head, k rows on -/
def latF (n : Int) : Nat → List Int → List (List Int)
  | 0, head => if latB head then [head] else []
  | k + 1, head => catTo (fun row => if lfQ head.length row then latF n k (head ++ [row]) else []) (pw head.length) (pw n - pw head.length).toNat
theorem catTo_succ (f : Int → List (List Int)) (a : Int) {j : Int} (h : 0 ≤ j) : catTo f a (j + 1).toNat = catTo f a j.toNat ++ f (a + j) := by
  rw [show (j + 1).toNat = j.toNat + 1 by omega]
  show catTo f a j.toNat ++ f (a + (j.toNat : Int)) = _
  rw [Int.toNat_of_nonneg h]
theorem catTo_mem {f : Int → List (List Int)} {a : Int} {L : List Int} : ∀ {j : Nat}, L ∈ catTo f a j ↔ ∃ i : Nat, i < j ∧ L ∈ f (a + i)
  | 0 => ⟨fun h => (by cases h), fun ⟨i, hi, _⟩ => (by omega)⟩
  | j + 1 => by
    show L ∈ catTo f a j ++ f (a + j) ↔ _
    rw [List.mem_append, catTo_mem]
    constructor
    · rintro (⟨i, hi, h⟩ | h)
      · exact ⟨i, by omega, h⟩
      · exact ⟨j, by omega, h⟩
    · rintro ⟨i, hi, h⟩
      by_cases e : i = j
      · subst e; exact .inr h
      · exact .inl ⟨i, by omega, h⟩
theorem catTo_len {f : Int → List (List Int)} {a : Int} {B : Nat} (hf : ∀ i, (f i).length ≤ B) : ∀ j, (catTo f a j).length ≤ j * B
  | 0 => by rw [Nat.zero_mul]; exact Nat.zero_le _
  | j + 1 => by
    show (catTo f a j ++ f (a + j)).length ≤ _
    rw [List.length_append, Nat.succ_mul]
    exact Nat.add_le_add (catTo_len hf j) (hf _)
theorem latF_bound {n : Int} (n5 : n ≤ 5) : ∀ (k : Nat) (H : List Int), (latF n k H).length ≤ 32 ^ k
  | 0, H => by
    show (if latB H then [H] else []).length ≤ _
    split <;> simp
  | k + 1, H => by
    have h1 := catTo_len (f := fun row => if lfQ H.length row then latF n k (H ++ [row]) else []) (a := pw H.length) (B := 32 ^ k) (fun i => by
      split
      · exact latF_bound n5 k _
      · exact Nat.zero_le _) (pw n - pw H.length).toNat
    have h2 := pw_mono n 5 n5
    have h3 : pw 5 = 32 := by decide
    have h4 := pw_pos (H.length : Int)
    refine Nat.le_trans h1 ?_
    rw [Nat.pow_succ, Nat.mul_comm]
    exact Nat.mul_le_mul_left _ (by omega)
theorem latF_lat {n : Int} {L : List Int} : ∀ {k : Nat} {H : List Int}, L ∈ latF n k H → latB L = true ∧ L.length = H.length + k
  | 0, H, h => by
    change L ∈ (if latB H then [H] else []) at h
    split at h
    · rename_i hb
      rw [List.mem_singleton.1 h]; exact ⟨hb, rfl⟩
    · cases h
  | k + 1, H, h => by
    obtain ⟨i, hi, h⟩ := catTo_mem.1 h
    split at h
    · obtain ⟨a, b⟩ := latF_lat h
      rw [List.length_append, List.length_singleton] at b
      exact ⟨a, by omega⟩
    · cases h
theorem lfQ_fin : ∀ n : Fin 7, ∀ i : Fin 7, i.val < n.val → lfQ (i.val : Int) (pw (n.val : Int) - pw (i.val : Int)) = true ∧ pw (i.val : Int) ≤ pw (n.val : Int) - pw (i.val : Int) := by decide +kernel
theorem chain_fin : ∀ n : Fin 7, 1 ≤ n.val → latB (chainTo (n.val : Int) (n.val : Int)) = true := by decide +kernel
theorem chain_lat {n : Int} (n1 : 1 ≤ n) (n6 : n ≤ 6) : latB (chainTo n n) = true := by
  have := chain_fin ⟨n.toNat, by omega⟩ (by show 1 ≤ n.toNat; omega)
  simpa [Int.toNat_of_nonneg (show 0 ≤ n by omega)] using this
theorem latF_chain {n : Int} (n6 : n ≤ 6) (n1 : 1 ≤ n) : ∀ (k : Nat) (H : List Int), (H.length : Int) + k = n → H = chainTo n H.length → chainTo n n ∈ latF n k H
  | 0, H, hl, hH => by
    have e : (H.length : Int) = n := by omega
    rw [e] at hH
    show _ ∈ (if latB H then [H] else [])
    rw [hH, if_pos (chain_lat n1 n6)]
    exact List.mem_singleton.2 rfl
  | k + 1, H, hl, hH => by
    obtain ⟨q1, q2⟩ := lfQ_fin ⟨n.toNat, by omega⟩ ⟨H.length, by omega⟩ (by show H.length < n.toNat; omega)
    simp only [Int.toNat_of_nonneg (show 0 ≤ n by omega)] at q1 q2
    refine catTo_mem.2 ⟨(pw n - pw H.length - pw H.length).toNat, by have := pw_pos (H.length : Int); omega, ?_⟩
    have e : pw H.length + ((pw n - pw H.length - pw H.length).toNat : Int) = pw n - pw H.length := by omega
    rw [e, if_pos q1]
    refine latF_chain n6 n1 k _ (by rw [List.length_append, List.length_singleton]; omega) ?_
    rw [List.length_append, List.length_singleton, show ((H.length + 1 : Nat) : Int) = (H.length : Int) + 1 by omega, chainTo_succ _ _ (by omega), ← hH]
theorem latF_some {n : Int} (n1 : 1 ≤ n) (n6 : n ≤ 6) : latF n n.toNat [] ≠ [] := fun e => by
  have := latF_chain n6 n1 n.toNat [] (by simp; omega) rfl
  rw [e] at this
  cases this
end Go.Proofs.Ytmlbdlobdnhimaa

namespace Go.Proofs.Ytmlbdlobdnhimaa
open Go.RowKit

set_option maxRecDepth 100000 in
set_option maxHeartbeats 2000000 in
/-- spec.newReader -/
theorem newReader_any (a : Option Addr) (n cap : Nat) (w : World) (hy : RdY w a n w.heap.size) (hc : n ≤ cap) (hm : n ≤ 1048576) :
    Calls Try.prog 58 #[.slice a n cap] w fun e w' => e = .returned (.pointer (some ⟨w.heap.size, 0, none⟩)) ∧ Below w.heap.size w w' ∧ Rdr w' w.heap.size w.heap.size 0 := by
  by_cases hb : 2000 < n
  · obtain ⟨b, off, rfl, hC, hd⟩ := hy (by omega)
    have h2 : (2000 : Int) < n := by omega
    have h3 : 2000 ≤ cap := by omega
    have hy2 := hy.less (show 2000 ≤ n by omega)
    go_enter Try.func58, Try.ntmps58
    go_wp2
    go_ret
    refine ⟨rfl, (Below.refl _ _).alloc (Nat.le_refl _) _, _, _, _, _, heap_alloc_new w _, hy2.below ((Below.refl _ _).alloc (Nat.le_refl _) _), Nat.le_refl _, by omega, by omega, by omega⟩
  · have h2 : ¬ (2000 : Int) < n := by omega
    go_enter Try.func58, Try.ntmps58
    go_wp2
    go_ret
    refine ⟨rfl, (Below.refl _ _).alloc (Nat.le_refl _) _, _, _, _, _, heap_alloc_new w _, hy.below ((Below.refl _ _).alloc (Nat.le_refl _) _), Nat.le_refl _, by omega, by omega, by omega⟩
set_option maxRecDepth 100000 in
set_option maxHeartbeats 4000000 in
/-- spec.pick -/
theorem pick_any (C g : Nat) (m n : Int) (w : World) (hr : Rdr w C g m) (m1 : m ≤ 100000) (n1 : 1 ≤ n) (n2 : n ≤ 1073741824) :
    Calls Try.prog 83 #[.pointer (some ⟨g, 0, none⟩), .int .i64 n] w (RetPick C g (m + 1) n w) := by
  obtain ⟨a, N, cap, p, hg, hy, hC, hN, p0, pm⟩ := hr
  obtain ⟨c0, c1⟩ := rdr_cells hg
  have hz := frozen_of_row w g 1 _ _ hg
  have hg2 := rdr_set (z := .int .i64 (p + 1)) hg
  have hgr := rdr_grown w g 1 (.int .i64 (p + 1))
  have hw : IntKind.i64.wrap (p + 1) = p + 1 := IntWalk.i64_in _ (by omega)
  have hlt := lt_of_block hg
  have hR : Rdr (w.setCell ⟨g, 1, none⟩ (.int .i64 (p + 1))) C g (m + 1) := ⟨a, N, cap, p + 1, hg2, hy.below ((Below.refl _ _).setCell hC _), hC, hN, by omega, by omega⟩
  obtain ⟨d0, d1⟩ := rdr_cells hg2
  by_cases hN0 : N = 0
  · subst hN0
    go_enter Try.func83, Try.ntmps83
    go_wp2
    go_ret
    exact ⟨0, rfl, by omega, by omega, hgr, hR⟩
  · obtain ⟨b, off, rfl, hbC, hd⟩ := (hy.below ((Below.refl C w).setCell (p := ⟨g, 1, none⟩) hC (.int .i64 (p + 1)))) (by omega)
    have hNz : ((N : Int) == 0) = false := by rw [beq_eq_false_iff_ne]; omega
    by_cases hp : p < N
    · obtain ⟨v, hv, v0, v1⟩ := hd p.toNat (by omega)
      have hw2 : IntKind.i64.wrap (p + 1 - 1) = p := by rw [show p + 1 - 1 = p by omega]; exact IntWalk.i64_in _ (by omega)
      have r0 : 0 ≤ v % n := Int.emod_nonneg _ (by omega)
      have r1 : v % n < n := Int.emod_lt_of_pos _ (by omega)
      go_enter Try.func83, Try.ntmps83
      go_wp2
      all_goals go_ret
      all_goals exact ⟨_, rfl, r0, r1, hgr, hR⟩
    · have hN1 : (0 : Int) < N := by omega
      obtain ⟨i1, hi1⟩ : ∃ i : Nat, i = (p % N).toNat := ⟨_, rfl⟩
      obtain ⟨i2, hi2⟩ : ∃ i : Nat, i = ((p * 7 + 3) % N).toNat := ⟨_, rfl⟩
      have e1 := Int.emod_nonneg p (show (N : Int) ≠ 0 by omega)
      have e2 := Int.emod_lt_of_pos p hN1
      have e3 := Int.emod_nonneg (p * 7 + 3) (show (N : Int) ≠ 0 by omega)
      have e4 := Int.emod_lt_of_pos (p * 7 + 3) hN1
      obtain ⟨v, hv, v0, v1⟩ := hd (p % N).toNat (by omega)
      obtain ⟨u, hu, u0, u1⟩ := hd ((p * 7 + 3) % N).toNat (by omega)
      have hw2 : IntKind.i64.wrap (p + 1 - 1) = p := by rw [show p + 1 - 1 = p by omega]; exact IntWalk.i64_in _ (by omega)
      have q0 : 0 ≤ p / N := Int.ediv_nonneg p0 (by omega)
      have q1 : p / N ≤ p := Int.ediv_le_self _ p0
      have t1 : Int.tmod p N = p % N := Int.tmod_eq_emod_of_nonneg p0
      have t2 : Int.tmod (p * 7 + 3) N = (p * 7 + 3) % N := Int.tmod_eq_emod_of_nonneg (by omega)
      have t3 : Int.tdiv p N = p / N := Int.tdiv_eq_ediv_of_nonneg p0
      clear hi1 hi2
      go_enter Try.func83, Try.ntmps83
      go_wp2
      go_quiet (fail)
      go_wp2
      all_goals go_ret
      have x0 : 0 ≤ v * 131 + u * 1117 + p * 29 + p / N * 53 := by omega
      have x1 : v * 131 + u * 1117 + p * 29 + p / N * 53 < 1073741824 := by omega
      have y0 := xor_pos x0 x1 (b := (v * 131 + u * 1117 + p * 29 + p / N * 53) / 64) (by omega) (by omega)
      refine ⟨_, rfl, ?_, ?_, ⟨hgr.os, hgr.tape, hgr.output, hgr.size, hgr.block⟩, hR⟩
      · rw [Int.tmod_eq_emod_of_nonneg y0]; exact Int.emod_nonneg _ (by omega)
      · rw [Int.tmod_eq_emod_of_nonneg y0]; exact Int.emod_lt_of_pos _ (by omega)
theorem nth_mem' (V : List Int) {i : Int} (i0 : 0 ≤ i) (h : i < V.length) : nth V i ∈ V := by
  unfold nth
  have : i.toNat < V.length := by omega
  rw [List.getD_eq_getElem?_getD, List.getElem?_eq_getElem this, Option.getD_some]
  exact List.getElem_mem this
/-- a reading that no draw turns -/
def Held (g : Nat) (w : World) (a : Option Addr) (L : List Int) : Prop := ∀ w' : World, w.grownBy w' (some g) → Rd w' a L
theorem Own.held {B : Nat} {w : World} {a : Option Addr} {cap : Nat} {L : List Int} {C g : Nat} {m : Int} (h : Own B w (.slice a L.length cap) L) (hr : Rdr w C g m) : Held g w a L := fun _ hg => (h.drawn hr hg).rd
theorem grown_refl (w : World) (r : Option Nat) : w.grownBy w r := ⟨rfl, rfl, rfl, Nat.le_refl _, fun _ _ _ => rfl⟩
set_option maxRecDepth 100000 in
set_option maxHeartbeats 4000000 in
/-- spec.pick of nothing -/
theorem pick_nil (C g : Nat) (m n : Int) (w : World) (hr : Rdr w C g m) (m1 : m ≤ 100000) (n1 : n < 1) :
    Calls Try.prog 83 #[.pointer (some ⟨g, 0, none⟩), .int .i64 n] w (RetPick C g (m + 1) 1 w) := by
  obtain ⟨a, N, cap, p, hg, hy, hC, hN, p0, pm⟩ := hr
  obtain ⟨c0, c1⟩ := rdr_cells hg
  have hz := frozen_of_row w g 1 _ _ hg
  have hg2 := rdr_set (z := .int .i64 (p + 1)) hg
  have hgr := rdr_grown w g 1 (.int .i64 (p + 1))
  have hw : IntKind.i64.wrap (p + 1) = p + 1 := IntWalk.i64_in _ (by omega)
  have hlt := lt_of_block hg
  have hR : Rdr (w.setCell ⟨g, 1, none⟩ (.int .i64 (p + 1))) C g (m + 1) := ⟨a, N, cap, p + 1, hg2, hy.below ((Below.refl _ _).setCell hC _), hC, hN, by omega, by omega⟩
  obtain ⟨d0, d1⟩ := rdr_cells hg2
  go_enter Try.func83, Try.ntmps83
  go_wp2
  all_goals go_ret
  all_goals exact ⟨0, rfl, by omega, by omega, hgr, hR⟩
set_option maxRecDepth 100000 in
set_option maxHeartbeats 2000000 in
/-- spec.one -/
theorem one_any (C g : Nat) (m : Int) (a : Option Addr) (cap : Nat) (L : List Int) (w : World) (hr : Rdr w C g m) (m1 : m ≤ 100000) (hh : Held g w a L) (l1 : 1 ≤ L.length) (l2 : L.length ≤ 1000) :
    Calls Try.prog 79 #[.pointer (some ⟨g, 0, none⟩), .slice a L.length cap] w fun e w' => ∃ k : Int, 0 ≤ k ∧ k < L.length ∧ e = .returned (.int .i64 (nth L k)) ∧ w.grownBy w' (some g) ∧ Rdr w' C g (m + 1) := by
  have l3 : (1 : Int) ≤ L.length := by omega
  have l4 : (L.length : Int) ≤ 1073741824 := by omega
  have hne : L ≠ [] := by intro e; rw [e] at l1; simp at l1
  have HH := Lib.hid hh; clear hh
  obtain ⟨b, off, rfl, _⟩ := HH.out w (grown_refl w _) hne
  go_enter Try.func79, Try.ntmps79
  go_wp2_with fail
  refine (pick_any C g m L.length w hr m1 l3 l4).mono ?_
  rintro e w1 ⟨k, rfl, k0, k1, hg, hr1⟩
  obtain ⟨b', off', e', hc⟩ := HH.out w1 hg hne
  simp only [Option.some.injEq, Addr.mk.injEq, and_true] at e'
  obtain ⟨rfl, rfl⟩ := e'
  have c1 := hc.at k k0 k1
  go_wp2
  go_ret
  exact ⟨k, k0, k1, rfl, hg, hr1⟩
set_option maxRecDepth 100000 in
set_option maxHeartbeats 2000000 in
/-- spec.element -/
theorem element_any (C g : Nat) (m n : Int) (w : World) (hr : Rdr w C g m) (m1 : m ≤ 90000) (n0 : 0 ≤ n) (n1 : n ≤ 1000) :
    Calls Try.prog 65 #[.pointer (some ⟨g, 0, none⟩), .int .i64 n] w fun e w' => ∃ v : Int, -1 ≤ v ∧ v ≤ 1000 ∧ e = .returned (.int .i64 v) ∧ w.grownBy w' (some g) ∧ Rdr w' C g (m + 2) := by
  go_enter Try.func65, Try.ntmps65
  go_wp2_with fail
  refine (pick_any C g m 24 w hr (by omega) (by omega) (by omega)).mono ?_
  rintro e w1 ⟨k, rfl, k0, k1, hg, hr1⟩
  by_cases hk : k = 0
  · subst hk
    go_wp2_with fail
    have hrow : Row (w1.alloc (.cells #[.int .i64 (-1), .int .i64 n, .int .i64 6] 3)) w1.heap.size [-1, n, 6] := heap_alloc_new w1 _
    have hown := Own.row hrow (Nat.le_refl _) (by unfold maxLen; simp)
    have hr2 := hr1.below ((Below.refl w1.heap.size w1).alloc (Nat.le_refl _) (.cells #[.int .i64 (-1), .int .i64 n, .int .i64 6] 3))
    refine (one_any C g (m + 1) _ _ [-1, n, 6] _ hr2 (by omega) (hown.held hr2) (by simp) (by simp)).mono ?_
    rintro e w2 ⟨j, j0, j1, rfl, hg2, hr3⟩
    have hb : -1 ≤ nth [-1, n, 6] j ∧ nth [-1, n, 6] j ≤ 1000 := by
      have hm := nth_mem' [-1, n, 6] j0 j1
      simp only [List.mem_cons, List.not_mem_nil, or_false] at hm
      omega
    obtain ⟨v, hv⟩ : ∃ v, v = nth [-1, n, 6] j := ⟨_, rfl⟩
    rw [← hv] at hb ⊢
    clear hv
    go_wp2
    go_ret
    exact ⟨v, hb.1, hb.2, rfl, grown_trans hg (grown_trans (grown_of_below ((Below.refl _ _).alloc (Nat.le_refl _) _)) hg2), hr3.more (by omega)⟩
  · have hk2 : (k == 0) = false := by rw [beq_eq_false_iff_ne]; exact hk
    by_cases hn : n < 1
    · go_wp2_with fail
      refine (pick_nil C g (m + 1) n w1 hr1 (by omega) hn).mono ?_
      rintro e w2 ⟨j, rfl, j0, j1, hg2, hr3⟩
      go_wp2
      go_ret
      exact ⟨j, by omega, by omega, rfl, grown_trans hg hg2, hr3.more (by omega)⟩
    · go_wp2_with fail
      refine (pick_any C g (m + 1) n w1 hr1 (by omega) (by omega) (by omega)).mono ?_
      rintro e w2 ⟨j, rfl, j0, j1, hg2, hr3⟩
      go_wp2
      go_ret
      exact ⟨j, by omega, by omega, rfl, grown_trans hg hg2, hr3.more (by omega)⟩
end Go.Proofs.Ytmlbdlobdnhimaa

namespace Go.Proofs.Ytmlbdlobdnhimaa
open Go.RowKit

/-- a table of the call's own is handed back -/
def RetRows (B : Nat) (T : List (List Int)) (w : World) (e : Ending) (w' : World) : Prop := ∃ v, e = .returned v ∧ RowsAt B w' v T ∧ v ≠ .slice none 0 0 ∧ Below w.heap.size w w'
theorem rows_one {B : Nat} {w : World} {v : Value} {H : List Int} (h : Own B w v H) (hB : B ≤ w.heap.size) : RowsAt B (w.alloc (.cells #[v] 23)) (.slice (some ⟨w.heap.size, 0, none⟩) 1 1) [H] :=
  ⟨[v], ⟨by simp, .inr ⟨w.heap.size, 1, #[v], rfl, hB, heap_alloc_new w _, Nat.le_refl _, by unfold maxLen; omega, by simp, by simp⟩⟩, fun j hj => by
    have e : j = 0 := by simp at hj; omega
    subst e
    exact ⟨v, rfl, h.alloc _⟩⟩
theorem rows_none {B : Nat} (w : World) (hB : B ≤ w.heap.size) : RowsAt B (w.alloc (.cells #[] 23)) (.slice (some ⟨w.heap.size, 0, none⟩) 0 0) [] :=
  ⟨[], ⟨by simp, .inr ⟨w.heap.size, 0, #[], rfl, hB, heap_alloc_new w _, Nat.le_refl _, by unfold maxLen; omega, by simp, by simp⟩⟩, fun j hj => absurd hj (by simp)⟩
theorem rowAt_cat_l {T U : List (List Int)} {j : Nat} (h : j < T.length) : rowAt (T ++ U) j = rowAt T j := by
  unfold rowAt; simp [List.getElem?_append_left h]
theorem rowAt_cat_r {T U : List (List Int)} {j : Nat} (h : T.length ≤ j) : rowAt (T ++ U) j = rowAt U ((j - T.length : Nat) : Int) := by
  unfold rowAt; simp [List.getElem?_append_right h]
theorem RowsAt.cat {B : Nat} {w w' : World} {v v' : Value} {T U : List (List Int)} {vs us : List Value} (h1 : w.ownsRow B 23 1 v T.length vs) (h2 : ∀ j : Nat, j < T.length → ∃ u, vs[j]? = some u ∧ Own B w u (rowAt T j))
    (_ : us.length = U.length) (k2 : ∀ j : Nat, j < U.length → ∃ u, us[j]? = some u ∧ Own B w u (rowAt U j)) (h3 : w'.ownsRow B 23 1 v' (T.length + U.length) (vs ++ us)) (hg : w.grownBy w' v.ownBlock) : RowsAt B w' v' (T ++ U) := by
  have hvl : vs.length = T.length := by have := h1.1; omega
  refine ⟨vs ++ us, by rw [List.length_append]; exact h3, fun j hj => ?_⟩
  rw [List.length_append] at hj
  by_cases e : j < T.length
  · obtain ⟨u', hu', ho⟩ := h2 j e
    refine ⟨u', by rw [List.getElem?_append_left (by omega)]; exact hu', ?_⟩
    rw [rowAt_cat_l e]
    exact World.ownsRow.kept ho hg (own_types ho h1 (by decide))
  · obtain ⟨u', hu', ho⟩ := k2 (j - T.length) (by omega)
    refine ⟨u', by rw [List.getElem?_append_right (by omega), hvl]; exact hu', ?_⟩
    rw [rowAt_cat_r (by omega)]
    exact World.ownsRow.kept ho hg (own_types ho h1 (by decide))
theorem rd_newsZ {w : World} {a : Option Addr} {L : List Int} (h : Rd w a L) (hL : L ≠ []) : ∃ b off, a = some ⟨b, off, none⟩ ∧ ∀ j u, (L.map fun x => Value.int .i64 x)[j]? = some u → w.cell? ((⟨b, off, none⟩ : Addr).add j) = some u := by
  obtain ⟨b, off, rfl, hc⟩ := h hL
  refine ⟨b, off, rfl, fun j u hj => ?_⟩
  rw [List.getElem?_map] at hj
  cases hx : L[j]? with
  | none => rw [hx] at hj; simp at hj
  | some x =>
    rw [hx] at hj
    simp at hj
    subst hj
    have hlt : j < L.length := (List.getElem?_eq_some_iff.1 hx).1
    have := hc j hlt
    have hn : nth L j = x := by unfold nth; simp [hx]
    rw [hn] at this
    rcases Nat.eq_zero_or_pos j with h0 | h0
    · subst h0; simpa [Addr.add] using this
    · simpa [Addr.add, show j ≠ 0 by omega] using this
theorem old_newsZ {w : World} {b off : Nat} {xs : List Value} (o : Obj) (h : ∀ j u, xs[j]? = some u → w.cell? ((⟨b, off, none⟩ : Addr).add j) = some u) : ∀ j u, xs[j]? = some u → (w.alloc o).cell? ((⟨b, off, none⟩ : Addr).add j) = some u := fun j u hj =>
  (((Below.refl w.heap.size w).alloc (Nat.le_refl _) o).cell (by exact block_lt_of_cell (h j u hj))).trans (h j u hj)
theorem rows_shape {w : World} {B : Nat} {v : Value} {n : Nat} {us : List Value} (h : w.ownsRow B 23 1 v n us) (hv : v ≠ .slice none 0 0) : ∃ g c, v = .slice (some ⟨g, 0, none⟩) n c ∧ B ≤ g ∧ ∀ j u, us[j]? = some u → w.cell? ((⟨g, 0, none⟩ : Addr).add j) = some u := by
  rcases h.2 with ⟨rfl, _⟩ | ⟨g, cap, cur, rfl, hb, _⟩
  · exact absurd rfl hv
  · exact ⟨g, cap, rfl, hb, h.cells rfl⟩
theorem rows_cells {B : Nat} {w : World} {us : List Value} {U : List (List Int)} (h : ∀ j : Nat, j < U.length → ∃ u, us[j]? = some u ∧ Own B w u (rowAt U j)) (hl : us.length = U.length * 1) : ∀ u ∈ us, u.oneCell' = true := fun u hu => by
  obtain ⟨i, hi, rfl⟩ := List.getElem_of_mem hu
  obtain ⟨u', hu', ho⟩ := h i (by omega)
  rw [List.getElem?_eq_getElem hi] at hu'
  injection hu' with hu'
  obtain ⟨a, c, e, _⟩ := ho.slice
  rw [hu', e]; rfl
theorem rd_cells {w : World} {b off : Nat} {L : List Int} (h : Rd w (some ⟨b, off, none⟩) L) : ∀ j u, (L.map fun x => Value.int .i64 x)[j]? = some u → w.cell? ((⟨b, off, none⟩ : Addr).add j) = some u := by
  by_cases hL : L = []
  · subst hL; intro j u hu; simp at hu
  · obtain ⟨b', off', e, hn⟩ := rd_newsZ h hL
    simp only [Option.some.injEq, Addr.mk.injEq, and_true] at e
    obtain ⟨rfl, rfl⟩ := e
    exact hn
set_option maxRecDepth 100000 in
set_option maxHeartbeats 4000000 in
/-- spec.latticesFrom at a whole list -/
theorem latF_end (n : Int) (n5 : n ≤ 5) (b off cap : Nat) (H : List Int) (w : World) (hl : (H.length : Int) = n) (hr : Rd w (some ⟨b, off, none⟩) H) :
    Calls Try.prog 89 #[.int .i64 n, .slice (some ⟨b, off, none⟩) H.length cap] w (RetRows w.heap.size (latF n 0 H) w) := by
  obtain ⟨i0, hi, hz0, hz1, hz2⟩ := info_parts info_int
  subst hl
  go_enter Try.func89, Try.ntmps89
  go_wp2_with fail
  refine (validLattice_any _ _ H _ hr).mono ?_
  rintro e w1 ⟨rfl, hd⟩
  have hr1 := hd.rd hr
  have hb1 : Below w.heap.size w w1 := hd.below _
  clear hd
  cases hB : latB H with
  | false =>
    have hv := Lib.hid (show latF (H.length : Int) 0 H = [] by show (if latB H then [H] else []) = []; rw [hB]; rfl)
    clear hB
    go_wp2
    go_ret
    rw [hv.out]
    exact ⟨_, rfl, rows_none _ hb1.size, by simp, hb1.alloc hb1.size _⟩
  | true =>
    have hv := Lib.hid (show latF (H.length : Int) 0 H = [H] by show (if latB H then [H] else []) = [H]; rw [hB]; rfl)
    clear hB
    go_wp2_with (at_builtin; go_loud (refine wpList_append_own _ rfl _ _ 23 rfl w1.heap.size 3 i0 (.int .i64 0) 1 8 Try.underlying23 hi hz0 hz1 hz2 rfl (by decide) _ _ _ rfl (Own.row (L := []) (heap_alloc_new w1 _) (Nat.le_refl _) (Nat.zero_le _)) ⟨b, off, none⟩ H.length cap (H.map fun x => Value.int .i64 x) rfl (by simp) (old_newsZ _ (rd_cells hr1)) (fun x hx => by simp at hx; obtain ⟨y, _, rfl⟩ := hx; rfl) (by unfold maxLen; simp; omega) (by simp; omega) (by simp) ?_; intro v w2 hown hgrow _; have ho : Own w1.heap.size w2 v H := (by unfold Own; simpa using hown); have hb2 : Below w.heap.size w w2 := (hb1.alloc hb1.size _).grown hgrow (by have := hb1.size; simp; omega) (fun q hq => (by have hq' : some w1.heap.size = some q := hq; injection hq' with hq'; have := hb1.size; omega)); clear hown hgrow; obtain ⟨va, vc, rfl, _⟩ := ho.slice))
    go_ret
    rw [hv.out]
    have hs := hb2.size
    exact ⟨_, rfl, rows_one (ho.from hb1.size) hs, by simp, hb2.alloc hs _⟩
set_option maxRecDepth 100000 in
set_option maxHeartbeats 2000000 in
/-- spec.latticesFrom -/
theorem latF_any (n : Int) (n5 : n ≤ 5) : ∀ (k : Nat) (b off cap : Nat) (H : List Int) (w : World), (H.length : Int) + k = n → Rd w (some ⟨b, off, none⟩) H →
    Calls Try.prog 89 #[.int .i64 n, .slice (some ⟨b, off, none⟩) H.length cap] w (RetRows w.heap.size (latF n k H) w) := by
  intro k
  induction k with
  | zero => intro b off cap H w hl hr; exact latF_end n n5 b off cap H w (by omega) hr
  | succ k ih =>
    intro b off cap H w hl hr
    obtain ⟨i0, hi, hz0, hz1, hz2⟩ := info_parts info_int
    obtain ⟨i1, hi1, hy0, hy1, hy2⟩ := info_parts info_ints
    have hne : ((H.length : Int) == n) = false := by rw [beq_eq_false_iff_ne]; omega
    have hF : latF n (k + 1) H = catTo (fun row => if lfQ H.length row then latF n k (H ++ [row]) else []) (pw H.length) (pw n - pw H.length).toNat := rfl
    have HF := Lib.hid hF; clear hF
    have hbd : ∀ j : Nat, (j : Int) ≤ 32 → (catTo (fun row => if lfQ H.length row then latF n k (H ++ [row]) else []) (pw H.length) j).length ≤ 33554432 := fun j hj => by
      have h1 := catTo_len (f := fun row => if lfQ H.length row then latF n k (H ++ [row]) else []) (a := pw H.length) (B := 32 ^ k) (fun i => by
        split
        · exact latF_bound n5 k _
        · exact Nat.zero_le _) j
      have h2 : 32 ^ k ≤ 32 ^ 4 := Nat.pow_le_pow_right (by decide) (by omega)
      have h3 : j * 32 ^ k ≤ 32 * 32 ^ 4 := Nat.mul_le_mul (by omega) h2
      have h4 : 32 * 32 ^ 4 = 33554432 := by decide
      omega
    have hsb : ∀ H' : List Int, (latF n k H').length ≤ 33554432 := fun H' => by
      have h1 := latF_bound n5 k H'
      have h2 : 32 ^ k ≤ 32 ^ 4 := Nat.pow_le_pow_right (by decide) (by omega)
      have h4 : 32 ^ 4 = 1048576 := by decide
      omega
    have HB := Lib.hid hbd; clear hbd
    have HSB := Lib.hid hsb; clear hsb
    have p1 := pw_30 n (by omega)
    have p2 := pw_pos n
    have p3 := pw_pos H.length
    have p4 := pw_mono H.length n (by omega)
    have p5 : pw n ≤ 32 := by have := pw_mono n 5 n5; have e : pw 5 = 32 := (by decide); omega
    have l5 : (H.length : Int) ≤ 5 := by omega
    have HI := Lib.hid ih; clear ih
    go_enter Try.func89, Try.ntmps89
    go_wp2_with fail
    refine (power_any H.length _ (by omega) (by omega)).mono ?_
    rintro e w' ⟨rfl, rfl⟩
    go_wp2
    go_loopw [6, 7] (fun ov rv wr => ∃ j : Int, 0 ≤ j ∧ j ≤ pw n - pw H.length ∧ rv = .int .i64 (pw H.length + j) ∧ RowsAt w.heap.size wr ov (catTo (fun row => if lfQ H.length row then latF n k (H ++ [row]) else []) (pw H.length) j.toNat) ∧ ov ≠ .slice none 0 0 ∧ Below w.heap.size w wr) (fun _ rv _ => (32 - intOf rv).toNat)
    case atStart => exact ⟨0, by omega, by omega, by simp, rows_none _ (Nat.le_refl _), by simp, (Below.refl _ _).alloc (Nat.le_refl _) _⟩
    case round =>
      obtain ⟨j, j0, j1, rfl, hrows, hnn, hbel⟩ := hrel
      by_cases hj : j < pw n - pw H.length
      · have hsu := Lib.hid (catTo_succ (fun row => if lfQ H.length row then latF n k (H ++ [row]) else []) (pw H.length) j0)
        have v0 : 0 ≤ pw H.length + j := by omega
        have v1 : pw H.length + j ≤ 63 := by omega
        have v2 : pw H.length + j < pw n := by omega
        have tm : Int.tmod (pw H.length + j) (pw H.length) = (pw H.length + j) % pw H.length := Int.tmod_eq_emod_of_nonneg v0
        have em : (pw H.length + j) % pw H.length = j % pw H.length := by rw [Int.add_emod, Int.emod_self, Int.zero_add, Int.emod_emod]
        rw [em] at tm
        have EM := Lib.hid em; clear em
        cases hq1 : (j % pw H.length == 0) with
        | false =>
          have hq : lfQ H.length (pw H.length + j) = false := by unfold lfQ; rw [EM.out, hq1]; rfl
          have HS := Lib.hid (show catTo (fun row => if lfQ H.length row then latF n k (H ++ [row]) else []) (pw H.length) (j + 1).toNat = catTo (fun row => if lfQ H.length row then latF n k (H ++ [row]) else []) (pw H.length) j.toNat by rw [hsu.out, if_neg (by rw [hq]; decide), List.append_nil])
          clear hq
          go_wp2_with (first
            | go_skip
            | (go_at_call 108; refine (power_any _ _ (by omega) (by omega)).mono ?_; rintro e w' ⟨rfl, rfl⟩))
          go_roundw
          case rel => exact ⟨j + 1, by omega, by omega, by rw [Int.add_assoc], by rw [HS.out]; exact hrows, hnn, hbel⟩
          case measure => simp [intOf]; omega
        | true =>
          cases hq2 : (bt (pw H.length + j) H.length == 1) with
          | false =>
            have hq : lfQ H.length (pw H.length + j) = false := by unfold lfQ; rw [EM.out, hq1, hq2]; rfl
            have HS := Lib.hid (show catTo (fun row => if lfQ H.length row then latF n k (H ++ [row]) else []) (pw H.length) (j + 1).toNat = catTo (fun row => if lfQ H.length row then latF n k (H ++ [row]) else []) (pw H.length) j.toNat by rw [hsu.out, if_neg (by rw [hq]; decide), List.append_nil])
            clear hq
            go_wp2_with (first
              | go_skip
              | (go_at_call 108; refine (power_any _ _ (by omega) (by omega)).mono ?_; rintro e w' ⟨rfl, rfl⟩)
              | (go_at_call 103; refine (bit_any _ _ _ v0 v1 (by omega) (by omega)).mono ?_; rintro e w' ⟨rfl, rfl⟩))
            go_roundw
            case rel => exact ⟨j + 1, by omega, by omega, by rw [Int.add_assoc], by rw [HS.out]; exact hrows, hnn, hbel⟩
            case measure => simp [intOf]; omega
          | true =>
            have hq : lfQ H.length (pw H.length + j) = true := by unfold lfQ; rw [EM.out, hq1, hq2]; rfl
            have HS := Lib.hid (show catTo (fun row => if lfQ H.length row then latF n k (H ++ [row]) else []) (pw H.length) (j + 1).toNat = catTo (fun row => if lfQ H.length row then latF n k (H ++ [row]) else []) (pw H.length) j.toNat ++ latF n k (H ++ [pw H.length + j]) by rw [hsu.out, if_pos hq])
            have B1 := HB.out j.toNat (by omega)
            have B2 := HSB.out (H ++ [pw H.length + j])
            obtain ⟨T, hT⟩ : ∃ T, T = catTo (fun row => if lfQ H.length row then latF n k (H ++ [row]) else []) (pw H.length) j.toNat := ⟨_, rfl⟩
            obtain ⟨G, hG⟩ : ∃ G, G = H ++ [pw H.length + j] := ⟨_, rfl⟩
            rw [← hG] at B2
            obtain ⟨U, hU⟩ : ∃ U, U = latF n k G := ⟨_, rfl⟩
            rw [← hT] at hrows B1
            rw [← hU] at B2
            have HT := Lib.hid hT; clear hT
            have HU := Lib.hid hU; clear hU
            have HG := Lib.hid hG; clear hG
            have lG : (G.length : Int) + k = n := by rw [HG.out]; simp; omega
            have LG := Lib.hid lG; clear lG
            obtain ⟨vs, r1, r2⟩ := hrows
            have R2 := Lib.hid r2; clear r2
            have hz := hbel.size
            have hrd : Rd wr (some ⟨b, off, none⟩) H := hr.below hbel
            have LH := Lib.hid hl
            clear hq
            go_wp2_with (first
              | go_skip
              | (go_at_call 108; refine (power_any _ _ (by omega) (by omega)).mono ?_; rintro e w' ⟨rfl, rfl⟩)
              | (go_at_call 103; refine (bit_any _ _ _ v0 v1 (by omega) (by omega)).mono ?_; rintro e w' ⟨rfl, rfl⟩)
              | (go_at_call 89; refine (HI.out g3 0 c3 G w3 LG.out hr3).mono ?_; rintro e w4 ⟨u, rfl, hsub, hun, hb4⟩; rw [← HU.out] at hsub; obtain ⟨us, s1, s2⟩ := hsub; have S2 := Lib.hid s2; clear s2; obtain ⟨ug, uc, rfl, ugl, ucells⟩ := rows_shape s1 hun; have r4 := ownsRow_below (ownsRow_below r1 (hb3.mono (Nat.le_refl _))) (hb4); have hb5 : Below w.heap.size w w4 := (hbel.trans (hb3.mono hz)).trans (hb4.mono (Nat.le_trans hz hb3.size)))
              | (at_builtin; refine wpList_append_own _ rfl _ _ 42 rfl w.heap.size 23 i1 (.slice none 0 0) 1 24 Try.underlying42 hi1 hy0 hy1 hy2 rfl (by decide) _ _ _ rfl r4 ⟨ug, 0, none⟩ U.length uc us rfl (by have := s1.1; omega) ucells (rows_cells S2.out s1.1) (by unfold maxLen; omega) (by omega) (by have := hb5.size; omega) ?_; intro v5 w5 hown5 hgrow5 hnil5)
              | (at_builtin; refine wpList_append_own _ rfl _ _ 23 rfl wr.heap.size 3 i0 (.int .i64 0) 1 8 Try.underlying23 hi hz0 hz1 hz2 rfl (by decide) _ _ _ rfl (World.ownsRow.alloc ho2 _) ⟨w2.heap.size, 0, none⟩ 1 1 [.int .i64 (pw H.length + j)] rfl rfl (cell_one_new _ _ _) (fun x hx => by simp at hx; subst hx; rfl) (by unfold maxLen; omega) (by omega) (by have := hb2.size; simp; omega) ?_; intro v3 w3 hown3 hgrow3 _; have ho3 : Own wr.heap.size w3 v3 G := (by unfold Own; rw [HG.out, List.map_append, List.length_append]; exact hown3); have hb3 : Below wr.heap.size wr w3 := (hb2.alloc hb2.size _).grown hgrow3 (by have := hb2.size; simp; omega) (fun q hq => (World.ownsRow.lt ho2 q hq).1); clear hown3 hgrow3; obtain ⟨g3, c3, rfl, gl3, gs3⟩ := (ho3.shape.resolve_left (fun h => by have := h.2; rw [HG.out] at this; simp at this)); have hr3 := ho3.rd)
              | (at_builtin; refine wpList_append_own _ rfl _ _ 23 rfl wr.heap.size 3 i0 (.int .i64 0) 1 8 Try.underlying23 hi hz0 hz1 hz2 rfl (by decide) _ _ _ rfl (Own.row (L := []) (heap_alloc_new wr _) (Nat.le_refl _) (Nat.zero_le _)) ⟨b, off, none⟩ H.length cap (H.map fun x => Value.int .i64 x) rfl (by simp) (old_newsZ _ (rd_cells hrd)) (fun x hx => by simp at hx; obtain ⟨y, _, rfl⟩ := hx; rfl) (by unfold maxLen; simp; omega) (by simp; omega) (by simp) ?_; intro v2 w2 hown2 hgrow2 _; have ho2 : Own wr.heap.size w2 v2 H := (by unfold Own; simpa using hown2); have hb2 : Below wr.heap.size wr w2 := ((Below.refl _ _).alloc (Nat.le_refl _) _).grown hgrow2 (by simp) (fun q hq => (by have hq' : some wr.heap.size = some q := hq; injection hq' with hq'; omega)); clear hown2 hgrow2))
            go_roundw
            case rel =>
              have hc := RowsAt.cat r4 (fun i hi => by obtain ⟨u, hu, ho⟩ := R2.out i hi; exact ⟨u, hu, (ho.below hb3).below hb4⟩) (by have := s1.1; omega) (fun i hi => by obtain ⟨u, hu, ho⟩ := S2.out i hi; exact ⟨u, hu, ho.from (Nat.le_trans hz hb3.size)⟩) hown5 hgrow5
              refine ⟨j + 1, by omega, by omega, by rw [Int.add_assoc], by rw [HS.out, ← HT.out, ← HG.out, ← HU.out]; exact hc, fun e => hnn (hnil5.1 e).1, hb5.grown hgrow5 (by have := hb5.size; omega) (fun q hq => (World.ownsRow.lt r4 q hq).1)⟩
            case measure => simp [intOf]; omega
      · have e : j = pw n - pw H.length := by omega
        subst e
        have v2 : ¬ (pw H.length + (pw n - pw H.length) < pw n) := by omega
        go_wp2_with (first
          | go_skip
          | (go_at_call 108; refine (power_any _ _ (by omega) (by omega)).mono ?_; rintro e w' ⟨rfl, rfl⟩))
        go_ret
        exact ⟨_, rfl, by rw [HF.out]; exact hrows, hnn, hbel⟩
end Go.Proofs.Ytmlbdlobdnhimaa

namespace Go.Proofs.Ytmlbdlobdnhimaa
open Go.RowKit

/-! Frames of the draws: all is as it was but the reader. -/
section
variable {w w' w'' : World} {g C B : Nat} {m : Int} {v : Value} {L : List Int}
theorem grown_app {row : Option Nat} (h : w.grownBy w' (some g)) (k : w'.grownBy w'' row) (hr : ∀ q, row = some q → w.heap.size ≤ q) : w.grownBy w'' (some g) :=
  ⟨k.os.trans h.os, k.tape.trans h.tape, k.output.trans h.output, Nat.le_trans h.size k.size, fun i hi hne => (k.block i (Nat.lt_of_lt_of_le hi h.size) fun e => by have := hr i e.symm; omega).trans (h.block i hi hne)⟩
theorem grown_new (h : w.grownBy w' (some g)) (k : Below w'.heap.size w' w'') : w.grownBy w'' (some g) := grown_trans h (grown_of_below k)
theorem grown_alloc (h : w.grownBy w' (some g)) (o : Obj) : w.grownBy (w'.alloc o) (some g) := grown_new h ((Below.refl _ _).alloc (Nat.le_refl _) o)
theorem Rdr.alloc (h : Rdr w C g m) (o : Obj) : Rdr (w.alloc o) C g m := h.below ((Below.refl _ _).alloc (Nat.le_refl _) o)
theorem Own.notRdr (ho : Own B w v L) (h : Rdr w C g m) : ∀ q, v.ownBlock = some q → q ≠ g := fun q hq e => by
  obtain ⟨c, hc⟩ := h.type
  rcases ho.2 with ⟨rfl, _⟩ | ⟨b, cap, cur, rfl, _, hb, _⟩
  · simp [Value.ownBlock] at hq
  · simp only [Value.ownBlock, Option.some.injEq] at hq
    rw [hq, e, hc] at hb
    injection hb with hb
    injection hb with _ hb
    exact absurd hb (by decide)
theorem Rdr.app (h : Rdr w C g m) (ho : Own B w v L) (hCB : C ≤ B) (hg : w.grownBy w' v.ownBlock) : Rdr w' C g m := by
  have hlt := h.lt
  have hlo := h.low
  refine h.keep ((Below.refl C w).grown hg (by omega) fun q hq => ?_) (hg.block g hlt fun e => (ho.notRdr h g e.symm) rfl)
  exact Nat.le_trans hCB (World.ownsRow.lt ho q hq).1
end
/-- a list of its own is drawn -/
def RetList (C g : Nat) (m : Int) (lo top : Nat) (w : World) (e : Ending) (w' : World) : Prop := ∃ L v, e = .returned v ∧ Own w.heap.size w' v L ∧ lo ≤ L.length ∧ L.length ≤ top ∧ w.grownBy w' (some g) ∧ Rdr w' C g m
theorem RowsAt.drawn {B : Nat} {w w' : World} {v : Value} {T : List (List Int)} {C g : Nat} {m : Int} (h : RowsAt B w v T) (hr : Rdr w C g m) (hg : w.grownBy w' (some g)) : RowsAt B w' v T := by
  obtain ⟨c, hc⟩ := hr.type
  obtain ⟨vs, h1, h2⟩ := h
  refine ⟨vs, World.ownsRow.kept h1 hg ?_, fun j hj => by obtain ⟨u, hu, ho⟩ := h2 j hj; exact ⟨u, hu, ho.drawn hr hg⟩⟩
  rcases h1.2 with ⟨rfl, _⟩ | ⟨b, cap, cur, rfl, _, hb, _⟩
  · exact .inl rfl
  · right
    simp only [Value.ownBlock, ne_eq, Option.some.injEq]
    intro e
    rw [e, hc] at hb
    injection hb with hb
    injection hb with _ hb
    exact absurd hb (by decide)
theorem RowsAt.at {B : Nat} {w : World} {G cap n : Nat} {T : List (List Int)} (h : RowsAt B w (.slice (some ⟨G, 0, none⟩) n cap) T) {k : Int} (k0 : 0 ≤ k) (k1 : k < T.length) : ∃ a c, w.cell? ⟨G, k.toNat, none⟩ = some (.slice a (rowAt T k).length c) ∧ Own B w (.slice a (rowAt T k).length c) (rowAt T k) := by
  obtain ⟨vs, h1, h2⟩ := h
  obtain ⟨u, hu, ho⟩ := h2 k.toNat (by omega)
  rw [Int.toNat_of_nonneg k0] at ho
  obtain ⟨a, c, rfl, _⟩ := ho.slice
  refine ⟨a, c, ?_, ho⟩
  have := h1.cells rfl k.toNat _ hu
  rcases Nat.eq_zero_or_pos k.toNat with h0 | h0
  · rw [h0] at this ⊢; simpa [Addr.add] using this
  · simpa [Addr.add, show k.toNat ≠ 0 by omega] using this
theorem rowAt_mem {T : List (List Int)} {k : Int} (k0 : 0 ≤ k) (k1 : k < T.length) : rowAt T k ∈ T := by
  rw [rowAt_nat T k k0 k1]; exact List.getElem_mem _
theorem latF_row {n k : Int} (n0 : 0 ≤ n) (k0 : 0 ≤ k) (k1 : k < (latF n n.toNat []).length) : latB (rowAt (latF n n.toNat []) k) = true ∧ ((rowAt (latF n n.toNat []) k).length : Int) = n := by
  obtain ⟨a, b⟩ := latF_lat (rowAt_mem k0 k1)
  refine ⟨a, ?_⟩
  rw [b]; simp; omega
theorem RetRows.parts {B : Nat} {T : List (List Int)} {w w' : World} {e : Ending} (h : RetRows B T w e w') : ∃ G cap, e = .returned (.slice (some ⟨G, 0, none⟩) T.length cap) ∧ RowsAt B w' (.slice (some ⟨G, 0, none⟩) T.length cap) T ∧ Below w.heap.size w w' := by
  obtain ⟨v, rfl, hr, hn, hb⟩ := h
  have hr' := hr
  obtain ⟨vs, h1, _⟩ := hr'
  obtain ⟨G, c, rfl, _⟩ := rows_shape h1 hn
  exact ⟨G, c, rfl, hr, hb⟩
/-- spec.latticesFrom from nothing -/
theorem latF_all (n : Int) (n0 : 0 ≤ n) (n5 : n ≤ 5) (w : World) :
    Calls Try.prog 89 #[.int .i64 n, .slice (some ⟨w.heap.size, 0, none⟩) 0 0] (w.alloc (.cells #[] 3)) fun e w' => ∃ G cap, e = .returned (.slice (some ⟨G, 0, none⟩) (latF n n.toNat []).length cap) ∧ RowsAt w.heap.size w' (.slice (some ⟨G, 0, none⟩) (latF n n.toNat []).length cap) (latF n n.toNat []) ∧ Below w.heap.size w w' := by
  refine (latF_any n n5 n.toNat w.heap.size 0 0 [] (w.alloc (.cells #[] 3)) (by simp; omega) (fun h => absurd rfl h)).mono fun e w' h => ?_
  obtain ⟨G, c, rfl, hr, hb⟩ := h.parts
  have hs : w.heap.size ≤ (w.alloc (.cells #[] 3)).heap.size := by simp
  obtain ⟨vs, h1, h2⟩ := hr
  have hf : ∀ {e : TypeId} {s n : Nat} {v : Value} {xs : List Value}, w'.ownsRow (w.alloc (.cells #[] 3)).heap.size e s v n xs → w'.ownsRow w.heap.size e s v n xs := fun h => by
    refine ⟨h.1, ?_⟩
    rcases h.2 with h | ⟨g, cap, cur, e1, e2, hg, e3⟩
    · exact .inl h
    · exact .inr ⟨g, cap, cur, e1, Nat.le_trans hs e2, hg, e3⟩
  exact ⟨G, c, rfl, ⟨vs, hf h1, fun j hj => by obtain ⟨u, hu, ho⟩ := h2 j hj; exact ⟨u, hu, ho.from hs⟩⟩, ((Below.refl _ _).alloc (Nat.le_refl _) _).trans (hb.mono hs)⟩
set_option maxRecDepth 100000 in
set_option maxHeartbeats 2000000 in
/-- spec.goodLattice -/
theorem goodLattice_any (C g : Nat) (m : Int) (w : World) (hr : Rdr w C g m) (m1 : m ≤ 80000) :
    Calls Try.prog 93 #[.pointer (some ⟨g, 0, none⟩)] w (RetList C g (m + 3) 1 6 w) := by
  go_enter Try.func93, Try.ntmps93
  go_wp2_with fail
  refine (pick_any C g m 6 w hr (by omega) (by omega) (by omega)).mono ?_
  rintro e w1 ⟨k, rfl, k0, k1, hg1, hr1⟩
  by_cases e0 : k = 0
  · subst e0
    go_wp2_with fail
    refine (pick_any C g (m + 1) 6 w1 hr1 (by omega) (by omega) (by omega)).mono ?_
    rintro e w2 ⟨j, rfl, j0, j1, hg2, hr2⟩
    go_wp2_with fail
    refine (chain_any (1 + j) w2 (by omega) (by omega)).mono ?_
    rintro e w3 ⟨v, rfl, ho, hb⟩
    have hl := chainTo_len (1 + j) (1 + j) (by omega)
    go_wp2
    go_ret
    have hg := grown_new (grown_trans hg1 hg2) hb
    exact ⟨_, _, rfl, ho.from (Nat.le_trans hg1.size hg2.size), by omega, by omega, hg, (hr2.below hb).more (by omega)⟩
  · have f0 : (k == 0) = false := by rw [beq_eq_false_iff_ne]; exact e0
    by_cases e1 : k = 1
    · subst e1
      go_wp2_with fail
      refine (chain_any 2 w1 (by omega) (by omega)).mono ?_
      rintro e w2 ⟨v, rfl, ho, hb⟩
      have hl2 : (chainTo 2 2).length = 2 := rfl
      have hr2 := hr1.below hb
      go_wp2_with fail
      refine (pick_any C g (m + 1) 3 w2 hr2 (by omega) (by omega) (by omega)).mono ?_
      rintro e w3 ⟨j, rfl, j0, j1, hg3, hr3⟩
      have ho3 := ho.drawn hr2 hg3
      go_wp2_with fail
      refine (chain_any (1 + j) w3 (by omega) (by omega)).mono ?_
      rintro e w4 ⟨u, rfl, ho4, hb4⟩
      have hl := chainTo_len (1 + j) (1 + j) (by omega)
      have ho3' := ho3.below hb4
      obtain ⟨ga, ca, rfl, _, _⟩ := ho3'.shape.resolve_left (fun h => by have := h.2; rw [this] at hl2; cases hl2)
      obtain ⟨gb, cb, rfl, _, _⟩ := ho4.shape.resolve_left (fun h => by have := h.2; rw [this] at hl; simp at hl; omega)
      obtain ⟨A, hA⟩ : ∃ A, A = chainTo 2 2 := ⟨_, rfl⟩
      obtain ⟨D, hD⟩ : ∃ D, D = chainTo (1 + j) (1 + j) := ⟨_, rfl⟩
      have la : latB A = true := by rw [hA]; exact chain_lat (by omega) (by omega)
      have lb : latB D = true := by rw [hD]; exact chain_lat (by omega) (by omega)
      rw [← hA] at ho3' hl2 ⊢
      rw [← hD] at ho4 hl ⊢
      clear hA hD ho ho3
      obtain ⟨a1, a6, az⟩ := latB_parts la
      obtain ⟨b1, b6, bz⟩ := latB_parts lb
      obtain ⟨xb, xo, hx, hca⟩ := ho3'.rd.pos a1
      obtain ⟨yb, yo, hy, hcb⟩ := ho4.rd.pos b1
      injection hx with hx
      injection hy with hy
      injection hx with hx1 hx2
      injection hy with hy1 hy2
      subst hx1; subst hx2; subst hy1; subst hy2
      have h6 : (A.length : Int) * D.length ≤ 6 := by rw [hl2, hl]; show (2 : Int) * (1 + j) ≤ 6; omega
      have H2 := Lib.hid hl2
      have HL := Lib.hid hl
      clear hl2 hl
      go_wp2_with fail
      refine (cross_any ga 0 gb 0 ca cb A D w4 hca hcb az bz a1 a6 b1 b6 h6).mono ?_
      rintro e w5 ⟨z, rfl, ho5, hb5⟩
      have hlen : (upL (crossG A D) ((A.length : Int) * D.length)).length = 2 * (1 + j).toNat := by
        unfold upL; rw [List.length_map, List.length_range, H2.out, HL.out]; omega
      go_wp2
      go_ret
      have hg := grown_new (grown_new (grown_trans (grown_new hg1 hb) hg3) hb4) hb5
      exact ⟨_, _, rfl, ho5.from (Nat.le_trans hg1.size (Nat.le_trans hb.size (Nat.le_trans hg3.size hb4.size))), by omega, by omega, hg, ((hr3.below hb4).below hb5).more (by omega)⟩
    · have f1 : (k == 1) = false := by rw [beq_eq_false_iff_ne]; exact e1
      by_cases e2 : k = 2
      · subst e2
        go_wp2_with fail
        refine (latF_all 4 (by omega) (by omega) w1).mono ?_
        rintro e w2 ⟨G, cap, rfl, hT, hb⟩
        have hne := latF_some (n := 4) (by omega) (by omega)
        have hrow := fun (k : Int) => latF_row (n := 4) (k := k) (by omega)
        have hbd := latF_bound (n := 4) (by omega) (4 : Int).toNat []
        obtain ⟨T, hTe⟩ : ∃ T, T = latF 4 (4 : Int).toNat [] := ⟨_, rfl⟩
        rw [← hTe] at hT hne hrow hbd ⊢
        clear hTe
        have t1 : 1 ≤ T.length := List.length_pos_iff.2 hne
        have t2 : T.length ≤ 1048576 := hbd
        have hr2 := hr1.below hb
        go_wp2_with fail
        refine (pick_any C g (m + 1) T.length w2 hr2 (by omega) (by omega) (by omega)).mono ?_
        rintro e w3 ⟨j, rfl, j0, j1, hg3, hr3⟩
        obtain ⟨ra, rc, hcell, hown⟩ := (hT.drawn hr2 hg3).at j0 j1
        obtain ⟨q1, q2⟩ := hrow j j0 j1
        obtain ⟨L, hL⟩ : ∃ L, L = rowAt T j := ⟨_, rfl⟩
        rw [← hL] at hcell hown q1 q2
        clear hL hrow
        obtain ⟨a1, a6, az⟩ := latB_parts q1
        obtain ⟨xb, xo, rfl, hca⟩ := hown.rd.pos a1
        go_wp2_with fail
        refine (turned_any xb xo rc L w3 hca az a1).mono ?_
        rintro e w4 ⟨rfl, hrow4, hb4⟩
        have hl4 : (turnL L).length = L.length := by unfold turnL upL; simp [num]
        have ho4 : Own w.heap.size w4 (.slice (some ⟨w3.heap.size, 0, none⟩) (turnL L).length (turnL L).length) (turnL L) := Own.row hrow4 (Nat.le_trans hg1.size (Nat.le_trans hb.size hg3.size)) (by rw [hl4]; unfold maxLen; omega)
        rw [hl4] at ho4
        go_wp2
        go_ret
        exact ⟨_, _, rfl, ho4, by omega, by omega, grown_new (grown_trans (grown_new hg1 hb) hg3) hb4, (hr3.below hb4).more (by omega)⟩
      · have f2 : (k == 2) = false := by rw [beq_eq_false_iff_ne]; exact e2
        go_wp2_with fail
        have hrow : Row (w1.alloc (.cells #[.int .i64 5, .int .i64 4, .int .i64 5, .int .i64 3, .int .i64 2, .int .i64 1] 3)) w1.heap.size [5, 4, 5, 3, 2, 1] := heap_alloc_new w1 _
        have hown := Own.row hrow (Nat.le_refl _) (by unfold maxLen; simp)
        have hr2 := hr1.alloc (.cells #[.int .i64 5, .int .i64 4, .int .i64 5, .int .i64 3, .int .i64 2, .int .i64 1] 3)
        have hg2 := grown_alloc hg1 (.cells #[.int .i64 5, .int .i64 4, .int .i64 5, .int .i64 3, .int .i64 2, .int .i64 1] 3)
        refine (one_any C g (m + 1) _ _ [5, 4, 5, 3, 2, 1] _ hr2 (by omega) (hown.held hr2) (by simp) (by simp)).mono ?_
        rintro e w2 ⟨i, i0, i1, rfl, hg3, hr3⟩
        have hb : 1 ≤ nth [5, 4, 5, 3, 2, 1] i ∧ nth [5, 4, 5, 3, 2, 1] i ≤ 5 := by
          have hm := nth_mem' [5, 4, 5, 3, 2, 1] i0 i1
          simp only [List.mem_cons, List.not_mem_nil, or_false] at hm
          omega
        obtain ⟨n, hn⟩ : ∃ n, n = nth [5, 4, 5, 3, 2, 1] i := ⟨_, rfl⟩
        rw [← hn] at hb ⊢
        clear hn
        obtain ⟨n1, n5⟩ := hb
        have hg4 := grown_trans hg2 hg3
        go_wp2_with fail
        refine (latF_all n (by omega) (by omega) w2).mono ?_
        rintro e w3 ⟨G, cap, rfl, hT, hb⟩
        have hne := latF_some (n := n) (by omega) (by omega)
        have hrow := fun (k : Int) => latF_row (n := n) (k := k) (by omega)
        have hbd := latF_bound (n := n) (by omega) n.toNat []
        obtain ⟨T, hTe⟩ : ∃ T, T = latF n n.toNat [] := ⟨_, rfl⟩
        rw [← hTe] at hT hne hrow hbd ⊢
        clear hTe
        have t1 : 1 ≤ T.length := List.length_pos_iff.2 hne
        have t2 : T.length ≤ 33554432 := Nat.le_trans hbd (Nat.le_trans (Nat.pow_le_pow_right (by decide) (show n.toNat ≤ 5 by omega)) (by decide))
        have hr4 := hr3.below hb
        go_wp2_with fail
        refine (pick_any C g (m + 1 + 1) T.length w3 hr4 (by omega) (by omega) (by omega)).mono ?_
        rintro e w4 ⟨j, rfl, j0, j1, hg5, hr5⟩
        obtain ⟨ra, rc, hcell, hown5⟩ := (hT.drawn hr4 hg5).at j0 j1
        obtain ⟨q1, q2⟩ := hrow j j0 j1
        obtain ⟨L, hL⟩ : ∃ L, L = rowAt T j := ⟨_, rfl⟩
        rw [← hL] at hcell hown5 q1 q2
        clear hL hrow
        go_wp2
        go_ret
        exact ⟨L, _, rfl, hown5.from hg4.size, by omega, by omega, grown_trans (grown_new hg4 hb) hg5, hr5.more (by omega)⟩
end Go.Proofs.Ytmlbdlobdnhimaa

namespace Go.Proofs.Ytmlbdlobdnhimaa
open Go.RowKit

/-- rows of a literal, wherever a reader has gone on to -/
def Lits (g : Nat) (w : World) (G : Nat) (T : List (List Int)) : Prop := ∀ w' : World, w.grownBy w' (some g) → ∀ k : Int, 0 ≤ k → k < T.length → ∃ rb c, w'.cell? ⟨G, k.toNat, none⟩ = some (.slice (some ⟨rb, 0, none⟩) (rowAt T k).length c) ∧ Rd w' (some ⟨rb, 0, none⟩) (rowAt T k) ∧ (rowAt T k).length ≤ 6
set_option maxRecDepth 100000 in
set_option maxHeartbeats 1000000 in
/-- spec.one2 -/
theorem one2_any (C g : Nat) (m : Int) (G cap : Nat) (T : List (List Int)) (w : World) (hr : Rdr w C g m) (m1 : m ≤ 90000) (hh : Lits g w G T) (l1 : 1 ≤ T.length) (l2 : T.length ≤ 1000) :
    Calls Try.prog 94 #[.pointer (some ⟨g, 0, none⟩), .slice (some ⟨G, 0, none⟩) T.length cap] w (RetList C g (m + 1) 0 6 w) := by
  obtain ⟨i0, hi, hz0, hz1, hz2⟩ := info_parts info_int
  have l3 : (1 : Int) ≤ T.length := by omega
  have l4 : (T.length : Int) ≤ 1073741824 := by omega
  have HH := Lib.hid hh; clear hh
  have hr0 := hr.alloc (.cells #[] 3)
  have hg0 := grown_alloc (grown_refl w (some g)) (.cells #[] 3)
  go_enter Try.func94, Try.ntmps94
  go_wp2_with fail
  refine (pick_any C g m T.length _ hr0 (by omega) l3 l4).mono ?_
  rintro e w1 ⟨k, rfl, k0, k1, hg, hr1⟩
  have hg1 := grown_trans hg0 hg
  obtain ⟨rb, c, hcell, hrd, hl⟩ := HH.out w1 hg1 k k0 k1
  obtain ⟨L, hL⟩ : ∃ L, L = rowAt T k := ⟨_, rfl⟩
  rw [← hL] at hcell hrd hl
  clear hL
  have ho0 : Own w.heap.size w1 (.slice (some ⟨w.heap.size, 0, none⟩) 0 0) [] := (Own.row (L := []) (heap_alloc_new w _) (Nat.le_refl _) (Nat.zero_le _)).drawn hr0 hg
  have hs := hg1.size
  go_wp2_with (at_builtin; refine wpList_append_own _ rfl _ _ 23 rfl w.heap.size 3 i0 (.int .i64 0) 1 8 Try.underlying23 hi hz0 hz1 hz2 rfl (by decide) _ _ _ rfl ho0 ⟨rb, 0, none⟩ L.length c (L.map fun x => Value.int .i64 x) rfl (by simp) (rd_cells hrd) (fun x hx => by simp at hx; obtain ⟨y, _, rfl⟩ := hx; rfl) (by unfold maxLen; simp; omega) (by simp; omega) hs ?_; intro v w2 hown hgrow _; have ho : Own w.heap.size w2 v L := (by unfold Own; simpa using hown); have hr2 := hr1.app ho0 (by have := hr.low; have := hr.lt; omega) hgrow; have hg2 := grown_app hg1 hgrow (fun q hq => (World.ownsRow.lt ho0 q hq).1))
  go_ret
  exact ⟨L, v, rfl, ho, Nat.zero_le _, hl, hg2, hr2⟩
/-- someLattice's four lists, laid -/
def lit4 (w : World) : World := ((((w.alloc (.cells #[.int .i64 15, .int .i64 10, .int .i64 12, .int .i64 8] 3)).alloc (.cells #[.int .i64 63, .int .i64 58, .int .i64 60, .int .i64 40, .int .i64 48, .int .i64 32] 3)).alloc (.cells #[.int .i64 1, .int .i64 2] 3)).alloc (.cells #[] 3)).alloc
  (.cells #[.slice (some ⟨w.heap.size, 0, none⟩) 4 4, .slice (some ⟨w.heap.size + 1, 0, none⟩) 6 6, .slice (some ⟨w.heap.size + 1 + 1, 0, none⟩) 2 2, .slice (some ⟨w.heap.size + 1 + 1 + 1, 0, none⟩) 0 0] 23)
theorem lits_four {C g : Nat} {m : Int} (w : World) (hr : Rdr w C g m) : Lits g (lit4 w) (w.heap.size + 1 + 1 + 1 + 1) [[15, 10, 12, 8], [63, 58, 60, 40, 48, 32], [1, 2], []] ∧ Below w.heap.size w (lit4 w) := by
  have hlt := hr.lt
  have n0 := heap_alloc_new w (.cells #[.int .i64 15, .int .i64 10, .int .i64 12, .int .i64 8] 3)
  have n1 := heap_alloc_new (w.alloc (.cells #[.int .i64 15, .int .i64 10, .int .i64 12, .int .i64 8] 3)) (.cells #[.int .i64 63, .int .i64 58, .int .i64 60, .int .i64 40, .int .i64 48, .int .i64 32] 3)
  have n2 := heap_alloc_new ((w.alloc (.cells #[.int .i64 15, .int .i64 10, .int .i64 12, .int .i64 8] 3)).alloc (.cells #[.int .i64 63, .int .i64 58, .int .i64 60, .int .i64 40, .int .i64 48, .int .i64 32] 3)) (.cells #[.int .i64 1, .int .i64 2] 3)
  have n4 := heap_alloc_new ((((w.alloc (.cells #[.int .i64 15, .int .i64 10, .int .i64 12, .int .i64 8] 3)).alloc (.cells #[.int .i64 63, .int .i64 58, .int .i64 60, .int .i64 40, .int .i64 48, .int .i64 32] 3)).alloc (.cells #[.int .i64 1, .int .i64 2] 3)).alloc (.cells #[] 3)) (.cells #[.slice (some ⟨w.heap.size, 0, none⟩) 4 4, .slice (some ⟨w.heap.size + 1, 0, none⟩) 6 6, .slice (some ⟨w.heap.size + 1 + 1, 0, none⟩) 2 2, .slice (some ⟨w.heap.size + 1 + 1 + 1, 0, none⟩) 0 0] 23)
  simp only [World.size_alloc] at n1 n2 n4
  have h0 : (lit4 w).heap[w.heap.size]? = some (.cells (IL [15, 10, 12, 8]) 3 (0, 0)) := by
    unfold lit4
    rw [Below.heap_alloc _ _ _ (by simp; try omega), Below.heap_alloc _ _ _ (by simp; try omega), Below.heap_alloc _ _ _ (by simp; try omega), Below.heap_alloc _ _ _ (by simp)]
    exact n0
  have h1 : (lit4 w).heap[w.heap.size + 1]? = some (.cells (IL [63, 58, 60, 40, 48, 32]) 3 (0, 0)) := by
    unfold lit4
    rw [Below.heap_alloc _ _ _ (by simp; try omega), Below.heap_alloc _ _ _ (by simp; try omega), Below.heap_alloc _ _ _ (by simp)]
    exact n1
  have h2 : (lit4 w).heap[w.heap.size + 1 + 1]? = some (.cells (IL [1, 2]) 3 (0, 0)) := by
    unfold lit4
    rw [Below.heap_alloc _ _ _ (by simp; try omega), Below.heap_alloc _ _ _ (by simp)]
    exact n2
  have h4 : (lit4 w).heap[w.heap.size + 1 + 1 + 1 + 1]? = some (.cells #[.slice (some ⟨w.heap.size, 0, none⟩) 4 4, .slice (some ⟨w.heap.size + 1, 0, none⟩) 6 6, .slice (some ⟨w.heap.size + 1 + 1, 0, none⟩) 2 2, .slice (some ⟨w.heap.size + 1 + 1 + 1, 0, none⟩) 0 0] 23 (0, 0)) := n4
  refine ⟨fun w' hg k k0 k1 => ?_, ?_⟩
  · have K : ∀ b o, w.heap.size ≤ b → (lit4 w).heap[b]? = some o → w'.heap[b]? = some o := fun b o hb ho => (hg.block b (lt_of_block ho) (by intro e; injection e with e; omega)).trans ho
    have r0 : Row w' w.heap.size [15, 10, 12, 8] := K _ _ (by omega) h0
    have r1 : Row w' (w.heap.size + 1) [63, 58, 60, 40, 48, 32] := K _ _ (by omega) h1
    have r2 : Row w' (w.heap.size + 1 + 1) [1, 2] := K _ _ (by omega) h2
    have r4 := K _ _ (by omega) h4
    have hk : k = 0 ∨ k = 1 ∨ k = 2 ∨ k = 3 := by simp at k1; omega
    rcases hk with rfl | rfl | rfl | rfl
    · exact ⟨_, _, by rw [cell_of_row w' _ _ _ _ _ r4]; rfl, r0.rd, by decide⟩
    · exact ⟨_, _, by rw [cell_of_row w' _ _ _ _ _ r4]; rfl, r1.rd, by decide⟩
    · exact ⟨_, _, by rw [cell_of_row w' _ _ _ _ _ r4]; rfl, r2.rd, by decide⟩
    · exact ⟨_, _, by rw [cell_of_row w' _ _ _ _ _ r4]; rfl, fun h => absurd rfl h, by decide⟩
  · unfold lit4
    exact (((((Below.refl _ _).alloc (Nat.le_refl _) _).alloc (by simp) _).alloc (by simp; omega) _).alloc (by simp; omega) _).alloc (by simp; omega) _
set_option maxRecDepth 100000 in
set_option maxHeartbeats 2000000 in
/-- spec.someLattice -/
theorem someLattice_any (C g : Nat) (m : Int) (w : World) (hr : Rdr w C g m) (m1 : m ≤ 70000) :
    Calls Try.prog 57 #[.pointer (some ⟨g, 0, none⟩)] w (RetList C g (m + 6) 0 8 w) := by
  obtain ⟨i0, hi, hz0, hz1, hz2⟩ := info_parts info_int
  have hr0 := hr.alloc (.cells #[] 3)
  have hg0 := grown_alloc (grown_refl w (some g)) (.cells #[] 3)
  have hCw : C ≤ w.heap.size := by have := hr.low; have := hr.lt; omega
  go_enter Try.func57, Try.ntmps57
  go_wp2_with fail
  refine (goodLattice_any C g m _ hr0 (by omega)).mono ?_
  rintro e w1 ⟨L, v, rfl, hov, l1, l8, hg, hr1⟩
  have hg1 := grown_trans hg0 hg
  have hs := hg1.size
  have ho0 : Own w.heap.size w1 (.slice (some ⟨w.heap.size, 0, none⟩) 0 0) [] := (Own.row (L := []) (heap_alloc_new w _) (Nat.le_refl _) (Nat.zero_le _)).drawn hr0 hg
  obtain ⟨gb, cb, rfl, _, _⟩ := hov.shape.resolve_left (fun h => by have := h.2; rw [this] at l1; simp at l1)
  have hnews := Lib.hid (rd_cells hov.rd)
  clear hov
  have l18 : (1 : Int) ≤ L.length := by omega
  have l88 : (L.length : Int) ≤ 6 := by omega
  go_wp2_with (first
    | fail
    | (at_builtin; refine wpList_append_own _ rfl _ _ 23 rfl w.heap.size 3 i0 (.int .i64 0) 1 8 Try.underlying23 hi hz0 hz1 hz2 rfl (by decide) _ _ _ rfl ho0 ⟨gb, 0, none⟩ L.length cb (L.map fun x => Value.int .i64 x) rfl (by simp) hnews.out (fun x hx => by simp at hx; obtain ⟨y, _, rfl⟩ := hx; rfl) (by unfold maxLen; simp; omega) (by simp; omega) hs ?_; intro v w2 hown hgrow _; have ho : Own w.heap.size w2 v L := (by unfold Own; simpa using hown); have hr2 := hr1.app ho0 hCw hgrow; have hg2 := grown_app hg1 hgrow (fun q hq => (World.ownsRow.lt ho0 q hq).1); clear hown hgrow; obtain ⟨gv, cv, rfl, gl, _⟩ := ho.shape.resolve_left (fun h => by have := h.2; rw [this] at l1; simp at l1)))
  refine (pick_any C g (m + 3) 20 w2 hr2 (by omega) (by omega) (by omega)).mono ?_
  rintro e w3 ⟨k, rfl, k0, k1, hg3', hr3⟩
  have hg3 := grown_trans hg2 hg3'
  have ho3 := ho.drawn hr2 hg3'
  have hs3 := hg3.size
  by_cases e0 : k = 0
  · subst e0
    go_wp2_with fail
    refine (pick_any C g (m + 3 + 1) L.length w3 hr3 (by omega) l18 (by omega)).mono ?_
    rintro e w4 ⟨j, rfl, j0, j1, hg4', hr4⟩
    have hg4 := grown_trans hg3 hg4'
    have ho4 := ho3.drawn hr3 hg4'
    have hrow : Row (w4.alloc (.cells #[.int .i64 0, .int .i64 1, .int .i64 63, .int .i64 (-1), .int .i64 64] 3)) w4.heap.size [0, 1, 63, -1, 64] := heap_alloc_new w4 _
    have hown := Own.row hrow (Nat.le_refl _) (by unfold maxLen; simp)
    have hr5 := hr4.alloc (.cells #[.int .i64 0, .int .i64 1, .int .i64 63, .int .i64 (-1), .int .i64 64] 3)
    have hg5 := grown_alloc hg4 (.cells #[.int .i64 0, .int .i64 1, .int .i64 63, .int .i64 (-1), .int .i64 64] 3)
    have ho5 := ho4.alloc (.cells #[.int .i64 0, .int .i64 1, .int .i64 63, .int .i64 (-1), .int .i64 64] 3)
    go_wp2_with fail
    refine (one_any C g (m + 3 + 1 + 1) _ _ [0, 1, 63, -1, 64] _ hr5 (by omega) (hown.held hr5) (by simp) (by simp)).mono ?_
    rintro e w6 ⟨i, i0', i1, rfl, hg6', hr6⟩
    obtain ⟨u, hu⟩ : ∃ u, u = nth [0, 1, 63, -1, 64] i := ⟨_, rfl⟩
    rw [← hu]
    clear hu
    have hg6 := grown_trans hg5 hg6'
    have ho6 := ho5.drawn hr5 hg6'
    have hfr := ho6.freeAt j.toNat
    have hce := ho6.cellAt j0 j1
    obtain ⟨ho7, hg7'⟩ := ho6.stored j.toNat u
    have hg7 : w.grownBy (w6.setCell ⟨gv, j.toNat, none⟩ (.int .i64 u)) (some g) := grown_app hg6 hg7' (fun q hq => by injection hq with hq; omega)
    have hr7 : Rdr (w6.setCell ⟨gv, j.toNat, none⟩ (.int .i64 u)) C g (m + 6) := (hr6.app ho6 hCw hg7').more (by omega)
    have hll : (L.set j.toNat u).length = L.length := List.length_set
    rw [hll] at ho7
    go_wp2
    go_ret
    exact ⟨_, _, rfl, ho7, Nat.zero_le _, by omega, hg7, hr7⟩
  · have f0 : (k == 0) = false := by rw [beq_eq_false_iff_ne]; exact e0
    by_cases e1 : k = 1
    · subst e1
      have hs3' := hs3
      go_wp2_with (at_builtin; refine wpList_append_own _ rfl _ _ 23 rfl w.heap.size 3 i0 (.int .i64 0) 1 8 Try.underlying23 hi hz0 hz1 hz2 rfl (by decide) _ _ _ rfl (World.ownsRow.alloc ho3 _) ⟨w3.heap.size, 0, none⟩ 1 1 [.int .i64 1] rfl rfl (cell_one_new _ _ _) (fun x hx => by simp at hx; subst hx; rfl) (by unfold maxLen; omega) (by omega) (by simp; omega) ?_; intro v4 w4 hown hgrow _; have ho4 : Own w.heap.size w4 v4 (L ++ [1]) := (by unfold Own; rw [List.map_append, List.length_append]; exact hown); have hr4 := (hr3.alloc (.cells #[.int .i64 1] 3)).app (ho3.alloc _) hCw hgrow; have hg4 := grown_app (grown_alloc hg3 (.cells #[.int .i64 1] 3)) hgrow (fun q hq => (World.ownsRow.lt ho3 q hq).1))
      go_ret
      exact ⟨_, _, rfl, ho4, Nat.zero_le _, by simp; omega, hg4, hr4.more (by omega)⟩
    · have f1 : (k == 1) = false := by rw [beq_eq_false_iff_ne]; exact e1
      by_cases e2 : k = 2
      · subst e2
        go_wp2_with fail
        obtain ⟨hL4, hB4⟩ := lits_four w3 hr3
        refine (one2_any C g (m + 3 + 1) _ 4 [[15, 10, 12, 8], [63, 58, 60, 40, 48, 32], [1, 2], []] _ (hr3.below hB4) (by omega) hL4 (by simp) (by simp)).mono ?_
        rintro e w5 ⟨L5, v5, rfl, ho5, _, l5, hg5, hr5⟩
        go_wp2
        go_ret
        exact ⟨L5, v5, rfl, ho5.from (Nat.le_trans hs3 hB4.size), Nat.zero_le _, by omega, grown_trans (grown_new hg3 hB4) hg5, hr5.more (by omega)⟩
      · have f2 : (k == 2) = false := by rw [beq_eq_false_iff_ne]; exact e2
        go_wp2
        go_ret
        exact ⟨L, _, rfl, ho3, Nat.zero_le _, by omega, hg3, hr3.more (by omega)⟩
end Go.Proofs.Ytmlbdlobdnhimaa

namespace Go.Proofs.Ytmlbdlobdnhimaa
open Go.RowKit

/-- a list is drawn -/
def RetS (w : World) (e : Ending) (w' : World) : Prop := ∃ L a cap, e = .returned (.slice a L.length cap) ∧ Own w.heap.size w' (.slice a L.length cap) L ∧ L.length ≤ 8 ∧ Below w.heap.size w w'
def RetSi (w : World) (e : Ending) (w' : World) : Prop := ∃ (L : List Int) (a : Option Addr) (cap : Nat) (x : Int), e = .returned (.tuple #[.slice a L.length cap, .int .i64 x]) ∧ Own w.heap.size w' (.slice a L.length cap) L ∧ L.length ≤ 8 ∧ -1 ≤ x ∧ x ≤ 1000 ∧ Below w.heap.size w w'
def RetSii (w : World) (e : Ending) (w' : World) : Prop := ∃ (L : List Int) (a : Option Addr) (cap : Nat) (x y : Int), e = .returned (.tuple #[.slice a L.length cap, .int .i64 x, .int .i64 y]) ∧ Own w.heap.size w' (.slice a L.length cap) L ∧ L.length ≤ 8 ∧ -1 ≤ x ∧ x ≤ 1000 ∧ -1 ≤ y ∧ y ≤ 1000 ∧ Below w.heap.size w w'
def RetI (lo hi : Int) (w : World) (e : Ending) (w' : World) : Prop := ∃ x : Int, e = .returned (.int .i64 x) ∧ lo ≤ x ∧ x ≤ hi ∧ Below w.heap.size w w'
set_option maxRecDepth 100000 in
set_option maxHeartbeats 1000000 in
/-- spec.DrawValidLattice -/
theorem drawValidLattice_any (a : Option Addr) (n cap : Nat) (w : World) (hy : RdY w a n w.heap.size) (hc : n ≤ cap) (hm : n ≤ 1048576) :
    Calls Try.prog 15 #[.slice a n cap] w (RetS w) := by
  go_enter Try.func15, Try.ntmps15
  go_wp2_with fail
  refine (newReader_any a n cap w hy hc hm).mono ?_
  rintro e w1 ⟨rfl, hb1, hr1⟩
  have hs1 := hb1.size
  go_wp2_with fail
  refine (someLattice_any w.heap.size w.heap.size 0 w1 hr1 (by omega)).mono ?_
  rintro e w2 ⟨L, v, rfl, ho, _, l8, hg2, hr2⟩
  have hg := grown_trans (grown_of_below hb1) hg2
  have ho2 := ho.from hs1
  obtain ⟨ua, uc, rfl, _⟩ := ho2.slice
  go_wp2
  go_ret
  exact ⟨L, ua, uc, rfl, ho2, l8, grown_below hg (Nat.le_refl _) (Nat.le_refl _)⟩
set_option maxRecDepth 100000 in
set_option maxHeartbeats 1000000 in
/-- spec.DrawIsChain -/
theorem drawIsChain_any (a : Option Addr) (n cap : Nat) (w : World) (hy : RdY w a n w.heap.size) (hc : n ≤ cap) (hm : n ≤ 1048576) :
    Calls Try.prog 34 #[.slice a n cap] w (RetS w) := by
  go_enter Try.func34, Try.ntmps34
  go_wp2_with fail
  refine (newReader_any a n cap w hy hc hm).mono ?_
  rintro e w1 ⟨rfl, hb1, hr1⟩
  have hs1 := hb1.size
  go_wp2_with fail
  refine (someLattice_any w.heap.size w.heap.size 0 w1 hr1 (by omega)).mono ?_
  rintro e w2 ⟨L, v, rfl, ho, _, l8, hg2, hr2⟩
  have hg := grown_trans (grown_of_below hb1) hg2
  have ho2 := ho.from hs1
  obtain ⟨ua, uc, rfl, _⟩ := ho2.slice
  go_wp2
  go_ret
  exact ⟨L, ua, uc, rfl, ho2, l8, grown_below hg (Nat.le_refl _) (Nat.le_refl _)⟩
set_option maxRecDepth 100000 in
set_option maxHeartbeats 1000000 in
/-- spec.DrawTurnedLattice -/
theorem drawTurnedLattice_any (a : Option Addr) (n cap : Nat) (w : World) (hy : RdY w a n w.heap.size) (hc : n ≤ cap) (hm : n ≤ 1048576) :
    Calls Try.prog 41 #[.slice a n cap] w (RetS w) := by
  go_enter Try.func41, Try.ntmps41
  go_wp2_with fail
  refine (newReader_any a n cap w hy hc hm).mono ?_
  rintro e w1 ⟨rfl, hb1, hr1⟩
  have hs1 := hb1.size
  go_wp2_with fail
  refine (someLattice_any w.heap.size w.heap.size 0 w1 hr1 (by omega)).mono ?_
  rintro e w2 ⟨L, v, rfl, ho, _, l8, hg2, hr2⟩
  have hg := grown_trans (grown_of_below hb1) hg2
  have ho2 := ho.from hs1
  obtain ⟨ua, uc, rfl, _⟩ := ho2.slice
  go_wp2
  go_ret
  exact ⟨L, ua, uc, rfl, ho2, l8, grown_below hg (Nat.le_refl _) (Nat.le_refl _)⟩
set_option maxRecDepth 100000 in
set_option maxHeartbeats 1000000 in
/-- spec.DrawCoversOf -/
theorem drawCoversOf_any (a : Option Addr) (n cap : Nat) (w : World) (hy : RdY w a n w.heap.size) (hc : n ≤ cap) (hm : n ≤ 1048576) :
    Calls Try.prog 28 #[.slice a n cap] w (RetSi w) := by
  go_enter Try.func28, Try.ntmps28
  go_wp2_with fail
  refine (newReader_any a n cap w hy hc hm).mono ?_
  rintro e w1 ⟨rfl, hb1, hr1⟩
  have hs1 := hb1.size
  go_wp2_with fail
  refine (someLattice_any w.heap.size w.heap.size 0 w1 hr1 (by omega)).mono ?_
  rintro e w2 ⟨L, v, rfl, ho, _, l8, hg2, hr2⟩
  have hg := grown_trans (grown_of_below hb1) hg2
  have ho2 := ho.from hs1
  obtain ⟨ua, uc, rfl, _⟩ := ho2.slice
  go_wp2_with fail
  refine (element_any w.heap.size w.heap.size (0 + 6) L.length w2 hr2 (by omega) (by omega) (by omega)).mono ?_
  rintro e w3 ⟨x, x0, x1, rfl, hg3, hr3⟩
  have ho3 := ho2.drawn hr2 hg3
  go_wp2
  go_ret2
  exact ⟨L, ua, uc, x, rfl, ho3, l8, x0, x1, grown_below (grown_trans hg hg3) (Nat.le_refl _) (Nat.le_refl _)⟩
set_option maxRecDepth 100000 in
set_option maxHeartbeats 1000000 in
/-- spec.DrawComplementsOf -/
theorem drawComplementsOf_any (a : Option Addr) (n cap : Nat) (w : World) (hy : RdY w a n w.heap.size) (hc : n ≤ cap) (hm : n ≤ 1048576) :
    Calls Try.prog 38 #[.slice a n cap] w (RetSi w) := by
  go_enter Try.func38, Try.ntmps38
  go_wp2_with fail
  refine (newReader_any a n cap w hy hc hm).mono ?_
  rintro e w1 ⟨rfl, hb1, hr1⟩
  have hs1 := hb1.size
  go_wp2_with fail
  refine (someLattice_any w.heap.size w.heap.size 0 w1 hr1 (by omega)).mono ?_
  rintro e w2 ⟨L, v, rfl, ho, _, l8, hg2, hr2⟩
  have hg := grown_trans (grown_of_below hb1) hg2
  have ho2 := ho.from hs1
  obtain ⟨ua, uc, rfl, _⟩ := ho2.slice
  go_wp2_with fail
  refine (element_any w.heap.size w.heap.size (0 + 6) L.length w2 hr2 (by omega) (by omega) (by omega)).mono ?_
  rintro e w3 ⟨x, x0, x1, rfl, hg3, hr3⟩
  have ho3 := ho2.drawn hr2 hg3
  go_wp2
  go_ret2
  exact ⟨L, ua, uc, x, rfl, ho3, l8, x0, x1, grown_below (grown_trans hg hg3) (Nat.le_refl _) (Nat.le_refl _)⟩
set_option maxRecDepth 100000 in
set_option maxHeartbeats 1000000 in
/-- spec.DrawIsBelow -/
theorem drawIsBelow_any (a : Option Addr) (n cap : Nat) (w : World) (hy : RdY w a n w.heap.size) (hc : n ≤ cap) (hm : n ≤ 1048576) :
    Calls Try.prog 20 #[.slice a n cap] w (RetSii w) := by
  go_enter Try.func20, Try.ntmps20
  go_wp2_with fail
  refine (newReader_any a n cap w hy hc hm).mono ?_
  rintro e w1 ⟨rfl, hb1, hr1⟩
  have hs1 := hb1.size
  go_wp2_with fail
  refine (someLattice_any w.heap.size w.heap.size 0 w1 hr1 (by omega)).mono ?_
  rintro e w2 ⟨L, v, rfl, ho, _, l8, hg2, hr2⟩
  have hg := grown_trans (grown_of_below hb1) hg2
  have ho2 := ho.from hs1
  obtain ⟨ua, uc, rfl, _⟩ := ho2.slice
  go_wp2_with fail
  refine (element_any w.heap.size w.heap.size (0 + 6) L.length w2 hr2 (by omega) (by omega) (by omega)).mono ?_
  rintro e w3 ⟨x, x0, x1, rfl, hg3, hr3⟩
  have ho3 := ho2.drawn hr2 hg3
  go_wp2_with fail
  refine (element_any w.heap.size w.heap.size (0 + 6 + 2) L.length w3 hr3 (by omega) (by omega) (by omega)).mono ?_
  rintro e w4 ⟨y, y0, y1, rfl, hg4, hr4⟩
  have ho4 := ho3.drawn hr3 hg4
  go_wp2
  go_ret3
  exact ⟨L, ua, uc, x, y, rfl, ho4, l8, x0, x1, y0, y1, grown_below (grown_trans (grown_trans hg hg3) hg4) (Nat.le_refl _) (Nat.le_refl _)⟩
set_option maxRecDepth 100000 in
set_option maxHeartbeats 1000000 in
/-- spec.DrawMeetOf -/
theorem drawMeetOf_any (a : Option Addr) (n cap : Nat) (w : World) (hy : RdY w a n w.heap.size) (hc : n ≤ cap) (hm : n ≤ 1048576) :
    Calls Try.prog 24 #[.slice a n cap] w (RetSii w) := by
  go_enter Try.func24, Try.ntmps24
  go_wp2_with fail
  refine (newReader_any a n cap w hy hc hm).mono ?_
  rintro e w1 ⟨rfl, hb1, hr1⟩
  have hs1 := hb1.size
  go_wp2_with fail
  refine (someLattice_any w.heap.size w.heap.size 0 w1 hr1 (by omega)).mono ?_
  rintro e w2 ⟨L, v, rfl, ho, _, l8, hg2, hr2⟩
  have hg := grown_trans (grown_of_below hb1) hg2
  have ho2 := ho.from hs1
  obtain ⟨ua, uc, rfl, _⟩ := ho2.slice
  go_wp2_with fail
  refine (element_any w.heap.size w.heap.size (0 + 6) L.length w2 hr2 (by omega) (by omega) (by omega)).mono ?_
  rintro e w3 ⟨x, x0, x1, rfl, hg3, hr3⟩
  have ho3 := ho2.drawn hr2 hg3
  go_wp2_with fail
  refine (element_any w.heap.size w.heap.size (0 + 6 + 2) L.length w3 hr3 (by omega) (by omega) (by omega)).mono ?_
  rintro e w4 ⟨y, y0, y1, rfl, hg4, hr4⟩
  have ho4 := ho3.drawn hr3 hg4
  go_wp2
  go_ret3
  exact ⟨L, ua, uc, x, y, rfl, ho4, l8, x0, x1, y0, y1, grown_below (grown_trans (grown_trans hg hg3) hg4) (Nat.le_refl _) (Nat.le_refl _)⟩
set_option maxRecDepth 100000 in
set_option maxHeartbeats 1000000 in
/-- spec.DrawJoinOf -/
theorem drawJoinOf_any (a : Option Addr) (n cap : Nat) (w : World) (hy : RdY w a n w.heap.size) (hc : n ≤ cap) (hm : n ≤ 1048576) :
    Calls Try.prog 26 #[.slice a n cap] w (RetSii w) := by
  go_enter Try.func26, Try.ntmps26
  go_wp2_with fail
  refine (newReader_any a n cap w hy hc hm).mono ?_
  rintro e w1 ⟨rfl, hb1, hr1⟩
  have hs1 := hb1.size
  go_wp2_with fail
  refine (someLattice_any w.heap.size w.heap.size 0 w1 hr1 (by omega)).mono ?_
  rintro e w2 ⟨L, v, rfl, ho, _, l8, hg2, hr2⟩
  have hg := grown_trans (grown_of_below hb1) hg2
  have ho2 := ho.from hs1
  obtain ⟨ua, uc, rfl, _⟩ := ho2.slice
  go_wp2_with fail
  refine (element_any w.heap.size w.heap.size (0 + 6) L.length w2 hr2 (by omega) (by omega) (by omega)).mono ?_
  rintro e w3 ⟨x, x0, x1, rfl, hg3, hr3⟩
  have ho3 := ho2.drawn hr2 hg3
  go_wp2_with fail
  refine (element_any w.heap.size w.heap.size (0 + 6 + 2) L.length w3 hr3 (by omega) (by omega) (by omega)).mono ?_
  rintro e w4 ⟨y, y0, y1, rfl, hg4, hr4⟩
  have ho4 := ho3.drawn hr3 hg4
  go_wp2
  go_ret3
  exact ⟨L, ua, uc, x, y, rfl, ho4, l8, x0, x1, y0, y1, grown_below (grown_trans (grown_trans hg hg3) hg4) (Nat.le_refl _) (Nat.le_refl _)⟩
set_option maxRecDepth 100000 in
set_option maxHeartbeats 1000000 in
/-- spec.DrawChainOf -/
theorem drawChainOf_any (a : Option Addr) (n cap : Nat) (w : World) (hy : RdY w a n w.heap.size) (hc : n ≤ cap) (hm : n ≤ 1048576) :
    Calls Try.prog 43 #[.slice a n cap] w (RetI (-1) 7 w) := by
  go_enter Try.func43, Try.ntmps43
  go_wp2_with fail
  refine (newReader_any a n cap w hy hc hm).mono ?_
  rintro e w1 ⟨rfl, hb1, hr1⟩
  have hs1 := hb1.size
  go_wp2_with fail
  have hrow : Row (w1.alloc (.cells #[.int .i64 3, .int .i64 4, .int .i64 5, .int .i64 6, .int .i64 2, .int .i64 1, .int .i64 0, .int .i64 7, .int .i64 (-1)] 3)) w1.heap.size [3, 4, 5, 6, 2, 1, 0, 7, -1] := heap_alloc_new w1 _
  have hown := Own.row hrow (Nat.le_refl _) (by unfold maxLen; simp)
  have hr2 := hr1.alloc (.cells #[.int .i64 3, .int .i64 4, .int .i64 5, .int .i64 6, .int .i64 2, .int .i64 1, .int .i64 0, .int .i64 7, .int .i64 (-1)] 3)
  refine (one_any w.heap.size w.heap.size 0 _ _ [3, 4, 5, 6, 2, 1, 0, 7, -1] _ hr2 (by omega) (hown.held hr2) (by simp) (by simp)).mono ?_
  rintro e w2 ⟨i, i0, i1, rfl, hg2, hr3⟩
  have hb : -1 ≤ nth [3, 4, 5, 6, 2, 1, 0, 7, -1] i ∧ nth [3, 4, 5, 6, 2, 1, 0, 7, -1] i ≤ 7 := by
    have hm := nth_mem' [3, 4, 5, 6, 2, 1, 0, 7, -1] i0 i1
    simp only [List.mem_cons, List.not_mem_nil, or_false] at hm
    omega
  obtain ⟨x, hx⟩ : ∃ x, x = nth [3, 4, 5, 6, 2, 1, 0, 7, -1] i := ⟨_, rfl⟩
  rw [← hx] at hb ⊢
  clear hx
  have hg := grown_trans (grown_alloc (grown_of_below hb1) (.cells #[.int .i64 3, .int .i64 4, .int .i64 5, .int .i64 6, .int .i64 2, .int .i64 1, .int .i64 0, .int .i64 7, .int .i64 (-1)] 3)) hg2
  go_wp2
  go_ret
  exact ⟨x, rfl, hb.1, hb.2, grown_below hg (Nat.le_refl _) (Nat.le_refl _)⟩
set_option maxRecDepth 100000 in
set_option maxHeartbeats 1000000 in
/-- spec.DrawAllLattices -/
theorem drawAllLattices_any (a : Option Addr) (n cap : Nat) (w : World) (hy : RdY w a n w.heap.size) (hc : n ≤ cap) (hm : n ≤ 1048576) :
    Calls Try.prog 49 #[.slice a n cap] w (RetI (-1) 6 w) := by
  go_enter Try.func49, Try.ntmps49
  go_wp2_with fail
  refine (newReader_any a n cap w hy hc hm).mono ?_
  rintro e w1 ⟨rfl, hb1, hr1⟩
  have hs1 := hb1.size
  go_wp2_with fail
  have hrow : Row (w1.alloc (.cells #[.int .i64 3, .int .i64 4, .int .i64 5, .int .i64 2, .int .i64 1, .int .i64 0, .int .i64 6, .int .i64 (-1)] 3)) w1.heap.size [3, 4, 5, 2, 1, 0, 6, -1] := heap_alloc_new w1 _
  have hown := Own.row hrow (Nat.le_refl _) (by unfold maxLen; simp)
  have hr2 := hr1.alloc (.cells #[.int .i64 3, .int .i64 4, .int .i64 5, .int .i64 2, .int .i64 1, .int .i64 0, .int .i64 6, .int .i64 (-1)] 3)
  refine (one_any w.heap.size w.heap.size 0 _ _ [3, 4, 5, 2, 1, 0, 6, -1] _ hr2 (by omega) (hown.held hr2) (by simp) (by simp)).mono ?_
  rintro e w2 ⟨i, i0, i1, rfl, hg2, hr3⟩
  have hb : -1 ≤ nth [3, 4, 5, 2, 1, 0, 6, -1] i ∧ nth [3, 4, 5, 2, 1, 0, 6, -1] i ≤ 6 := by
    have hm := nth_mem' [3, 4, 5, 2, 1, 0, 6, -1] i0 i1
    simp only [List.mem_cons, List.not_mem_nil, or_false] at hm
    omega
  obtain ⟨x, hx⟩ : ∃ x, x = nth [3, 4, 5, 2, 1, 0, 6, -1] i := ⟨_, rfl⟩
  rw [← hx] at hb ⊢
  clear hx
  have hg := grown_trans (grown_alloc (grown_of_below hb1) (.cells #[.int .i64 3, .int .i64 4, .int .i64 5, .int .i64 2, .int .i64 1, .int .i64 0, .int .i64 6, .int .i64 (-1)] 3)) hg2
  go_wp2
  go_ret
  exact ⟨x, rfl, hb.1, hb.2, grown_below hg (Nat.le_refl _) (Nat.le_refl _)⟩
end Go.Proofs.Ytmlbdlobdnhimaa
