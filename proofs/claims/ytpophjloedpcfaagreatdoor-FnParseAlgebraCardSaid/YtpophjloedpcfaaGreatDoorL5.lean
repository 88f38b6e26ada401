import Derived.Test.YtpophjloedpcfaaGreatDoorA5
import Derived.OpenShut
import Derived.Deep.MidRow
namespace Go.Proofs.YtpophjloedpcfaaGreatDoor
open Go.RowKit

/-- The cells of a row of ints. -/
def IL (L : List Int) : Array Value := (L.map fun x => Value.int .i64 x).toArray
theorem IL_size (L : List Int) : (IL L).size = L.length := by simp [IL]
theorem IL_get (L : List Int) (j : Nat) (h : j < L.length) : (IL L)[j]? = some (.int .i64 (nth L j)) := by
  unfold IL nth
  rw [List.getElem?_toArray, List.getElem?_map, List.getElem?_eq_getElem h]
  simp [h]
theorem IL_set (L : List Int) (j : Nat) (v : Int) : (IL L).setIfInBounds j (.int .i64 v) = IL (L.set j v) := by
  unfold IL
  rw [List.setIfInBounds_toArray, List.map_set]
/-- Block b is a row of ints. -/
def Row (w : World) (b : Nat) (L : List Int) : Prop := w.heap[b]? = some (.cells (IL L) 3 (0, 0))
section
variable {w : World} {b : Nat} {L : List Int}
theorem Row.lt (h : Row w b L) : b < w.heap.size := lt_of_block h
theorem Row.cells (h : Row w b L) : Cells w b 0 L := fun j hj => by
  rw [Nat.zero_add, cell_of_row w b j _ _ _ h]; exact IL_get L j hj
theorem Row.cell (h : Row w b L) {x : Int} (h0 : 0 ≤ x) (h1 : x < L.length) : w.cell? ⟨b, x.toNat, none⟩ = some (.int .i64 (nth L x)) := by
  have := h.cells.at x h0 h1; rwa [Nat.zero_add] at this
theorem Row.free (h : Row w b L) (j : Nat) : w.frozen? ⟨b, j, none⟩ = false := frozen_of_row w b j _ _ h
theorem Row.set (h : Row w b L) (j : Nat) (v : Int) : Row (w.setCell ⟨b, j, none⟩ (.int .i64 v)) b (L.set j v) := by
  rw [setCell_eq_setRow w b _ _ _ _ _ h, IL_set]
  exact setRow_heap w b _ _ _ _ h
theorem Row.other (h : Row w b L) {p : Addr} (v : Value) (hp : b ≠ p.block) : Row (w.setCell p v) b L := by
  unfold Row; rw [heap_setCell_other w p b v hp]; exact h
theorem Row.below (h : Row w b L) {w' : World} {C : Nat} (hb : Below C w w') (hB : b < C) : Row w' b L := by
  unfold Row; rw [hb.block b hB]; exact h
theorem Row.alloc (h : Row w b L) (o : Obj) : Row (w.alloc o) b L := by
  unfold Row; rw [Below.heap_alloc w o b h.lt]; exact h
theorem Row.dr (h : Row w b L) {w' : World} (hd : Dr w w') : Row w' b L := by obtain ⟨n, rfl⟩ := hd; exact h
theorem Row.rd (h : Row w b L) : Rd w (some ⟨b, 0, none⟩) L := fun _ => ⟨b, 0, rfl, h.cells⟩
end
theorem Rd.below {w w' : World} {a : Option Addr} {L : List Int} (h : Rd w a L) (hb : Below w.heap.size w w') : Rd w' a L := fun hl => by
  obtain ⟨b, off, ha, hc⟩ := h hl
  refine ⟨b, off, ha, fun j hj => ?_⟩
  have := hc j hj
  rw [hb.cell (block_lt_of_cell this)]; exact this
theorem info_int : (Tryz.prog.info? 3).map (fun i => (i.zero, i.size, i.bytes)) = some (some (.int .i64 0), 1, 8) := by kernel_rfl
theorem made_int (n : Nat) : madeCells #[.int .i64 0] n = IL (List.replicate n 0) := by
  apply Array.ext
  · simp [madeCells, IL]
  · intro i h1 h2
    simp [madeCells, IL, Nat.mod_one]
theorem run_make_ints (n : Nat) (hn : n ≤ 1073741824) (w : World) :
    (Instr.makeSlice 23 (.int .i64 n) (.int .i64 n)).run Tryz.prog w = .ok (.slice (some ⟨w.heap.size, 0, none⟩) n n) (w.alloc (.cells (IL (List.replicate n 0)) 3)) := by
  obtain ⟨i0, hi, hz0, hz1, hz2⟩ := info_parts info_int
  have := run_make (P := Tryz.prog) w 23 3 i0 (.int .i64 0) Tryz.underlying23 hi hz0 .i64 .i64 n n (by omega) (Int.le_refl _) (by rw [hz2]; omega) (by omega)
  rw [this, hz1]
  simp [Value.cells, made_int]
/-- the first k numbers of a list, and zeros -/
def mixL (L : List Int) (k : Nat) : List Int := L.take k ++ List.replicate (L.length - k) 0
theorem mixL_len (L : List Int) (k : Nat) (h : k ≤ L.length) : (mixL L k).length = L.length := by simp [mixL]; omega
theorem mixL_set (L : List Int) (k : Nat) (h : k < L.length) : (mixL L k).set k (nth L k) = mixL L (k + 1) := by
  apply List.ext_getElem
  · rw [List.length_set, mixL_len _ _ (by omega), mixL_len _ _ (by omega)]
  · intro i h1 h2
    rw [List.length_set, mixL_len _ _ (by omega)] at h1
    rw [List.getElem_set]
    by_cases e : k = i
    · subst e; rw [if_pos rfl]; simp [mixL, nth, List.getElem_append, h]; intro h; omega
    · rw [if_neg e]
      by_cases h3 : i < k
      · simp only [mixL, List.getElem_append, List.length_take, List.getElem_take, List.getElem_replicate]; rw [dif_pos (by omega), dif_pos (by omega)]
      · simp only [mixL, List.getElem_append, List.length_take, List.getElem_take, List.getElem_replicate]; rw [dif_neg (by omega), dif_neg (by omega)]
theorem mixL_all (L : List Int) (k : Nat) (h : L.length ≤ k) : mixL L k = L := by simp [mixL, List.take_of_length_le h, show L.length - k = 0 by omega]

def eqL (A B : List Int) : Bool := decide (A = B)
theorem nth_ext {A B : List Int} (h : A.length = B.length) (hk : ∀ j : Int, 0 ≤ j → j < A.length → nth A j = nth B j) : A = B := by
  apply List.ext_getElem h
  intro i h1 h2
  have := hk i (by omega) (by omega)
  unfold nth at this
  simpa [h1, h2] using this
set_option maxHeartbeats 1000000 in
/-- laws.eqIntS -/
theorem eqIntS_any (a1 a2 : Option Addr) (c1 c2 : Nat) (A B : List Int) (w : World) (h1 : Rd w a1 A) (h2 : Rd w a2 B) (hm : A.length ≤ 1073741824) :
    Calls Tryz.prog 55 #[.slice a1 A.length c1, .slice a2 B.length c2] w fun e w' => e = .returned (.bool (eqL A B)) ∧ Dr w w' := by
  by_cases hl : A.length = B.length
  · have hne : ((A.length : Int) != (B.length : Int)) = false := by rw [hl]; simp
    have hlB : (A.length : Int) ≤ B.length := by omega
    go_enter Tryz.func55, Tryz.ntmps55
    go_wp2
    go_loopw [5] (fun i wr => ∃ k : Int, 0 ≤ k ∧ k ≤ A.length ∧ i = .int .i64 k ∧ AllTo k (fun j => nth A j == nth B j) ∧ Dr w wr) (fun i _ => ((A.length : Int) - intOf i).toNat)
    case atStart => exact ⟨0, by omega, by omega, rfl, AllTo.zero _, Dr.refl _⟩
    case round =>
      obtain ⟨k, k0, k1, rfl, ha, hd⟩ := hrel
      by_cases hk : k < A.length
      · obtain ⟨b1, o1, rfl, hc1⟩ := (hd.rd h1) (by intro e; rw [e] at hk; simp at hk; omega)
        obtain ⟨b2, o2, rfl, hc2⟩ := (hd.rd h2) (by intro e; have hz : B.length = 0 := (by rw [e]; rfl); omega)
        have hk2 : k < B.length := by omega
        have d1 := hc1.at k k0 hk
        have d2 := hc2.at k k0 hk2
        cases hq : nth A k != nth B k
        case false =>
          have hq2 : (nth A k == nth B k) = true := by simpa [bne] using hq
          have HQ := Lib.hid hq2; clear hq2
          go_wp2
          go_quiet (fail)
          go_wp2
          go_roundw
          case rel => exact ⟨k + 1, by omega, by omega, rfl, ha.succ HQ.out, hd.more _⟩
          case measure => simp [intOf]; omega
        case true =>
          have hv : eqL A B = false := by
            unfold eqL
            refine decide_eq_false fun e => ?_
            rw [e] at hq; simp at hq
          have HV := Lib.hid hv; clear hv
          go_wp2
          go_quiet (fail)
          go_wp2
          go_ret
          exact ⟨ret_bool HV.out.symm, hd.more _⟩
      · have hv : eqL A B = true := decide_eq_true (nth_ext hl fun j j0 j1 => by have := ha j j0 (by omega); simpa using this)
        have HV := Lib.hid hv; clear hv
        go_wp2
        go_ret
        exact ⟨ret_bool HV.out.symm, hd⟩
  · have hne : ((A.length : Int) != (B.length : Int)) = true := by rw [bne_iff_ne]; omega
    have HV := Lib.hid (show eqL A B = false from decide_eq_false fun e => hl (by rw [e]))
    go_enter Tryz.func55, Tryz.ntmps55
    go_wp2
    go_ret
    exact ⟨ret_bool HV.out.symm, Dr.refl _⟩
end Go.Proofs.YtpophjloedpcfaaGreatDoor

namespace Go.Proofs.YtpophjloedpcfaaGreatDoor
open Go.RowKit
/-- What the frame says of a slice that came in, as 'Rd' says it. -/
theorem rd_of_row {w : World} {a : Option Addr} {len cap : Nat} {zs : List Int}
    (h : (a = none ∧ len = 0 ∧ cap = 0 ∧ zs = []) ∨ ∃ x, a = some x ∧ len ≤ cap ∧ cap ≤ maxLen ∧ zs.length = cap ∧ (∀ i, i < zs.length → w.cell? (x.add i) = some (.int .i64 (zs.getD i 0))) ∧ ∀ n ∈ zs, (Lit.int .i64 n).wf = true) :
    Rd w a (zs.take len) ∧ (zs.take len).length = len ∧ len ≤ maxLen := by
  rcases h with ⟨rfl, rfl, rfl, rfl⟩ | ⟨x, rfl, hl, hm, hz, hc, _⟩
  · exact ⟨fun h => absurd rfl h, rfl, Nat.zero_le _⟩
  · have hlen : (zs.take len).length = len := by simp; omega
    refine ⟨fun hne => ?_, hlen, by omega⟩
    have hpos : 0 < zs.length := by
      rcases Nat.eq_zero_or_pos zs.length with h0 | h0
      · exact absurd (by rw [List.length_eq_zero_iff.1 h0]; simp) hne
      · exact h0
    obtain ⟨b, off, spot⟩ := x
    have h0 := hc 0 hpos
    have hs : spot = none := by
      cases spot with
      | none => rfl
      | some s => simp [Addr.add, World.cell?] at h0; split at h0 <;> simp at h0
    subst hs
    refine ⟨b, off, rfl, fun j hj => ?_⟩
    rw [hlen] at hj
    have := hc j (by omega)
    rw [Addr.add_mid] at this
    rw [this]
    unfold nth
    simp [List.getD, hj]
end Go.Proofs.YtpophjloedpcfaaGreatDoor

namespace Go.Proofs.YtpophjloedpcfaaGreatDoor
open Go.RowKit

/-- v is a slice of the call's own, from block B on, that reads as the list. -/
def Own (B : Nat) (w : World) (v : Value) (L : List Int) : Prop := w.ownsRow B 3 1 v L.length (L.map fun x => Value.int .i64 x)
/-- Such a slice is handed back. -/
def RetOwn (B : Nat) (L : List Int) (w : World) (e : Ending) (w' : World) : Prop := ∃ v, e = .returned v ∧ Own B w' v L ∧ Below w.heap.size w w'
section
variable {B : Nat} {w : World} {v : Value} {L : List Int}
theorem Own.slice (h : Own B w v L) : ∃ a cap, v = .slice a L.length cap ∧ Rd w a L := by
  obtain ⟨_, h⟩ := h
  rcases h with ⟨rfl, hn⟩ | ⟨g, cap, cur, rfl, _, hg, hc, _, hs, ht⟩
  · refine ⟨none, 0, by rw [hn], fun hne => absurd (List.length_eq_zero_iff.1 hn) hne⟩
  · refine ⟨_, cap, rfl, fun _ => ⟨g, 0, rfl, fun j hj => ?_⟩⟩
    rw [Nat.zero_add, cell_of_row w g j _ _ _ hg]
    have h1 : (cur.toList.take (L.length * 1))[j]? = (L.map fun x => Value.int .i64 x)[j]? := by rw [ht]
    rw [List.getElem?_take, if_pos (by omega), Array.getElem?_toList] at h1
    rw [h1]
    unfold nth
    simp [hj]
theorem Own.alloc (h : Own B w v L) (o : Obj) : Own B (w.alloc o) v L := World.ownsRow.alloc h o
theorem Own.below (h : Own B w v L) {w' : World} (hb : Below w.heap.size w w') : Own B w' v L := by
  obtain ⟨h1, h⟩ := h
  refine ⟨h1, ?_⟩
  rcases h with h | ⟨g, cap, cur, e1, e2, hg, e3, e4, e5, e6⟩
  · exact .inl h
  · exact .inr ⟨g, cap, cur, e1, e2, (hb.block g (lt_of_block hg)).trans hg, e3, e4, e5, e6⟩
theorem Own.from (h : Own B w v L) {B' : Nat} (hB : B' ≤ B) : Own B' w v L := by
  obtain ⟨h1, h⟩ := h
  refine ⟨h1, ?_⟩
  rcases h with h | ⟨g, cap, cur, e1, e2, e⟩
  · exact .inl h
  · exact .inr ⟨g, cap, cur, e1, by omega, e⟩
theorem Own.nothing (B : Nat) (w : World) : Own B w (.slice none 0 0) [] := ⟨rfl, .inl ⟨rfl, rfl⟩⟩
theorem Own.row {b : Nat} (h : Row w b L) (hB : B ≤ b) (hm : L.length ≤ maxLen) : Own B w (.slice (some ⟨b, 0, none⟩) L.length L.length) L :=
  ⟨by simp, .inr ⟨b, L.length, IL L, rfl, hB, h, Nat.le_refl _, hm, by simp [IL], by simp [IL, List.take_of_length_le]⟩⟩
end

/-- the rows of a chain, up to a place -/
def chainTo (n k : Int) : List Int := (List.range k.toNat).map fun (i : Nat) => pw n - pw i
theorem chainTo_succ (n k : Int) (h : 0 ≤ k) : chainTo n (k + 1) = chainTo n k ++ [pw n - pw k] := by
  unfold chainTo
  rw [show (k + 1).toNat = k.toNat + 1 by omega, List.range_succ, List.map_append]
  simp [Int.toNat_of_nonneg h]
theorem chainTo_len (n k : Int) (h : 0 ≤ k) : ((chainTo n k).length : Int) = k := by simp [chainTo, Int.toNat_of_nonneg h]

set_option maxRecDepth 100000 in
set_option maxHeartbeats 1000000 in
/-- spec.chain -/
theorem chain_any (n : Int) (w : World) (n0 : 0 ≤ n) (n6 : n ≤ 30) :
    Calls Tryz.prog 80 #[.int .i64 n] w (RetOwn w.heap.size (chainTo n n) w) := by
  obtain ⟨i0, hi, hz0, hz1, hz2⟩ := info_parts info_int
  go_enter Tryz.func80, Tryz.ntmps80
  go_wp2
  go_loopw [3, 4] (fun v x wr => ∃ k : Int, 0 ≤ k ∧ k ≤ n ∧ x = .int .i64 k ∧ Own w.heap.size wr v (chainTo n k) ∧ Below w.heap.size w wr) (fun _ x _ => (30 - intOf x).toNat)
  case atStart => 
    exact ⟨0, by omega, by omega, rfl, Own.row (L := []) (heap_alloc_new w _) (Nat.le_refl _) (Nat.zero_le _), (Below.refl _ _).alloc (Nat.le_refl _) _⟩
  case round =>
    obtain ⟨k, k0, k1, rfl, hown, hbel⟩ := hrel
    by_cases hk : k < n
    · have p1 := pw_30 n n6
      have p2 := pw_pos n
      have p3 := pw_30 k (by omega)
      have p4 := pw_pos k
      have hlen := chainTo_len n k k0
      have hsucc := Lib.hid (chainTo_succ n k k0)
      go_wp2_with (first
        | (go_at_call 49; refine (power_any _ _ (by omega) (by omega)).mono ?_; rintro e w' ⟨rfl, rfl⟩)
        | (at_builtin; refine wpList_append_own _ rfl _ _ 23 rfl w.heap.size 3 i0 (.int .i64 0) 1 8 Tryz.underlying23 hi hz0 hz1 hz2 rfl (by decide) _ _ _ rfl (World.ownsRow.alloc hown _) ⟨wr.heap.size, 0, none⟩ 1 1 [.int .i64 (pw n - pw k)] rfl rfl (cell_one_new _ _ _) (fun x hx => by simp at hx; subst hx; rfl) (by unfold maxLen; omega) (by omega) (by have := hbel.size; simp; omega) ?_; intro v' w1 hown1 hgrow _))
      go_roundw
      case rel => exact ⟨k + 1, by omega, by omega, rfl, by unfold Own; rw [hsucc.out, List.map_append, List.length_append]; exact hown1, (hbel.alloc hbel.size _).grown hgrow (by have := hbel.size; simp; omega) (fun q hq => (World.ownsRow.lt hown q hq).1)⟩
      case measure => simp [intOf]; omega
    · have e : k = n := by omega
      subst e
      go_wp2
      go_ret
      exact ⟨_, rfl, hown, hbel⟩
end Go.Proofs.YtpophjloedpcfaaGreatDoor

namespace Go.Proofs.YtpophjloedpcfaaGreatDoor
open Go.RowKit

theorem grown_trans {a b c : World} {row : Option Nat} (h : a.grownBy b row) (k : b.grownBy c row) : a.grownBy c row :=
  ⟨k.os.trans h.os, k.tape.trans h.tape, k.output.trans h.output, Nat.le_trans h.size k.size, fun i hi hne => (k.block i (Nat.lt_of_lt_of_le hi h.size) hne).trans (h.block i hi hne)⟩
/-- k, k + 1 .. -/
def markL (k : Int) (n : Nat) : List Int := (List.range n).map fun (j : Nat) => k + j
theorem markL_len (k : Int) (n : Nat) : (markL k n).length = n := by simp [markL]
theorem markL_nth (k : Int) (n : Nat) {i : Int} (i0 : 0 ≤ i) (i1 : i < n) : nth (markL k n) i = k + i := by
  have h : i.toNat < n := by omega
  unfold nth markL
  simp [List.getD, h, Int.toNat_of_nonneg i0]
def markTo (L : List Int) (k : Int) (i : Nat) : List Int := markL k i ++ L.drop i
theorem markTo_len (L : List Int) (k : Int) (i : Nat) (h : i ≤ L.length) : (markTo L k i).length = L.length := by simp [markTo, markL]; omega
theorem markTo_set (L : List Int) (k : Int) (i : Nat) (h : i < L.length) : (markTo L k i).set i (k + i) = markTo L k (i + 1) := by
  unfold markTo markL
  rw [List.range_succ, List.map_append, List.append_assoc, List.set_append_right (h := by simp)]
  simp only [List.length_map, List.length_range, Nat.sub_self]
  congr 1
  rw [List.drop_eq_getElem_cons h]
  rfl
theorem markTo_all (L : List Int) (k : Int) : markTo L k L.length = markL k L.length := by simp [markTo]
section
variable {B : Nat} {w : World} {g cap : Nat} {L : List Int}
theorem Own.cellAt (h : Own B w (.slice (some ⟨g, 0, none⟩) L.length cap) L) {x : Int} (x0 : 0 ≤ x) (x1 : x < L.length) : w.cell? ⟨g, x.toNat, none⟩ = some (.int .i64 (nth L x)) := by
  rw [World.ownsRow.cellAt h x.toNat (by omega)]
  unfold nth
  simp [show x.toNat < L.length by omega]
theorem Own.freeAt (h : Own B w (.slice (some ⟨g, 0, none⟩) L.length cap) L) (j : Nat) : w.frozen? ⟨g, j, none⟩ = false := World.ownsRow.frozenAt h j
theorem Own.stored (h : Own B w (.slice (some ⟨g, 0, none⟩) L.length cap) L) (j : Nat) (u : Int) :
    Own B (w.setCell ⟨g, j, none⟩ (.int .i64 u)) (.slice (some ⟨g, 0, none⟩) (L.set j u).length cap) (L.set j u) ∧ w.grownBy (w.setCell ⟨g, j, none⟩ (.int .i64 u)) (some g) := by
  obtain ⟨a, b⟩ := World.ownsRow.stored h j (.int .i64 u)
  refine ⟨?_, b⟩
  unfold Own
  rw [List.map_set, List.length_set]
  exact a
theorem Own.shape {v : Value} (h : Own B w v L) : (v = .slice none 0 0 ∧ L = []) ∨ ∃ g cap, v = .slice (some ⟨g, 0, none⟩) L.length cap ∧ B ≤ g ∧ g < w.heap.size := by
  rcases h.2 with ⟨h1, h2⟩ | ⟨g, cap, cur, h1, h2, h3, _⟩
  · exact .inl ⟨h1, List.length_eq_zero_iff.1 h2⟩
  · exact .inr ⟨g, cap, h1, h2, lt_of_block h3⟩
end
/-- A slice of the call's own is handed back, its value written out. -/
def RetSl (B : Nat) (L : List Int) (w : World) (e : Ending) (w' : World) : Prop := ∃ a cap, e = .returned (.slice a L.length cap) ∧ Own B w' (.slice a L.length cap) L ∧ Below w.heap.size w w'
theorem RetOwn.sl {B : Nat} {L : List Int} {w w' : World} {e : Ending} (h : RetOwn B L w e w') : RetSl B L w e w' := by
  obtain ⟨v, he, ho, hb⟩ := h
  obtain ⟨a, cap, hv, _⟩ := ho.slice
  subst hv
  exact ⟨a, cap, he, ho, hb⟩
theorem Own.rd {B : Nat} {w : World} {a : Option Addr} {cap : Nat} {L : List Int} (h : Own B w (.slice a L.length cap) L) : Rd w a L := by
  obtain ⟨a', c', hv, hr⟩ := h.slice
  simp only [Value.slice.injEq] at hv
  rw [hv.1]; exact hr

set_option maxHeartbeats 1000000 in
/-- laws.markIntS -/
theorem markIntS_any {B : Nat} (a : Option Addr) (cap : Nat) (L : List Int) (k : Int) (w : World) (hown : Own B w (.slice a L.length cap) L) (k0 : 0 ≤ k) (k1 : k ≤ 1125899906842624) (hm : L.length ≤ 1073741824) :
    Calls Tryz.prog 57 #[.slice a L.length cap, .int .i64 k] w fun e w' => e = .returned (.int .i64 (k + L.length)) ∧ Own B w' (.slice a L.length cap) (markL k L.length) ∧ w.grownBy w' (Value.slice a L.length cap).ownBlock := by
  rcases hown.shape with ⟨hv, rfl⟩ | ⟨g, c, hv, _, _⟩
  · simp only [Value.slice.injEq] at hv
    obtain ⟨rfl, _, rfl⟩ := hv
    go_enter Tryz.func57, Tryz.ntmps57
    go_wp2
    refine wp_loop_rounds 1 ?_
    rw [rounds_succ]
    go_wp2
    go_ret
    exact ⟨ret_int (by simp), hown, World.grownBy.refl _ _⟩
  · simp only [Value.slice.injEq] at hv
    obtain ⟨rfl, _, rfl⟩ := hv
    go_enter Tryz.func57, Tryz.ntmps57
    go_wp2
    go_loopw [1, 5] (fun m i wr => ∃ j : Int, 0 ≤ j ∧ j ≤ L.length ∧ i = .int .i64 j ∧ m = .int .i64 (k + j) ∧ Own B wr (.slice (some ⟨g, 0, none⟩) (markTo L k j.toNat).length cap) (markTo L k j.toNat) ∧ w.grownBy wr (some g)) (fun _ i _ => ((L.length : Int) - intOf i).toNat)
    case atStart => exact ⟨0, by omega, by omega, rfl, by simp, hown, World.grownBy.refl _ _⟩
    case round =>
      obtain ⟨j, j0, j1, rfl, rfl, ho, hg⟩ := hrel
      have hlen := markTo_len L k j.toNat (by omega)
      by_cases hj : j < L.length
      · have c0 := ho.cellAt j0 (by rw [hlen]; exact hj)
        have f0 := ho.freeAt j.toNat
        have hst := Lib.hid (ho.stored j.toNat (k + j))
        have hse := Lib.hid (markTo_set L k j.toNat (by omega))
        clear hlen hown
        go_wp2
        go_roundw
        case rel =>
          obtain ⟨s1, s2⟩ := hst.out
          have e := hse.out
          rw [Int.toNat_of_nonneg j0] at e
          rw [e] at s1
          exact ⟨j + 1, by omega, by omega, rfl, by rw [Int.add_assoc], by rw [show (j + 1).toNat = j.toNat + 1 by omega]; exact s1, grown_trans hg s2⟩
        case measure => simp [intOf]; omega
      · have e : j = L.length := by omega
        have hl := Lib.hid hlen
        clear hlen hown
        subst e
        go_wp2
        go_ret
        refine ⟨rfl, ?_, hg⟩
        have := hl.out
        rw [Int.toNat_natCast] at ho this
        rw [this, markTo_all] at ho
        exact ho

set_option maxHeartbeats 1000000 in
/-- laws.heldIntS, of what markIntS has written -/
theorem heldIntS_any (a : Option Addr) (cap n : Nat) (k : Int) (w : World) (hr : Rd w a (markL k n)) (k0 : 0 ≤ k) (k1 : k ≤ 1073741824) (hm : n ≤ 1073741824) :
    Calls Tryz.prog 59 #[.slice a n cap, .int .i64 k] w fun e w' => e = .returned (.int .i64 (k + n)) ∧ w = w' := by
  have hl := markL_len k n
  go_enter Tryz.func59, Tryz.ntmps59
  go_wp2
  go_loop [1, 5] (fun m i => ∃ j : Int, 0 ≤ j ∧ j ≤ n ∧ i = .int .i64 j ∧ m = .int .i64 (k + j)) (fun _ i => ((n : Int) - intOf i).toNat)
  case atStart => exact ⟨0, by omega, by omega, rfl, by simp⟩
  case round =>
    obtain ⟨j, j0, j1, rfl, rfl⟩ := hrel
    by_cases hj : j < n
    · obtain ⟨b, off, rfl, hc⟩ := hr (by intro e; rw [e] at hl; simp at hl; omega)
      have c0 := hc.at j j0 (by unfold num; rw [hl]; exact hj)
      rw [markL_nth k n j0 hj] at c0
      clear hl
      go_wp2
      go_round
      case rel => exact ⟨j + 1, by omega, by omega, rfl, by rw [Int.add_assoc]⟩
      case measure => simp [intOf]; omega
    · have e : j = n := by omega
      subst e
      clear hl
      go_wp2
      go_ret
      exact ⟨rfl, rfl⟩
end Go.Proofs.YtpophjloedpcfaaGreatDoor
