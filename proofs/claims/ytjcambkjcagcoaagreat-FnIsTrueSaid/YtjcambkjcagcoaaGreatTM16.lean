import Derived.Test.YtjcambkjcagcoaaGreatTP2
import Derived.Test.YtjcambkjcagcoaaGreatZ8
import Derived.Test.YtjcambkjcagcoaaGreatY1
namespace Go.Proofs.YtjcambkjcagcoaaGreat
open Go.RowKit
set_option linter.unusedVariables false

/-- block G holds the rows of a table, each with a place -/
def TabS (w : World) (G : Nat) (S : List (List Int)) : Prop := ∀ j : Int, 0 ≤ j → j < S.length → ∃ ra rc, w.cell? ⟨G, j.toNat, none⟩ = some (.slice (some ⟨ra, 0, none⟩) (rowAt S j).length rc) ∧ Rd w (some ⟨ra, 0, none⟩) (rowAt S j)
theorem TabS.below {w w' : World} {G : Nat} {S : List (List Int)} (h : TabS w G S) (hb : Below w.heap.size w w') : TabS w' G S := fun j j0 j1 => by
  obtain ⟨ra, rc, h1, h2⟩ := h j j0 j1
  exact ⟨ra, rc, by rw [hb.cell (by exact block_lt_of_cell h1)]; exact h1, h2.below hb⟩
theorem TabS.of {B : Nat} {w : World} {G c n : Nat} {S : List (List Int)} (h : RowsAt B w (.slice (some ⟨G, 0, none⟩) n c) S) (hn : ∀ j : Int, 0 ≤ j → j < S.length → rowAt S j ≠ []) : TabS w G S := fun j j0 j1 => by
  obtain ⟨a, c, h1, h2⟩ := h.at j0 j1
  obtain ⟨ra, rc, e, _⟩ := h2.shape.resolve_left (fun h => hn j j0 j1 h.2)
  injection e with e1 _ e2
  subst e1
  exact ⟨ra, c, h1, h2.rd⟩
/-- the lists of elements are handed back -/
def RetAs (n : Nat) (w : World) (e : Ending) (w' : World) : Prop := ∃ G c, e = .returned (.slice (some ⟨G, 0, none⟩) (asnT n 3).length c) ∧ TabS w' G (asnT n 3) ∧ Below w.heap.size w w'
theorem asnT_rows (n : Nat) : ∀ (k : Nat) (r : List Int), r ∈ asnT n k → r.length = k
  | 0, r, h => by
    have : r = [] := by simpa [asnT] using h
    rw [this]; rfl
  | k + 1, r, h => by
    have h' : r ∈ (asnT n k).flatMap fun r => (List.range n).map fun (x : Nat) => r ++ [(x : Int)] := h
    rw [List.mem_flatMap] at h'
    obtain ⟨q, hq, hr⟩ := h'
    rw [List.mem_map] at hr
    obtain ⟨x, _, rfl⟩ := hr
    rw [List.length_append, asnT_rows n k q hq]; rfl
theorem asnT_row_len (n k : Nat) {j : Int} (j0 : 0 ≤ j) (j1 : j < (asnT n k).length) : (rowAt (asnT n k) j).length = k := asnT_rows n k _ (rowAt_mem j0 j1)
theorem asn_pow {n k : Nat} (n6 : n ≤ 6) (k3 : k ≤ 3) : n ^ k ≤ 216 := Nat.le_trans (Nat.pow_le_pow_left n6 k) (Nat.le_trans (Nat.pow_le_pow_right (by decide) k3) (by decide))
theorem rowAt_getD (S : List (List Int)) (i : Nat) : rowAt S (i : Int) = S.getD i [] := rfl
set_option maxRecDepth 100000 in
set_option maxHeartbeats 8000000 in
/-- spec.assignments -/
theorem assignments_any (n : Nat) (w : World) (n1 : 1 ≤ n) (n6 : n ≤ 6) :
    Calls Tryz.prog 122 #[.int .i64 n] w (RetAs n w) := by
  obtain ⟨i0, hi, hz0, hz1, hz2⟩ := info_parts info_int
  obtain ⟨i1, hi1, hy0, hy1, hy2⟩ := info_parts info_ints
  obtain ⟨w1, hw1⟩ : ∃ w1, w1 = (w.alloc (.cells #[] 3)).alloc (.cells #[.slice (some ⟨w.heap.size, 0, none⟩) 0 0] 23) := ⟨_, rfl⟩
  have hB : Below w.heap.size w w1 := by rw [hw1]; exact ((Below.refl _ _).alloc (Nat.le_refl _) _).alloc (by simp) _
  have hS1 : TabS w1 (w.heap.size + 1) (asnT n 0) := fun j j0 j1 => by
    have e : j = 0 := by simp [asnT] at j1; omega
    subst e
    refine ⟨w.heap.size, 0, ?_, fun h => absurd rfl h⟩
    rw [hw1, cell_of_row _ (w.heap.size + 1) _ _ _ _ (heap_alloc2_new _ _ _)]
    rfl
  have hl1 : (asnT n 0).length = 1 := rfl
  go_enter Tryz.func122, Tryz.ntmps122
  go_wp2_with (rw [← hw1]; clear hw1)
  go_loopw [3, 4, 5, 6, 7] (fun ov kv _ _ _ wr => ∃ (k G c m : Nat), k ≤ 3 ∧ kv = .int .i64 k ∧ m = (asnT n k).length ∧ ov = .slice (some ⟨G, 0, none⟩) m c ∧ TabS wr G (asnT n k) ∧ Below w.heap.size w wr) (fun _ kv _ _ _ _ => (3 - intOf kv).toNat)
  case atStart => exact ⟨0, w.heap.size + 1, 1, 1, by omega, rfl, rfl, rfl, hS1, hB⟩
  case round =>
    clear hS1 hl1 hB
    obtain ⟨k, G, c, m, k3, rfl, hm, rfl, hS, hbel⟩ := hrel
    by_cases hk : k < 3
    · have hkI : (k : Int) < 3 := by omega
      obtain ⟨wk, rfl⟩ : ∃ wk : World, wk = wr := ⟨_, rfl⟩
      obtain ⟨S, hSe⟩ : ∃ S, S = asnT n k := ⟨_, rfl⟩
      have hrl := fun (j : Int) (j0 : 0 ≤ j) (j1 : j < (asnT n k).length) => asnT_row_len n k j0 j1
      have hml : m ≤ 216 := by rw [hm, asnT_len]; exact asn_pow n6 (by omega)
      have hmn : m * n ≤ 216 := by
        rw [hm, asnT_len]
        have := asn_pow (n := n) (k := k + 1) n6 (by omega)
        rwa [Nat.pow_succ] at this
      rw [← hSe] at hS hm hrl
      have HSE := Lib.hid hSe
      have HRL := Lib.hid hrl
      have KS := Lib.hid (show ∀ wz, Below wk.heap.size wk wz → TabS wz G S from fun wz hz => hS.below hz)
      have HM := Lib.hid hm
      clear hSe hS hrl hm
      have hwks := hbel.size
      go_wp2
      go_loopw [5, 6, 7] (fun nv iv _ wr => ∃ i : Nat, i ≤ m ∧ iv = .int .i64 i ∧ RowsAt wk.heap.size wr nv (asnP n S i) ∧ Below wk.heap.size wk wr) (fun _ iv _ _ => ((m : Int) - intOf iv).toNat)
      case atStart => exact ⟨0, by omega, rfl, ⟨[], ⟨rfl, .inr ⟨wk.heap.size, 0, #[], rfl, Nat.le_refl _, heap_alloc_new wk _, Nat.le_refl _, by unfold maxLen; omega, by simp, by simp [asnP_zero]⟩⟩, fun j hj => absurd hj (by simp [asnP_zero])⟩, (Below.refl _ _).alloc (Nat.le_refl _) _⟩
      case round =>
        obtain ⟨i, im, rfl, hN, hbi⟩ := hrel
        by_cases hi2 : i < m
        · have hiI : (i : Int) < m := by omega
          obtain ⟨w3, rfl⟩ : ∃ w3 : World, w3 = wr := ⟨_, rfl⟩
          go_wp2
          go_loopw [5, 7] (fun nv xv wr => ∃ x : Nat, x ≤ n ∧ xv = .int .i64 x ∧ RowsAt wk.heap.size wr nv (asnQ n S i x) ∧ Below wk.heap.size wk wr) (fun _ xv _ => ((n : Int) - intOf xv).toNat)
          case atStart => exact ⟨0, by omega, rfl, by rw [asnQ_zero]; exact hN, hbi⟩
          case round =>
            clear hN hbi
            obtain ⟨x, xn, rfl, hN, hbi⟩ := hrel
            by_cases hx : x < n
            · have hxI : (x : Int) < n := by omega
              have hsl : (i : Int) < S.length := by have := HM.out; omega
              obtain ⟨ra, rc, c0, r0⟩ := (KS.out _ hbi) (i : Int) (by omega) hsl
              have rl := HRL.out (i : Int) (by omega) hsl
              have HSU := Lib.hid (asnQ_succ n S i x)
              have HL := Lib.hid (asnQ_len n S i x (by have := HM.out; omega))
              obtain ⟨R, hR⟩ : ∃ R, R = rowAt S (i : Int) := ⟨_, rfl⟩
              rw [← rowAt_getD, ← hR] at HSU
              rw [← hR, Int.toNat_natCast] at c0
              rw [← hR] at r0 rl
              have d2 : (wr.alloc (.cells #[] 3)).cell? ⟨G, i, none⟩ = some (.slice (some ⟨ra, 0, none⟩) R.length rc) := (((Below.refl wr.heap.size wr).alloc (Nat.le_refl _) _).cell (by exact block_lt_of_cell c0)).trans c0
              have HN := Lib.hid (rd_cells r0)
              obtain ⟨P, hP⟩ : ∃ P, P = asnQ n S i x := ⟨_, rfl⟩
              rw [← hP] at hN HL HSU
              have hpl : P.length ≤ 216 + 216 := by have := HL.out; have : i * n ≤ m * n := Nat.mul_le_mul_right n im; omega
              obtain ⟨vs, h1v, h2v⟩ := hN
              have H2V := Lib.hid h2v
              have hs := hbi.size
              obtain ⟨R2, hR2⟩ : ∃ R2, R2 = R ++ [(x : Int)] := ⟨_, rfl⟩
              rw [← hR2] at HSU
              have HR2 := Lib.hid hR2
              have hr2l : R2.length ≤ 4 := by rw [hR2, List.length_append]; simp; omega
              have rl3 : R.length ≤ 3 := by omega
              clear hR r0 hP h2v hR2 rl
              go_wp2_with (first
                | (at_builtin; refine wpList_append_own _ rfl _ _ 24 rfl wk.heap.size 23 i1 (.slice none 0 0) 1 24 Tryz.underlying24 hi1 hy0 hy1 hy2 rfl (by decide) _ _ _ rfl (World.ownsRow.alloc (ownsRow_below h1v hb5) (.cells #[.slice ua R2.length uc] 23)) ⟨w5.heap.size, 0, none⟩ 1 1 [.slice ua R2.length uc] rfl rfl (cell_one_new _ _ _) (fun x hx => by simp at hx; subst hx; rfl) (by unfold maxLen; omega) (by omega) (by have := hb5.size; simp; omega) ?_; intro v6 w6 hown6 hgrow6 _)
                | (at_builtin; refine wpList_append_own _ rfl _ _ 23 rfl wr.heap.size 3 i0 (.int .i64 0) 1 8 Tryz.underlying23 hi hz0 hz1 hz2 rfl (by decide) _ _ _ rfl (World.ownsRow.alloc ho2 _) ⟨w2.heap.size, 0, none⟩ 1 1 [.int .i64 x] rfl rfl (cell_one_new _ _ _) (fun x hx => by simp at hx; subst hx; rfl) (by unfold maxLen; omega) (by omega) (by have := hb2.size; simp; omega) ?_; intro v3 w5 hown3 hgrow3 _; have ho3 : Own wr.heap.size w5 v3 R2 := (by unfold Own; rw [HR2.out, List.map_append, List.length_append]; exact hown3); have hb5 : Below wr.heap.size wr w5 := (hb2.alloc hb2.size _).grown hgrow3 (by have := hb2.size; simp; omega) (fun q hq => (World.ownsRow.lt ho2 q hq).1); clear hown3 hgrow3; obtain ⟨ua, uc, rfl, _⟩ := ho3.slice)
                | (at_builtin; refine wpList_append_own _ rfl _ _ 23 rfl wr.heap.size 3 i0 (.int .i64 0) 1 8 Tryz.underlying23 hi hz0 hz1 hz2 rfl (by decide) _ _ _ rfl (Own.row (L := []) (heap_alloc_new wr _) (Nat.le_refl _) (Nat.zero_le _)) ⟨ra, 0, none⟩ R.length rc (R.map fun x => Value.int .i64 x) rfl (by simp) (old_newsZ _ HN.out) (fun x hx => by simp at hx; obtain ⟨y, _, rfl⟩ := hx; rfl) (by unfold maxLen; simp; omega) (by simp; omega) (by simp) ?_; intro v2 w2 hown2 hgrow2 _; have ho2 : Own wr.heap.size w2 v2 R := (by unfold Own; simpa using hown2); have hb2 : Below wr.heap.size wr w2 := ((Below.refl _ _).alloc (Nat.le_refl _) _).grown hgrow2 (by simp) (fun q hq => (by have hq' : some wr.heap.size = some q := hq; injection hq' with hq'; omega)); clear hown2 hgrow2; obtain ⟨va, vc, rfl, _⟩ := ho2.slice))
              go_roundw
              case rel =>
                have hp := RowsAt.push (T := P) (r := R2) (World.ownsRow.alloc (ownsRow_below h1v hb5) (.cells #[.slice ua R2.length uc] 23)) (fun j hj => by obtain ⟨u, hu, ho⟩ := H2V.out j hj; exact ⟨u, hu, (ho.below hb5).alloc _⟩) ((ho3.from hs).alloc _) hown6 hgrow6
                exact ⟨x + 1, by omega, by simp, by rw [HSU.out]; exact hp, (hbi.trans ((hb5.alloc hb5.size _).mono hs)).grown hgrow6 (by have := hb5.size; simp; omega) (fun q hq => (World.ownsRow.lt h1v q hq).1)⟩
              case measure => simp [intOf]; omega
            · have e : x = n := by omega
              subst e
              go_wp2
              go_roundw
              case rel => exact ⟨i + 1, by omega, by simp, by rw [← asnQ_all x S i (by have := HM.out; omega)]; exact hN, hbi⟩
              case measure => simp [intOf]; omega
        · have e : i = S.length := by have := HM.out; omega
          subst e
          rw [asnP_all] at hN
          have hT : (S.flatMap fun r => (List.range n).map fun (x : Nat) => r ++ [(x : Int)]) = asnT n (k + 1) := by rw [HSE.out]; rfl
          rw [hT] at hN
          have hl := asnT_len n (k + 1)
          have hpos : 1 ≤ n ^ (k + 1) := Nat.pow_pos n1
          obtain ⟨vs, h1v, _⟩ := id hN
          obtain ⟨G5, c5, rfl, _⟩ := rows_shape h1v (fun e => by
            rw [e] at h1v
            rcases h1v.2 with ⟨_, h⟩ | ⟨g, cap, cur, h, _⟩
            · omega
            · cases h)
          have hT5 := TabS.of hN (fun j j0 j1 e => by have := asnT_row_len n (k + 1) j0 j1; rw [e] at this; simp at this)
          obtain ⟨m5, hm5⟩ : ∃ m5, m5 = (asnT n (k + 1)).length := ⟨_, rfl⟩
          rw [← hm5]
          have HM5 := Lib.hid hm5
          clear hN h1v hl hpos hT hm5
          go_wp2
          go_roundw
          case rel => exact ⟨k + 1, G5, c5, m5, by omega, by simp, HM5.out, rfl, hT5, hbel.trans (hbi.mono hwks)⟩
          case measure => simp [intOf]; omega
    · have e : k = 3 := by omega
      subst e
      go_wp2
      go_ret
      exact ⟨G, c, by rw [hm]; rfl, hS, hbel⟩
end Go.Proofs.YtjcambkjcagcoaaGreat
