import Derived.Test.YtpophjloedpcfaaGreatDoorZ8
import Derived.Test.YtpophjloedpcfaaGreatDoorY1
import Derived.Test.YtpophjloedpcfaaGreatDoorG3
import Derived.Test.YtpophjloedpcfaaGreatDoorL5
import Derived.Test.YtpophjloedpcfaaGreatDoorM5
import Derived.BigQuiet
import Derived.Test.YtpophjloedpcfaaGreatDoorH10
import Derived.RegionTactic
import Derived.BigRegion
import Derived.Deep.AppendLies
import Derived.Test.YtpophjloedpcfaaGreatDoorP2
import Derived.Test.YtpophjloedpcfaaGreatDoorP7
import Derived.Test.YtpophjloedpcfaaGreatDoorOF
import Derived.Deep.RegionHeld3
import Derived.Deep.DeepCutAuto
import Derived.Outline
import Derived.OwnWalk
import Derived.Test.YtpophjloedpcfaaGreatDoorM13
namespace Go.Proofs.YtpophjloedpcfaaGreatDoor
open Go.RowKit

/-- a table of the call's own by append whose rows are blocks apart -/
def RowsD (B : Nat) (w : World) (v : Value) (T : List (List Int)) : Prop :=
  ∃ vs : List Value, w.ownsRow B 23 1 v T.length vs ∧ (∀ j : Nat, j < T.length → ∃ u, vs[j]? = some u ∧ Own B w u (rowAt T j)) ∧ ∀ (i j : Nat) (u x : Value), i < j → j < T.length → vs[i]? = some u → vs[j]? = some x → u.ownBlock = none ∨ u.ownBlock ≠ x.ownBlock
theorem RowsD.at {B : Nat} {w : World} {v : Value} {T : List (List Int)} (h : RowsD B w v T) : RowsAt B w v T := by
  obtain ⟨vs, h1, h2, _⟩ := h; exact ⟨vs, h1, h2⟩
theorem RowsD.nothing (B : Nat) (w : World) : RowsD B w (.slice none 0 0) [] := ⟨[], World.ownsRow_nil _ _ _ _, fun j hj => absurd hj (by simp), fun i j u x _ hj => absurd hj (by simp)⟩
theorem RowsD.below {B : Nat} {w w' : World} {v : Value} {T : List (List Int)} (h : RowsD B w v T) (hb : Below w.heap.size w w') : RowsD B w' v T := by
  obtain ⟨vs, h1, h2, h3⟩ := h
  exact ⟨vs, ownsRow_below h1 hb, fun j hj => by obtain ⟨u, hu, ho⟩ := h2 j hj; exact ⟨u, hu, ho.below hb⟩, h3⟩
theorem RowsD.setBelow {lo : Nat} {w : World} {v : Value} {T : List (List Int)} (h : RowsD lo w v T) {a : Addr} (ha : a.block < lo) (u : Value) : RowsD lo (w.setCell a u) v T := by
  obtain ⟨vs, h1, h2, h3⟩ := h
  exact ⟨vs, ownsRow_setCell_below h1 ha u, fun j hj => by obtain ⟨x, hx, ho⟩ := h2 j hj; exact ⟨x, hx, ownsRow_setCell_below ho ha u⟩, h3⟩
theorem RowsD.from {B B' : Nat} {w : World} {v : Value} {T : List (List Int)} (h : RowsD B w v T) (hB : B' ≤ B) : RowsD B' w v T := by
  obtain ⟨vs, h1, h2, h3⟩ := h
  have hf : ∀ {e : TypeId} {s n : Nat} {v : Value} {xs : List Value}, w.ownsRow B e s v n xs → w.ownsRow B' e s v n xs := fun h => by
    refine ⟨h.1, ?_⟩
    rcases h.2 with h | ⟨g, cap, cur, e1, e2, hg, e3⟩
    · exact .inl h
    · exact .inr ⟨g, cap, cur, e1, Nat.le_trans hB e2, hg, e3⟩
  exact ⟨vs, hf h1, fun j hj => by obtain ⟨u, hu, ho⟩ := h2 j hj; exact ⟨u, hu, hf ho⟩, h3⟩
theorem rows_apart {vs : List Value} {u : Value} {n : Nat} (hl : vs.length = n) (h : ∀ (i j : Nat) (a x : Value), i < j → j < n → vs[i]? = some a → vs[j]? = some x → a.ownBlock = none ∨ a.ownBlock ≠ x.ownBlock) (hn : ∀ (i : Nat) (a : Value), i < n → vs[i]? = some a → a.ownBlock = none ∨ a.ownBlock ≠ u.ownBlock) :
    ∀ (i j : Nat) (a x : Value), i < j → j < n + 1 → (vs ++ [u])[i]? = some a → (vs ++ [u])[j]? = some x → a.ownBlock = none ∨ a.ownBlock ≠ x.ownBlock := fun i j a x hij hj ha hx => by
  rw [List.getElem?_append_left (by omega)] at ha
  by_cases e : j < n
  · rw [List.getElem?_append_left (by omega)] at hx
    exact h i j a x hij e ha hx
  · have e2 : j = n := by omega
    subst e2
    rw [List.getElem?_append_right (by omega), hl, Nat.sub_self] at hx
    simp at hx
    subst hx
    exact hn i a (by omega) ha
/-- marked, row by row -/
def MarkD (B : Nat) (w : World) (v : Value) (T : List (List Int)) (k : Int) : Prop :=
  ∃ vs : List Value, w.ownsRow B 23 1 v T.length vs ∧ ∀ j : Nat, j < T.length → ∃ u, vs[j]? = some u ∧ Own B w u (markL (k + cum T j) (rowAt T j).length)
theorem MarkD.below {B : Nat} {w w' : World} {v : Value} {T : List (List Int)} {k : Int} (h : MarkD B w v T k) (hb : Below w.heap.size w w') : MarkD B w' v T k := by
  obtain ⟨vs, h1, h2⟩ := h
  exact ⟨vs, ownsRow_below h1 hb, fun j hj => by obtain ⟨u, hu, ho⟩ := h2 j hj; exact ⟨u, hu, ho.below hb⟩⟩
theorem rows_cell {B : Nat} {w : World} {b : Option Addr} {n c : Nat} {vs : List Value} (h : w.ownsRow B 23 1 (.slice b n c) n vs) {j : Nat} {u : Value} (hu : vs[j]? = some u) : ∃ g, b = some ⟨g, 0, none⟩ ∧ w.cell? ⟨g, j, none⟩ = some u := by
  rcases h.2 with ⟨e, hn⟩ | ⟨g, cap, cur, e, _⟩
  · have := h.1
    rw [hn] at this
    have hv : vs = [] := List.eq_nil_of_length_eq_zero (by omega)
    rw [hv] at hu; cases hu
  · injection e with e1 _ _
    subst e1
    refine ⟨g, rfl, ?_⟩
    have := h.cells rfl j u hu
    rcases Nat.eq_zero_or_pos j with h0 | h0
    · rw [h0] at this ⊢; simpa [Addr.add] using this
    · simpa [Addr.add, show j ≠ 0 by omega] using this
set_option maxRecDepth 100000 in
set_option maxHeartbeats 2000000 in
/-- laws.markIntSS of rows apart -/
theorem markIntSS_D (B : Nat) (b : Option Addr) (c : Nat) (T : List (List Int)) (k : Int) (w : World) (h : RowsD B w (.slice b T.length c) T) (hB : B ≤ w.heap.size) (k0 : 0 ≤ k) (k1 : k ≤ 1024) (hn : T.length ≤ 33554432) (hm : ∀ j : Nat, j < T.length → (rowAt T j).length ≤ 16) :
    Calls Tryz.prog 58 #[.slice b T.length c, .int .i64 k] w fun e w' => e = .returned (.int .i64 (k + cum T T.length)) ∧ MarkD B w' (.slice b T.length c) T k ∧ Below B w w' := by
  obtain ⟨vs, h1, h2, h3⟩ := h
  have hcu : ∀ j : Nat, j ≤ T.length → 0 ≤ cum T j ∧ cum T j ≤ j * 16 := by
    intro j
    induction j with
    | zero => intro _; exact ⟨Int.le_refl _, Int.le_refl _⟩
    | succ j ih =>
      intro hj
      obtain ⟨a, b⟩ := ih (by omega)
      have := hm j (by omega)
      have e : cum T (j + 1) = cum T j + (rowAt T j).length := rfl
      rw [e]
      constructor
      · omega
      · omega
  have HC := Lib.hid hcu
  have HM := Lib.hid hm
  have H2 := Lib.hid h2
  have H3 := Lib.hid h3
  have H1 := Lib.hid h1
  have hvl : vs.length = T.length := by have := h1.1; omega
  clear hcu hm h2 h3 h1
  go_enter Tryz.func58, Tryz.ntmps58
  go_wp2
  go_loopw [1, 5] (fun m i wr => ∃ j v : Int, 0 ≤ j ∧ j ≤ T.length ∧ i = .int .i64 j ∧ m = .int .i64 v ∧ v = k + cum T j.toNat ∧ wr.ownsRow B 23 1 (.slice b T.length c) T.length vs ∧ (∀ i : Nat, i < j → ∃ u, vs[i]? = some u ∧ Own B wr u (markL (k + cum T i) (rowAt T i).length)) ∧ (∀ i : Nat, j ≤ i → i < T.length → ∃ u, vs[i]? = some u ∧ Own B wr u (rowAt T i)) ∧ Below B w wr) (fun _ i _ => ((T.length : Int) - intOf i).toNat)
  case atStart => exact ⟨0, k, by omega, by omega, rfl, rfl, by simp [cum], H1.out, fun i hi => absurd hi (by omega), fun i _ hi => H2.out i hi, Below.refl _ _⟩
  case round =>
    obtain ⟨j, v, j0, j1, rfl, rfl, hv, hown, hmk, hrows, hb⟩ := hrel
    by_cases hj : j < T.length
    · obtain ⟨u, hu, ho⟩ := hrows j.toNat (by omega) (by omega)
      obtain ⟨g, rfl, c0⟩ := rows_cell hown hu
      have hm2 := HM.out j.toNat (by omega)
      have hcu := HC.out j.toNat (by omega)
      have hcs := Lib.hid (show cum T (j.toNat + 1) = cum T j.toNat + (rowAt T j.toNat).length from rfl)
      rw [Int.toNat_of_nonneg j0] at hm2 hcs ho
      obtain ⟨ra, rc, rfl, _⟩ := ho.slice
      have HR := Lib.hid hrows
      have HK := Lib.hid hmk
      have HV := Lib.hid hv
      have HO := Lib.hid hown
      have HU := Lib.hid hu
      have v0 : 0 ≤ v := by omega
      have v1 : v ≤ 1125899906842624 := by omega
      have v2 : v + ((rowAt T j).length : Int) ≤ 4611686018427387904 := by omega
      clear hrows hmk hv hcu hown hu
      go_wp2_with fail
      refine (markIntS_any _ _ (rowAt T j) v wr ho v0 v1 (by omega)).mono ?_
      rintro e w5 ⟨rfl, hr5, hg5⟩
      go_wp2
      go_roundw
      case rel =>
        have hb5 : Below B wr w5 := (Below.refl B wr).grown hg5 (by have := hb.size; omega) (fun q hq => (World.ownsRow.lt ho q hq).1)
        have K : ∀ (i : Nat) (x : Value) (L : List Int), i ≠ j.toNat → i < T.length → vs[i]? = some x → Own B wr x L → Own B w5 x L := fun i x L hne hi hx hox => by
          refine World.ownsRow.kept hox hg5 ?_
          by_cases hlt : i < j.toNat
          · exact H3.out i j.toNat x _ hlt (by omega) hx HU.out
          · have hq := H3.out j.toNat i _ x (by omega) hi HU.out hx
            cases hxb : x.ownBlock with
            | none => exact .inl rfl
            | some q =>
              right
              rcases hq with hq | hq
              · rw [hq]; simp
              · intro e; exact hq (by rw [hxb]; exact e.symm)
        refine ⟨j + 1, v + (rowAt T j).length, by omega, by omega, rfl, rfl, ?_, World.ownsRow.kept HO.out hg5 (own_types HO.out ho (by decide)), fun i hi => ?_, fun i hi hi2 => ?_, hb.trans hb5⟩
        · rw [show (j + 1).toNat = j.toNat + 1 by omega, hcs.out, HV.out]; omega
        · by_cases e : (i : Int) = j
          · have ei : i = j.toNat := by omega
            refine ⟨_, by rw [ei]; exact HU.out, ?_⟩
            rw [e, ei, ← HV.out]; exact hr5
          · obtain ⟨x, hx, hox⟩ := HK.out i (by omega)
            exact ⟨x, hx, K i x _ (by omega) (by omega) hx hox⟩
        · obtain ⟨x, hx, hox⟩ := HR.out i (by omega) hi2
          exact ⟨x, hx, K i x _ (by omega) hi2 hx hox⟩
      case measure => simp [intOf]; omega
    · have e : j.toNat = T.length := by omega
      rw [e] at hv
      subst hv
      go_wp2
      go_ret
      exact ⟨rfl, ⟨vs, hown, fun i hi => hmk i (by omega)⟩, hb⟩
set_option maxRecDepth 100000 in
set_option maxHeartbeats 1000000 in
/-- laws.heldIntSS of marked rows -/
theorem heldIntSS_D (B : Nat) (b : Option Addr) (c : Nat) (T : List (List Int)) (k : Int) (w : World) (h : MarkD B w (.slice b T.length c) T k) (k0 : 0 ≤ k) (k1 : k ≤ 1024) (hn : T.length ≤ 33554432) (hm : ∀ j : Nat, j < T.length → (rowAt T j).length ≤ 16) :
    Calls Tryz.prog 60 #[.slice b T.length c, .int .i64 k] w fun e w' => e = .returned (.int .i64 (k + cum T T.length)) ∧ 0 ≤ cum T T.length ∧ w = w' := by
  obtain ⟨vs, h1, h2⟩ := h
  have hcu : ∀ j : Nat, j ≤ T.length → 0 ≤ cum T j ∧ cum T j ≤ j * 16 := by
    intro j
    induction j with
    | zero => intro _; exact ⟨Int.le_refl _, Int.le_refl _⟩
    | succ j ih =>
      intro hj
      obtain ⟨a, b⟩ := ih (by omega)
      have := hm j (by omega)
      have e : cum T (j + 1) = cum T j + (rowAt T j).length := rfl
      rw [e]
      constructor
      · omega
      · omega
  have HC := Lib.hid hcu
  have HM := Lib.hid hm
  have H2 := Lib.hid h2
  have H1 := Lib.hid h1
  clear hcu hm h2 h1
  go_enter Tryz.func60, Tryz.ntmps60
  go_wp2
  go_loopw [1, 5] (fun m i wr => ∃ j v : Int, 0 ≤ j ∧ j ≤ T.length ∧ i = .int .i64 j ∧ m = .int .i64 v ∧ v = k + cum T j.toNat ∧ w = wr) (fun _ i _ => ((T.length : Int) - intOf i).toNat)
  case atStart => exact ⟨0, k, by omega, by omega, rfl, rfl, by simp [cum], rfl⟩
  case round =>
    obtain ⟨j, v, j0, j1, rfl, rfl, hv, rfl⟩ := hrel
    by_cases hj : j < T.length
    · obtain ⟨u, hu, ho⟩ := H2.out j.toNat (by omega)
      obtain ⟨g, rfl, c0⟩ := rows_cell H1.out hu
      have hm2 := HM.out j.toNat (by omega)
      have hcu := HC.out j.toNat (by omega)
      have hcs := Lib.hid (show cum T (j.toNat + 1) = cum T j.toNat + (rowAt T j.toNat).length from rfl)
      rw [← hv, Int.toNat_of_nonneg j0] at ho
      rw [Int.toNat_of_nonneg j0] at hm2 hcs
      obtain ⟨ra, rc, rfl, hrd⟩ := ho.slice
      rw [markL_len] at c0
      have HV := Lib.hid hv
      have HR := Lib.hid hrd
      have v0 : 0 ≤ v := by omega
      have v1 : v ≤ 1073741824 := by omega
      have hlt : ¬ v + ((rowAt T j).length : Int) < 0 := by omega
      clear hv hcu hu ho hrd
      go_wp2_with fail
      refine (heldIntS_any _ _ _ _ _ HR.out v0 v1 (by omega)).mono ?_
      rintro e w5 ⟨rfl, rfl⟩
      go_wp2
      go_roundw
      case rel => exact ⟨j + 1, v + (rowAt T j).length, by omega, by omega, rfl, rfl, by rw [show (j + 1).toNat = j.toNat + 1 by omega, hcs.out, HV.out]; omega, trivial⟩
      case measure => simp [intOf]; omega
    · have e : j.toNat = T.length := by omega
      have hcu := HC.out T.length (Nat.le_refl _)
      rw [e] at hv
      subst hv
      go_wp2
      go_ret
      first | exact ⟨rfl, hcu.1, rfl⟩ | exact ⟨rfl, rfl⟩
end Go.Proofs.YtpophjloedpcfaaGreatDoor

namespace Go.Proofs.YtpophjloedpcfaaGreatDoor
open Go.RowKit

theorem RowsD.push {B : Nat} {w w' : World} {v v' u : Value} {T : List (List Int)} {r : List Int} {vs : List Value} (r1 : w.ownsRow B 23 1 v T.length vs) (r2 : ∀ j : Nat, j < T.length → ∃ u, vs[j]? = some u ∧ Own B w u (rowAt T j))
    (r3 : ∀ (i j : Nat) (a x : Value), i < j → j < T.length → vs[i]? = some a → vs[j]? = some x → a.ownBlock = none ∨ a.ownBlock ≠ x.ownBlock) (hu : Own B w u r) (rn : ∀ (i : Nat) (a : Value), i < T.length → vs[i]? = some a → a.ownBlock = none ∨ a.ownBlock ≠ u.ownBlock)
    (h3 : w'.ownsRow B 23 1 v' (T.length + 1) (vs ++ [u])) (hg : w.grownBy w' v.ownBlock) : RowsD B w' v' (T ++ [r]) := by
  have hvl : vs.length = T.length := by have := r1.1; omega
  refine ⟨vs ++ [u], by rw [List.length_append]; exact h3, fun j hj => ?_, ?_⟩
  · rw [List.length_append, List.length_singleton] at hj
    by_cases e : j < T.length
    · obtain ⟨a, ha, ho⟩ := r2 j e
      refine ⟨a, by rw [List.getElem?_append_left (by omega)]; exact ha, ?_⟩
      rw [rowAt_old e]
      exact World.ownsRow.kept ho hg (own_types ho r1 (by decide))
    · have e2 : j = T.length := by omega
      subst e2
      refine ⟨u, by rw [List.getElem?_append_right (by omega), hvl, Nat.sub_self]; rfl, ?_⟩
      rw [rowAt_new]
      exact World.ownsRow.kept hu hg (own_types hu r1 (by decide))
  · rw [List.length_append, List.length_singleton]
    exact rows_apart hvl r3 rn
/-- a row that is newer than the others is apart from them -/
theorem rows_newer {B : Nat} {w : World} {T : List (List Int)} {vs : List Value} {u : Value} {r : List Int} {w2 : World} (h : ∀ j : Nat, j < T.length → ∃ u, vs[j]? = some u ∧ Own B w u (rowAt T j)) (hu : Own w.heap.size w2 u r) : ∀ (i : Nat) (a : Value), i < T.length → vs[i]? = some a → a.ownBlock = none ∨ a.ownBlock ≠ u.ownBlock := fun i x hi hx => by
  obtain ⟨y, hy, ho⟩ := h i hi
  rw [hx] at hy
  injection hy with hy
  subst hy
  cases hxb : x.ownBlock with
  | none => exact .inl rfl
  | some q =>
    right
    intro e
    have l1 := (World.ownsRow.lt ho q hxb).2
    have l2 := (World.ownsRow.lt hu q e.symm).1
    omega
theorem take_rowT (T : List (List Int)) {i : Int} (i0 : 0 ≤ i) (h : i < T.length) : T.take (i + 1).toNat = T.take i.toNat ++ [rowAt T i] := by
  rw [show (i + 1).toNat = i.toNat + 1 by omega, List.take_add_one]
  congr 1
  unfold rowAt
  have : i.toNat < T.length := by omega
  rw [List.getElem?_eq_getElem this, List.getD_eq_getElem?_getD, List.getElem?_eq_getElem this]
  rfl
theorem rows_noneD {B : Nat} (w : World) (hB : B ≤ w.heap.size) : RowsD B (w.alloc (.cells #[] 23)) (.slice (some ⟨w.heap.size, 0, none⟩) 0 0) [] :=
  ⟨[], ⟨by simp, .inr ⟨w.heap.size, 0, #[], rfl, hB, heap_alloc_new w _, Nat.le_refl _, by unfold maxLen; omega, by simp, by simp⟩⟩, fun j hj => absurd hj (by simp), fun i j u x _ hj => absurd hj (by simp)⟩
/-- a table of its own, rows apart, is handed back -/
def RetTD (T : List (List Int)) (w : World) (e : Ending) (w' : World) : Prop := ∃ G c, e = .returned (.slice (some ⟨G, 0, none⟩) T.length c) ∧ RowsD w.heap.size w' (.slice (some ⟨G, 0, none⟩) T.length c) T ∧ Below w.heap.size w w'
set_option maxRecDepth 100000 in
set_option maxHeartbeats 2000000 in
/-- spec.copyTable -/
theorem copyTable_any (b : Option Addr) (c : Nat) (T : List (List Int)) (w : World) (h : RdT w b T) (hn : T.length ≤ 64) (hm : ∀ j : Nat, j < T.length → 1 ≤ (rowAt T j).length ∧ (rowAt T j).length ≤ 64) :
    Calls Tryz.prog 93 #[.slice b T.length c] w (RetTD T w) := by
  obtain ⟨i0, hi, hz0, hz1, hz2⟩ := info_parts info_int
  obtain ⟨i1, hi1, hy0, hy1, hy2⟩ := info_parts info_ints
  have HM := Lib.hid hm
  have H := Lib.hid h
  clear hm h
  go_enter Tryz.func93, Tryz.ntmps93
  go_wp2
  go_loopw [3, 4] (fun ov iv wr => ∃ (i : Int) (G cc : Nat), 0 ≤ i ∧ i ≤ T.length ∧ iv = .int .i64 i ∧ ov = .slice (some ⟨G, 0, none⟩) (T.take i.toNat).length cc ∧ RowsD w.heap.size wr (.slice (some ⟨G, 0, none⟩) (T.take i.toNat).length cc) (T.take i.toNat) ∧ Below w.heap.size w wr) (fun _ iv _ => ((T.length : Int) - intOf iv).toNat)
  case atStart => exact ⟨0, w.heap.size, 0, by omega, by omega, rfl, by simp, by simpa using rows_noneD w (Nat.le_refl _), (Below.refl _ _).alloc (Nat.le_refl _) _⟩
  case round =>
    obtain ⟨i, G, cc, i0', i1', rfl, rfl, hD, hb⟩ := hrel
    by_cases hk : i < T.length
    · have hne2 : T ≠ [] := by intro e; rw [e] at hk; simp at hk; omega
      obtain ⟨B1, o1, rfl, q1⟩ := (H.out.below hb) hne2
      obtain ⟨ra, rc, d1, r1⟩ := RdT.row q1 i0' hk
      obtain ⟨m1, m2⟩ := HM.out i.toNat (by omega)
      rw [Int.toNat_of_nonneg i0'] at m1 m2
      obtain ⟨rb, ro, rfl, _⟩ := r1 (by intro e; rw [e] at m1; simp at m1)
      have htk := take_rowT T i0' hk
      have htl : (T.take i.toNat).length = i.toNat := by rw [List.length_take]; omega
      obtain ⟨R, hR⟩ : ∃ R, R = rowAt T i := ⟨_, rfl⟩
      rw [← hR] at d1 r1 m1 m2 htk
      obtain ⟨P, hP⟩ : ∃ P, P = T.take i.toNat := ⟨_, rfl⟩
      rw [← hP] at hD htk htl
      have d2 : (wr.alloc (.cells #[] 3)).cell? ⟨B1, o1 + i.toNat, none⟩ = some (.slice (some ⟨rb, ro, none⟩) R.length rc) := (((Below.refl wr.heap.size wr).alloc (Nat.le_refl _) _).cell (by exact block_lt_of_cell d1)).trans d1
      have HTK := Lib.hid htk
      have HP := Lib.hid hP
      have hPl : P.length ≤ 64 := by omega
      obtain ⟨vs, s1, s2, s3⟩ := hD
      have S2 := Lib.hid s2
      have S3 := Lib.hid s3
      have hs := hb.size
      have HN := Lib.hid (rd_cells r1)
      clear hR q1 htk htl s2 s3 hP hne2
      rw [← HP.out]
      go_wp2_with (first
        | (at_builtin; refine wpList_append_own _ rfl _ _ 24 rfl w.heap.size 23 i1 (.slice none 0 0) 1 24 Tryz.underlying24 hi1 hy0 hy1 hy2 rfl (by decide) _ _ _ rfl (World.ownsRow.alloc (ownsRow_below s1 hb2) _) ⟨w2.heap.size, 0, none⟩ 1 1 [.slice va R.length vc] rfl rfl (cell_one_new _ _ _) (fun x hx => by simp at hx; subst hx; rfl) (by unfold maxLen; omega) (by omega) (by have := hb2.size; simp; omega) ?_; intro v5 w5 hown5 hgrow5 hnil5)
        | (at_builtin; refine wpList_append_own _ rfl _ _ 23 rfl wr.heap.size 3 i0 (.int .i64 0) 1 8 Tryz.underlying23 hi hz0 hz1 hz2 rfl (by decide) _ _ _ rfl (Own.row (L := []) (heap_alloc_new wr _) (Nat.le_refl _) (Nat.zero_le _)) ⟨rb, ro, none⟩ R.length rc (R.map fun x => Value.int .i64 x) rfl (by simp) (old_newsZ _ HN.out) (fun x hx => by simp at hx; obtain ⟨y, _, rfl⟩ := hx; rfl) (by unfold maxLen; simp; omega) (by simp; omega) (by simp) ?_; intro v2 w2 hown2 hgrow2 _; have ho2 : Own wr.heap.size w2 v2 R := (by unfold Own; simpa using hown2); have hb2 : Below wr.heap.size wr w2 := ((Below.refl _ _).alloc (Nat.le_refl _) _).grown hgrow2 (by simp) (fun q hq => (by have hq' : some wr.heap.size = some q := hq; injection hq' with hq'; omega)); clear hown2 hgrow2; obtain ⟨va, vc, rfl, _⟩ := ho2.slice))
      go_roundw
      case rel =>
        have hp := RowsD.push (T := P) (r := R) (World.ownsRow.alloc (ownsRow_below s1 hb2) (.cells #[.slice va R.length vc] 23)) (fun j hj => by obtain ⟨u, hu, ho⟩ := S2.out j hj; exact ⟨u, hu, (ho.below hb2).alloc _⟩) S3.out ((ho2.from hs).alloc _) (rows_newer S2.out ho2) hown5 hgrow5
        have hp' := hp
        obtain ⟨ws, x1, _⟩ := hp'
        obtain ⟨g5, c5, e5, _⟩ := rows_shape x1 (fun e => by have := (hnil5.1 e).1; cases this)
        subst e5
        refine ⟨i + 1, g5, c5, by omega, by omega, rfl, by rw [HTK.out], by rw [HTK.out]; exact hp, (hb.trans ((hb2.alloc hb2.size _).mono hs)).grown hgrow5 (by have := hb2.size; simp; omega) (fun q hq => (World.ownsRow.lt s1 q hq).1)⟩
      case measure => simp [intOf]; omega
    · have e : T.take i.toNat = T := List.take_of_length_le (by omega)
      rw [e] at hD ⊢
      go_wp2
      go_ret
      exact ⟨G, cc, rfl, hD, hb⟩
/-- a product is laid into a table -/
def setT (T : List (List Int)) (x y : Nat) (z : Int) : List (List Int) := T.set x ((rowAt T x).set y z)
theorem setT_len (T : List (List Int)) (x y : Nat) (z : Int) : (setT T x y z).length = T.length := by simp [setT]
theorem setT_row (T : List (List Int)) {x y j : Nat} (z : Int) (hx : x < T.length) : rowAt (setT T x y z) j = if j = x then (rowAt T x).set y z else rowAt T j := by
  unfold setT rowAt
  simp only [Int.toNat_natCast, List.getD_eq_getElem?_getD, List.getElem?_set]
  by_cases e : x = j
  · subst e; rw [if_pos rfl, if_pos rfl, if_pos hx]; rfl
  · rw [if_neg e, if_neg (fun h => e h.symm)]
theorem setT_rlen (T : List (List Int)) {x y j : Nat} (z : Int) (hx : x < T.length) : (rowAt (setT T x y z) j).length = (rowAt T j).length := by
  rw [setT_row T z hx]
  split
  · rename_i e; rw [List.length_set, e]
  · rfl
theorem RowsD.set {B G c : Nat} {w : World} {T : List (List Int)} (h : RowsD B w (.slice (some ⟨G, 0, none⟩) T.length c) T) {x y : Nat} (hx : x < T.length) (hy : y < (rowAt T x).length) :
    ∃ ra rc, w.cell? ⟨G, x, none⟩ = some (.slice (some ⟨ra, 0, none⟩) (rowAt T x).length rc) ∧ B ≤ ra ∧ w.cell? ⟨ra, y, none⟩ = some (.int .i64 (nth (rowAt T x) y)) ∧ w.frozen? ⟨ra, y, none⟩ = false ∧
      ∀ z : Int, RowsD B (w.setCell ⟨ra, y, none⟩ (.int .i64 z)) (.slice (some ⟨G, 0, none⟩) (setT T x y z).length c) (setT T x y z) := by
  obtain ⟨vs, h1, h2, h3⟩ := h
  obtain ⟨u, hu, ho⟩ := h2 x hx
  obtain ⟨ra, rc, rfl, hB, _⟩ := ho.shape.resolve_left (fun h => by have := h.2; rw [this] at hy; simp at hy)
  obtain ⟨_, e, hc⟩ := rows_cell h1 hu
  injection e with e
  injection e with e
  subst e
  refine ⟨ra, rc, hc, hB, ?_, ho.freeAt y, fun z => ?_⟩
  · have := ho.cellAt (x := (y : Int)) (by omega) (by omega)
    rwa [Int.toNat_natCast] at this
  · obtain ⟨s1, s2⟩ := ho.stored y z
    refine ⟨vs, by rw [setT_len]; exact World.ownsRow.kept h1 s2 (own_types h1 ho (by decide)), fun j hj => ?_, fun i j a b hij hj => by rw [setT_len] at hj; exact h3 i j a b hij hj⟩
    rw [setT_len] at hj
    rw [setT_row T z hx]
    by_cases ej : j = x
    · subst ej
      rw [if_pos rfl]
      refine ⟨_, hu, ?_⟩
      rw [List.length_set] at s1
      exact s1
    · rw [if_neg ej]
      obtain ⟨a, ha, hao⟩ := h2 j hj
      refine ⟨a, ha, World.ownsRow.kept hao s2 ?_⟩
      rcases Nat.lt_or_gt_of_ne ej with hlt | hlt
      · have := h3 j x a _ hlt hx ha hu
        exact this
      · have := h3 x j _ a hlt hj hu ha
        rcases this with h | h
        · simp [Value.ownBlock] at h
        · exact .inr fun e => h e.symm
end Go.Proofs.YtpophjloedpcfaaGreatDoor

namespace Go.Proofs.YtpophjloedpcfaaGreatDoor
open Go.RowKit

/-! What spec.fill lists. -/
def fillC (T : List (List Int)) (x y z : Nat) : Bool := decide (tv T ((x : Int) - 1) y ≤ (z : Int)) && decide (tv T x ((y : Int) - 1) ≤ (z : Int))
def set2 (T : List (List Int)) (x y : Nat) (z : Int) : List (List Int) := setT (setT T x y z) y x z
def catTs (f : Nat → List (List (List Int))) : Nat → List (List (List Int))
  | 0 => []
  | j + 1 => catTs f j ++ f j
def chF (n : Nat) : Nat → List (List Int) → Nat → Nat → List (List (List Int))
  | 0, _, _, _ => []
  | k + 1, T, x, y => if x = n - 1 then (if algB (chainTo n n) T then [T] else []) else if y = n - 1 then chF n k T (x + 1) (x + 1) else catTs (fun z => if fillC T x y z then chF n k (set2 T x y z) x (y + 1) else []) (min x y + 1)
def tri : Nat → Nat
  | 0 => 0
  | k + 1 => (k + 1) + tri k
def plc (n x y : Nat) : Nat := (n - 1 - y) + tri (n - 2 - x)
theorem catTs_len {f : Nat → List (List (List Int))} {B : Nat} (hf : ∀ i, (f i).length ≤ B) : ∀ j, (catTs f j).length ≤ j * B
  | 0 => by rw [Nat.zero_mul]; exact Nat.zero_le _
  | j + 1 => by
    show (catTs f j ++ f j).length ≤ _
    rw [List.length_append, Nat.succ_mul]
    exact Nat.add_le_add (catTs_len hf j) (hf _)
theorem chF_len {n : Nat} (n5 : n ≤ 5) : ∀ (k : Nat) (T : List (List Int)) (x y : Nat), x ≤ y → y ≤ n - 1 → 1 ≤ n → (chF n k T x y).length ≤ 5 ^ plc n x y
  | 0, _, _, _, _, _, _ => Nat.zero_le _
  | k + 1, T, x, y, hxy, hy, n1 => by
    show (if x = n - 1 then (if algB (chainTo n n) T then [T] else []) else if y = n - 1 then chF n k T (x + 1) (x + 1) else catTs (fun z => if fillC T x y z then chF n k (set2 T x y z) x (y + 1) else []) (min x y + 1)).length ≤ _
    have p1 : 1 ≤ 5 ^ plc n x y := Nat.pow_pos (by decide)
    split
    · split
      · exact p1
      · exact Nat.zero_le _
    · split
      · rename_i h1 h2
        refine Nat.le_trans (chF_len n5 k T (x + 1) (x + 1) (Nat.le_refl _) (by omega) n1) (Nat.pow_le_pow_right (by decide) ?_)
        unfold plc
        subst h2
        obtain ⟨d, hd⟩ : ∃ d, n - 2 - x = d + 1 ∨ n - 2 - x = 0 := by
          rcases Nat.eq_zero_or_pos (n - 2 - x) with h | h
          · exact ⟨0, .inr h⟩
          · exact ⟨n - 2 - x - 1, .inl (by omega)⟩
        rcases hd with hd | hd
        · have e : n - 2 - (x + 1) = d := by omega
          rw [hd, e]
          show _ ≤ _ + ((d + 1) + tri d)
          omega
        · have e : n - 2 - (x + 1) = 0 := by omega
          rw [hd, e]
          omega
      · rename_i h1 h2
        have hB := catTs_len (f := fun z => if fillC T x y z then chF n k (set2 T x y z) x (y + 1) else []) (B := 5 ^ plc n x (y + 1)) (fun i => by
          split
          · exact chF_len n5 k _ x (y + 1) (by omega) (by omega) n1
          · exact Nat.zero_le _) (min x y + 1)
        have e : plc n x y = plc n x (y + 1) + 1 := by unfold plc; omega
        rw [e, Nat.pow_succ, Nat.mul_comm]
        exact Nat.le_trans hB (Nat.mul_le_mul_right _ (by omega))
theorem set2_len (T : List (List Int)) (x y : Nat) (z : Int) : (set2 T x y z).length = T.length := by unfold set2; rw [setT_len, setT_len]
theorem set2_rlen (T : List (List Int)) {x y j : Nat} (z : Int) (hx : x < T.length) (hy : y < T.length) : (rowAt (set2 T x y z) j).length = (rowAt T j).length := by
  unfold set2
  rw [setT_rlen _ z (by rw [setT_len]; exact hy), setT_rlen _ z hx]
/-- a table as spec.fill takes it -/
def Sq (n : Nat) (T : List (List Int)) : Prop := T.length = n ∧ ∀ j : Nat, j < n → (rowAt T j).length = n
theorem Sq.set2 {n : Nat} {T : List (List Int)} (h : Sq n T) {x y : Nat} (z : Int) (hx : x < n) (hy : y < n) : Sq n (set2 T x y z) :=
  ⟨by rw [set2_len]; exact h.1, fun j hj => by rw [set2_rlen T z (by rw [h.1]; exact hx) (by rw [h.1]; exact hy)]; exact h.2 j hj⟩
theorem Sq.rows {n : Nat} {T : List (List Int)} (h : Sq n T) (n1 : 1 ≤ n) (n5 : n ≤ 5) : ∀ j : Nat, j < T.length → 1 ≤ (rowAt T j).length ∧ (rowAt T j).length ≤ 64 := fun j hj => by
  have := h.2 j (by have := h.1; omega)
  omega
theorem chF_sq {n : Nat} {U : List (List Int)} : ∀ {k : Nat} {T : List (List Int)} {x y : Nat}, Sq n T → x ≤ y → y ≤ n - 1 → 1 ≤ n → U ∈ chF n k T x y → Sq n U ∧ algB (chainTo n n) U = true
  | 0, _, _, _, _, _, _, _, h => by cases h
  | k + 1, T, x, y, hT, hxy, hy, n1, h => by
    change U ∈ (if x = n - 1 then (if algB (chainTo n n) T then [T] else []) else if y = n - 1 then chF n k T (x + 1) (x + 1) else catTs (fun z => if fillC T x y z then chF n k (set2 T x y z) x (y + 1) else []) (min x y + 1)) at h
    split at h
    · split at h
      · rename_i ha
        rw [List.mem_singleton.1 h]; exact ⟨hT, ha⟩
      · cases h
    · split at h
      · exact chF_sq hT (Nat.le_refl _) (by omega) n1 h
      · have : ∀ j, U ∈ catTs (fun z => if fillC T x y z then chF n k (Go.Proofs.YtpophjloedpcfaaGreatDoor.set2 T x y z) x (y + 1) else []) j → ∃ z : Nat, U ∈ chF n k (Go.Proofs.YtpophjloedpcfaaGreatDoor.set2 T x y z) x (y + 1) := by
          intro j
          induction j with
          | zero => intro h; cases h
          | succ j ih =>
            intro h
            change U ∈ catTs _ j ++ _ at h
            rcases List.mem_append.1 h with h | h
            · exact ih h
            · dsimp only at h
              split at h
              · exact ⟨j, h⟩
              · cases h
        obtain ⟨z, hz⟩ := this _ h
        exact chF_sq (hT.set2 z (by omega) (by omega)) (by omega) (by omega) n1 hz
theorem info_intss : (Tryz.prog.info? 24).map (fun i => (i.zero, i.size, i.bytes)) = some (some (.slice none 0 0), 1, 24) := by kernel_rfl
/-- a list of tables of the call's own -/
def tabAt (Ts : List (List (List Int))) (j : Nat) : List (List Int) := Ts.getD j []
def TabsAt (B : Nat) (w : World) (v : Value) (Ts : List (List (List Int))) : Prop :=
  ∃ vs : List Value, w.ownsRow B 24 1 v Ts.length vs ∧ ∀ j : Nat, j < Ts.length → ∃ u, vs[j]? = some u ∧ RowsAt B w u (tabAt Ts j)
theorem TabsAt.below {B : Nat} {w w' : World} {v : Value} {Ts : List (List (List Int))} (h : TabsAt B w v Ts) (hb : Below w.heap.size w w') : TabsAt B w' v Ts := by
  obtain ⟨vs, h1, h2⟩ := h
  exact ⟨vs, ownsRow_below h1 hb, fun j hj => by obtain ⟨u, hu, ho⟩ := h2 j hj; exact ⟨u, hu, ho.below hb⟩⟩
theorem RowsAt.kept {B B' : Nat} {w w' : World} {v u : Value} {T : List (List Int)} {n : Nat} {xs : List Value} (h : RowsAt B w v T) (hu : w.ownsRow B' 24 1 u n xs) (hg : w.grownBy w' u.ownBlock) : RowsAt B w' v T := by
  obtain ⟨vs, h1, h2⟩ := h
  exact ⟨vs, World.ownsRow.kept h1 hg (own_types h1 hu (by decide)), fun j hj => by obtain ⟨x, hx, ho⟩ := h2 j hj; exact ⟨x, hx, World.ownsRow.kept ho hg (own_types ho hu (by decide))⟩⟩
theorem tabAt_l {T U : List (List (List Int))} {j : Nat} (h : j < T.length) : tabAt (T ++ U) j = tabAt T j := by
  unfold tabAt; simp [List.getElem?_append_left h]
theorem tabAt_r {T U : List (List (List Int))} {j : Nat} (h : T.length ≤ j) : tabAt (T ++ U) j = tabAt U (j - T.length) := by
  unfold tabAt; simp [List.getElem?_append_right h]
theorem TabsAt.cat {B : Nat} {w w' : World} {v v' : Value} {T U : List (List (List Int))} {vs us : List Value} (h1 : w.ownsRow B 24 1 v T.length vs) (h2 : ∀ j : Nat, j < T.length → ∃ u, vs[j]? = some u ∧ RowsAt B w u (tabAt T j))
    (k2 : ∀ j : Nat, j < U.length → ∃ u, us[j]? = some u ∧ RowsAt B w u (tabAt U j)) (h3 : w'.ownsRow B 24 1 v' (T.length + U.length) (vs ++ us)) (hg : w.grownBy w' v.ownBlock) : TabsAt B w' v' (T ++ U) := by
  have hvl : vs.length = T.length := by have := h1.1; omega
  refine ⟨vs ++ us, by rw [List.length_append]; exact h3, fun j hj => ?_⟩
  rw [List.length_append] at hj
  by_cases e : j < T.length
  · obtain ⟨u', hu', ho⟩ := h2 j e
    exact ⟨u', by rw [List.getElem?_append_left (by omega)]; exact hu', by rw [tabAt_l e]; exact ho.kept h1 hg⟩
  · obtain ⟨u', hu', ho⟩ := k2 (j - T.length) (by omega)
    exact ⟨u', by rw [List.getElem?_append_right (by omega), hvl]; exact hu', by rw [tabAt_r (by omega)]; exact ho.kept h1 hg⟩
def RetTabs (B : Nat) (Ts : List (List (List Int))) (w : World) (e : Ending) (w' : World) : Prop := ∃ v, e = .returned v ∧ TabsAt B w' v Ts ∧ v ≠ .slice none 0 0 ∧ Below w.heap.size w w'
theorem tabs_one {B : Nat} {w : World} {v : Value} {T : List (List Int)} (h : RowsAt B w v T) (hB : B ≤ w.heap.size) : TabsAt B (w.alloc (.cells #[v] 24)) (.slice (some ⟨w.heap.size, 0, none⟩) 1 1) [T] :=
  ⟨[v], ⟨by simp, .inr ⟨w.heap.size, 1, #[v], rfl, hB, heap_alloc_new w _, Nat.le_refl _, by unfold maxLen; omega, by simp, by simp⟩⟩, fun j hj => by
    have e : j = 0 := by simp at hj; omega
    subst e
    exact ⟨v, rfl, h.below ((Below.refl _ _).alloc (Nat.le_refl _) _)⟩⟩
theorem tabs_none {B : Nat} (w : World) (hB : B ≤ w.heap.size) : TabsAt B (w.alloc (.cells #[] 24)) (.slice (some ⟨w.heap.size, 0, none⟩) 0 0) [] :=
  ⟨[], ⟨by simp, .inr ⟨w.heap.size, 0, #[], rfl, hB, heap_alloc_new w _, Nat.le_refl _, by unfold maxLen; omega, by simp, by simp⟩⟩, fun j hj => absurd hj (by simp)⟩
end Go.Proofs.YtpophjloedpcfaaGreatDoor

namespace Go.Proofs.YtpophjloedpcfaaGreatDoor
open Go.RowKit

/-! The laws' own helpers. -/
set_option maxRecDepth 100000 in
set_option maxHeartbeats 1000000 in
/-- laws.equalInts -/
theorem equalInts_any (a1 a2 : Option Addr) (c1 c2 : Nat) (A B : List Int) (w : World) (h1 : Rd w a1 A) (h2 : Rd w a2 B) (hm : A.length ≤ 1073741824) :
    Calls Tryz.prog 37 #[.slice a1 A.length c1, .slice a2 B.length c2] w fun e w' => e = .returned (.bool (eqL A B)) ∧ Dr w w' := by
  by_cases hl : A.length = B.length
  · have hne : ((A.length : Int) != (B.length : Int)) = false := by rw [hl]; simp
    have hlB : (A.length : Int) ≤ B.length := by omega
    go_enter Tryz.func37, Tryz.ntmps37
    go_wp2
    go_loopw [5] (fun i wr => ∃ k : Int, 0 ≤ k ∧ k ≤ A.length ∧ i = .int .i64 k ∧ AllTo k (fun j => nth A j == nth B j) ∧ Dr w wr) (fun i _ => ((A.length : Int) - intOf i).toNat)
    case atStart => exact ⟨0, by omega, by omega, rfl, AllTo.zero _, Dr.refl _⟩
    case round =>
      obtain ⟨k, k0, k1, rfl, ha, hd⟩ := hrel
      by_cases hk : k < A.length
      · obtain ⟨b1, o1, rfl, hc1⟩ := (hd.rd h1) (by intro e; rw [e] at hk; simp at hk; omega)
        obtain ⟨b2, o2, rfl, hc2⟩ := (hd.rd h2) (by intro e; have hz : B.length = 0 := (by rw [e]; rfl); omega)
        have hk2 : k < B.length := by omega
        have d1 := hc1.at k k0 hk
        have d2 := hc2.at k k0 hk2
        cases hq : nth A k != nth B k
        case false =>
          have hq2 : (nth A k == nth B k) = true := by simpa [bne] using hq
          have HQ := Lib.hid hq2; clear hq2
          go_wp2
          go_quiet (fail)
          go_wp2
          go_roundw
          case rel => exact ⟨k + 1, by omega, by omega, rfl, ha.succ HQ.out, hd.more _⟩
          case measure => simp [intOf]; omega
        case true =>
          have hv : eqL A B = false := by
            unfold eqL
            refine decide_eq_false fun e => ?_
            rw [e] at hq; simp at hq
          have HV := Lib.hid hv; clear hv
          go_wp2
          go_quiet (fail)
          go_wp2
          go_ret
          exact ⟨ret_bool HV.out.symm, hd.more _⟩
      · have hv : eqL A B = true := decide_eq_true (nth_ext hl fun j j0 j1 => by have := ha j j0 (by omega); simpa using this)
        have HV := Lib.hid hv; clear hv
        go_wp2
        go_ret
        exact ⟨ret_bool HV.out.symm, hd⟩
  · have hne : ((A.length : Int) != (B.length : Int)) = true := by rw [bne_iff_ne]; omega
    have HV := Lib.hid (show eqL A B = false from decide_eq_false fun e => hl (by rw [e]))
    go_enter Tryz.func37, Tryz.ntmps37
    go_wp2
    go_ret
    exact ⟨ret_bool HV.out.symm, Dr.refl _⟩
theorem eqL_same (A : List Int) : eqL A A = true := decide_eq_true rfl
/-- laws.equalInts at two lists that are one -/
theorem equalInts_same (a1 a2 : Option Addr) (c1 c2 : Nat) (A : List Int) (w : World) (h1 : Rd w a1 A) (h2 : Rd w a2 A) (hm : A.length ≤ 1073741824) :
    Calls Tryz.prog 37 #[.slice a1 A.length c1, .slice a2 A.length c2] w fun e w' => e = .returned (.bool true) ∧ Dr w w' := by
  have := equalInts_any a1 a2 c1 c2 A A w h1 h2 hm
  rwa [eqL_same] at this
/-- a list has a number -/
def inL (L : List Int) (n : Int) : Bool := L.contains n
theorem inL_iff {L : List Int} {n : Int} : inL L n = true ↔ n ∈ L := by unfold inL; simp
theorem inL_nth {L : List Int} {n k : Int} (k0 : 0 ≤ k) (k1 : k < L.length) (h : nth L k = n) : inL L n = true := by
  rw [inL_iff, ← h]
  unfold nth
  have : k.toNat < L.length := by omega
  rw [List.getD_eq_getElem?_getD, List.getElem?_eq_getElem this, Option.getD_some]
  exact List.getElem_mem this
theorem inL_none {L : List Int} {n k : Int} (h : NoneTo k fun j => nth L j == n) (hk : (L.length : Int) ≤ k) : inL L n = false := by
  rw [Bool.eq_false_iff]
  intro hc
  obtain ⟨i, hi, e⟩ := List.getElem_of_mem (inL_iff.1 hc)
  have : (nth L (i : Int) == n) = false := h (i : Int) (by omega) (by omega)
  unfold nth at this
  rw [Int.toNat_natCast, List.getD_eq_getElem?_getD, List.getElem?_eq_getElem hi, Option.getD_some, e] at this
  simp at this
/-- a list goes up -/
def Asc (L : List Int) : Prop := ∀ i : Int, 1 ≤ i → i < L.length → nth L (i - 1) < nth L i
theorem nth_snoc_old {L : List Int} {c i : Int} (i0 : 0 ≤ i) (h : i < L.length) : nth (L ++ [c]) i = nth L i := by
  unfold nth
  have : i.toNat < L.length := by omega
  rw [List.getD_eq_getElem?_getD, List.getD_eq_getElem?_getD, List.getElem?_append_left this]
theorem nth_snoc_new (L : List Int) (c : Int) : nth (L ++ [c]) L.length = c := by unfold nth; simp [List.getD_eq_getElem?_getD]
theorem filtTo_asc (p : Int → Bool) : ∀ k : Nat, Asc (filtTo p k) := by
  intro k
  induction k with
  | zero => intro i h1 h2; exact absurd h2 (by show ¬ i < (([] : List Int).length : Int); simp; omega)
  | succ k ih =>
    rw [show ((k + 1 : Nat) : Int) = (k : Int) + 1 by omega, filtTo_nat]
    split
    · intro i h1 h2
      rw [List.length_append, List.length_singleton] at h2
      by_cases e : i < (filtTo p k).length
      · rw [nth_snoc_old (by omega) (by omega), nth_snoc_old (by omega) e]; exact ih i h1 e
      · have e2 : i = (filtTo p k).length := by omega
        subst e2
        rw [nth_snoc_new, nth_snoc_old (by omega) (by omega)]
        have hm : nth (filtTo p k) ((filtTo p k).length - 1) ∈ filtTo p k := by
          unfold nth
          have : (((filtTo p k).length : Int) - 1).toNat < (filtTo p k).length := by omega
          rw [List.getD_eq_getElem?_getD, List.getElem?_eq_getElem this, Option.getD_some]
          exact List.getElem_mem this
        exact ((filtTo_mem _ _ _).1 hm).2.1
    · exact ih
theorem filtTo_ascI (p : Int → Bool) {k : Int} (h : 0 ≤ k) : Asc (filtTo p k) := by
  have := filtTo_asc p k.toNat
  rwa [Int.toNat_of_nonneg h] at this
end Go.Proofs.YtpophjloedpcfaaGreatDoor

namespace Go.Proofs.YtpophjloedpcfaaGreatDoor
open Go.RowKit
/-- where a law's walk stands: nothing of old has turned, and a list reads as it did -/
def St (w : World) (a : Option Addr) (L : List Int) (wc : World) : Prop := Below w.heap.size w wc ∧ Rd wc a L
theorem St.next {w wc w' : World} {a : Option Addr} {L : List Int} (h : St w a L wc) (hb : Below wc.heap.size wc w') : St w a L w' := ⟨h.1.trans (hb.mono h.1.size), h.2.below hb⟩
theorem St.dr {w wc w' : World} {a : Option Addr} {L : List Int} (h : St w a L wc) (hd : Dr wc w') : St w a L w' := h.next (hd.below _)
end Go.Proofs.YtpophjloedpcfaaGreatDoor

namespace Go.Proofs.YtpophjloedpcfaaGreatDoor
open Go.RowKit

set_option maxRecDepth 100000 in
set_option maxHeartbeats 1000000 in
/-- laws.equalLists, of two that read the same -/
theorem equalListsA_same (b1 b2 : Option Addr) (c1 c2 : Nat) (T : List (List Int)) (w : World) (h1 : RdT w b1 T) (h2 : RdT w b2 T) (hm : ∀ j : Nat, j < T.length → (rowAt T j).length ≤ 1073741824) (hn : T.length ≤ 1073741824) :
    Calls Tryz.prog 38 #[.slice b1 T.length c1, .slice b2 T.length c2] w fun e w' => e = .returned (.bool true) ∧ Dr w w' := by
  have hne : ((T.length : Int) != (T.length : Int)) = false := by simp
  have HM := Lib.hid hm
  have H1 := Lib.hid h1
  have H2 := Lib.hid h2
  clear hm h1 h2
  go_enter Tryz.func38, Tryz.ntmps38
  go_wp2
  go_loopw [5] (fun i wr => ∃ k : Int, 0 ≤ k ∧ k ≤ T.length ∧ i = .int .i64 k ∧ Dr w wr) (fun i _ => ((T.length : Int) - intOf i).toNat)
  case atStart => exact ⟨0, by omega, by omega, rfl, Dr.refl _⟩
  case round =>
    obtain ⟨k, k0, k1, rfl, hd⟩ := hrel
    by_cases hk : k < T.length
    · have hne2 : T ≠ [] := by intro e; rw [e] at hk; simp at hk; omega
      obtain ⟨B1, o1, rfl, q1⟩ := (H1.out.dr hd) hne2
      obtain ⟨B2, o2, rfl, q2⟩ := (H2.out.dr hd) hne2
      obtain ⟨ra1, rc1, d1, r1⟩ := RdT.row q1 k0 hk
      obtain ⟨ra2, rc2, d2, r2⟩ := RdT.row q2 k0 hk
      have hm2 := HM.out k.toNat (by omega)
      rw [Int.toNat_of_nonneg k0] at hm2
      have R1 := Lib.hid r1
      have R2 := Lib.hid r2
      have HM2 := Lib.hid hm2
      clear q1 q2 hne2 r1 r2 hm2
      go_wp2
      go_quiet (first | (go_at_call 37; exact q_dr (equalInts_same _ _ _ _ _ _ (Dr.rd ⟨_, rfl⟩ R1.out) (Dr.rd ⟨_, rfl⟩ R2.out) HM2.out)))
      go_wp2
      go_roundw
      case rel => exact ⟨k + 1, by omega, by omega, rfl, hd.more _⟩
      case measure => simp [intOf]; omega
    · go_wp2
      go_ret
      exact ⟨rfl, hd⟩

set_option maxRecDepth 100000 in
set_option maxHeartbeats 1000000 in
/-- laws.equalAlgebra, of two that read the same -/
theorem equalAlgebra_same (a1 a2 b1 b2 : Option Addr) (ca1 ca2 cb1 cb2 : Nat) (L : List Int) (T : List (List Int)) (w : World) (h1 : Rd w a1 L) (h2 : Rd w a2 L) (t1 : RdT w b1 T) (t2 : RdT w b2 T) (hL : L.length ≤ 1073741824) (hm : ∀ j : Nat, j < T.length → (rowAt T j).length ≤ 1073741824) (hn : T.length ≤ 1073741824) :
    Calls Tryz.prog 13 #[.agg #[.slice a1 L.length ca1, .slice b1 T.length cb1], .agg #[.slice a2 L.length ca2, .slice b2 T.length cb2]] w fun e w' => e = .returned (.bool true) ∧ Below w.heap.size w w' := by
  obtain ⟨w1, hw1⟩ : ∃ w1, w1 = (w.alloc (.cells #[.slice a1 L.length ca1, .slice b1 T.length cb1] 26)).alloc (.cells #[.slice a2 L.length ca2, .slice b2 T.length cb2] 26) := ⟨_, rfl⟩
  have hB : Below w.heap.size w w1 := by rw [hw1]; exact ((Below.refl _ _).alloc (Nat.le_refl _) _).alloc (by simp) _
  have x1 : w1.heap[w.heap.size]? = some (.cells #[.slice a1 L.length ca1, .slice b1 T.length cb1] 26 (0, 0)) := by rw [hw1, Below.heap_alloc _ _ _ (by simp)]; exact heap_alloc_new w _
  have x2 : w1.heap[w.heap.size + 1]? = some (.cells #[.slice a2 L.length ca2, .slice b2 T.length cb2] 26 (0, 0)) := by rw [hw1]; exact heap_alloc2_new _ _ _
  obtain ⟨c0, c1⟩ := bx_cells x1
  obtain ⟨c2, c3⟩ := bx_cells x2
  have R1 := Lib.hid (h1.below hB)
  have R2 := Lib.hid (h2.below hB)
  have S1 := Lib.hid (t1.below hB)
  have S2 := Lib.hid (t2.below hB)
  have HM := Lib.hid hm
  clear h1 h2 t1 t2 hm x1 x2
  go_enter Tryz.func13, Tryz.ntmps13
  go_wp2_with (first
    | (rw [← hw1]; clear hw1)
    | go_skip
    | (go_at_call 37; refine (equalInts_same _ _ _ _ _ _ R1.out R2.out hL).mono ?_; rintro e w2 ⟨rfl, hd⟩; have c4 := hd.cell c1; have c5 := hd.cell c3)
    | (go_at_call 38; refine (equalListsA_same _ _ _ _ _ _ (S1.out.dr hd) (S2.out.dr hd) HM.out hn).mono ?_; rintro e w3 ⟨rfl, hd2⟩))
  go_ret
  exact ⟨rfl, hB.trans ((hd.trans hd2).below _)⟩

/-- an algebra and a Boolean are handed back -/
def RetR (L : List Int) (T : List (List Int)) (V : Bool) (w : World) (e : Ending) (w' : World) : Prop := ∃ a ca b cb, e = .returned (.tuple #[.agg #[.slice a L.length ca, .slice b T.length cb], .bool V]) ∧ Rd w' a L ∧ RdT w' b T ∧ Below w.heap.size w w'
theorem ra_parts {w : World} {a b : Option Addr} {n c m d : Nat} {L : List Int} {T : List (List Int)} (h : RA w (.slice a n c) (.slice b m d) L T) : n = L.length ∧ m = T.length ∧ Rd w a L ∧ RdT w b T := by
  obtain ⟨a', ca', b', cb', e1, e2, r1, r2⟩ := h
  injection e1 with x1 x2 _
  injection e2 with y1 y2 _
  subst x1; subst y1
  exact ⟨x2, y2, r1, r2⟩
theorem RetSAb.r {L : List Int} {T : List (List Int)} {V : Bool} {w w' : World} {e : Ending} (h : RetSAb L T V w e w') : RetR L T V w e w' := by
  obtain ⟨a, n, c, b, m, d, rfl, ho, hb⟩ := h
  obtain ⟨rfl, rfl, r1, r2⟩ := ra_parts ho.ra
  exact ⟨a, c, b, d, rfl, r1, r2, hb⟩
theorem RetGAb.r {L : List Int} {T : List (List Int)} {V : Bool} {w w' : World} {e : Ending} (h : RetGAb L T V w e w') : RetR L T V w e w' := by
  obtain ⟨a, n, c, b, m, d, rfl, ho, hb⟩ := h
  obtain ⟨rfl, rfl, r1, r2⟩ := ra_parts ho.rd
  exact ⟨a, c, b, d, rfl, r1, r2, hb⟩
/-- a struct variable of the law's own -/
def Bx (w : World) (g : Nat) (x y : Value) (wc : World) : Prop := w.heap.size ≤ g ∧ wc.heap[g]? = some (.cells #[x, y] 26 (0, 0))
theorem Bx.next {w wc w' : World} {g : Nat} {x y : Value} (h : Bx w g x y wc) (hb : Below wc.heap.size wc w') : Bx w g x y w' := ⟨h.1, (hb.block _ (lt_of_block h.2)).trans h.2⟩
theorem Bx.dr {w wc w' : World} {g : Nat} {x y : Value} (h : Bx w g x y wc) (hd : Dr wc w') : Bx w g x y w' := h.next (hd.below _)
/-- an algebra that can be read where a law's walk stands -/
def SA (w : World) (a b : Option Addr) (L : List Int) (T : List (List Int)) (wc : World) : Prop := Below w.heap.size w wc ∧ Rd wc a L ∧ RdT wc b T
theorem SA.next {w wc w' : World} {a b : Option Addr} {L : List Int} {T : List (List Int)} (h : SA w a b L T wc) (hb : Below wc.heap.size wc w') : SA w a b L T w' := ⟨h.1.trans (hb.mono h.1.size), h.2.1.below hb, h.2.2.below hb⟩
theorem SA.dr {w wc w' : World} {a b : Option Addr} {L : List Int} {T : List (List Int)} (h : SA w a b L T wc) (hd : Dr wc w') : SA w a b L T w' := h.next (hd.below _)
theorem equalIntsA_is (a1 a2 : Option Addr) (c1 c2 : Nat) (A B : List Int) (w : World) (h1 : Rd w a1 A) (h2 : Rd w a2 B) (hm : A.length ≤ 1073741824) {r : Bool} (hr : eqL A B = r) :
    Calls Tryz.prog 37 #[.slice a1 A.length c1, .slice a2 B.length c2] w fun e w' => e = .returned (.bool r) ∧ Below w.heap.size w w' := by
  refine (equalInts_any a1 a2 c1 c2 A B w h1 h2 hm).mono ?_
  rw [hr]
  rintro e w' ⟨rfl, hd⟩
  exact ⟨rfl, hd.below _⟩
theorem Bx.cells {w wc : World} {g : Nat} {x y : Value} (h : Bx w g x y wc) : wc.cell? ⟨g, 0, none⟩ = some x ∧ wc.cell? ⟨g, 1, none⟩ = some y := bx_cells h.2
end Go.Proofs.YtpophjloedpcfaaGreatDoor

namespace Go.Proofs.YtpophjloedpcfaaGreatDoor
open Go.RowKit

set_option maxRecDepth 100000 in
set_option maxHeartbeats 4000000 in
/-- spec.fill where no place is left -/
theorem fill3_end (n : Nat) (n1 : 1 ≤ n) (n5 : n ≤ 5) (k : Nat) (b : Option Addr) (c : Nat) (T : List (List Int)) (x y : Nat) (w : World) (hT : Sq n T) (h : RdT w b T) (hx : x = n - 1) :
    Calls Tryz.prog 115 #[.int .i64 n, .slice b T.length c, .int .i64 x, .int .i64 y] w (RetTabs w.heap.size (chF n (k + 1) T x y) w) := by
  have hxe : ((x : Int) == (n : Int) - 1) = true := by rw [beq_iff_eq]; omega
  have hlen := chainTo_len (n : Int) n (by omega)
  have hcp := copyTable_any b c T
  have hrows := hT.rows n1 n5
  have hT5 : T.length ≤ 64 := by have := hT.1; omega
  obtain ⟨L, hL⟩ : ∃ L, L = chainTo (n : Int) n := ⟨_, rfl⟩
  have hch := chain_any (n : Int)
  have HC := Lib.hid (show ∀ w : World, Calls Tryz.prog 80 #[.int .i64 n] w (RetOwn w.heap.size L w) from fun w => by rw [hL]; exact chain_any n w (by omega) (by omega))
  have hF : chF n (k + 1) T x y = if algB L T then [T] else [] := by
    show (if x = n - 1 then (if algB (chainTo n n) T then [T] else []) else _) = _
    rw [if_pos hx, hL]
  have HF := Lib.hid hF
  rw [← hL] at hlen
  clear hL hF hcp hch
  go_enter Tryz.func115, Tryz.ntmps115
  go_wp2_with fail
  refine (HC.out w).mono ?_
  rintro e w1 ⟨v, rfl, ho1, hb1⟩
  obtain ⟨ua, uc, rfl, _⟩ := ho1.slice
  have z1 := hb1.size
  go_wp2_with fail
  refine (copyTable_any b c T w1 (h.below hb1) hT5 hrows).mono ?_
  rintro e w2 ⟨G, gc, rfl, hD, hb2⟩
  have ho2 := ho1.below hb2
  have z2 := hb2.size
  obtain ⟨w3, hw3⟩ : ∃ w3, w3 = w2.alloc (.cells #[.slice ua L.length uc, .slice (some ⟨G, 0, none⟩) T.length gc] 26) := ⟨_, rfl⟩
  obtain ⟨g, hg⟩ : ∃ g, g = w2.heap.size := ⟨_, rfl⟩
  have hb3 : Below w2.heap.size w2 w3 := by rw [hw3]; exact (Below.refl _ _).alloc (Nat.le_refl _) _
  have hx3 : w3.heap[g]? = some (.cells #[.slice ua L.length uc, .slice (some ⟨G, 0, none⟩) T.length gc] 26 (0, 0)) := by rw [hw3, hg]; exact heap_alloc_new w2 _
  have ho3 := ho2.below hb3
  have hD3 := hD.below hb3
  have bT : Below w.heap.size w w3 := (hb1.trans (hb2.mono z1)).trans (hb3.mono (by omega))
  have z3 := hb3.size
  have hrt : RdT w3 (some ⟨G, 0, none⟩) T := by
    obtain ⟨_, _, e', r⟩ := hD3.at.rd
    injection e' with e1 _ _
    rw [e1]; exact r
  have W3 := Lib.hid hw3
  have HG := Lib.hid hg
  clear hw3 hg
  cases hA : algB L T with
  | false =>
    go_wp2_with (first
      | (refine wpList_store_row rfl 26 _ _ rfl w2.heap.size #[.slice ua L.length uc, .slice (some ⟨G, 0, none⟩) T.length gc] rfl rfl _ _ (heap_alloc_new w2 (.cells #[.slice none 0 0, .slice none 0 0] 26)) (size_Alg _ _) rfl (one_sl2 _ _ _ _ _ _) ?_; rw [World.setRow_alloc_new, ← W3.out, ← HG.out])
      | (refine wpList_load_row_w rfl 26 _ rfl g rfl _ _ _ _ hx3 Tryz.underlying26 rfl (size_Alg _ _) ?_)
      | (go_at_call 30; refine (ret_below (validAlgebra_any _ _ _ _ L T _ ho3.rd hrt) hA).mono ?_; rintro e w4 ⟨rfl, h4⟩))
    go_ret
    rw [HF.out, hA]
    have bT4 := bT.trans (h4.mono (by omega))
    exact ⟨_, rfl, tabs_none _ bT4.size, by simp, bT4.alloc bT4.size _⟩
  | true =>
    go_wp2_with (first
      | (refine wpList_store_row rfl 26 _ _ rfl w2.heap.size #[.slice ua L.length uc, .slice (some ⟨G, 0, none⟩) T.length gc] rfl rfl _ _ (heap_alloc_new w2 (.cells #[.slice none 0 0, .slice none 0 0] 26)) (size_Alg _ _) rfl (one_sl2 _ _ _ _ _ _) ?_; rw [World.setRow_alloc_new, ← W3.out, ← HG.out])
      | (refine wpList_load_row_w rfl 26 _ rfl g rfl _ _ _ _ hx3 Tryz.underlying26 rfl (size_Alg _ _) ?_)
      | (go_at_call 30; refine (ret_below (validAlgebra_any _ _ _ _ L T _ ho3.rd hrt) hA).mono ?_; rintro e w4 ⟨rfl, h4⟩; obtain ⟨c4, c5⟩ := bx_cells ((h4.block g (lt_of_block hx3)).trans hx3)))
    go_ret
    rw [HF.out, hA]
    have bT4 := bT.trans (h4.mono (by omega))
    have s4 := h4.size
    refine ⟨_, rfl, tabs_one (RowsAt.from (hD3.below h4).at z1) bT4.size, by simp, bT4.alloc bT4.size _⟩
end Go.Proofs.YtpophjloedpcfaaGreatDoor

namespace Go.Proofs.YtpophjloedpcfaaGreatDoor
open Go.RowKit

theorem tabs_shape {w : World} {B : Nat} {v : Value} {n : Nat} {us : List Value} (h : w.ownsRow B 24 1 v n us) (hv : v ≠ .slice none 0 0) : ∃ g c, v = .slice (some ⟨g, 0, none⟩) n c ∧ B ≤ g ∧ ∀ j u, us[j]? = some u → w.cell? ((⟨g, 0, none⟩ : Addr).add j) = some u := by
  rcases h.2 with ⟨rfl, _⟩ | ⟨g, cap, cur, rfl, hb, _⟩
  · exact absurd rfl hv
  · exact ⟨g, cap, rfl, hb, h.cells rfl⟩
theorem tabs_cells {B : Nat} {w : World} {us : List Value} {U : List (List (List Int))} (h : ∀ j : Nat, j < U.length → ∃ u, us[j]? = some u ∧ RowsAt B w u (tabAt U j)) (hl : us.length = U.length * 1) : ∀ u ∈ us, u.oneCell' = true := fun u hu => by
  obtain ⟨i, hi, rfl⟩ := List.getElem_of_mem hu
  obtain ⟨u', hu', ho⟩ := h i (by omega)
  rw [List.getElem?_eq_getElem hi] at hu'
  injection hu' with hu'
  obtain ⟨a, c, e, _⟩ := ho.rd
  rw [hu', e]; rfl
theorem sq_cell {n : Nat} {T : List (List Int)} {w : World} {b : Option Addr} (hT : Sq n T) (h : RdT w b T) (n1 : 1 ≤ n) : ∃ B o, b = some ⟨B, o, none⟩ ∧ ∀ x y : Int, 0 ≤ x → x < n → 0 ≤ y → y < n → ∃ ra ro rc, w.cell? ⟨B, o + x.toNat, none⟩ = some (.slice (some ⟨ra, ro, none⟩) (rowAt T x).length rc) ∧ w.cell? ⟨ra, ro + y.toNat, none⟩ = some (.int .i64 (tv T x y)) ∧ (rowAt T x).length = n := by
  have hl := hT.1
  obtain ⟨B, o, rfl, q⟩ := h (by intro e; rw [e] at hl; simp at hl; omega)
  refine ⟨B, o, rfl, fun x y x0 x1 y0 y1 => ?_⟩
  obtain ⟨ra, rc, d, r⟩ := RdT.row q x0 (by omega)
  have hr := hT.2 x.toNat (by omega)
  rw [Int.toNat_of_nonneg x0] at hr
  obtain ⟨rb, ro, rfl, hc⟩ := r (by intro e; rw [e] at hr; simp at hr; omega)
  exact ⟨rb, ro, rc, d, hc.at y y0 (by unfold num; omega), hr⟩
theorem catTs_succ (f : Nat → List (List (List Int))) (j : Nat) : catTs f (j + 1) = catTs f j ++ f j := rfl
set_option maxRecDepth 100000 in
set_option maxHeartbeats 4000000 in
/-- spec.fill -/
theorem fill3_any (n : Nat) (n1 : 1 ≤ n) (n5 : n ≤ 5) : ∀ (k : Nat) (b : Option Addr) (c : Nat) (T : List (List Int)) (x y : Nat) (w : World), Sq n T → RdT w b T → 1 ≤ x → x ≤ y → y ≤ n - 1 → (n - 1 - x) * n + (n - 1 - y) < k →
    Calls Tryz.prog 115 #[.int .i64 n, .slice b T.length c, .int .i64 x, .int .i64 y] w (RetTabs w.heap.size (chF n k T x y) w) := by
  intro k
  induction k with
  | zero => intro b c T x y w _ _ _ _ _ hk; omega
  | succ k ih =>
    intro b c T x y w hT h x1 hxy hy hk
    by_cases hx : x = n - 1
    · exact fill3_end n n1 n5 k b c T x y w hT h hx
    · have hxn : ((x : Int) == (n : Int) - 1) = false := by rw [beq_eq_false_iff_ne]; omega
      by_cases hyn : y = n - 1
      · have hye : ((y : Int) == (n : Int) - 1) = true := by rw [beq_iff_eq]; omega
        have hF : chF n (k + 1) T x y = chF n k T (x + 1) (x + 1) := by
          show (if x = n - 1 then _ else if y = n - 1 then _ else _) = _
          rw [if_neg hx, if_pos hyn]
        have hms : (n - 1 - (x + 1)) * n + (n - 1 - (x + 1)) < k := by
          obtain ⟨d, hd⟩ : ∃ d, n - 1 - x = d + 1 := ⟨n - 1 - x - 1, by omega⟩
          have e : n - 1 - (x + 1) = d := by omega
          rw [hd, Nat.succ_mul] at hk
          rw [e]
          omega
        have hC := ih b c T (x + 1) (x + 1) w hT h (by omega) (Nat.le_refl _) (by omega) hms
        rw [show ((x + 1 : Nat) : Int) = (x : Int) + 1 by omega] at hC
        have HC := Lib.hid hC
        have HF := Lib.hid hF
        clear hC hF ih hms
        go_enter Tryz.func115, Tryz.ntmps115
        go_wp2_with fail
        refine HC.out.mono ?_
        rintro e w1 ⟨v, rfl, hv, hn, hb⟩
        go_wp2
        go_ret
        rw [HF.out]
        exact ⟨v, rfl, hv, hn, hb⟩
      · have hyf : ((y : Int) == (n : Int) - 1) = false := by rw [beq_eq_false_iff_ne]; omega
        obtain ⟨F, hFd⟩ : ∃ F : Nat → List (List (List Int)), F = fun z => if fillC T x y z then chF n k (set2 T x y z) x (y + 1) else [] := ⟨_, rfl⟩
        have hF : chF n (k + 1) T x y = catTs F (x + 1) := by
          show (if x = n - 1 then _ else if y = n - 1 then _ else _) = _
          rw [if_neg hx, if_neg hyn, Nat.min_eq_left hxy, hFd]
        have hlen : ∀ j, j ≤ x + 1 → (catTs F j).length ≤ 1000000 := fun j hj => by
          have h1 := catTs_len (f := F) (B := 5 ^ plc n x (y + 1)) (fun i => by
            rw [hFd]
            dsimp only
            split
            · exact chF_len n5 k _ x (y + 1) (by omega) (by omega) n1
            · exact Nat.zero_le _) j
          have h2 : plc n x (y + 1) ≤ 7 := by
            unfold plc
            have : tri (n - 2 - x) ≤ 3 := by
              have : n - 2 - x = 0 ∨ n - 2 - x = 1 ∨ n - 2 - x = 2 := by omega
              rcases this with h | h | h <;> rw [h] <;> decide
            omega
          have h3 : 5 ^ plc n x (y + 1) ≤ 5 ^ 7 := Nat.pow_le_pow_right (by decide) h2
          have h4 : 5 ^ 7 = 78125 := by decide
          have h5 : j * 5 ^ plc n x (y + 1) ≤ 5 * 78125 := Nat.mul_le_mul (by omega) (by omega)
          omega
        have hfl : ∀ z : Nat, (chF n k (set2 T x y z) x (y + 1)).length ≤ 1000000 := fun z => by
          have h1 := chF_len n5 k (set2 T x y z) x (y + 1) (by omega) (by omega) n1
          have h2 : plc n x (y + 1) ≤ 7 := by
            unfold plc
            have : tri (n - 2 - x) ≤ 3 := by
              have : n - 2 - x = 0 ∨ n - 2 - x = 1 ∨ n - 2 - x = 2 := by omega
              rcases this with h | h | h <;> rw [h] <;> decide
            omega
          have h3 : 5 ^ plc n x (y + 1) ≤ 5 ^ 7 := Nat.pow_le_pow_right (by decide) h2
          have h4 : 5 ^ 7 = 78125 := by decide
          omega
        obtain ⟨i2, hi2, hv0, hv1, hv2⟩ := info_parts info_intss
        have IH := Lib.hid ih
        have HF := Lib.hid hF
        have HFD := Lib.hid hFd
        have HL := Lib.hid hlen
        have HFL := Lib.hid hfl
        have HT := Lib.hid hT
        have HR := Lib.hid h
        have hrows := hT.rows n1 n5
        have HRW := Lib.hid hrows
        have hT1 := hT.1
        have hT64 : T.length ≤ 64 := by omega
        have hxT : x < T.length := by omega
        have hyT : y < T.length := by omega
        have hxR : x < (rowAt T y).length := by have := hT.2 y (by omega); omega
        have hyR : y < (rowAt T x).length := by have := hT.2 x (by omega); omega
        have HRX := Lib.hid hyR
        have HRY := Lib.hid hxR
        have hxyI : (x : Int) ≤ y := by omega
        have hmin : min (x : Int) (y : Int) = x := by omega
        have HT1 := Lib.hid hT1
        clear ih hF hFd hlen hfl hrows hT h hxR hyR hT1
        go_enter Tryz.func115, Tryz.ntmps115
        go_wp2
        go_loopw [10, 11, 12] (fun ov zv _ wr => ∃ z : Nat, z ≤ x + 1 ∧ zv = .int .i64 (z : Int) ∧ TabsAt w.heap.size wr ov (catTs F z) ∧ ov ≠ .slice none 0 0 ∧ Below w.heap.size w wr) (fun _ zv _ _ => (10 - intOf zv).toNat)
        case atStart => exact ⟨0, by omega, rfl, tabs_none _ (Nat.le_refl _), by simp, (Below.refl _ _).alloc (Nat.le_refl _) _⟩
        case round =>
          obtain ⟨z, hz, rfl, htab, hnn, hb⟩ := hrel
          by_cases hzx : z ≤ x
          · have hzI : (z : Int) ≤ x := by omega
            obtain ⟨B, o, rfl, hcell⟩ := sq_cell HT.out (HR.out.below hb) n1
            obtain ⟨ra, ro, rc, c1, c2, l1⟩ := hcell ((x : Int) - 1) y (by omega) (by omega) (by omega) (by omega)
            obtain ⟨sa, so, sc, c3, c4, l2⟩ := hcell x ((y : Int) - 1) (by omega) (by omega) (by omega) (by omega)
            rw [l1, show ((x : Int) - 1).toNat = x - 1 by omega] at c1
            rw [Int.toNat_natCast] at c2 c3
            rw [l2] at c3
            rw [show ((y : Int) - 1).toNat = y - 1 by omega] at c4
            obtain ⟨p, hp⟩ : ∃ p, p = tv T ((x : Int) - 1) y := ⟨_, rfl⟩
            obtain ⟨q, hq⟩ : ∃ q, q = tv T x ((y : Int) - 1) := ⟨_, rfl⟩
            have hfc : fillC T x y z = (decide (p ≤ (z : Int)) && decide (q ≤ (z : Int))) := by rw [hp, hq]; rfl
            have hcs : catTs F (z + 1) = catTs F z ++ (if fillC T x y z then chF n k (set2 T x y z) x (y + 1) else []) := by rw [catTs_succ, HFD.out]
            rw [← hp] at c2
            rw [← hq] at c4
            have FC := Lib.hid hfc
            have CS := Lib.hid hcs
            clear hp hq hfc hcs hcell l1 l2
            by_cases hzp : p ≤ (z : Int)
            · by_cases hzq : q ≤ (z : Int)
              · have hS := CS.out
                rw [FC.out, decide_eq_true hzp, decide_eq_true hzq, Bool.and_true, if_pos rfl] at hS
                obtain ⟨P, hP⟩ : ∃ P, P = catTs F z := ⟨_, rfl⟩
                obtain ⟨U, hU⟩ : ∃ U, U = chF n k (set2 T x y z) x (y + 1) := ⟨_, rfl⟩
                have B1 := HL.out z (by omega)
                have B2 := HFL.out z
                rw [← hP, ← hU] at hS
                rw [← hP] at B1 htab
                rw [← hU] at B2
                have HS := Lib.hid hS
                have HU := Lib.hid hU
                clear hS hU hP CS FC
                obtain ⟨vs, r1, r2⟩ := htab
                have R2 := Lib.hid r2
                clear r2
                have zs := hb.size
                have CP := Lib.hid (show Calls Tryz.prog 93 #[.slice (some ⟨B, o, none⟩) T.length c] wr (RetTD T wr) from copyTable_any (some ⟨B, o, none⟩) c T wr (HR.out.below hb) (by omega) HRW.out)
                have HI := Lib.hid (show ∀ (G gc : Nat) (V : List (List Int)) (w' : World), Sq n V → RdT w' (some ⟨G, 0, none⟩) V → Calls Tryz.prog 115 #[.int .i64 n, .slice (some ⟨G, 0, none⟩) T.length gc, .int .i64 x, .int .i64 ((y : Int) + 1)] w' (RetTabs w'.heap.size (chF n k V x (y + 1)) w') from fun G gc V w' hV hRV => by
                  have := IH.out (some ⟨G, 0, none⟩) gc V x (y + 1) w' hV hRV x1 (by omega) (by omega) (by omega)
                  rw [hV.1.trans HT1.out.symm, show ((y + 1 : Nat) : Int) = (y : Int) + 1 by omega] at this
                  exact this)
                have HSQ := Lib.hid (HT.out.set2 (x := x) (y := y) (z : Int) (by omega) (by omega))
                go_wp2_with (first
                  | go_skip
                  | (rw [← W3.out]; clear W3)
                  | (rw [← W4.out]; clear W4)
                  | (go_at_call 93; refine CP.out.mono ?_; rintro e w2 ⟨G, gc, rfl, hD, hb2⟩; obtain ⟨ra1, rc1, k1, k2, k3, k4, hD1⟩ := hD.set (x := x) (y := y) hxT HRX.out; have hD3 := hD1 z; clear hD1; obtain ⟨w3, hw3⟩ : ∃ w3 : World, w3 = w2.setCell ⟨ra1, y, none⟩ (.int .i64 z) := ⟨_, rfl⟩; rw [← hw3] at hD3; have hb3 : Below wr.heap.size wr w3 := (by rw [hw3]; exact hb2.setCell k2 _); have W3 := Lib.hid hw3; clear hw3; obtain ⟨ra2, rc2, m1, m2, m3, m4, hD4⟩ := hD3.set (x := y) (y := x) (by rw [setT_len]; exact hyT) (by rw [setT_rlen _ _ hxT]; exact HRY.out); have hD5 := hD4 z; clear hD4; obtain ⟨w4, hw4⟩ : ∃ w4 : World, w4 = w3.setCell ⟨ra2, x, none⟩ (.int .i64 z) := ⟨_, rfl⟩; rw [← hw4] at hD5; have hb4 : Below wr.heap.size wr w4 := (by rw [hw4]; exact hb3.setCell m2 _); have W4 := Lib.hid hw4; clear hw4; rw [setT_rlen _ _ hxT, HT.out.2 y (by omega)] at m1; rw [HT.out.2 x (by omega)] at k1; have hrt : RdT w4 (some ⟨G, 0, none⟩) (set2 T x y z) := (by obtain ⟨_, _, e', r⟩ := hD5.at.rd; injection e' with e1 _ _; rw [e1]; exact r); have HRT := Lib.hid hrt; clear hrt hD5 hD3 hD)
                  | (go_at_call 115; refine (HI.out G gc _ w4 HSQ.out HRT.out).mono ?_; rintro e w5 ⟨u, rfl, hUs, hUn, hb5⟩; rw [← HU.out] at hUs; obtain ⟨us, s1, s2⟩ := hUs; have S2 := Lib.hid s2; clear s2; obtain ⟨ug, uc, rfl, ugl, ucells⟩ := tabs_shape s1 hUn; have r4 := ownsRow_below (ownsRow_below r1 hb4) hb5; have hb6 : Below w.heap.size w w5 := (hb.trans (hb4.mono zs)).trans (hb5.mono (Nat.le_trans zs hb4.size)))
                  | (at_builtin; refine wpList_append_own _ rfl _ _ 139 rfl w.heap.size 24 i2 (.slice none 0 0) 1 24 Tryz.underlying139 hi2 hv0 hv1 hv2 rfl (by decide) _ _ _ rfl r4 ⟨ug, 0, none⟩ U.length uc us rfl (by have := s1.1; omega) ucells (tabs_cells S2.out s1.1) (by unfold maxLen; omega) (by omega) (by have := hb6.size; omega) ?_; intro v6 w6 hown6 hgrow6 hnil6))
                go_roundw
                case rel =>
                  have hc := TabsAt.cat r4 (fun i hi => by obtain ⟨u, hu, ho⟩ := R2.out i hi; exact ⟨u, hu, (ho.below hb4).below hb5⟩) (fun i hi => by obtain ⟨u, hu, ho⟩ := S2.out i hi; exact ⟨u, hu, ho.from (Nat.le_trans zs hb4.size)⟩) hown6 hgrow6
                  refine ⟨z + 1, by omega, by simp, by rw [HS.out]; exact hc, fun e => hnn (hnil6.1 e).1, hb6.grown hgrow6 (by have := hb6.size; omega) (fun q hq => (World.ownsRow.lt r4 q hq).1)⟩
                case measure => simp [intOf]; omega
              · have hS := CS.out
                rw [FC.out, decide_eq_false hzq, Bool.and_false, if_neg (by decide), List.append_nil] at hS
                have HS := Lib.hid hS
                clear hS CS FC
                go_wp2_with (first | go_skip)
                go_roundw
                case rel => exact ⟨z + 1, by omega, by simp, by rw [HS.out]; exact htab, hnn, hb⟩
                case measure => simp [intOf]; omega
            · have hS := CS.out
              rw [FC.out, decide_eq_false hzp, Bool.false_and, if_neg (by decide), List.append_nil] at hS
              have HS := Lib.hid hS
              clear hS CS FC
              go_wp2_with (first | go_skip)
              go_roundw
              case rel => exact ⟨z + 1, by omega, by simp, by rw [HS.out]; exact htab, hnn, hb⟩
              case measure => simp [intOf]; omega
          · have e : z = x + 1 := by omega
            subst e
            go_wp2
            go_ret
            exact ⟨_, rfl, by rw [HF.out]; exact htab, hnn, hb⟩
end Go.Proofs.YtpophjloedpcfaaGreatDoor

namespace Go.Proofs.YtpophjloedpcfaaGreatDoor
open Go.RowKit

/-! spec.chains: the table from which the places are filled -/
def rowC (n : Nat) (x : Nat) : List Int := (List.replicate n 0).set (n - 1) (x : Int)
def idC (n x : Nat) : Nat → List Int
  | 0 => rowC n x
  | k + 1 => (idC n x k).set k (k : Int)
def topRow (n x : Nat) : List Int := if x = n - 1 then idC n x n else rowC n x
def topC (n k : Nat) : List (List Int) := (List.range k).map (topRow n)
theorem rowC_len (n x : Nat) : (rowC n x).length = n := by simp [rowC]
theorem idC_len (n x : Nat) : ∀ k, (idC n x k).length = n
  | 0 => rowC_len n x
  | k + 1 => by show ((idC n x k).set k (k : Int)).length = n; rw [List.length_set]; exact idC_len n x k
theorem topRow_len (n x : Nat) : (topRow n x).length = n := by
  unfold topRow
  split
  · exact idC_len n x n
  · exact rowC_len n x
theorem topC_len (n k : Nat) : (topC n k).length = k := by simp [topC]
theorem topC_succ (n k : Nat) : topC n (k + 1) = topC n k ++ [topRow n k] := by
  unfold topC
  rw [List.range_succ, List.map_append]
  rfl
theorem topC_sq (n : Nat) : Sq n (topC n n) := ⟨topC_len n n, fun j hj => by
  have : rowAt (topC n n) (j : Int) = topRow n j := by
    unfold rowAt topC
    simp [hj]
  rw [this]; exact topRow_len n j⟩

theorem info_Alg : (Tryz.prog.info? 26).map (fun i => (i.zero, i.size, i.bytes)) = some (some (.agg #[.slice none 0 0, .slice none 0 0]), 2, 48) := by kernel_rfl
/-- algebras of one lattice, laid in a slice of the call's own -/
def AlgsAt (B C : Nat) (w : World) (v : Value) (L : List Int) (Ts : List (List (List Int))) : Prop :=
  ∃ cs : List Value, w.ownsRow B 26 2 v Ts.length cs ∧ ∀ j : Nat, j < Ts.length → ∃ u1 u2, cs[2 * j]? = some u1 ∧ cs[2 * j + 1]? = some u2 ∧ Own C w u1 L ∧ RowsAt C w u2 (tabAt Ts j)
theorem RowsAt.keptA {B B' s n : Nat} {e : TypeId} {w w' : World} {v u : Value} {T : List (List Int)} {xs : List Value} (h : RowsAt B w v T) (hu : w.ownsRow B' e s u n xs) (e1 : 23 ≠ e) (e2 : 3 ≠ e) (hg : w.grownBy w' u.ownBlock) : RowsAt B w' v T := by
  obtain ⟨vs, h1, h2⟩ := h
  exact ⟨vs, World.ownsRow.kept h1 hg (own_types h1 hu e1), fun j hj => by obtain ⟨x, hx, ho⟩ := h2 j hj; exact ⟨x, hx, World.ownsRow.kept ho hg (own_types ho hu e2)⟩⟩
theorem AlgsAt.push {B C : Nat} {w w' : World} {v v' u1 u2 : Value} {L : List Int} {Ts : List (List (List Int))} {T : List (List Int)} {cs : List Value} (h1 : w.ownsRow B 26 2 v Ts.length cs)
    (h2 : ∀ j : Nat, j < Ts.length → ∃ u1 u2, cs[2 * j]? = some u1 ∧ cs[2 * j + 1]? = some u2 ∧ Own C w u1 L ∧ RowsAt C w u2 (tabAt Ts j)) (k1 : Own C w u1 L) (k2 : RowsAt C w u2 T)
    (h3 : w'.ownsRow B 26 2 v' (Ts.length + 1) (cs ++ [u1, u2])) (hg : w.grownBy w' v.ownBlock) : AlgsAt B C w' v' L (Ts ++ [T]) := by
  have hvl : cs.length = Ts.length * 2 := h1.1
  refine ⟨cs ++ [u1, u2], by rw [List.length_append, List.length_singleton]; exact h3, fun j hj => ?_⟩
  rw [List.length_append, List.length_singleton] at hj
  by_cases e : j < Ts.length
  · obtain ⟨a, b, ha, hb, ho, hr⟩ := h2 j e
    refine ⟨a, b, by rw [List.getElem?_append_left (by omega)]; exact ha, by rw [List.getElem?_append_left (by omega)]; exact hb, World.ownsRow.kept ho hg (own_types ho h1 (by decide)), ?_⟩
    rw [tabAt_l e]
    exact hr.keptA h1 (by decide) (by decide) hg
  · have e2 : j = Ts.length := by omega
    subst e2
    refine ⟨u1, u2, by rw [List.getElem?_append_right (by omega), hvl, show 2 * Ts.length - Ts.length * 2 = 0 by omega]; rfl, by rw [List.getElem?_append_right (by omega), hvl, show 2 * Ts.length + 1 - Ts.length * 2 = 1 by omega]; rfl, World.ownsRow.kept k1 hg (own_types k1 h1 (by decide)), ?_⟩
    rw [tabAt_r (Nat.le_refl _), Nat.sub_self]
    exact k2.keptA h1 (by decide) (by decide) hg
theorem AlgsAt.below {B C : Nat} {w w' : World} {v : Value} {L : List Int} {Ts : List (List (List Int))} (h : AlgsAt B C w v L Ts) (hb : Below w.heap.size w w') : AlgsAt B C w' v L Ts := by
  obtain ⟨cs, h1, h2⟩ := h
  exact ⟨cs, ownsRow_below h1 hb, fun j hj => by obtain ⟨a, b, ha, hb', ho, hr⟩ := h2 j hj; exact ⟨a, b, ha, hb', ho.below hb, hr.below hb⟩⟩
theorem algs_none {B C : Nat} (w : World) (L : List Int) (hB : B ≤ w.heap.size) : AlgsAt B C (w.alloc (.cells #[] 26)) (.slice (some ⟨w.heap.size, 0, none⟩) 0 0) L [] :=
  ⟨[], ⟨by simp, .inr ⟨w.heap.size, 0, #[], rfl, hB, heap_alloc_new w _, Nat.le_refl _, by unfold maxLen; omega, by simp, by simp⟩⟩, fun j hj => absurd hj (by simp)⟩
theorem take_tab (Ts : List (List (List Int))) {i : Nat} (h : i < Ts.length) : Ts.take (i + 1) = Ts.take i ++ [tabAt Ts i] := by
  rw [List.take_add_one]
  congr 1
  unfold tabAt
  rw [List.getElem?_eq_getElem h, List.getD_eq_getElem?_getD, List.getElem?_eq_getElem h]
  rfl
/-- the tables that spec.chains lists -/
def chT (n : Nat) : List (List (List Int)) := if n ≤ 2 then [topC n n] else chF n 30 (topC n n) 1 1
theorem chT_len {n : Nat} (n1 : 1 ≤ n) (n5 : n ≤ 5) : (chT n).length ≤ 1000000 := by
  unfold chT
  split
  · simp
  · rename_i hn
    have h1 := chF_len n5 30 (topC n n) 1 1 (Nat.le_refl _) (by omega) (by omega)
    have h2 : plc n 1 1 ≤ 6 := by
      have : n = 3 ∨ n = 3 ∨ n = 4 ∨ n = 5 := by omega
      rcases this with h | h | h | h <;> rw [h] <;> decide
    have h3 : 5 ^ plc n 1 1 ≤ 5 ^ 6 := Nat.pow_le_pow_right (by decide) h2
    have h4 : 5 ^ 6 = 15625 := by decide
    omega
theorem ch_meas {n : Nat} (n5 : n ≤ 5) : (n - 1 - 1) * n + (n - 1 - 1) < 30 := by
  have : n = 0 ∨ n = 1 ∨ n = 2 ∨ n = 3 ∨ n = 4 ∨ n = 5 := by omega
  rcases this with h | h | h | h | h | h <;> rw [h] <;> decide

theorem tabAt_mem {U : List (List (List Int))} {j : Nat} (h : j < U.length) : tabAt U j ∈ U := by
  unfold tabAt
  rw [List.getD_eq_getElem?_getD, List.getElem?_eq_getElem h]
  exact List.getElem_mem h
theorem algs_shape {w : World} {B : Nat} {v : Value} {n : Nat} {us : List Value} (h : w.ownsRow B 26 2 v n us) (hv : v ≠ .slice none 0 0) : ∃ g c, v = .slice (some ⟨g, 0, none⟩) n c ∧ B ≤ g ∧ ∀ j u, us[j]? = some u → w.cell? ⟨g, j, none⟩ = some u := by
  rcases h.2 with ⟨rfl, _⟩ | ⟨g, cap, cur, rfl, hb, _⟩
  · exact absurd rfl hv
  · refine ⟨g, cap, rfl, hb, fun j u hu => ?_⟩
    have := h.cells rfl j u hu
    rwa [Addr.add_mid, Nat.zero_add] at this
theorem AlgsAt.from {B B' C C' : Nat} {w : World} {v : Value} {L : List Int} {Ts : List (List (List Int))} (h : AlgsAt B C w v L Ts) (hB : B' ≤ B) (hC : C' ≤ C) : AlgsAt B' C' w v L Ts := by
  obtain ⟨cs, h1, h2⟩ := h
  refine ⟨cs, ?_, fun j hj => by obtain ⟨a, b, ha, hb', ho, hr⟩ := h2 j hj; exact ⟨a, b, ha, hb', ho.from hC, hr.from hC⟩⟩
  refine ⟨h1.1, ?_⟩
  rcases h1.2 with h | ⟨g, cap, cur, e1, e2, e3⟩
  · exact .inl h
  · exact .inr ⟨g, cap, cur, e1, Nat.le_trans hB e2, e3⟩
theorem AlgsAt.drawn {B B' C : Nat} {w w' : World} {v : Value} {L : List Int} {Ts : List (List (List Int))} {g : Nat} {m : Int} (h : AlgsAt B B' w v L Ts) (hr : Rdr w C g m) (hg : w.grownBy w' (some g)) : AlgsAt B B' w' v L Ts := by
  obtain ⟨c, hc⟩ := hr.type
  obtain ⟨cs, h1, h2⟩ := h
  refine ⟨cs, World.ownsRow.kept h1 hg ?_, fun j hj => by obtain ⟨a, b, ha, hb', ho, hr'⟩ := h2 j hj; exact ⟨a, b, ha, hb', ho.drawn hr hg, hr'.drawn hr hg⟩⟩
  rcases h1.2 with ⟨rfl, _⟩ | ⟨b, cap, cur, rfl, _, hb, _⟩
  · exact .inl rfl
  · right
    simp only [Value.ownBlock, ne_eq, Option.some.injEq]
    intro e
    rw [e, hc] at hb
    injection hb with hb
    injection hb with _ hb
    exact absurd hb (by decide)
theorem AlgsAt.at {B C : Nat} {w : World} {G n cap : Nat} {L : List Int} {Ts : List (List (List Int))} (h : AlgsAt B C w (.slice (some ⟨G, 0, none⟩) n cap) L Ts) {k : Int} (k0 : 0 ≤ k) (k1 : k < Ts.length) :
    ∃ a ca b cb, w.rangeAt G (k.toNat * 2) [.slice a L.length ca, .slice b (tabAt Ts k.toNat).length cb] ∧ Own C w (.slice a L.length ca) L ∧ RowsAt C w (.slice b (tabAt Ts k.toNat).length cb) (tabAt Ts k.toNat) := by
  obtain ⟨cs, h1, h2⟩ := h
  obtain ⟨u1, u2, e1, e2, ho, hr⟩ := h2 k.toNat (by omega)
  obtain ⟨a, ca, rfl, _⟩ := ho.slice
  obtain ⟨b, cb, rfl, _⟩ := hr.rd
  obtain ⟨g', c', e, _, hcell⟩ := algs_shape h1 (by simp)
  injection e with e
  injection e with e
  injection e with e
  subst e
  refine ⟨a, ca, b, cb, fun j v hv => ?_, ho, hr⟩
  rcases j with _ | _ | j
  · simp only [List.getElem?_cons_zero, Option.some.injEq] at hv
    subst hv
    rw [Nat.add_zero, Nat.mul_comm]
    exact hcell _ _ e1
  · simp only [List.getElem?_cons_succ, List.getElem?_cons_zero, Option.some.injEq] at hv
    subst hv
    rw [Nat.mul_comm]
    exact hcell _ _ e2
  · simp at hv
/-- algebras of one lattice are handed back -/
def RetAlgs (L : List Int) (Ts : List (List (List Int))) (w : World) (e : Ending) (w' : World) : Prop := ∃ G c, e = .returned (.slice (some ⟨G, 0, none⟩) Ts.length c) ∧ AlgsAt w.heap.size w.heap.size w' (.slice (some ⟨G, 0, none⟩) Ts.length c) L Ts ∧ Below w.heap.size w w'
theorem retAlgs_end {w w2 wr : World} {L : List Int} {Ts : List (List (List Int))} {v : Value} (h : AlgsAt w2.heap.size w.heap.size wr v L Ts) (hv : v ≠ .slice none 0 0) (hs : w.heap.size ≤ w2.heap.size) (h2 : Below w.heap.size w w2) (h3 : Below w2.heap.size w2 wr) : RetAlgs L Ts w (.returned v) wr := by
  have h' := h
  obtain ⟨cs, h1, _⟩ := h'
  obtain ⟨g, c, rfl, _⟩ := algs_shape h1 hv
  exact ⟨g, c, rfl, h.from hs (Nat.le_refl _), h2.trans (h3.mono hs)⟩
theorem ch_meas2 {i : Nat} (h : i ≤ 1000000) : (2000000 - intOf (.int .i64 ((i : Int) + 1))).toNat < (2000000 - intOf (.int .i64 (i : Int))).toNat := by
  simp only [intOf]; omega
/-- the state of the last loop -/
def ChRel (w w2 : World) (L : List Int) (U : List (List (List Int))) (av iv : Value) (wr : World) : Prop := ∃ i : Nat, i ≤ U.length ∧ iv = .int .i64 (i : Int) ∧ AlgsAt w2.heap.size w.heap.size wr av L (U.take i) ∧ av ≠ .slice none 0 0 ∧ Below w2.heap.size w2 wr
theorem ChRel.mk' {w w2 : World} {L : List Int} {U Q : List (List (List Int))} {wr : World} {i g : Nat} {n c : Nat} {T : List (List Int)} (hi : i < U.length) (hq : U.take (i + 1) = Q ++ [T]) (h : AlgsAt w2.heap.size w.heap.size wr (.slice (some ⟨g, 0, none⟩) n c) L (Q ++ [T])) (hb : Below w2.heap.size w2 wr) {x : Int} (hx : x = (i : Int) + 1) : ChRel w w2 L U (.slice (some ⟨g, 0, none⟩) n c) (.int .i64 x) wr :=
  ⟨i + 1, hi, by rw [hx]; rfl, by rw [hq]; exact h, by simp, hb⟩
set_option maxRecDepth 100000 in
set_option maxHeartbeats 4000000 in
/-- spec.chains -/
theorem chains_any (n : Nat) (n1 : 1 ≤ n) (n5 : n ≤ 5) (w : World) :
    Calls Tryz.prog 85 #[.int .i64 n] w (RetAlgs (chainTo n n) (chT n) w) := by
  obtain ⟨i0, hi, hz0, hz1, hz2⟩ := info_parts info_int
  obtain ⟨i1, hi1, hy0, hy1, hy2⟩ := info_parts info_ints
  have hmk := run_make_ints n (by omega)
  go_enter Tryz.func85, Tryz.ntmps85
  go_wp2
  go_loopw [3, 4, 5, 6] (fun ov xv _ _ wr => ∃ x : Nat, x ≤ n ∧ xv = .int .i64 (x : Int) ∧ RowsAt w.heap.size wr ov (topC n x) ∧ ov ≠ .slice none 0 0 ∧ Below w.heap.size w wr) (fun _ xv _ _ _ => (10 - intOf xv).toNat)
  case atStart => exact ⟨0, by omega, rfl, rows_none _ (Nat.le_refl _), by simp, (Below.refl _ _).alloc (Nat.le_refl _) _⟩
  case round =>
    obtain ⟨x, hx, rfl, hrows, hnn, hb⟩ := hrel
    by_cases hxn : x < n
    · have hxI : (x : Int) < n := by omega
      have hI0 : (0 : Int) ≤ (n : Int) - 1 := by omega
      have hI1 : (n : Int) - 1 < n := by omega
      have hTS := Lib.hid (topC_succ n x)
      have hTL := topC_len n x
      obtain ⟨P, hP⟩ : ∃ P, P = topC n x := ⟨_, rfl⟩
      rw [← hP] at hrows hTL hTS
      have hPl : P.length ≤ 64 := by omega
      clear hP
      have zs := hb.size
      obtain ⟨w5, hw5⟩ : ∃ w5 : World, w5 = wr.alloc (.cells (IL (List.replicate n 0)) 3) := ⟨_, rfl⟩
      obtain ⟨g, hg⟩ : ∃ g : Nat, g = wr.heap.size := ⟨_, rfl⟩
      have o5 : Own wr.heap.size w5 (.slice (some ⟨g, 0, none⟩) (List.replicate n (0 : Int)).length (List.replicate n (0 : Int)).length) (List.replicate n 0) := by rw [hw5, hg]; exact Own.row (L := List.replicate n 0) (heap_alloc_new wr _) (Nat.le_refl _) (by simp; unfold maxLen; omega)
      have b5 : Below wr.heap.size wr w5 := by rw [hw5]; exact (Below.refl _ _).alloc (Nat.le_refl _) _
      obtain ⟨w6, hw6⟩ : ∃ w6 : World, w6 = w5.setCell ⟨g, n - 1, none⟩ (.int .i64 x) := ⟨_, rfl⟩
      have c5 := o5.cellAt (x := (n : Int) - 1) hI0 (by simp; omega)
      rw [show ((n : Int) - 1).toNat = n - 1 by omega] at c5
      have f5 := o5.freeAt (n - 1)
      have o6 := (o5.stored (n - 1) x).1
      have b6 : Below wr.heap.size wr w6 := by rw [hw6]; exact b5.setCell (by show wr.heap.size ≤ g; omega) _
      rw [← hw6] at o6
      have o7 : Own wr.heap.size w6 (.slice (some ⟨g, 0, none⟩) n n) (rowC n x) := by
        have := o6
        rw [List.length_set, List.length_replicate] at this
        exact this
      have W5 := Lib.hid hw5
      have W6 := Lib.hid hw6
      have HG := Lib.hid hg
      clear hw5 hw6 o5 o6 b5 hg
      by_cases hxl : x = n - 1
      · have hxe : ((x : Int) == (n : Int) - 1) = true := by rw [beq_iff_eq]; omega
        have hR : topRow n x = idC n x n := by unfold topRow; rw [if_pos hxl]
        rw [hR] at hTS
        clear hR hxl
        obtain ⟨vs, r1, r2⟩ := hrows
        have R2 := Lib.hid r2
        clear r2
        go_wp2_with (first
          | (rw [← W6.out]; clear W6)
          | (rw [← W5.out, ← HG.out]; clear W5))
        obtain ⟨wo, rfl⟩ : ∃ wo : World, wo = wr := ⟨_, rfl⟩
        have gl : wo.heap.size ≤ g := by have := HG.out; omega
        go_loopw [6] (fun yv wr => ∃ y : Nat, y ≤ n ∧ yv = .int .i64 (y : Int) ∧ Own wo.heap.size wr (.slice (some ⟨g, 0, none⟩) n n) (idC n x y) ∧ Below wo.heap.size wo wr) (fun yv _ => (10 - intOf yv).toNat)
        case atStart => exact ⟨0, by omega, rfl, o7, b6⟩
        case round =>
          obtain ⟨y, hy, rfl, oy, by'⟩ := hrel
          have il := idC_len n x y
          have hIS := Lib.hid (show idC n x (y + 1) = (idC n x y).set y (y : Int) from rfl)
          have IE := Lib.hid (show y = n → idC n x y = idC n x n from fun e => by rw [e])
          obtain ⟨L, hL⟩ : ∃ L, L = idC n x y := ⟨_, rfl⟩
          rw [← hL] at oy il hIS IE
          clear hL
          by_cases hyn : y < n
          · have hyI : (y : Int) < n := by omega
            have oy' : Own wo.heap.size wr (.slice (some ⟨g, 0, none⟩) L.length n) L := by rw [il]; exact oy
            have c8 := oy'.cellAt (x := (y : Int)) (by omega) (by omega)
            rw [Int.toNat_natCast] at c8
            have f8 := oy'.freeAt y
            have o8 := (oy'.stored y y).1
            rw [List.length_set, il] at o8
            have b8 : Below wo.heap.size wo (wr.setCell ⟨g, y, none⟩ (.int .i64 y)) := by'.setCell gl _
            have O8 := Lib.hid o8
            have B8 := Lib.hid b8
            clear o8 b8 oy'
            go_wp2
            go_roundw
            case rel => exact ⟨y + 1, by omega, by simp, by rw [hIS.out]; exact O8.out, B8.out⟩
            case measure => simp [intOf]; omega
          · have e : y = n := by omega
            rw [IE.out e] at oy
            go_wp2_with (first
              | (at_builtin; refine wpList_append_own _ rfl _ _ 24 rfl w.heap.size 23 i1 (.slice none 0 0) 1 24 Tryz.underlying24 hi1 hy0 hy1 hy2 rfl (by decide) _ _ _ rfl (World.ownsRow.alloc (ownsRow_below r1 by') _) ⟨wr.heap.size, 0, none⟩ 1 1 [.slice (some ⟨g, 0, none⟩) n n] rfl rfl (cell_one_new _ _ _) (fun x hx => by simp at hx; subst hx; rfl) (by unfold maxLen; omega) (by omega) (by have := by'.size; simp; omega) ?_; intro v7 w7 hown7 hgrow7 hnil7))
            go_roundw
            case rel =>
              have hp := RowsAt.push (T := P) (r := idC n x n) (World.ownsRow.alloc (ownsRow_below r1 by') (.cells #[.slice (some ⟨g, 0, none⟩) n n] 23)) (fun j hj => by obtain ⟨u, hu, ho⟩ := R2.out j hj; exact ⟨u, hu, (ho.below by').alloc _⟩) (((show Own w.heap.size wr (.slice (some ⟨g, 0, none⟩) n n) (idC n x n) from oy.from zs)).alloc _) hown7 hgrow7
              refine ⟨x + 1, by omega, by simp, by rw [hTS.out]; exact hp, fun e => by have := (hnil7.1 e).1; exact hnn this, (hb.trans ((by'.alloc by'.size _).mono zs)).grown hgrow7 (by have := by'.size; simp; omega) (fun q hq => (World.ownsRow.lt r1 q hq).1)⟩
            case measure => simp [intOf]; omega
      · have hxe : ((x : Int) == (n : Int) - 1) = false := by rw [beq_eq_false_iff_ne]; omega
        have hR : topRow n x = rowC n x := by unfold topRow; rw [if_neg hxl]
        rw [hR] at hTS
        clear hR
        obtain ⟨vs, r1, r2⟩ := hrows
        have R2 := Lib.hid r2
        clear r2
        go_wp2_with (first
          | (rw [← W6.out]; clear W6)
          | (rw [← W5.out, ← HG.out]; clear W5)
          | (at_builtin; refine wpList_append_own _ rfl _ _ 24 rfl w.heap.size 23 i1 (.slice none 0 0) 1 24 Tryz.underlying24 hi1 hy0 hy1 hy2 rfl (by decide) _ _ _ rfl (World.ownsRow.alloc (ownsRow_below r1 b6) _) ⟨w6.heap.size, 0, none⟩ 1 1 [.slice (some ⟨g, 0, none⟩) n n] rfl rfl (cell_one_new _ _ _) (fun x hx => by simp at hx; subst hx; rfl) (by unfold maxLen; omega) (by omega) (by have := b6.size; simp; omega) ?_; intro v7 w7 hown7 hgrow7 hnil7))
        go_roundw
        case rel =>
          have hp := RowsAt.push (T := P) (r := rowC n x) (World.ownsRow.alloc (ownsRow_below r1 b6) (.cells #[.slice (some ⟨g, 0, none⟩) n n] 23)) (fun j hj => by obtain ⟨u, hu, ho⟩ := R2.out j hj; exact ⟨u, hu, (ho.below b6).alloc _⟩) (((show Own w.heap.size w6 (.slice (some ⟨g, 0, none⟩) n n) (rowC n x) from o7.from zs)).alloc _) hown7 hgrow7
          refine ⟨x + 1, by omega, by simp, by rw [hTS.out]; exact hp, fun e => by have := (hnil7.1 e).1; exact hnn this, (hb.trans ((b6.alloc b6.size _).mono zs)).grown hgrow7 (by have := b6.size; simp; omega) (fun q hq => (World.ownsRow.lt r1 q hq).1)⟩
        case measure => simp [intOf]; omega
    · have e : x = n := by omega
      subst e
      have HTB := Lib.hid hrows
      obtain ⟨ga, gc, rfl, hr⟩ := hrows.rd
      have HR := Lib.hid hr
      have HTL := Lib.hid (chT_len n1 n5)
      have zs := hb.size
      clear hr
      obtain ⟨P, hP⟩ : ∃ P, P = topC x x := ⟨_, rfl⟩
      rw [← hP] at HTB HR
      have HP := Lib.hid hP
      clear hP
      by_cases h2 : x ≤ 2
      · have hg2 : ¬ ((x : Int) > 2) := by omega
        have hT : chT x = [P] := by unfold chT; rw [if_pos h2, HP.out]
        obtain ⟨U, hUd⟩ : ∃ U, U = chT x := ⟨_, rfl⟩
        have hU1 : U = [P] := by rw [hUd, hT]
        have HUL := Lib.hid (show U.length = 1 by rw [hU1]; rfl)
        have ul : U.length ≤ 1000000 := by have := HUL.out; omega
        obtain ⟨ug, hug⟩ : ∃ ug : Nat, ug = wr.heap.size := ⟨_, rfl⟩
        obtain ⟨w2, hw2⟩ : ∃ w2 : World, w2 = wr.alloc (.cells #[.slice ga P.length gc] 24) := ⟨_, rfl⟩
        have b2 : Below w.heap.size w w2 := by rw [hw2]; exact hb.alloc zs _
        have UC := Lib.hid (show ∀ j u, [Value.slice ga P.length gc][j]? = some u → w2.cell? ((⟨ug, 0, none⟩ : Addr).add j) = some u from by rw [hw2, hug]; exact cell_one_new _ _ _)
        have S2' := Lib.hid (show ∀ j : Nat, j < U.length → ∃ u, [Value.slice ga P.length gc][j]? = some u ∧ RowsAt w.heap.size w2 u (tabAt U j) from fun j hj => by
          have e : j = 0 := by have := HUL.out; omega
          subst e
          refine ⟨_, rfl, ?_⟩
          rw [hU1, hw2]
          exact HTB.out.below ((Below.refl _ _).alloc (Nat.le_refl _) _))
        have HUD := Lib.hid hUd
        clear hUd hT hU1 h2
        rw [← HP.out]
        go_wp2_with (rw [← hw2, ← hug]; clear hw2 hug)
        have z2 := b2.size
        obtain ⟨L, hL⟩ : ∃ L, L = chainTo (x : Int) x := ⟨_, rfl⟩
        have hLl := chainTo_len (x : Int) x (by omega)
        rw [← hL] at hLl
        have HC := Lib.hid (show ∀ w : World, Calls Tryz.prog 80 #[.int .i64 x] w (RetOwn w.heap.size L w) from fun w => by rw [hL]; exact chain_any x w (by omega) (by omega))
        have HLD := Lib.hid hL
        clear hL
        obtain ⟨iA, hiA, hA0, hA1, hA2⟩ := info_parts info_Alg
        go_wp2
        go_loopw [8, 9] (fun av iv wr => ChRel w w2 L U av iv wr) (fun _ iv _ => (2000000 - intOf iv).toNat)
        case atStart => exact ⟨0, by omega, rfl, algs_none _ _ (Nat.le_refl _), by simp, (Below.refl _ _).alloc (Nat.le_refl _) _⟩
        case round =>
          obtain ⟨i, hi', rfl, halg, han, hbr⟩ := hrel
          by_cases hiu : i < U.length
          · have hiI : (i : Int) < 1 := by have := HUL.out; omega
            have htk := take_tab U hiu
            have htl : (U.take i).length = i := by rw [List.length_take]; omega
            obtain ⟨u, hu, hru⟩ := S2'.out i hiu
            have cu := UC.out i u hu
            obtain ⟨T, hT'⟩ : ∃ T, T = tabAt U i := ⟨_, rfl⟩
            rw [← hT'] at htk hru
            obtain ⟨Q, hQ⟩ : ∃ Q, Q = U.take i := ⟨_, rfl⟩
            rw [← hQ] at htk htl halg
            have HTK := Lib.hid htk
            clear htk hT' hQ hu
            obtain ⟨ta, tc, rfl, _⟩ := hru.rd
            have e0 : ((⟨ug, 0, none⟩ : Addr).add i) = ⟨ug, i, none⟩ := by rw [Addr.add_mid, Nat.zero_add]
            rw [e0] at cu
            clear e0
            have KU := Lib.hid (show ∀ wz, Below w2.heap.size w2 wz → wz.cell? ⟨ug, i, none⟩ = some (.slice ta T.length tc) from fun wz hz => (hz.cell (by exact block_lt_of_cell cu)).trans cu)
            have k1 := KU.out _ hbr
            clear cu
            obtain ⟨cs, r1, r2⟩ := halg
            have R2 := Lib.hid r2
            clear r2
            have zr := hbr.size
            have hQl : Q.length ≤ 1000000 := by omega
            have hQl2 : i ≤ 1000000 := by omega
            clear htl
            go_wp2
            go_region_law (first
              | (refine step_append_lies _ (by rfl) _ _ _ (by rfl) w2.heap.size 26 iA _ 2 48 Tryz.underlying114 hiA hA0 hA1 hA2 rfl (by omega) _ _ _ (by rfl) (World.ownsRow.alloc (ownsRow_below r1 hb3) _) ⟨w3.heap.size, 0, none⟩ 1 1 [.slice ca L.length cc, .slice ta T.length tc] (by rfl) (by rfl) (World.news_of_block (cs := #[.slice ca L.length cc, .slice ta T.length tc]) (t := 26) (fr := (0, 0)) (heap_alloc_new w3 _)) (by simp [Value.oneCell']) (by omega) (by unfold maxLen; omega) (by omega) (by simp; omega) (w3.heap.size + 1) (by simp) ?_; intro v5g v5c w5 hown5 hgrow5 hat5 hlt5)
              | (go_simp; go_at_call 80; refine (HC.out _).mono ?_; rintro e w3 ⟨cv, rfl, ho3, hb3'⟩; have hb3 : Below wr.heap.size wr w3 := ((Below.refl _ wr).drew).trans hb3'; have ho4 := ho3.from (Nat.le_trans (Nat.le_trans z2 zr) ((Below.refl wr.heap.size wr).drew).size); clear ho3; obtain ⟨ca, cc, rfl, _⟩ := ho4.slice; have z3 := hb3.size; have k3 := KU.out _ (hbr.trans (hb3.mono zr))))
            all_goals
              have hc := AlgsAt.push (C := w.heap.size) (L := L) (T := T) (World.ownsRow.alloc (ownsRow_below r1 hb3) (.cells #[.slice ca L.length cc, .slice ta T.length tc] 26)) (fun j hj => by obtain ⟨a, b, ha, hb', ho, hr⟩ := R2.out j hj; exact ⟨a, b, ha, hb', ho.below (hb3.alloc z3 _), hr.below (hb3.alloc z3 _)⟩) (ho4.alloc _) (RowsAt.below hru ((hbr.trans (hb3.mono zr)).alloc (by omega) _)) hown5 hgrow5
              have hbq : Below w2.heap.size w2 w5 := ((hbr.trans (hb3.mono zr)).alloc (by omega) _).grown hgrow5 (by simp; omega) (fun q hq => (World.ownsRow.lt r1 q hq).1)
              have HD := Lib.hid (fun x hx => ChRel.mk' (x := x) hiu HTK.out hc hbq hx)
              clear hc hbq hown5 hgrow5 hat5 hlt5 r1 ho4 hb3 hb3'
              go_wp2
              go_roundw
              case rel => exact HD.out _ rfl
              case measure => exact ch_meas2 hQl2
          · have e : U.take i = U := List.take_of_length_le (by omega)
            rw [e] at halg
            have hNI : ¬ (i : Int) < 1 := by have := HUL.out; omega
            have HE := Lib.hid (show RetAlgs (chainTo (x : Int) x) (chT x) w (.returned _) wr by rw [← HLD.out, ← HUD.out]; exact retAlgs_end halg han z2 b2 hbr)
            clear e halg
            go_wp2
            go_ret
            exact HE.out
      · have hg2 : (x : Int) > 2 := by omega
        have hT := Lib.hid (show chT x = chF x 30 P 1 1 by unfold chT; rw [if_neg h2, HP.out])
        have hF := Lib.hid (show ∀ w' : World, RdT w' ga P → Calls Tryz.prog 115 #[.int .i64 x, .slice ga P.length gc, .int .i64 1, .int .i64 1] w' (RetTabs w'.heap.size (chT x) w') from fun w' h => by
          rw [hT.out]
          exact fill3_any x (by omega) n5 30 ga gc P 1 1 w' (by rw [HP.out]; exact topC_sq x) h (Nat.le_refl _) (Nat.le_refl _) (by omega) (ch_meas n5))
        clear h2
        rw [← HP.out]
        go_wp2_with (first
          | (go_at_call 115; refine (hF.out _ (HR.out.below ((Below.refl _ _).alloc (Nat.le_refl _) _))).mono ?_; rintro e w2 ⟨u, rfl, hU, hUn, hb2⟩))
        rw [show (wr.alloc (.cells #[.slice ga P.length gc] 24)).heap.size = wr.heap.size + 1 by simp] at hU hb2
        have HU := Lib.hid hU
        obtain ⟨us, s1, s2⟩ := hU
        have S2 := Lib.hid s2
        clear s2
        obtain ⟨U, hUd⟩ : ∃ U, U = chT x := ⟨_, rfl⟩
        have ul := HTL.out
        rw [← hUd] at s1 ul
        have S2' := Lib.hid (show ∀ j : Nat, j < U.length → ∃ u, us[j]? = some u ∧ RowsAt w.heap.size w2 u (tabAt U j) from fun j hj => by rw [hUd] at hj ⊢; obtain ⟨u, hu, ho⟩ := S2.out j hj; exact ⟨u, hu, ho.from (by omega)⟩)
        have HUD := Lib.hid hUd
        clear hUd S2
        obtain ⟨ug, uc, rfl, ugl, ucells⟩ := tabs_shape s1 hUn
        have UC := Lib.hid ucells
        clear ucells
        have b2 : Below w.heap.size w w2 := (hb.alloc zs _).trans (hb2.mono (by omega))
        have z2 := b2.size
        obtain ⟨L, hL⟩ : ∃ L, L = chainTo (x : Int) x := ⟨_, rfl⟩
        have hLl := chainTo_len (x : Int) x (by omega)
        rw [← hL] at hLl
        have HC := Lib.hid (show ∀ w : World, Calls Tryz.prog 80 #[.int .i64 x] w (RetOwn w.heap.size L w) from fun w => by rw [hL]; exact chain_any x w (by omega) (by omega))
        have HLD := Lib.hid hL
        clear hL
        obtain ⟨iA, hiA, hA0, hA1, hA2⟩ := info_parts info_Alg
        go_wp2
        go_loopw [8, 9] (fun av iv wr => ChRel w w2 L U av iv wr) (fun _ iv _ => (2000000 - intOf iv).toNat)
        case atStart => exact ⟨0, by omega, rfl, algs_none _ _ (Nat.le_refl _), by simp, (Below.refl _ _).alloc (Nat.le_refl _) _⟩
        case round =>
          obtain ⟨i, hi', rfl, halg, han, hbr⟩ := hrel
          by_cases hiu : i < U.length
          · have hiI : (i : Int) < U.length := by omega
            have htk := take_tab U hiu
            have htl : (U.take i).length = i := by rw [List.length_take]; omega
            obtain ⟨u, hu, hru⟩ := S2'.out i hiu
            have cu := UC.out i u hu
            obtain ⟨T, hT'⟩ : ∃ T, T = tabAt U i := ⟨_, rfl⟩
            rw [← hT'] at htk hru
            obtain ⟨Q, hQ⟩ : ∃ Q, Q = U.take i := ⟨_, rfl⟩
            rw [← hQ] at htk htl halg
            have HTK := Lib.hid htk
            clear htk hT' hQ hu
            obtain ⟨ta, tc, rfl, _⟩ := hru.rd
            have e0 : ((⟨ug, 0, none⟩ : Addr).add i) = ⟨ug, i, none⟩ := by rw [Addr.add_mid, Nat.zero_add]
            rw [e0] at cu
            clear e0
            have KU := Lib.hid (show ∀ wz, Below w2.heap.size w2 wz → wz.cell? ⟨ug, i, none⟩ = some (.slice ta T.length tc) from fun wz hz => (hz.cell (by exact block_lt_of_cell cu)).trans cu)
            have k1 := KU.out _ hbr
            clear cu
            obtain ⟨cs, r1, r2⟩ := halg
            have R2 := Lib.hid r2
            clear r2
            have zr := hbr.size
            have hQl : Q.length ≤ 1000000 := by omega
            have hQl2 : i ≤ 1000000 := by omega
            clear htl
            go_wp2
            go_region_law (first
              | (refine step_append_lies _ (by rfl) _ _ _ (by rfl) w2.heap.size 26 iA _ 2 48 Tryz.underlying114 hiA hA0 hA1 hA2 rfl (by omega) _ _ _ (by rfl) (World.ownsRow.alloc (ownsRow_below r1 hb3) _) ⟨w3.heap.size, 0, none⟩ 1 1 [.slice ca L.length cc, .slice ta T.length tc] (by rfl) (by rfl) (World.news_of_block (cs := #[.slice ca L.length cc, .slice ta T.length tc]) (t := 26) (fr := (0, 0)) (heap_alloc_new w3 _)) (by simp [Value.oneCell']) (by omega) (by unfold maxLen; omega) (by omega) (by simp; omega) (w3.heap.size + 1) (by simp) ?_; intro v5g v5c w5 hown5 hgrow5 hat5 hlt5)
              | (go_simp; go_at_call 80; refine (HC.out _).mono ?_; rintro e w3 ⟨cv, rfl, ho3, hb3'⟩; have hb3 : Below wr.heap.size wr w3 := ((Below.refl _ wr).drew).trans hb3'; have ho4 := ho3.from (Nat.le_trans (Nat.le_trans z2 zr) ((Below.refl wr.heap.size wr).drew).size); clear ho3; obtain ⟨ca, cc, rfl, _⟩ := ho4.slice; have z3 := hb3.size; have k3 := KU.out _ (hbr.trans (hb3.mono zr))))
            all_goals
              have hc := AlgsAt.push (C := w.heap.size) (L := L) (T := T) (World.ownsRow.alloc (ownsRow_below r1 hb3) (.cells #[.slice ca L.length cc, .slice ta T.length tc] 26)) (fun j hj => by obtain ⟨a, b, ha, hb', ho, hr⟩ := R2.out j hj; exact ⟨a, b, ha, hb', ho.below (hb3.alloc z3 _), hr.below (hb3.alloc z3 _)⟩) (ho4.alloc _) (RowsAt.below hru ((hbr.trans (hb3.mono zr)).alloc (by omega) _)) hown5 hgrow5
              have hbq : Below w2.heap.size w2 w5 := ((hbr.trans (hb3.mono zr)).alloc (by omega) _).grown hgrow5 (by simp; omega) (fun q hq => (World.ownsRow.lt r1 q hq).1)
              have HD := Lib.hid (fun x hx => ChRel.mk' (x := x) hiu HTK.out hc hbq hx)
              clear hc hbq hown5 hgrow5 hat5 hlt5 r1 ho4 hb3 hb3'
              go_wp2
              go_roundw
              case rel => exact HD.out _ rfl
              case measure => exact ch_meas2 hQl2
          · have e : U.take i = U := List.take_of_length_le (by omega)
            rw [e] at halg
            have hNI : ¬ (i : Int) < U.length := by omega
            have HE := Lib.hid (show RetAlgs (chainTo (x : Int) x) (chT x) w (.returned _) wr by rw [← HLD.out, ← HUD.out]; exact retAlgs_end halg han z2 b2 hbr)
            clear e halg
            go_wp2
            go_ret
            exact HE.out
end Go.Proofs.YtpophjloedpcfaaGreatDoor

namespace Go.Proofs.YtpophjloedpcfaaGreatDoor
open Go.RowKit

/-! The algebras that the draws make, all of them. -/
def goods : List (List Int × List (List Int)) := [
  ([1], [[0]]),
  ([3, 2], [[0, 0], [0, 1]]),
  ([7, 6, 4], [[0, 0, 0], [0, 0, 1], [0, 1, 2]]),
  ([7, 6, 4], [[0, 0, 0], [0, 1, 1], [0, 1, 2]]),
  ([15, 10, 12, 8], [[0, 0, 0, 0], [0, 1, 0, 1], [0, 0, 2, 2], [0, 1, 2, 3]]),
  ([63, 42, 60, 40, 48, 32], [[0, 0, 0, 0, 0, 0], [0, 1, 0, 1, 0, 1], [0, 0, 0, 0, 2, 2], [0, 1, 0, 1, 2, 3], [0, 0, 2, 2, 4, 4], [0, 1, 2, 3, 4, 5]]),
  ([63, 42, 60, 40, 48, 32], [[0, 0, 0, 0, 0, 0], [0, 1, 0, 1, 0, 1], [0, 0, 2, 2, 2, 2], [0, 1, 2, 3, 2, 3], [0, 0, 2, 2, 4, 4], [0, 1, 2, 3, 4, 5]]),
  ([31, 26, 28, 24, 16], [[0, 0, 0, 0, 0], [0, 1, 0, 1, 1], [0, 0, 2, 2, 2], [0, 1, 2, 3, 3], [0, 1, 2, 3, 4]]),
  ([63, 58, 60, 56, 48, 32], [[0, 0, 0, 0, 0, 0], [0, 1, 0, 1, 1, 1], [0, 0, 2, 2, 2, 2], [0, 1, 2, 3, 3, 3], [0, 1, 2, 3, 3, 4], [0, 1, 2, 3, 4, 5]]),
  ([63, 58, 60, 56, 48, 32], [[0, 0, 0, 0, 0, 0], [0, 1, 0, 1, 1, 1], [0, 0, 2, 2, 2, 2], [0, 1, 2, 3, 3, 3], [0, 1, 2, 3, 4, 4], [0, 1, 2, 3, 4, 5]]),
  ([15, 14, 12, 8], [[0, 0, 0, 0], [0, 0, 0, 1], [0, 0, 1, 2], [0, 1, 2, 3]]),
  ([15, 14, 12, 8], [[0, 0, 0, 0], [0, 1, 1, 1], [0, 1, 2, 2], [0, 1, 2, 3]]),
  ([15, 14, 12, 8], [[0, 0, 0, 0], [0, 1, 1, 1], [0, 1, 1, 2], [0, 1, 2, 3]]),
  ([15, 14, 12, 8], [[0, 0, 0, 0], [0, 0, 1, 1], [0, 1, 2, 2], [0, 1, 2, 3]]),
  ([15, 14, 12, 8], [[0, 0, 0, 0], [0, 0, 0, 1], [0, 0, 0, 2], [0, 1, 2, 3]]),
  ([15, 14, 12, 8], [[0, 0, 0, 0], [0, 0, 0, 1], [0, 0, 2, 2], [0, 1, 2, 3]]),
  ([31, 30, 28, 24, 16], [[0, 0, 0, 0, 0], [0, 0, 0, 0, 1], [0, 0, 0, 1, 2], [0, 0, 1, 2, 3], [0, 1, 2, 3, 4]]),
  ([31, 30, 28, 24, 16], [[0, 0, 0, 0, 0], [0, 1, 1, 1, 1], [0, 1, 2, 2, 2], [0, 1, 2, 3, 3], [0, 1, 2, 3, 4]]),
  ([31, 30, 28, 24, 16], [[0, 0, 0, 0, 0], [0, 1, 1, 1, 1], [0, 1, 1, 1, 2], [0, 1, 1, 2, 3], [0, 1, 2, 3, 4]]),
  ([31, 30, 28, 24, 16], [[0, 0, 0, 0, 0], [0, 0, 1, 1, 1], [0, 1, 2, 2, 2], [0, 1, 2, 2, 3], [0, 1, 2, 3, 4]]),
  ([31, 30, 28, 24, 16], [[0, 0, 0, 0, 0], [0, 0, 0, 1, 1], [0, 0, 1, 2, 2], [0, 1, 2, 3, 3], [0, 1, 2, 3, 4]]),
  ([31, 30, 28, 24, 16], [[0, 0, 0, 0, 0], [0, 0, 0, 0, 1], [0, 0, 0, 0, 2], [0, 0, 0, 0, 3], [0, 1, 2, 3, 4]]),
  ([31, 30, 28, 24, 16], [[0, 0, 0, 0, 0], [0, 0, 0, 0, 1], [0, 0, 0, 0, 2], [0, 0, 0, 1, 3], [0, 1, 2, 3, 4]]),
  ([31, 30, 28, 24, 16], [[0, 0, 0, 0, 0], [0, 0, 0, 0, 1], [0, 0, 0, 0, 2], [0, 0, 0, 2, 3], [0, 1, 2, 3, 4]]),
  ([31, 30, 28, 24, 16], [[0, 0, 0, 0, 0], [0, 0, 0, 0, 1], [0, 0, 0, 0, 2], [0, 0, 0, 3, 3], [0, 1, 2, 3, 4]]),
  ([31, 30, 28, 24, 16], [[0, 0, 0, 0, 0], [0, 0, 0, 0, 1], [0, 0, 0, 1, 2], [0, 0, 1, 1, 3], [0, 1, 2, 3, 4]]),
  ([31, 30, 28, 24, 16], [[0, 0, 0, 0, 0], [0, 0, 0, 0, 1], [0, 0, 0, 2, 2], [0, 0, 2, 3, 3], [0, 1, 2, 3, 4]]),
  ([31, 30, 28, 24, 16], [[0, 0, 0, 0, 0], [0, 0, 0, 0, 1], [0, 0, 1, 1, 2], [0, 0, 1, 1, 3], [0, 1, 2, 3, 4]]),
  ([31, 30, 28, 24, 16], [[0, 0, 0, 0, 0], [0, 0, 0, 0, 1], [0, 0, 2, 2, 2], [0, 0, 2, 2, 3], [0, 1, 2, 3, 4]]),
  ([31, 30, 28, 24, 16], [[0, 0, 0, 0, 0], [0, 0, 0, 0, 1], [0, 0, 2, 2, 2], [0, 0, 2, 3, 3], [0, 1, 2, 3, 4]]),
  ([31, 30, 28, 24, 16], [[0, 0, 0, 0, 0], [0, 0, 0, 1, 1], [0, 0, 0, 1, 2], [0, 1, 1, 3, 3], [0, 1, 2, 3, 4]]),
  ([31, 30, 28, 24, 16], [[0, 0, 0, 0, 0], [0, 0, 0, 1, 1], [0, 0, 0, 2, 2], [0, 1, 2, 3, 3], [0, 1, 2, 3, 4]]),
  ([31, 30, 28, 24, 16], [[0, 0, 0, 0, 0], [0, 0, 0, 1, 1], [0, 0, 2, 2, 2], [0, 1, 2, 3, 3], [0, 1, 2, 3, 4]]),
  ([31, 30, 28, 24, 16], [[0, 0, 0, 0, 0], [0, 0, 1, 1, 1], [0, 1, 2, 2, 2], [0, 1, 2, 3, 3], [0, 1, 2, 3, 4]]),
  ([31, 30, 28, 24, 16], [[0, 0, 0, 0, 0], [0, 1, 1, 1, 1], [0, 1, 1, 1, 2], [0, 1, 1, 1, 3], [0, 1, 2, 3, 4]]),
  ([31, 30, 28, 24, 16], [[0, 0, 0, 0, 0], [0, 1, 1, 1, 1], [0, 1, 1, 1, 2], [0, 1, 1, 3, 3], [0, 1, 2, 3, 4]]),
  ([31, 30, 28, 24, 16], [[0, 0, 0, 0, 0], [0, 1, 1, 1, 1], [0, 1, 1, 2, 2], [0, 1, 2, 3, 3], [0, 1, 2, 3, 4]]),
  ([31, 30, 28, 24, 16], [[0, 0, 0, 0, 0], [0, 1, 1, 1, 1], [0, 1, 2, 2, 2], [0, 1, 2, 2, 3], [0, 1, 2, 3, 4]]),
  ([63, 62, 60, 56, 48, 32], [[0, 0, 0, 0, 0, 0], [0, 0, 0, 0, 0, 1], [0, 0, 0, 0, 1, 2], [0, 0, 0, 1, 2, 3], [0, 0, 1, 2, 3, 4], [0, 1, 2, 3, 4, 5]]),
  ([63, 62, 60, 56, 48, 32], [[0, 0, 0, 0, 0, 0], [0, 1, 1, 1, 1, 1], [0, 1, 2, 2, 2, 2], [0, 1, 2, 3, 3, 3], [0, 1, 2, 3, 4, 4], [0, 1, 2, 3, 4, 5]]),
  ([63, 62, 60, 56, 48, 32], [[0, 0, 0, 0, 0, 0], [0, 1, 1, 1, 1, 1], [0, 1, 1, 1, 1, 2], [0, 1, 1, 1, 2, 3], [0, 1, 1, 2, 3, 4], [0, 1, 2, 3, 4, 5]]),
  ([63, 62, 60, 56, 48, 32], [[0, 0, 0, 0, 0, 0], [0, 0, 1, 1, 1, 1], [0, 1, 2, 2, 2, 2], [0, 1, 2, 2, 2, 3], [0, 1, 2, 2, 3, 4], [0, 1, 2, 3, 4, 5]]),
  ([63, 62, 60, 56, 48, 32], [[0, 0, 0, 0, 0, 0], [0, 0, 0, 1, 1, 1], [0, 0, 1, 2, 2, 2], [0, 1, 2, 3, 3, 3], [0, 1, 2, 3, 3, 4], [0, 1, 2, 3, 4, 5]]),
  ([63, 62, 60, 56, 48, 32], [[0, 0, 0, 0, 0, 0], [0, 0, 0, 0, 1, 1], [0, 0, 0, 1, 2, 2], [0, 0, 1, 2, 3, 3], [0, 1, 2, 3, 4, 4], [0, 1, 2, 3, 4, 5]]),
  ([63, 54, 36, 56, 48, 32], [[0, 0, 0, 0, 0, 0], [0, 1, 1, 0, 1, 1], [0, 1, 2, 0, 1, 2], [0, 0, 0, 3, 3, 3], [0, 1, 1, 3, 4, 4], [0, 1, 2, 3, 4, 5]]),
  ([63, 62, 60, 56, 48, 32], [[0, 0, 0, 0, 0, 0], [0, 0, 1, 1, 1, 1], [0, 1, 2, 2, 2, 2], [0, 1, 2, 3, 3, 3], [0, 1, 2, 3, 4, 4], [0, 1, 2, 3, 4, 5]]),
  ([63, 62, 60, 56, 48, 32], [[0, 0, 0, 0, 0, 0], [0, 1, 1, 1, 1, 1], [0, 1, 1, 2, 2, 2], [0, 1, 2, 3, 3, 3], [0, 1, 2, 3, 4, 4], [0, 1, 2, 3, 4, 5]]),
  ([63, 62, 60, 56, 48, 32], [[0, 0, 0, 0, 0, 0], [0, 1, 1, 1, 1, 1], [0, 1, 2, 2, 2, 2], [0, 1, 2, 2, 2, 3], [0, 1, 2, 2, 3, 4], [0, 1, 2, 3, 4, 5]]),
  ([63, 62, 60, 56, 48, 32], [[0, 0, 0, 0, 0, 0], [0, 0, 0, 1, 1, 1], [0, 0, 0, 2, 2, 2], [0, 1, 2, 3, 3, 3], [0, 1, 2, 3, 3, 4], [0, 1, 2, 3, 4, 5]]),
  ([63, 62, 60, 56, 48, 32], [[0, 0, 0, 0, 0, 0], [0, 0, 0, 0, 1, 1], [0, 0, 0, 1, 2, 2], [0, 0, 1, 1, 3, 3], [0, 1, 2, 3, 4, 4], [0, 1, 2, 3, 4, 5]])]
theorem goods_sum : ∀ n ∈ [1, 2, 3, 4, 5, 6], (chainTo n n, tabL (sumP n) n) ∈ goods.take 45 := by decide +kernel
theorem goods_meet : ∀ n ∈ [1, 2, 3, 4, 5, 6], (chainTo n n, tabL (mt (chainTo n n)) n) ∈ goods.take 45 := by decide +kernel
theorem goods_chains : ∀ n ∈ [1, 2, 3, 4, 5], ∀ T ∈ chT n, (chainTo n n, T) ∈ goods.take 45 := by decide +kernel
theorem goods_ch_ne : ∀ n ∈ [1, 2, 3, 4, 5], (chT n).isEmpty = false := by decide +kernel
theorem goods_stack : ∀ n ∈ [3, 4, 5, 6], ∀ k ∈ [2, 3, 4, 5], k < n → (upL (stG (chainTo k k) (chainTo (n - k + 1) (n - k + 1)) (k - 1)) n, tabL (stP (tabL (sumP k) k) (tabL (sumP (n - k + 1)) (n - k + 1)) (k - 1)) n) ∈ goods.take 45 := by decide +kernel
theorem goods_mc : ∀ k ∈ [2, 3], (upL (crossG (chainTo 2 2) (chainTo k k)) (2 * k), tabL (mt (upL (crossG (chainTo 2 2) (chainTo k k)) (2 * k))) (2 * k)) ∈ goods.take 45 := by decide +kernel
theorem goods_cross : ∀ p ∈ goods.take 45, ∀ q ∈ goods.take 45, p.1.length ≤ 3 → q.1.length ≤ 2 → (upL (crossG p.1 q.1) ((p.1.length : Int) * q.1.length), tabL (caP p.2 q.2 q.1.length) ((p.1.length : Int) * q.1.length)) ∈ goods.take 45 := by decide +kernel
def sqA : List Int × List (List Int) := ([15, 10, 12, 8], [[0, 0, 0, 0], [0, 1, 0, 1], [0, 0, 2, 2], [0, 1, 2, 3]])
theorem goods_sq : (upL (crossG (chainTo 2 2) (chainTo 2 2)) 4, tabL (mt (upL (crossG (chainTo 2 2) (chainTo 2 2)) 4)) 4) = sqA := by decide +kernel
theorem goods_st : ∀ q ∈ goods.take 45, q.1.length ≤ 3 → (upL (stG sqA.1 q.1 3) (3 + q.1.length), tabL (stP sqA.2 q.2 3) (3 + q.1.length)) ∈ goods.take 45 := by decide +kernel
theorem goods_a0 : (goods.take 12).all (fun p => algB p.1 p.2) = true := by decide +kernel
theorem goods_a1 : ((goods.drop 12).take 13).all (fun p => algB p.1 p.2) = true := by decide +kernel
theorem goods_a2 : ((goods.drop 25).take 13).all (fun p => algB p.1 p.2) = true := by decide +kernel
theorem goods_a3 : (goods.drop 38).all (fun p => algB p.1 p.2) = true := by decide +kernel
theorem goods_alg {p : List Int × List (List Int)} (h : p ∈ goods) : algB p.1 p.2 = true := by
  have e : goods = goods.take 12 ++ ((goods.drop 12).take 13 ++ ((goods.drop 25).take 13 ++ goods.drop 38)) := by rfl
  rw [e, List.mem_append, List.mem_append, List.mem_append] at h
  rcases h with h | h | h | h
  · exact List.all_eq_true.1 goods_a0 p h
  · exact List.all_eq_true.1 goods_a1 p h
  · exact List.all_eq_true.1 goods_a2 p h
  · exact List.all_eq_true.1 goods_a3 p h
/-- an algebra that the draws make, before it is bent -/
def Gd (L : List Int) (T : List (List Int)) : Prop := (L, T) ∈ goods.take 45
theorem Gd.mem {L : List Int} {T : List (List Int)} (h : Gd L T) : (L, T) ∈ goods := List.mem_of_mem_take h
theorem Gd.alg {L : List Int} {T : List (List Int)} (h : Gd L T) : algB L T = true := goods_alg h.mem
theorem gd_sum {n : Int} (n1 : 1 ≤ n) (n6 : n ≤ 6) : Gd (chainTo n n) (tabL (sumP n) n) := goods_sum n (by simp; omega)
theorem gd_meet {n : Int} (n1 : 1 ≤ n) (n6 : n ≤ 6) : Gd (chainTo n n) (tabL (mt (chainTo n n)) n) := goods_meet n (by simp; omega)
theorem gd_chains {n : Nat} (n1 : 1 ≤ n) (n5 : n ≤ 5) {T : List (List Int)} (h : T ∈ chT n) : Gd (chainTo n n) T := goods_chains n (by simp; omega) T h
theorem gd_ch_ne {n : Nat} (n1 : 1 ≤ n) (n5 : n ≤ 5) : 1 ≤ (chT n).length := by
  have := goods_ch_ne n (by simp; omega)
  rw [List.isEmpty_eq_false_iff] at this
  exact List.length_pos_iff.2 this
theorem gd_stack {n k : Int} (k2 : 2 ≤ k) (kn : k < n) (n6 : n ≤ 6) : Gd (upL (stG (chainTo k k) (chainTo (n - k + 1) (n - k + 1)) (((chainTo k k).length : Int) - 1)) (((chainTo k k).length : Int) - 1 + (chainTo (n - k + 1) (n - k + 1)).length)) (tabL (stP (tabL (sumP k) k) (tabL (sumP (n - k + 1)) (n - k + 1)) (((chainTo k k).length : Int) - 1)) (((chainTo k k).length : Int) - 1 + (chainTo (n - k + 1) (n - k + 1)).length)) := by
  have h1 := chainTo_len k k (by omega)
  have h2 := chainTo_len (n - k + 1) (n - k + 1) (by omega)
  have e1 : (((chainTo k k).length : Int) - 1) = k - 1 := by omega
  have e2 : (((chainTo k k).length : Int) - 1 + (chainTo (n - k + 1) (n - k + 1)).length) = n := by omega
  rw [e2, e1]
  exact goods_stack n (by simp; omega) k (by simp; omega) kn
theorem gd_mc {k : Int} (k2 : 2 ≤ k) (k3 : k ≤ 3) : Gd (upL (crossG (chainTo 2 2) (chainTo k k)) (2 * k)) (tabL (mt (upL (crossG (chainTo 2 2) (chainTo k k)) (2 * k))) (2 * k)) := goods_mc k (by simp; omega)
/-- the ways to bend an algebra -/
def bents (L : List Int) (T : List (List Int)) : List (List Int × List (List Int)) :=
  (L ++ [64], T) :: (L, T.tail) :: (List.range L.length).flatMap fun k =>
    (L, T.set k (rowAt T k).tail) :: [0, 3, -1].map (fun v => (L.set k v, T)) ++ (List.range L.length).flatMap fun j => [0, 1, -1, 6].map fun v => (L, setT T k j v)
theorem gd_len {L : List Int} {T : List (List Int)} (h : Gd L T) : 1 ≤ L.length ∧ L.length ≤ 6 ∧ T.length = L.length ∧ ∀ j : Nat, j < T.length → (rowAt T j).length = L.length := by
  have ha := h.alg
  obtain ⟨h1, h6⟩ := lat_len (alg_lat ha)
  have hs := alg_shape ha
  have h1' : (1 : Int) ≤ L.length := h1
  have h6' : (L.length : Int) ≤ 6 := h6
  have ht : (T.length : Int) = L.length := shape_len hs
  refine ⟨by omega, by omega, by omega, fun j hj => ?_⟩
  have : ((rowAt T j).length : Int) = L.length := shape_row hs (x := (j : Int)) (by omega) (by show (j : Int) < L.length; omega)
  omega
end Go.Proofs.YtpophjloedpcfaaGreatDoor

namespace Go.Proofs.YtpophjloedpcfaaGreatDoor
open Go.RowKit

/-- an algebra of the call's own is drawn -/
def RetA (C g : Nat) (m : Int) (P : List Int → List (List Int) → Prop) (w : World) (e : Ending) (w' : World) : Prop :=
  ∃ L T a ca b cb, e = .returned (.agg #[.slice a L.length ca, .slice b T.length cb]) ∧ P L T ∧ Own w.heap.size w' (.slice a L.length ca) L ∧ RowsAt w.heap.size w' (.slice b T.length cb) T ∧ w.grownBy w' (some g) ∧ Rdr w' C g m
theorem grown_setRow {w w' : World} {g G : Nat} (h : w.grownBy w' (some g)) (hG : w.heap.size ≤ G) (cs : Array Value) : w.grownBy (w'.setRow G cs) (some g) :=
  ⟨h.os, h.tape, h.output, by have := h.size; simpa [World.setRow] using this, fun k hk hne => (setRow_other w' G k cs (by omega)).trans (h.block k hk hne)⟩
theorem Rdr.setRow {w : World} {C g G : Nat} {m : Int} (h : Rdr w C g m) (hG : g < G) (cs : Array Value) : Rdr (w.setRow G cs) C g m :=
  h.keep (below_setRow' (Below.refl C w) (by have := h.low; omega) cs) (setRow_other w G g cs (by omega))
theorem retA_end {C g : Nat} {m m' : Int} {P : List Int → List (List Int) → Prop} {w w1 wk : World} {L : List Int} {T : List (List Int)} {a b : Option Addr} {ca cb : Nat} (hz : wk.heap[w.heap.size]? = some (.cells #[.slice none 0 0, .slice none 0 0] 26 (0, 0))) (hP : P L T)
    (ho : Own w1.heap.size wk (.slice a L.length ca) L) (hT : RowsAt w1.heap.size wk (.slice b T.length cb) T) (h1 : w.heap.size ≤ w1.heap.size) (hg : w.grownBy wk (some g)) (hr : Rdr wk C g m') (hm : m' ≤ m) (gl : g < w.heap.size) :
    RetA C g m P w (.returned (.agg #[.slice a L.length ca, .slice b T.length cb])) (wk.setRow w.heap.size #[.slice a L.length ca, .slice b T.length cb]) := by
  have hk := fun k hk => setRow_other wk w.heap.size k #[.slice a L.length ca, .slice b T.length cb] hk
  exact ⟨L, T, a, ca, b, cb, rfl, hP, ownsRow_other (ownsRow_from ho h1) hz (by decide) hk, RowsAt.other (RowsAt.from hT h1) hz (by decide) (by decide) hk, grown_setRow hg (Nat.le_refl _) _, (hr.setRow gl _).more hm⟩
theorem drawn_zero {w : World} {g : Nat} (gl : g < w.heap.size) : ∃ w1, w1 = w.alloc (.cells #[.slice none 0 0, .slice none 0 0] 26) ∧ w.grownBy w1 (some g) ∧ w.heap.size ≤ w1.heap.size ∧ (∀ C m, Rdr w C g m → Rdr w1 C g m) ∧ Hid (∀ wz, w1.grownBy wz (some g) → wz.heap[w.heap.size]? = some (.cells #[.slice none 0 0, .slice none 0 0] 26 (0, 0))) := by
  refine ⟨_, rfl, grown_alloc (grown_refl w _) _, by simp, fun C m h => h.alloc _, Lib.hid fun wz h => ?_⟩
  have hz := heap_alloc_new w (.cells #[.slice none 0 0, .slice none 0 0] 26)
  exact (h.block _ (lt_of_block hz) (fun e => by injection e with e; omega)).trans hz
set_option maxRecDepth 100000 in
set_option maxHeartbeats 4000000 in
/-- spec.algebraOf -/
theorem algebraOf_any (C g : Nat) (m most : Int) (w : World) (hr : Rdr w C g m) (m1 : m ≤ 90000) (o2 : 2 ≤ most) (o6 : most ≤ 6) :
    Calls Tryz.prog 44 #[.pointer (some ⟨g, 0, none⟩), .int .i64 most] w (RetA C g (m + 3) (fun L T => Gd L T ∧ (L.length : Int) ≤ most) w) := by
  have gl := hr.lt
  obtain ⟨w1, hw1, hg1, hs1, hR1, KZ⟩ := drawn_zero gl
  have hr1 := hR1 _ _ hr
  clear hR1 hr
  go_enter Tryz.func44, Tryz.ntmps44
  go_wp2_with (rw [← hw1]; clear hw1)
  refine (pick_any C g m most w1 hr1 (by omega) (by omega) (by omega)).mono ?_
  rintro e w2 ⟨k, rfl, k0, k1, hg2, hr2⟩
  go_wp2_with fail
  refine (pick_any C g (m + 1) 6 w2 hr2 (by omega) (by omega) (by omega)).mono ?_
  rintro e w3 ⟨j, rfl, j0, j1, hg3', hr3⟩
  have hg3 := grown_trans hg2 hg3'
  have s3 := hg3.size
  clear hg2 hg3' hr2 hr1
  obtain ⟨n, hn⟩ : ∃ n, n = 1 + k := ⟨_, rfl⟩
  have n1 : 1 ≤ n := by omega
  have n6 : n ≤ most := by omega
  rw [← hn]
  clear hn k0 k1
  by_cases e0 : j = 0
  · subst e0
    have hP := gd_sum n1 (show n ≤ 6 by omega)
    have hl := chainTo_len n n (by omega)
    have HC := Lib.hid (specSum_any n w3 n1 (by omega))
    obtain ⟨L, hL⟩ : ∃ L, L = chainTo n n := ⟨_, rfl⟩
    obtain ⟨T, hT⟩ : ∃ T, T = tabL (sumP n) n := ⟨_, rfl⟩
    rw [← hL, ← hT] at hP HC
    rw [← hL] at hl
    clear hL hT
    have HP := Lib.hid (show Gd L T ∧ (L.length : Int) ≤ most from ⟨hP, by omega⟩)
    clear hP hl
    go_wp2_with fail
    refine HC.out.mono ?_
    rintro e w4 ⟨a, ca, b, cb, rfl, ho, hT, hb⟩
    have hg4 := grown_new hg3 hb
    have hz := KZ.out _ hg4
    go_wp2_with (refine wpList_store_row rfl 26 _ _ rfl w.heap.size #[.slice a L.length ca, .slice b T.length cb] rfl rfl _ _ hz (size_Alg _ _) rfl (one_sl2 _ _ _ _ _ _) ?_)
    refine bodyPost_ret (results_cell_row rfl _ _ w.heap.size _ _ _ _ rfl (setRow_heap _ _ _ _ _ _ hz) Tryz.underlying26 rfl (size_Alg _ _)) rfl ?_
    exact retA_end hz HP.out ho hT (Nat.le_trans hs1 s3) (grown_trans hg1 hg4) (hr3.below hb) (by omega) gl
  · have f0 : (j == 0) = false := by rw [beq_eq_false_iff_ne]; exact e0
    by_cases e1 : j = 1
    · subst e1
      have hP := gd_meet n1 (show n ≤ 6 by omega)
      have hl := chainTo_len n n (by omega)
      have hla := chain_lat n1 (show n ≤ 6 by omega)
      have HC := Lib.hid (chain_any n w3 (by omega) (by omega))
      obtain ⟨L, hL⟩ : ∃ L, L = chainTo n n := ⟨_, rfl⟩
      rw [← hL] at hP HC hl hla
      clear hL
      have e9 : tabL (mt L) (L.length : Int) = tabL (mt L) n := by rw [hl]
      have HM := Lib.hid (show ∀ (a : Option Addr) (ca : Nat) (w : World), Rd w a L → Calls Tryz.prog 78 #[.slice a L.length ca] w (RetRd L (tabL (mt L) n) w) from fun a ca w h => by have := specMeetA_any a ca L w h hla; rwa [e9] at this)
      obtain ⟨T, hT⟩ : ∃ T, T = tabL (mt L) n := ⟨_, rfl⟩
      rw [← hT] at hP HM
      clear hT e9 hla
      have HP := Lib.hid (show Gd L T ∧ (L.length : Int) ≤ most from ⟨hP, by omega⟩)
      clear hP hl
      go_wp2_with fail
      refine HC.out.mono ?_
      rintro e w4 ⟨v, rfl, hv, hb⟩
      obtain ⟨va, vc, rfl, _⟩ := hv.slice
      go_wp2_with fail
      refine (HM.out _ _ _ hv.rd).mono ?_
      rintro e w5 ⟨a, ca, b, cb, rfl, ho, hT, hb5⟩
      have hg4 := grown_new (grown_new hg3 hb) hb5
      have hz := KZ.out _ hg4
      go_wp2_with (refine wpList_store_row rfl 26 _ _ rfl w.heap.size #[.slice a L.length ca, .slice b T.length cb] rfl rfl _ _ hz (size_Alg _ _) rfl (one_sl2 _ _ _ _ _ _) ?_)
      refine bodyPost_ret (results_cell_row rfl _ _ w.heap.size _ _ _ _ rfl (setRow_heap _ _ _ _ _ _ hz) Tryz.underlying26 rfl (size_Alg _ _)) rfl ?_
      exact retA_end hz HP.out ho hT (Nat.le_trans hs1 (Nat.le_trans s3 hb.size)) (grown_trans hg1 hg4) ((hr3.below hb).below hb5) (by omega) gl
    · have f1 : (j == 1) = false := by rw [beq_eq_false_iff_ne]; exact e1
      by_cases e2 : j = 2
      · subst e2
        by_cases hn2 : n > 2
        · go_wp2_with fail
          refine (pick_any C g (m + 1 + 1) (n - 2) w3 hr3 (by omega) (by omega) (by omega)).mono ?_
          rintro e w4 ⟨q, rfl, q0, q1, hg4', hr4⟩
          have hg4 := grown_trans hg3 hg4'
          have s4 := hg4'.size
          go_wp2_with fail
          obtain ⟨k, hk⟩ : ∃ k, k = 2 + q := ⟨_, rfl⟩
          have k2 : 2 ≤ k := by omega
          have kn : k < n := by omega
          rw [← hk]
          clear hk q0 q1
          have hP := gd_stack k2 kn (show n ≤ 6 by omega)
          have a1 := (gd_sum (n := k) (by omega) (by omega)).alg
          have a2 := (gd_sum (n := n - k + 1) (by omega) (by omega)).alg
          have l1 := chainTo_len k k (by omega)
          have l2 := chainTo_len (n - k + 1) (n - k + 1) (by omega)
          have HC1 := Lib.hid (specSum_any k w4 (by omega) (by omega))
          have HC2 := Lib.hid (fun w => specSum_any (n - k + 1) w (by omega) (by omega))
          obtain ⟨A, hA⟩ : ∃ L, L = chainTo k k := ⟨_, rfl⟩
          obtain ⟨R, hR⟩ : ∃ T, T = tabL (sumP k) k := ⟨_, rfl⟩
          obtain ⟨D, hD⟩ : ∃ L, L = chainTo (n - k + 1) (n - k + 1) := ⟨_, rfl⟩
          obtain ⟨S, hS⟩ : ∃ T, T = tabL (sumP (n - k + 1)) (n - k + 1) := ⟨_, rfl⟩
          rw [← hA, ← hR, ← hD, ← hS] at hP
          rw [← hA, ← hR] at HC1 a1
          rw [← hD, ← hS] at HC2 a2
          rw [← hA] at l1
          rw [← hD] at l2
          clear hA hR hD hS
          have h6 : (A.length : Int) - 1 + D.length ≤ 6 := by omega
          have hlen : ((upL (stG A D ((A.length : Int) - 1)) ((A.length : Int) - 1 + D.length)).length : Int) ≤ most := by rw [stU_len]; omega
          have HX := Lib.hid (fun a b ca cb a2' b2 ca2 cb2 w h1 h2 h3 h4 => specStackS_any a b ca cb A R a2' b2 ca2 cb2 D S w h1 h2 h3 h4 a1 a2 h6)
          obtain ⟨L, hL⟩ : ∃ L, L = upL (stG A D ((A.length : Int) - 1)) ((A.length : Int) - 1 + D.length) := ⟨_, rfl⟩
          obtain ⟨T, hT⟩ : ∃ T, T = tabL (stP R S ((A.length : Int) - 1)) ((A.length : Int) - 1 + D.length) := ⟨_, rfl⟩
          rw [← hL, ← hT] at hP HX
          rw [← hL] at hlen
          have HP := Lib.hid (show Gd L T ∧ (L.length : Int) ≤ most from ⟨hP, hlen⟩)
          clear hL hT hP hlen l1 l2 a1 a2 h6
          refine HC1.out.mono ?_
          rintro e w5 ⟨xa, xca, xb, xcb, rfl, xo, xT, hb5⟩
          go_wp2_with fail
          refine (HC2.out _).mono ?_
          rintro e w6 ⟨ya, yca, yb, ycb, rfl, yo, yT, hb6⟩
          obtain ⟨_, _, xe, xt⟩ := (xT.below hb6).rd
          obtain ⟨_, _, ye, yt⟩ := yT.rd
          injection xe with xe
          injection ye with ye
          subst xe
          subst ye
          go_wp2_with fail
          refine (HX.out _ _ _ _ _ _ _ _ _ (xo.below hb6).rd xt yo.rd yt).mono ?_
          rintro e w7 ⟨a, ca, b, cb, rfl, ho, hT, hb⟩
          have hg7 := grown_new (grown_new (grown_new hg4 hb5) hb6) hb
          have hz := KZ.out _ hg7
          go_wp2_with (refine wpList_store_row rfl 26 _ _ rfl w.heap.size #[.slice a L.length ca, .slice b T.length cb] rfl rfl _ _ hz (size_Alg _ _) rfl (one_sl2 _ _ _ _ _ _) ?_)
          refine bodyPost_ret (results_cell_row rfl _ _ w.heap.size _ _ _ _ rfl (setRow_heap _ _ _ _ _ _ hz) Tryz.underlying26 rfl (size_Alg _ _)) rfl ?_
          exact retA_end hz HP.out ho hT (Nat.le_trans hs1 (Nat.le_trans s3 (Nat.le_trans s4 (Nat.le_trans hb5.size hb6.size)))) (grown_trans hg1 hg7) (((hr4.below hb5).below hb6).below hb) (by omega) gl
        · have hn2' : ¬ n > 2 := hn2
          obtain ⟨c, rfl⟩ : ∃ c : Nat, n = c := ⟨n.toNat, by omega⟩
          have hmin : min (c : Int) 5 = c := by omega
          have HC := Lib.hid (show Calls Tryz.prog 85 #[.int .i64 (c : Int)] w3 (RetAlgs (chainTo (c : Int) (c : Int)) (chT c) w3) from chains_any c (by omega) (by omega) w3)
          have hne := gd_ch_ne (n := c) (by omega) (by omega)
          have hbd := chT_len (n := c) (by omega) (by omega)
          have hmem : ∀ T, T ∈ chT c → Gd (chainTo (c : Int) (c : Int)) T := fun T h => gd_chains (n := c) (T := T) (by omega) (by omega) h
          have hl : ((chainTo (c : Int) (c : Int)).length : Int) = (c : Int) := chainTo_len (c : Int) (c : Int) (by omega)
          obtain ⟨U, hU⟩ : ∃ U, U = chT c := ⟨_, rfl⟩
          obtain ⟨L, hL⟩ : ∃ L, L = chainTo (c : Int) (c : Int) := ⟨_, rfl⟩
          rw [← hU, ← hL] at HC
          rw [← hU] at hne hbd hmem
          rw [← hL] at hmem hl
          clear hU hL
          have HM := Lib.hid hmem
          have hlm : (L.length : Int) ≤ most := by omega
          clear hmem hl
          have u1 : (1 : Int) ≤ U.length := by omega
          have u2 : (U.length : Int) ≤ 1073741824 := by omega
          go_wp2_with fail
          refine HC.out.mono ?_
          rintro e w4 ⟨G, gc, rfl, hA, hb⟩
          have hr4 := hr3.below hb
          have hg4 := grown_new hg3 hb
          go_wp2_with fail
          refine (pick_any C g (m + 1 + 1) U.length w4 hr4 (by omega) u1 u2).mono ?_
          rintro e w5 ⟨i, rfl, i0, i1, hg5, hr5⟩
          obtain ⟨a, ca, b, cb, hc0, ho, hT⟩ := (hA.drawn hr4 hg5).at i0 i1
          have HP := Lib.hid (show Gd L (tabAt U i.toNat) ∧ (L.length : Int) ≤ most from ⟨HM.out _ (tabAt_mem (by omega)), hlm⟩)
          obtain ⟨T, hTe⟩ : ∃ T, T = tabAt U i.toNat := ⟨_, rfl⟩
          rw [← hTe] at hc0 hT HP
          clear hTe
          have hg6 := grown_trans hg4 hg5
          have hz := KZ.out _ hg6
          go_wp2_with (first
            | (refine wpList_load_mid_w rfl 26 _ rfl G (i.toNat * 2) rfl #[.slice a L.length ca, .slice b T.length cb] _ hc0 Tryz.underlying26 rfl (size_Alg _ _) ?_)
            | (refine wpList_store_row rfl 26 _ _ rfl w.heap.size #[.slice a L.length ca, .slice b T.length cb] rfl rfl _ _ hz (size_Alg _ _) rfl (one_sl2 _ _ _ _ _ _) ?_))
          refine bodyPost_ret (results_cell_row rfl _ _ w.heap.size _ _ _ _ rfl (setRow_heap _ _ _ _ _ _ hz) Tryz.underlying26 rfl (size_Alg _ _)) rfl ?_
          exact retA_end hz HP.out ho hT (Nat.le_trans hs1 s3) (grown_trans hg1 hg6) hr5 (by omega) gl
      · have f2 : (j == 2) = false := by rw [beq_eq_false_iff_ne]; exact e2
        by_cases e3 : j = 3
        · subst e3
          by_cases hm4 : most ≥ 4
          · have hd : most.tdiv 2 = most / 2 := Int.tdiv_eq_ediv_of_nonneg (by omega)
            have hmin : min (most / 2 - 1) 2 = most / 2 - 1 := by omega
            have HC1 := Lib.hid (chain_any 2 w3 (by omega) (by omega))
            go_wp2_with fail
            refine HC1.out.mono ?_
            rintro e w4 ⟨v, rfl, hv, hb4⟩
            have hr4 := hr3.below hb4
            go_wp2_with fail
            refine (pick_any C g (m + 1 + 1) (most / 2 - 1) w4 hr4 (by omega) (by omega) (by omega)).mono ?_
            rintro e w5 ⟨q, rfl, q0, q1, hg5, hr5⟩
            have hv5 := hv.drawn hr4 hg5
            go_wp2_with fail
            obtain ⟨k, hk⟩ : ∃ k, k = 2 + q := ⟨_, rfl⟩
            have k2 : 2 ≤ k := by omega
            have k3 : k ≤ 3 := by omega
            have km : 2 * k ≤ most := by omega
            rw [← hk]
            clear hk q0 q1
            refine (chain_any k w5 (by omega) (by omega)).mono ?_
            rintro e w6 ⟨u, rfl, hu, hb6⟩
            have hv6 := hv5.below hb6
            have hl2 : (chainTo 2 2).length = 2 := rfl
            have hlk := chainTo_len k k (by omega)
            have hP := gd_mc k2 k3
            have la : latB (chainTo 2 2) = true := chain_lat (by omega) (by omega)
            have lb : latB (chainTo k k) = true := chain_lat (by omega) (by omega)
            obtain ⟨A, hA⟩ : ∃ A, A = chainTo 2 2 := ⟨_, rfl⟩
            obtain ⟨D, hD⟩ : ∃ D, D = chainTo k k := ⟨_, rfl⟩
            rw [← hA] at hv6 hl2 la
            rw [← hD] at hu hlk lb
            rw [← hA, ← hD] at hP
            obtain ⟨ga, ca', rfl, _, _⟩ := hv6.shape.resolve_left (fun h => by have := h.2; rw [this] at hl2; cases hl2)
            obtain ⟨gb, cb', rfl, _, _⟩ := hu.shape.resolve_left (fun h => by have := h.2; rw [this] at hlk; simp at hlk; omega)
            obtain ⟨a1, a6, az⟩ := latB_parts la
            obtain ⟨b1, b6, bz⟩ := latB_parts lb
            obtain ⟨xb, xo, hx, hca⟩ := hv6.rd.pos a1
            obtain ⟨yb, yo, hy, hcb⟩ := hu.rd.pos b1
            injection hx with hx
            injection hy with hy
            injection hx with hx1 hx2
            injection hy with hy1 hy2
            subst hx1; subst hx2; subst hy1; subst hy2
            have e2k : ((A.length : Int) * D.length) = 2 * k := by rw [hl2, hlk]; rfl
            have h6 : (A.length : Int) * D.length ≤ 6 := by omega
            have hul : ((upL (crossG A D) (2 * k)).length : Int) = 2 * k := by rw [stU_len]; omega
            have HX := Lib.hid (show Calls Tryz.prog 79 #[.slice (some ⟨ga, 0, none⟩) A.length ca', .slice (some ⟨gb, 0, none⟩) D.length cb'] w6 (RetOwn w6.heap.size (upL (crossG A D) (2 * k)) w6) from by have := cross_any ga 0 gb 0 ca' cb' A D w6 hca hcb az bz a1 a6 b1 b6 h6; rwa [e2k] at this)
            obtain ⟨L, hL⟩ : ∃ L, L = upL (crossG A D) (2 * k) := ⟨_, rfl⟩
            have hlL : latB L = true := by rw [hL]; exact alg_lat (show Gd _ _ from hP).alg
            rw [← hL] at hP hul HX
            have e9 : tabL (mt L) (L.length : Int) = tabL (mt L) (2 * k) := by rw [hul]
            have HM := Lib.hid (show ∀ (a : Option Addr) (ca : Nat) (w : World), Rd w a L → Calls Tryz.prog 78 #[.slice a L.length ca] w (RetRd L (tabL (mt L) (2 * k)) w) from fun a ca w h => by have := specMeetA_any a ca L w h hlL; rwa [e9] at this)
            obtain ⟨T, hT⟩ : ∃ T, T = tabL (mt L) (2 * k) := ⟨_, rfl⟩
            rw [← hT] at hP HM
            have HP := Lib.hid (show Gd L T ∧ (L.length : Int) ≤ most from ⟨hP, by omega⟩)
            clear hL hT hA hD e9 hlL hul e2k h6 hP hl2 hlk la lb a1 a6 az b1 b6 bz hca hcb
            go_wp2_with fail
            refine HX.out.mono ?_
            rintro e w7 ⟨z, rfl, hz7, hb7⟩
            obtain ⟨za, zc, rfl, _⟩ := hz7.slice
            go_wp2_with fail
            refine (HM.out _ _ _ hz7.rd).mono ?_
            rintro e w8 ⟨a, ca, b, cb, rfl, ho, hT, hb8⟩
            have hg8 := grown_new (grown_new (grown_new (grown_trans (grown_new hg3 hb4) hg5) hb6) hb7) hb8
            have hz := KZ.out _ hg8
            go_wp2_with (refine wpList_store_row rfl 26 _ _ rfl w.heap.size #[.slice a L.length ca, .slice b T.length cb] rfl rfl _ _ hz (size_Alg _ _) rfl (one_sl2 _ _ _ _ _ _) ?_)
            refine bodyPost_ret (results_cell_row rfl _ _ w.heap.size _ _ _ _ rfl (setRow_heap _ _ _ _ _ _ hz) Tryz.underlying26 rfl (size_Alg _ _)) rfl ?_
            exact retA_end hz HP.out ho hT (by have := hb4.size; have := hg5.size; have := hb6.size; have := hb7.size; omega) (grown_trans hg1 hg8) (((hr5.below hb6).below hb7).below hb8) (by omega) gl
          · have hm4' : ¬ most ≥ 4 := hm4
            obtain ⟨c, rfl⟩ : ∃ c : Nat, n = c := ⟨n.toNat, by omega⟩
            have hmin : min (c : Int) 5 = c := by omega
            have HC := Lib.hid (show Calls Tryz.prog 85 #[.int .i64 (c : Int)] w3 (RetAlgs (chainTo (c : Int) (c : Int)) (chT c) w3) from chains_any c (by omega) (by omega) w3)
            have hne := gd_ch_ne (n := c) (by omega) (by omega)
            have hbd := chT_len (n := c) (by omega) (by omega)
            have hmem : ∀ T, T ∈ chT c → Gd (chainTo (c : Int) (c : Int)) T := fun T h => gd_chains (n := c) (T := T) (by omega) (by omega) h
            have hl : ((chainTo (c : Int) (c : Int)).length : Int) = (c : Int) := chainTo_len (c : Int) (c : Int) (by omega)
            obtain ⟨U, hU⟩ : ∃ U, U = chT c := ⟨_, rfl⟩
            obtain ⟨L, hL⟩ : ∃ L, L = chainTo (c : Int) (c : Int) := ⟨_, rfl⟩
            rw [← hU, ← hL] at HC
            rw [← hU] at hne hbd hmem
            rw [← hL] at hmem hl
            clear hU hL
            have HM := Lib.hid hmem
            have hlm : (L.length : Int) ≤ most := by omega
            clear hmem hl
            have u1 : (1 : Int) ≤ U.length := by omega
            have u2 : (U.length : Int) ≤ 1073741824 := by omega
            go_wp2_with fail
            refine HC.out.mono ?_
            rintro e w4 ⟨G, gc, rfl, hA, hb⟩
            have hr4 := hr3.below hb
            have hg4 := grown_new hg3 hb
            go_wp2_with fail
            refine (pick_any C g (m + 1 + 1) U.length w4 hr4 (by omega) u1 u2).mono ?_
            rintro e w5 ⟨i, rfl, i0, i1, hg5, hr5⟩
            obtain ⟨a, ca, b, cb, hc0, ho, hT⟩ := (hA.drawn hr4 hg5).at i0 i1
            have HP := Lib.hid (show Gd L (tabAt U i.toNat) ∧ (L.length : Int) ≤ most from ⟨HM.out _ (tabAt_mem (by omega)), hlm⟩)
            obtain ⟨T, hTe⟩ : ∃ T, T = tabAt U i.toNat := ⟨_, rfl⟩
            rw [← hTe] at hc0 hT HP
            clear hTe
            have hg6 := grown_trans hg4 hg5
            have hz := KZ.out _ hg6
            go_wp2_with (first
              | (refine wpList_load_mid_w rfl 26 _ rfl G (i.toNat * 2) rfl #[.slice a L.length ca, .slice b T.length cb] _ hc0 Tryz.underlying26 rfl (size_Alg _ _) ?_)
              | (refine wpList_store_row rfl 26 _ _ rfl w.heap.size #[.slice a L.length ca, .slice b T.length cb] rfl rfl _ _ hz (size_Alg _ _) rfl (one_sl2 _ _ _ _ _ _) ?_))
            refine bodyPost_ret (results_cell_row rfl _ _ w.heap.size _ _ _ _ rfl (setRow_heap _ _ _ _ _ _ hz) Tryz.underlying26 rfl (size_Alg _ _)) rfl ?_
            exact retA_end hz HP.out ho hT (Nat.le_trans hs1 s3) (grown_trans hg1 hg6) hr5 (by omega) gl
        · have f3 : (j == 3) = false := by rw [beq_eq_false_iff_ne]; exact e3
          by_cases n5 : n ≤ 5
          · obtain ⟨c, rfl⟩ : ∃ c : Nat, n = c := ⟨n.toNat, by omega⟩
            have hmin : min (c : Int) 5 = c := by omega
            have HC := Lib.hid (show Calls Tryz.prog 85 #[.int .i64 (c : Int)] w3 (RetAlgs (chainTo (c : Int) (c : Int)) (chT c) w3) from chains_any c (by omega) (by omega) w3)
            have hne := gd_ch_ne (n := c) (by omega) (by omega)
            have hbd := chT_len (n := c) (by omega) (by omega)
            have hmem : ∀ T, T ∈ chT c → Gd (chainTo (c : Int) (c : Int)) T := fun T h => gd_chains (n := c) (T := T) (by omega) (by omega) h
            have hl : ((chainTo (c : Int) (c : Int)).length : Int) = (c : Int) := chainTo_len (c : Int) (c : Int) (by omega)
            obtain ⟨U, hU⟩ : ∃ U, U = chT c := ⟨_, rfl⟩
            obtain ⟨L, hL⟩ : ∃ L, L = chainTo (c : Int) (c : Int) := ⟨_, rfl⟩
            rw [← hU, ← hL] at HC
            rw [← hU] at hne hbd hmem
            rw [← hL] at hmem hl
            clear hU hL
            have HM := Lib.hid hmem
            have hlm : (L.length : Int) ≤ most := by omega
            clear hmem hl
            have u1 : (1 : Int) ≤ U.length := by omega
            have u2 : (U.length : Int) ≤ 1073741824 := by omega
            go_wp2_with fail
            refine HC.out.mono ?_
            rintro e w4 ⟨G, gc, rfl, hA, hb⟩
            have hr4 := hr3.below hb
            have hg4 := grown_new hg3 hb
            go_wp2_with fail
            refine (pick_any C g (m + 1 + 1) U.length w4 hr4 (by omega) u1 u2).mono ?_
            rintro e w5 ⟨i, rfl, i0, i1, hg5, hr5⟩
            obtain ⟨a, ca, b, cb, hc0, ho, hT⟩ := (hA.drawn hr4 hg5).at i0 i1
            have HP := Lib.hid (show Gd L (tabAt U i.toNat) ∧ (L.length : Int) ≤ most from ⟨HM.out _ (tabAt_mem (by omega)), hlm⟩)
            obtain ⟨T, hTe⟩ : ∃ T, T = tabAt U i.toNat := ⟨_, rfl⟩
            rw [← hTe] at hc0 hT HP
            clear hTe
            have hg6 := grown_trans hg4 hg5
            have hz := KZ.out _ hg6
            go_wp2_with (first
              | (refine wpList_load_mid_w rfl 26 _ rfl G (i.toNat * 2) rfl #[.slice a L.length ca, .slice b T.length cb] _ hc0 Tryz.underlying26 rfl (size_Alg _ _) ?_)
              | (refine wpList_store_row rfl 26 _ _ rfl w.heap.size #[.slice a L.length ca, .slice b T.length cb] rfl rfl _ _ hz (size_Alg _ _) rfl (one_sl2 _ _ _ _ _ _) ?_))
            refine bodyPost_ret (results_cell_row rfl _ _ w.heap.size _ _ _ _ rfl (setRow_heap _ _ _ _ _ _ hz) Tryz.underlying26 rfl (size_Alg _ _)) rfl ?_
            exact retA_end hz HP.out ho hT (Nat.le_trans hs1 s3) (grown_trans hg1 hg6) hr5 (by omega) gl
          · obtain rfl : n = 6 := by omega
            have HC := Lib.hid (show Calls Tryz.prog 85 #[.int .i64 5] w3 (RetAlgs (chainTo 5 5) (chT 5) w3) from chains_any 5 (by omega) (by omega) w3)
            have hne := gd_ch_ne (n := 5) (by omega) (by omega)
            have hbd := chT_len (n := 5) (by omega) (by omega)
            have hmem : ∀ T, T ∈ chT 5 → Gd (chainTo 5 5) T := fun T h => gd_chains (n := 5) (T := T) (by omega) (by omega) h
            have hl : ((chainTo 5 5).length : Int) = 5 := chainTo_len 5 5 (by omega)
            obtain ⟨U, hU⟩ : ∃ U, U = chT 5 := ⟨_, rfl⟩
            obtain ⟨L, hL⟩ : ∃ L, L = chainTo 5 5 := ⟨_, rfl⟩
            rw [← hU, ← hL] at HC
            rw [← hU] at hne hbd hmem
            rw [← hL] at hmem hl
            clear hU hL
            have HM := Lib.hid hmem
            have hlm : (L.length : Int) ≤ most := by omega
            clear hmem hl
            have u1 : (1 : Int) ≤ U.length := by omega
            have u2 : (U.length : Int) ≤ 1073741824 := by omega
            go_wp2_with fail
            refine HC.out.mono ?_
            rintro e w4 ⟨G, gc, rfl, hA, hb⟩
            have hr4 := hr3.below hb
            have hg4 := grown_new hg3 hb
            go_wp2_with fail
            refine (pick_any C g (m + 1 + 1) U.length w4 hr4 (by omega) u1 u2).mono ?_
            rintro e w5 ⟨i, rfl, i0, i1, hg5, hr5⟩
            obtain ⟨a, ca, b, cb, hc0, ho, hT⟩ := (hA.drawn hr4 hg5).at i0 i1
            have HP := Lib.hid (show Gd L (tabAt U i.toNat) ∧ (L.length : Int) ≤ most from ⟨HM.out _ (tabAt_mem (by omega)), hlm⟩)
            obtain ⟨T, hTe⟩ : ∃ T, T = tabAt U i.toNat := ⟨_, rfl⟩
            rw [← hTe] at hc0 hT HP
            clear hTe
            have hg6 := grown_trans hg4 hg5
            have hz := KZ.out _ hg6
            go_wp2_with (first
              | (refine wpList_load_mid_w rfl 26 _ rfl G (i.toNat * 2) rfl #[.slice a L.length ca, .slice b T.length cb] _ hc0 Tryz.underlying26 rfl (size_Alg _ _) ?_)
              | (refine wpList_store_row rfl 26 _ _ rfl w.heap.size #[.slice a L.length ca, .slice b T.length cb] rfl rfl _ _ hz (size_Alg _ _) rfl (one_sl2 _ _ _ _ _ _) ?_))
            refine bodyPost_ret (results_cell_row rfl _ _ w.heap.size _ _ _ _ rfl (setRow_heap _ _ _ _ _ _ hz) Tryz.underlying26 rfl (size_Alg _ _)) rfl ?_
            exact retA_end hz HP.out ho hT (Nat.le_trans hs1 s3) (grown_trans hg1 hg6) hr5 (by omega) gl
end Go.Proofs.YtpophjloedpcfaaGreatDoor

namespace Go.Proofs.YtpophjloedpcfaaGreatDoor
open Go.RowKit

theorem drawn_box {w : World} {g : Nat} (x y : Value) (gl : g < w.heap.size) : ∃ (b : Nat) (w' : World), b = w.heap.size ∧ w' = w.alloc (.cells #[x, y] 26) ∧ w.grownBy w' (some g) ∧ Below w.heap.size w w' ∧ Hid (∀ wz, w'.grownBy wz (some g) → wz.heap[b]? = some (.cells #[x, y] 26 (0, 0))) := by
  refine ⟨_, _, rfl, rfl, grown_alloc (grown_refl w _) _, (Below.refl _ _).alloc (Nat.le_refl _) _, Lib.hid fun wz h => ?_⟩
  have hz := heap_alloc_new w (.cells #[x, y] 26)
  exact (h.block _ (lt_of_block hz) (fun e => by injection e with e; omega)).trans hz
theorem oa_parts {lo : Nat} {w : World} {a b : Option Addr} {n c m d : Nat} {L : List Int} {T : List (List Int)} (h : OA lo w (.slice a n c) (.slice b m d) L T) : n = L.length ∧ m = T.length ∧ Own lo w (.slice a L.length c) L ∧ RowsAt lo w (.slice b T.length d) T := by
  obtain ⟨a', ca', b', cb', e1, e2, h1, h2⟩ := h
  injection e1 with x1 x2 x3
  injection e2 with y1 y2 y3
  subst x1; subst y1; subst x3; subst y3
  exact ⟨x2, y2, h1, h2⟩
theorem RowsAt.rdT {B : Nat} {w : World} {b : Option Addr} {n c : Nat} {T : List (List Int)} (h : RowsAt B w (.slice b n c) T) : RdT w b T := by
  obtain ⟨b', c', e, h⟩ := h.rd
  injection e with e _ _
  rw [e]; exact h
theorem gd_cross {L M : List Int} {T U : List (List Int)} (h1 : Gd L T) (h2 : Gd M U) (l1 : (L.length : Int) ≤ 3) (l2 : (M.length : Int) ≤ 2) : caOk L T M U = true ∧ Gd (caL L T M U) (caT L T M U) := by
  have h6 : (L.length : Int) * M.length ≤ 6 := by
    have e1 : L.length = 0 ∨ L.length = 1 ∨ L.length = 2 ∨ L.length = 3 := by omega
    have e2 : M.length = 0 ∨ M.length = 1 ∨ M.length = 2 := by omega
    rcases e1 with e1 | e1 | e1 | e1 <;> rcases e2 with e2 | e2 | e2 <;> rw [e1, e2] <;> decide
  obtain ⟨a, b, c⟩ := ca_yes h1.alg h2.alg h6
  refine ⟨a, ?_⟩
  rw [b, c]
  exact goods_cross (L, T) h1 (M, U) h2 (by show L.length ≤ 3; omega) (by show M.length ≤ 2; omega)
theorem sq_alg : algB sqA.1 sqA.2 = true := by decide +kernel
theorem gd_st {M : List Int} {U : List (List Int)} (h2 : Gd M U) (l2 : (M.length : Int) ≤ 3) : stOk sqA.1 sqA.2 M U = true ∧ Gd (stL sqA.1 sqA.2 M U) (stT sqA.1 sqA.2 M U) := by
  have e : ((sqA.1.length : Int) - 1) = 3 := rfl
  obtain ⟨a, b, c⟩ := st_yes (L := sqA.1) (T := sqA.2) (M := M) (U := U) sq_alg h2.alg (by rw [e]; omega)
  refine ⟨a, ?_⟩
  rw [b, c, e]
  exact goods_st (M, U) h2 (by show M.length ≤ 3; omega)
theorem sq_cross (a b : Option Addr) (ca cb : Nat) (w : World) (h1 : Rd w a (chainTo 2 2)) (h2 : Rd w b (chainTo 2 2)) : Calls Tryz.prog 79 #[.slice a 2 ca, .slice b 2 cb] w (RetOwn w.heap.size sqA.1 w) := by
  have la : latB (chainTo 2 2) = true := chain_lat (by omega) (by omega)
  obtain ⟨a1, a6, az⟩ := latB_parts la
  obtain ⟨xb, xo, rfl, hca⟩ := h1.pos a1
  obtain ⟨yb, yo, rfl, hcb⟩ := h2.pos a1
  have := cross_any xb xo yb yo ca cb (chainTo 2 2) (chainTo 2 2) w hca hcb az az a1 a6 a1 a6 (by decide)
  have e : upL (crossG (chainTo 2 2) (chainTo 2 2)) (((chainTo 2 2).length : Int) * (chainTo 2 2).length) = sqA.1 := congrArg Prod.fst goods_sq
  rw [e] at this
  exact this
theorem sq_meet (a : Option Addr) (ca : Nat) (w : World) (h1 : Rd w a sqA.1) : Calls Tryz.prog 78 #[.slice a sqA.1.length ca] w (RetRd sqA.1 sqA.2 w) := by
  have e : tabL (mt sqA.1) (sqA.1.length : Int) = sqA.2 := by
    have h := congrArg Prod.fst goods_sq
    have h2 := congrArg Prod.snd goods_sq
    have h' : upL (crossG (chainTo 2 2) (chainTo 2 2)) 4 = sqA.1 := h
    have h2' : tabL (mt (upL (crossG (chainTo 2 2) (chainTo 2 2)) 4)) 4 = sqA.2 := h2
    rw [h'] at h2'
    exact h2'
  have := specMeetA_any a ca sqA.1 w h1 (alg_lat sq_alg)
  rwa [e] at this
set_option maxRecDepth 100000 in
set_option maxHeartbeats 4000000 in
/-- spec.goodAlgebra -/
theorem goodAlgebra_any (C g : Nat) (m : Int) (w : World) (hr : Rdr w C g m) (m1 : m ≤ 80000) :
    Calls Tryz.prog 39 #[.pointer (some ⟨g, 0, none⟩)] w (RetA C g (m + 7) Gd w) := by
  have gl := hr.lt
  obtain ⟨w1, hw1, hg1, hs1, hR1, KZ⟩ := drawn_zero gl
  have hr1 := hR1 _ _ hr
  clear hR1 hr
  go_enter Tryz.func39, Tryz.ntmps39
  go_wp2_with (rw [← hw1]; clear hw1)
  refine (pick_any C g m 5 w1 hr1 (by omega) (by omega) (by omega)).mono ?_
  rintro e w2 ⟨j, rfl, j0, j1, hg2, hr2⟩
  have s2 := hg2.size
  by_cases e0 : j = 0
  · subst e0
    go_wp2_with fail
    refine (algebraOf_any C g (m + 1) 2 w2 hr2 (by omega) (by omega) (by omega)).mono ?_
    rintro e w3 ⟨L, T, a, ca, b, cb, rfl, ⟨hG, hl⟩, ho, hT, hg3, hr3⟩
    have gl3 := hr3.lt
    have s3 := hg3.size
    go_wp2_with (refine wpList_store_row rfl 26 _ _ rfl w3.heap.size #[.slice a L.length ca, .slice b T.length cb] rfl rfl _ _ (heap_alloc_new w3 (.cells #[.slice none 0 0, .slice none 0 0] 26)) (size_Alg _ _) rfl (one_sl2 _ _ _ _ _ _) ?_; rw [World.setRow_alloc_new]; obtain ⟨q4, w4, eq4, ew4, hgw4, hBw4, K4⟩ := drawn_box (.slice a L.length ca) (.slice b T.length cb) gl3; rw [← ew4, ← eq4]; clear ew4 eq4; have hr4 := hr3.below hBw4; have ho4 := ho.below hBw4; have hT4 := hT.below hBw4; clear hr3 ho hT)
    refine (algebraOf_any C g (m + 1 + 3) 3 w4 hr4 (by omega) (by omega) (by omega)).mono ?_
    rintro e w5 ⟨M, U, a2, ca2, b2, cb2, rfl, ⟨hG2, hl2⟩, ho5, hT5, hg5, hr5⟩
    have gl5 := hr5.lt
    have s4 := hBw4.size
    have s5 := hg5.size
    obtain ⟨hok, hP⟩ := gd_cross hG2 hG hl2 hl
    have hoL := ho4.drawn hr4 hg5
    have hTL := hT4.drawn hr4 hg5
    have HX := Lib.hid (fun w h1 h2 h3 h4 => specCrossAlgebras_any a2 b2 ca2 cb2 M U a b ca cb L T w h1 h2 h3 h4)
    obtain ⟨L2, hL2⟩ : ∃ X, X = caL M U L T := ⟨_, rfl⟩
    obtain ⟨T2, hT2⟩ : ∃ X, X = caT M U L T := ⟨_, rfl⟩
    rw [hok, ← hL2, ← hT2] at HX
    rw [← hL2, ← hT2] at hP
    have HP := Lib.hid hP
    clear hL2 hT2 hok hP ho4 hT4 hG hG2 hl hl2
    go_wp2_with (first
      | (refine wpList_store_row rfl 26 _ _ rfl w5.heap.size #[.slice a2 M.length ca2, .slice b2 U.length cb2] rfl rfl _ _ (heap_alloc_new w5 (.cells #[.slice none 0 0, .slice none 0 0] 26)) (size_Alg _ _) rfl (one_sl2 _ _ _ _ _ _) ?_; rw [World.setRow_alloc_new]; obtain ⟨q6, w6, eq6, ew6, hgw6, hBw6, K6⟩ := drawn_box (.slice a2 M.length ca2) (.slice b2 U.length cb2) gl5; rw [← ew6, ← eq6]; clear ew6 eq6; have hr6 := hr5.below hBw6; have hoM := ho5.below hBw6; have hTM := hT5.below hBw6; have hoL6 := hoL.below hBw6; have hTL6 := hTL.below hBw6; have hx4 := K4.out _ (grown_new hg5 hBw6); have hx6 := K6.out _ (grown_refl _ _); clear hr5 ho5 hT5 hoL hTL)
      | (refine wpList_load_row_w rfl 26 _ rfl q6 rfl _ _ _ _ hx6 Tryz.underlying26 rfl (size_Alg _ _) ?_)
      | (refine wpList_load_row_w rfl 26 _ rfl q4 rfl _ _ _ _ hx4 Tryz.underlying26 rfl (size_Alg _ _) ?_))
    refine (HX.out w6 hoM.rd hTM.rdT hoL6.rd hTL6.rdT).mono ?_
    rintro e w7 ⟨x, n, xc, y, k, yd, rfl, hoa, hb7⟩
    obtain ⟨rfl, rfl, ho7, hT7⟩ := oa_parts hoa
    have hr7 := hr6.below hb7
    have gl7 := hr7.lt
    have s6 := hBw6.size
    have s7 := hb7.size
    clear hoa hx4 hx6 hoM hTM hoL6 hTL6 hr6
    have hgA := grown_new (grown_new (grown_trans (grown_new (grown_trans hg2 hg3) hBw4) hg5) hBw6) hb7
    go_wp2_with (first
      | (refine wpList_store_row rfl 26 _ _ rfl w7.heap.size #[.slice x L2.length xc, .slice y T2.length yd] rfl rfl _ _ (heap_alloc_new w7 (.cells #[.slice none 0 0, .slice none 0 0] 26)) (size_Alg _ _) rfl (one_sl2 _ _ _ _ _ _) ?_; rw [World.setRow_alloc_new]; obtain ⟨q8, w8, eq8, ew8, hgw8, hBw8, K8⟩ := drawn_box (.slice x L2.length xc) (.slice y T2.length yd) gl7; rw [← ew8, ← eq8]; clear ew8 eq8; have hr8 := hr7.below hBw8; have ho8 := ho7.below hBw8; have hT8 := hT7.below hBw8; have hgB := grown_new hgA hBw8; have hz := KZ.out _ hgB; have hx8 := K8.out _ (grown_refl _ _); clear hr7 ho7 hT7)
      | (refine wpList_load_row_w rfl 26 _ rfl q8 rfl _ _ _ _ hx8 Tryz.underlying26 rfl (size_Alg _ _) ?_)
      | (refine wpList_store_row rfl 26 _ _ rfl w.heap.size #[.slice x L2.length xc, .slice y T2.length yd] rfl rfl _ _ hz (size_Alg _ _) rfl (one_sl2 _ _ _ _ _ _) ?_))
    refine bodyPost_ret (results_cell_row rfl _ _ w.heap.size _ _ _ _ rfl (setRow_heap _ _ _ _ _ _ hz) Tryz.underlying26 rfl (size_Alg _ _)) rfl ?_
    exact retA_end hz HP.out ho8 hT8 (by omega) (grown_trans hg1 hgB) hr8 (by omega) gl
  · have f0 : (j == 0) = false := by rw [beq_eq_false_iff_ne]; exact e0
    by_cases e1 : j = 1
    · subst e1
      go_wp2_with fail
      refine (chain_any 2 w2 (by omega) (by omega)).mono ?_
      rintro e w3 ⟨v, rfl, hv, hb3⟩
      have hr3 := hr2.below hb3
      obtain ⟨va, vc, rfl, _⟩ := hv.slice
      have e2 : (chainTo 2 2).length = 2 := rfl
      rw [e2] at hv ⊢
      go_wp2_with fail
      refine (chain_any 2 w3 (by omega) (by omega)).mono ?_
      rintro e w4 ⟨u, rfl, hu, hb4⟩
      have hr4 := hr3.below hb4
      obtain ⟨ua, uc, rfl, _⟩ := hu.slice
      rw [e2] at hu ⊢
      have hv4 := hv.below hb4
      clear hv e2 hr3
      go_wp2_with fail
      refine (sq_cross va ua vc uc w4 hv4.rd hu.rd).mono ?_
      rintro e w5 ⟨z, rfl, hz5, hb5⟩
      have hr5 := hr4.below hb5
      obtain ⟨za, zc, rfl, _⟩ := hz5.slice
      go_wp2_with fail
      refine (sq_meet za zc w5 hz5.rd).mono ?_
      rintro e w6 ⟨a, ca, b, cb, rfl, ho, hT, hb6⟩
      have hr6 := hr5.below hb6
      have s3 := hb3.size
      have s4 := hb4.size
      have s5 := hb5.size
      have s6 := hb6.size
      have hg6 := grown_new (grown_new (grown_new (grown_new hg2 hb3) hb4) hb5) hb6
      clear hv4 hu hz5 hr4 hr5
      go_wp2_with fail
      refine (algebraOf_any C g (m + 1) 3 w6 hr6 (by omega) (by omega) (by omega)).mono ?_
      rintro e w7 ⟨M, U, a2, ca2, b2, cb2, rfl, ⟨hG2, hl2⟩, ho7, hT7, hg7, hr7⟩
      have s7 := hg7.size
      obtain ⟨hok, hP⟩ := gd_st hG2 hl2
      have hoL := ho.drawn hr6 hg7
      have hTL := hT.drawn hr6 hg7
      obtain ⟨L, hL⟩ : ∃ X, X = sqA.1 := ⟨_, rfl⟩
      obtain ⟨T, hTe⟩ : ∃ X, X = sqA.2 := ⟨_, rfl⟩
      rw [← hL, ← hTe] at hok hP ⊢
      rw [← hL] at hoL
      rw [← hTe] at hTL
      have HX := Lib.hid (fun w h1 h2 h3 h4 => specStackAlgebras_any a b ca cb L T a2 b2 ca2 cb2 M U w h1 h2 h3 h4)
      obtain ⟨L2, hL2⟩ : ∃ X, X = stL L T M U := ⟨_, rfl⟩
      obtain ⟨T2, hT2⟩ : ∃ X, X = stT L T M U := ⟨_, rfl⟩
      rw [hok, ← hL2, ← hT2] at HX
      rw [← hL2, ← hT2] at hP
      have HP := Lib.hid hP
      clear hL2 hT2 hok hP hL hTe ho hT hG2 hl2 hr6
      go_wp2_with fail
      refine (HX.out w7 hoL.rd hTL.rdT ho7.rd hT7.rdT).mono ?_
      rintro e w8 ⟨x, n, xc, y, k, yd, rfl, hoa, hb8⟩
      obtain ⟨rfl, rfl, ho8, hT8⟩ := oa_parts hoa
      have hr8 := hr7.below hb8
      have gl8 := hr8.lt
      have s8 := hb8.size
      clear hoa hoL hTL ho7 hT7 hr7
      have hgA := grown_new (grown_trans hg6 hg7) hb8
      go_wp2_with (first
        | (refine wpList_store_row rfl 26 _ _ rfl w8.heap.size #[.slice x L2.length xc, .slice y T2.length yd] rfl rfl _ _ (heap_alloc_new w8 (.cells #[.slice none 0 0, .slice none 0 0] 26)) (size_Alg _ _) rfl (one_sl2 _ _ _ _ _ _) ?_; rw [World.setRow_alloc_new]; obtain ⟨q9, w9, eq9, ew9, hgw9, hBw9, K9⟩ := drawn_box (.slice x L2.length xc) (.slice y T2.length yd) gl8; rw [← ew9, ← eq9]; clear ew9 eq9; have hr9 := hr8.below hBw9; have ho9 := ho8.below hBw9; have hT9 := hT8.below hBw9; have hgB := grown_new hgA hBw9; have hz := KZ.out _ hgB; have hx9 := K9.out _ (grown_refl _ _); clear hr8 ho8 hT8)
        | (refine wpList_load_row_w rfl 26 _ rfl q9 rfl _ _ _ _ hx9 Tryz.underlying26 rfl (size_Alg _ _) ?_)
        | (refine wpList_store_row rfl 26 _ _ rfl w.heap.size #[.slice x L2.length xc, .slice y T2.length yd] rfl rfl _ _ hz (size_Alg _ _) rfl (one_sl2 _ _ _ _ _ _) ?_))
      refine bodyPost_ret (results_cell_row rfl _ _ w.heap.size _ _ _ _ rfl (setRow_heap _ _ _ _ _ _ hz) Tryz.underlying26 rfl (size_Alg _ _)) rfl ?_
      exact retA_end hz HP.out ho9 hT9 (by omega) (grown_trans hg1 hgB) hr9 (by omega) gl
    · have f1 : (j == 1) = false := by rw [beq_eq_false_iff_ne]; exact e1
      go_wp2_with fail
      refine (algebraOf_any C g (m + 1) 6 w2 hr2 (by omega) (by omega) (by omega)).mono ?_
      rintro e w3 ⟨L, T, a, ca, b, cb, rfl, ⟨hG, hl⟩, ho, hT, hg3, hr3⟩
      have hgB := grown_trans hg2 hg3
      have hz := KZ.out _ hgB
      go_wp2_with (refine wpList_store_row rfl 26 _ _ rfl w.heap.size #[.slice a L.length ca, .slice b T.length cb] rfl rfl _ _ hz (size_Alg _ _) rfl (one_sl2 _ _ _ _ _ _) ?_)
      refine bodyPost_ret (results_cell_row rfl _ _ w.heap.size _ _ _ _ rfl (setRow_heap _ _ _ _ _ _ hz) Tryz.underlying26 rfl (size_Alg _ _)) rfl ?_
      exact retA_end hz hG ho hT (by omega) (grown_trans hg1 hgB) hr3 (by omega) gl
end Go.Proofs.YtpophjloedpcfaaGreatDoor

namespace Go.Proofs.YtpophjloedpcfaaGreatDoor
open Go.RowKit

theorem own_of_app {B : Nat} {w : World} {a : Option Addr} {c : Nat} {L : List Int} (h : w.ownsRow B 3 1 (.slice a (0 + L.length) c) (0 + L.length) ([] ++ L.map fun x => Value.int .i64 x)) : Own B w (.slice a L.length c) L := by
  unfold Own; simpa using h
theorem le_size1 (w : World) (o : Obj) : w.heap.size ≤ (w.alloc o).heap.size := by simp
theorem cell_set2 {w : World} {b o n : Nat} {v x y : Value} (h : w.cell? ⟨b, o, none⟩ = some v) (hn : b ≠ n) : ((w.setCell ⟨n, 0, none⟩ x).setCell ⟨n, 1, none⟩ y).cell? ⟨b, o, none⟩ = some v := by
  have ne : ∀ k : Nat, (⟨n, k, none⟩ : Addr) ≠ ⟨b, o, none⟩ := fun k e => hn (by injection e with e _ _; exact e.symm)
  rw [World.cell?_setCell_other (h := ne 1), World.cell?_setCell_other (h := ne 0)]; exact h
theorem app1 {w2 W w9 : World} {q : Nat} (hW : Below w2.heap.size w2 W) (h : W.grownBy w9 (Value.slice (some ⟨q, 0, none⟩) 0 0).ownBlock) (hq : w2.heap.size ≤ q) : Below w2.heap.size w2 w9 :=
  hW.grown h hW.size (fun q' hq' => by have e : some q = some q' := hq'; injection e with e; omega)
theorem zero_then (w : World) (o : Obj) : ((w.alloc (.cells #[.slice none 0 0, .slice none 0 0] 26)).alloc o).heap[w.heap.size]? = some (.cells #[.slice none 0 0, .slice none 0 0] 26 (0, 0)) :=
  (heap_alloc_old _ _ (lt_of_block (heap_alloc_new w _))).trans (heap_alloc_new w _)
theorem app2 {W w9 : World} {q n : Nat} {o : Obj} (h : W.grownBy w9 (Value.slice (some ⟨q, 0, none⟩) 0 0).ownBlock) (hn : n ≠ q) (hz : W.heap[n]? = some o) : w9.heap[n]? = some o :=
  (h.block _ (lt_of_block hz) (fun e => by have e' : some n = some q := e; injection e' with e'; omega)).trans hz
/-- a list, a table in blocks of their types -/
def RY (w : World) (a : Option Addr) (L : List Int) : Prop := L ≠ [] → ∃ b off c, a = some ⟨b, off, none⟩ ∧ w.heap[b]? = some (.cells c 3 (0, 0)) ∧ Cells w b off L
def TY (w : World) (b : Option Addr) (T : List (List Int)) : Prop := T ≠ [] → ∃ B off c, b = some ⟨B, off, none⟩ ∧ w.heap[B]? = some (.cells c 23 (0, 0)) ∧ ∀ j : Nat, j < T.length → ∃ a cc, w.cell? ⟨B, off + j, none⟩ = some (.slice a (rowAt T j).length cc) ∧ RY w a (rowAt T j)
/-- blocks of numbers and of lists are as they were -/
def Kp (w w' : World) : Prop := ∀ (k : Nat) (c : Array Value) (t : TypeId), w.heap[k]? = some (Obj.cells c t (0, 0)) → (t = 3 ∨ t = 23) → w'.heap[k]? = w.heap[k]?
theorem cell_of_heap {w w' : World} {b : Nat} {c : Array Value} {t : TypeId} {fr : Nat × Nat} (h : w.heap[b]? = some (.cells c t fr)) (h' : w'.heap[b]? = w.heap[b]?) (o : Nat) : w'.cell? ⟨b, o, none⟩ = w.cell? ⟨b, o, none⟩ := by
  rw [cell_of_row w b o _ _ _ h, cell_of_row w' b o _ _ _ (h'.trans h)]
theorem RY.kp {w w' : World} {a : Option Addr} {L : List Int} (h : RY w a L) (k : Kp w w') : RY w' a L := fun hL => by
  obtain ⟨b, off, c, e, hb, hc⟩ := h hL
  have hk := k b c _ hb (.inl rfl)
  exact ⟨b, off, c, e, hk.trans hb, fun j hj => (cell_of_heap hb hk _).trans (hc j hj)⟩
theorem TY.kp {w w' : World} {b : Option Addr} {T : List (List Int)} (h : TY w b T) (k : Kp w w') : TY w' b T := fun hT => by
  obtain ⟨B, off, c, e, hb, hc⟩ := h hT
  have hk := k B c _ hb (.inr rfl)
  refine ⟨B, off, c, e, hk.trans hb, fun j hj => ?_⟩
  obtain ⟨a, cc, h1, h2⟩ := hc j hj
  exact ⟨a, cc, (cell_of_heap hb hk _).trans h1, h2.kp k⟩
theorem RY.rd {w : World} {a : Option Addr} {L : List Int} (h : RY w a L) : Rd w a L := fun hL => by
  obtain ⟨b, off, c, e, _, hc⟩ := h hL
  exact ⟨b, off, e, hc⟩
theorem TY.rd {w : World} {b : Option Addr} {T : List (List Int)} (h : TY w b T) : RdT w b T := fun hT => by
  obtain ⟨B, off, c, e, _, hc⟩ := h hT
  exact ⟨B, off, e, fun j hj => by obtain ⟨a, cc, h1, h2⟩ := hc j hj; exact ⟨a, cc, h1, h2.rd⟩⟩
theorem kp_drawn {w w' : World} {C g : Nat} {m : Int} (hr : Rdr w C g m) (hg : w.grownBy w' (some g)) : Kp w w' := fun k c t hk ht => by
  obtain ⟨c', hc⟩ := hr.type
  refine hg.block k (lt_of_block hk) fun e => ?_
  injection e with e
  subst e
  rw [hc] at hk
  injection hk with hk
  injection hk with _ hk _
  rcases ht with ht | ht <;> (rw [ht] at hk; exact absurd hk (by decide))
theorem kp_row {w : World} {q : Nat} {x y : Value} (hz : w.heap[q]? = some (.cells #[x, y] 26 (0, 0))) {w' : World} (ho : ∀ k, k ≠ q → w'.heap[k]? = w.heap[k]?) : Kp w w' := fun k c t hk ht => by
  refine ho k fun e => ?_
  subst e
  rw [hz] at hk
  injection hk with hk
  injection hk with _ hk _
  rcases ht with ht | ht <;> (rw [ht] at hk; exact absurd hk (by decide))
theorem Kp.trans {a b c : World} (h : Kp a b) (k : Kp b c) : Kp a c := fun i x t hi ht => (k i x t ((h i x t hi ht).trans hi) ht).trans (h i x t hi ht)
theorem kp_below {w w' : World} (h : Below w.heap.size w w') : Kp w w' := fun k _ _ hk _ => h.block k (lt_of_block hk)
theorem ry_of {B : Nat} {w : World} {a : Option Addr} {n c : Nat} {L : List Int} (h : Own B w (.slice a n c) L) : RY w a L := fun hL => by
  obtain ⟨a', c', e, hr⟩ := h.slice
  injection e with e1 e2 e3
  subst e1
  obtain ⟨b, off, e, hc⟩ := hr hL
  rcases h.2 with ⟨e', hn⟩ | ⟨g, cap, cur, e', _, hg, _⟩
  · exact absurd (List.length_eq_zero_iff.1 hn) hL
  · injection e' with e' _ _
    rw [e] at e'
    injection e' with e'
    injection e' with e1 e2 _
    subst e1
    exact ⟨b, off, cur, e, hg, hc⟩
theorem ty_of {B : Nat} {w : World} {b : Option Addr} {n c : Nat} {T : List (List Int)} (h : RowsAt B w (.slice b n c) T) : TY w b T := fun hT => by
  obtain ⟨vs, h1, h2⟩ := h
  have hl : T.length ≠ 0 := fun e => hT (List.length_eq_zero_iff.1 e)
  rcases h1.2 with ⟨e', hn⟩ | ⟨g, cap, cur, e', _, hg, _⟩
  · exact absurd hn hl
  · injection e' with e1 e2 e3
    subst e1
    refine ⟨g, 0, cur, rfl, hg, fun j hj => ?_⟩
    obtain ⟨u, hu, ho⟩ := h2 j hj
    obtain ⟨a, cc, rfl, _⟩ := ho.slice
    have := h1.cells rfl j _ hu
    rw [Addr.add_mid] at this
    exact ⟨a, cc, this, ry_of ho⟩
theorem TY.tail {w : World} {B off : Nat} {T : List (List Int)} (h : TY w (some ⟨B, off, none⟩) T) : TY w (some ⟨B, off + 1, none⟩) T.tail := fun hT => by
  cases T with
  | nil => exact absurd rfl hT
  | cons r T =>
    obtain ⟨B', off', c, e, hb, hc⟩ := h (by simp)
    injection e with e
    injection e with e1 e2 _
    subst e1; subst e2
    refine ⟨B, off + 1, c, rfl, hb, fun j hj => ?_⟩
    obtain ⟨a, cc, h1, h2⟩ := hc (j + 1) (by simp at hj ⊢; omega)
    have e : rowAt (r :: T) ((j + 1 : Nat) : Int) = rowAt T j := by unfold rowAt; simp
    rw [e] at h1 h2
    rw [show off + 1 + j = off + (j + 1) by omega]
    exact ⟨a, cc, h1, h2⟩
theorem RY.tail {w : World} {b off : Nat} {L : List Int} (h : RY w (some ⟨b, off, none⟩) L) : RY w (some ⟨b, off + 1, none⟩) L.tail := fun hL => by
  cases L with
  | nil => exact absurd rfl hL
  | cons r L =>
    obtain ⟨b', off', c, e, hb, hc⟩ := h (by simp)
    injection e with e
    injection e with e1 e2 _
    subst e1; subst e2
    refine ⟨b, off + 1, c, rfl, hb, fun j hj => ?_⟩
    have := hc (j + 1) (by simp at hj ⊢; omega)
    rw [show off + 1 + j = off + (j + 1) by omega, this]
    simp [nth]
theorem TY.setRow {w : World} {B : Nat} {T : List (List Int)} (h : TY w (some ⟨B, 0, none⟩) T) {k : Nat} (hk : k < T.length) {a : Option Addr} {r : List Int} {c : Nat} (hr : RY w a r) : TY (w.setCell ⟨B, k, none⟩ (.slice a r.length c)) (some ⟨B, 0, none⟩) (T.set k r) := fun hT => by
  obtain ⟨B', off', cs, e, hb, hc⟩ := h (by intro e; rw [e] at hk; simp at hk)
  injection e with e
  injection e with e1 e2 _
  subst e1; subst e2
  have hb' := heap_setCell_same w B k _ _ (.slice a r.length c) hb
  have kint : ∀ a' L', RY w a' L' → RY (w.setCell ⟨B, k, none⟩ (.slice a r.length c)) a' L' := fun a' L' h' hL' => by
    obtain ⟨b2, o2, c2, e2, hb2, hc2⟩ := h' hL'
    have hne : b2 ≠ B := fun e => by
      subst e
      rw [hb] at hb2
      injection hb2 with hb2
      injection hb2 with _ hb2 _
      exact absurd hb2 (by decide)
    have hk2 : (w.setCell ⟨B, k, none⟩ (.slice a r.length c)).heap[b2]? = w.heap[b2]? := heap_setCell_other _ _ _ _ hne
    exact ⟨b2, o2, c2, e2, hk2.trans hb2, fun j hj => (cell_of_heap hb2 hk2 _).trans (hc2 j hj)⟩
  refine ⟨B, 0, _, rfl, hb', fun j hj => ?_⟩
  rw [List.length_set] at hj
  obtain ⟨a', cc, h1, h2⟩ := hc j hj
  rw [Nat.zero_add] at h1 ⊢
  by_cases ej : j = k
  · subst ej
    have er : rowAt (T.set j r) j = r := by unfold rowAt; simp [hj]
    rw [er]
    exact ⟨a, c, World.cell?_setCell_same _ _ _ h1, kint _ _ hr⟩
  · have er : rowAt (T.set k r) j = rowAt T j := by
      have ek : ¬ k = j := fun e => ej e.symm
      unfold rowAt; simp [ek]
    rw [er]
    exact ⟨a', cc, by rw [World.cell?_setCell_other (h := fun e => ej (by injection e with _ e _; exact e.symm))]; exact h1, kint _ _ h2⟩
/-- the copy that is bent -/
def BentAt (w2 : World) (L : List Int) (T : List (List Int)) (u5 : Value) (wx : World) : Prop :=
  ∃ (b5 ua uc G gc lo : Nat), u5 = .pointer (some ⟨b5, 0, none⟩) ∧ wx.heap[b5]? = some (.cells #[.slice (some ⟨ua, 0, none⟩) L.length uc, .slice (some ⟨G, 0, none⟩) T.length gc] 26 (0, 0)) ∧
    Own w2.heap.size wx (.slice (some ⟨ua, 0, none⟩) L.length uc) L ∧ RowsD lo wx (.slice (some ⟨G, 0, none⟩) T.length gc) T ∧ ua < lo ∧ w2.heap.size ≤ lo ∧ w2.heap.size ≤ b5 ∧ Below w2.heap.size w2 wx
theorem RowsD.alloc {B : Nat} {w : World} {v : Value} {T : List (List Int)} (h : RowsD B w v T) (o : Obj) : RowsD B (w.alloc o) v T := h.below ((Below.refl _ _).alloc (Nat.le_refl _) _)
theorem RowsD.other {B : Nat} {w w' : World} {v : Value} {T : List (List Int)} {e2 : TypeId} {G : Nat} {c : Array Value} {fr : Nat × Nat} (h : RowsD B w v T) (hG : w.heap[G]? = some (.cells c e2 fr)) (n1 : 23 ≠ e2) (n2 : 3 ≠ e2) (hk : ∀ k, k ≠ G → w'.heap[k]? = w.heap[k]?) : RowsD B w' v T := by
  obtain ⟨vs, h1, h2, h3⟩ := h
  exact ⟨vs, ownsRow_other h1 hG n1 hk, fun j hj => by obtain ⟨u, hu, ho⟩ := h2 j hj; exact ⟨u, hu, ownsRow_other ho hG n2 hk⟩, h3⟩
theorem RowsD.app {lo ua : Nat} {w w' : World} {v : Value} {T : List (List Int)} (h : RowsD lo w v T) (hg : w.grownBy w' (some ua)) (hu : ua < lo) : RowsD lo w' v T := by
  obtain ⟨vs, h1, h2, h3⟩ := h
  have key : ∀ {e : TypeId} {s n : Nat} {v : Value} {xs : List Value}, w.ownsRow lo e s v n xs → v.ownBlock = none ∨ v.ownBlock ≠ some ua := fun {e s n v xs} h => by
    cases hb : v.ownBlock with
    | none => exact .inl rfl
    | some q => exact .inr fun e => by injection e with e; have := (World.ownsRow.lt h q hb).1; omega
  have fix : ∀ {v : Value}, (v.ownBlock = none ∨ v.ownBlock ≠ some ua) → (v.ownBlock = none ∨ v.ownBlock ≠ some ua) := fun h => h
  exact ⟨vs, World.ownsRow.kept h1 hg (key h1), fun j hj => by obtain ⟨u, hu', ho⟩ := h2 j hj; exact ⟨u, hu', World.ownsRow.kept ho hg (key ho)⟩, h3⟩
theorem RowsD.drawn {B : Nat} {w w' : World} {v : Value} {T : List (List Int)} {C g : Nat} {m : Int} (h : RowsD B w v T) (hr : Rdr w C g m) (hg : w.grownBy w' (some g)) : RowsD B w' v T := by
  obtain ⟨c, hc⟩ := hr.type
  obtain ⟨vs, h1, h2, h3⟩ := h
  refine ⟨vs, World.ownsRow.kept h1 hg ?_, fun j hj => by obtain ⟨u, hu, ho⟩ := h2 j hj; exact ⟨u, hu, ho.drawn hr hg⟩, h3⟩
  rcases h1.2 with ⟨rfl, _⟩ | ⟨b, cap, cur, rfl, _, hb, _⟩
  · exact .inl rfl
  · right
    simp only [Value.ownBlock, ne_eq, Option.some.injEq]
    intro e
    rw [e, hc] at hb
    injection hb with hb
    injection hb with _ hb
    exact absurd hb (by decide)
theorem bentEnd1 {w2 w10 : World} {L : List Int} {T : List (List Int)} {gg cap G gc lo : Nat} (hb : Below w2.heap.size w2 w10) (ho : Own w2.heap.size w10 (.slice (some ⟨gg, 0, none⟩) L.length cap) L) (hD : RowsD lo w10 (.slice (some ⟨G, 0, none⟩) T.length gc) T) (h1 : gg < lo) (h2 : w2.heap.size ≤ lo) :
    BentAt w2 L T (.pointer (some ⟨w10.heap.size, 0, none⟩)) (w10.alloc (.cells #[.slice (some ⟨gg, 0, none⟩) L.length cap, .slice (some ⟨G, 0, none⟩) T.length gc] 26)) :=
  ⟨_, gg, cap, G, gc, lo, rfl, heap_alloc_new w10 _, ho.alloc _, hD.alloc _, h1, h2, hb.size, hb.alloc hb.size _⟩
theorem set0_heap {w : World} {n : Nat} {a b x : Value} (h : w.heap[n]? = some (.cells #[a, b] 26 (0, 0))) : (w.setCell ⟨n, 0, none⟩ x).heap[n]? = some (.cells #[x, b] 26 (0, 0)) := by rw [heap_setCell_same w n 0 _ _ _ h]; rfl
theorem set1_heap {w : World} {n : Nat} {a b x : Value} (h : w.heap[n]? = some (.cells #[a, b] 26 (0, 0))) : (w.setCell ⟨n, 1, none⟩ x).heap[n]? = some (.cells #[a, x] 26 (0, 0)) := by rw [heap_setCell_same w n 1 _ _ _ h]; rfl
theorem set2_other (w : World) (n : Nat) (x y : Value) : ∀ k, k ≠ n → ((w.setCell ⟨n, 0, none⟩ x).setCell ⟨n, 1, none⟩ y).heap[k]? = w.heap[k]? := fun k hk => by
  rw [heap_setCell_other _ _ k _ hk, heap_setCell_other _ _ k _ hk]
theorem bentEnd2 {w2 w10 : World} {L : List Int} {T : List (List Int)} {n gg cap G gc lo : Nat} (hn : w2.heap.size ≤ n) (hz : w10.heap[n]? = some (.cells #[.slice none 0 0, .slice none 0 0] 26 (0, 0))) (hb : Below w2.heap.size w2 w10) (ho : Own w2.heap.size w10 (.slice (some ⟨gg, 0, none⟩) L.length cap) L) (hD : RowsD lo w10 (.slice (some ⟨G, 0, none⟩) T.length gc) T) (h1 : gg < lo) (h2 : w2.heap.size ≤ lo) :
    BentAt w2 L T (.pointer (some ⟨n, 0, none⟩)) ((w10.setCell ⟨n, 0, none⟩ (.slice (some ⟨gg, 0, none⟩) L.length cap)).setCell ⟨n, 1, none⟩ (.slice (some ⟨G, 0, none⟩) T.length gc)) :=
  ⟨n, gg, cap, G, gc, lo, rfl, set1_heap (set0_heap hz), ownsRow_other ho hz (by decide) (set2_other _ _ _ _), hD.other hz (by decide) (by decide) (set2_other _ _ _ _), h1, h2, hn, (hb.setCell (by exact hn) _).setCell (by exact hn) _⟩
/-- an algebra that can be read while a reader goes on -/
def HeldA (g : Nat) (w : World) (a : Option Addr) (L : List Int) (b : Option Addr) (T : List (List Int)) : Prop := ∀ wz, w.grownBy wz (some g) → Rd wz a L ∧ RdT wz b T
theorem HeldA.drawn {g : Nat} {w w' : World} {a b : Option Addr} {L : List Int} {T : List (List Int)} (h : HeldA g w a L b T) (hg : w.grownBy w' (some g)) : HeldA g w' a L b T := fun wz hz => h wz (grown_trans hg hz)
/-- such an algebra is handed back -/
def RetH (C g : Nat) (m : Int) (P : List Int → List (List Int) → Prop) (w : World) (e : Ending) (w' : World) : Prop :=
  ∃ L T a ca b cb, e = .returned (.agg #[.slice a L.length ca, .slice b T.length cb]) ∧ P L T ∧ RY w' a L ∧ TY w' b T ∧ w.grownBy w' (some g) ∧ Rdr w' C g m
theorem retH_fin {C g q : Nat} {m m' : Int} {P : List Int → List (List Int) → Prop} {w wk : World} {L : List Int} {T : List (List Int)} {a b : Option Addr} {ca cb : Nat} {x y : Value} (hz : wk.heap[q]? = some (.cells #[x, y] 26 (0, 0))) (hq : w.heap.size ≤ q) (hP : P L T) (hR : RY wk a L) (hT : TY wk b T) (hg : w.grownBy wk (some g)) (hr : Rdr wk C g m') (hm : m' ≤ m) (gl : g < w.heap.size) :
    RetH C g m P w (.returned (.agg #[.slice a L.length ca, .slice b T.length cb])) (wk.setRow q #[.slice a L.length ca, .slice b T.length cb]) := by
  have hk := kp_row hz (w' := wk.setRow q #[.slice a L.length ca, .slice b T.length cb]) (fun k hk => setRow_other wk q k _ hk)
  exact ⟨L, T, a, ca, b, cb, rfl, hP, hR.kp hk, hT.kp hk, grown_setRow hg hq _, (hr.setRow (by omega) _).more hm⟩
theorem grown_setCell {w w' : World} {g G o : Nat} {v : Value} (h : w.grownBy w' (some g)) (hG : w.heap.size ≤ G) : w.grownBy (w'.setCell ⟨G, o, none⟩ v) (some g) :=
  ⟨h.os, h.tape, h.output, by have := h.size; simpa [World.setCell] using this, fun k hk hne => (heap_setCell_other w' ⟨G, o, none⟩ k v (by show k ≠ G; omega)).trans (h.block k hk hne)⟩
theorem Rdr.setCell {w : World} {C g G o : Nat} {m : Int} {v : Value} (h : Rdr w C g m) (hG : g < G) : Rdr (w.setCell ⟨G, o, none⟩ v) C g m :=
  h.keep ((Below.refl C w).setCell (by show C ≤ G; have := h.low; omega) _) (heap_setCell_other w ⟨G, o, none⟩ g v (by show g ≠ G; omega))
theorem RowsD.set2 {B G c : Nat} {w : World} {T : List (List Int)} (h : RowsD B w (.slice (some ⟨G, 0, none⟩) T.length c) T) {x y : Nat} (hx : x < T.length) (hy : y < (rowAt T x).length) :
    ∃ ra rc cs, w.cell? ⟨G, x, none⟩ = some (.slice (some ⟨ra, 0, none⟩) (rowAt T x).length rc) ∧ B ≤ ra ∧ w.heap[ra]? = some (.cells cs 3 (0, 0)) ∧ w.cell? ⟨ra, y, none⟩ = some (.int .i64 (nth (rowAt T x) y)) ∧ w.frozen? ⟨ra, y, none⟩ = false ∧
      ∀ z : Int, RowsD B (w.setCell ⟨ra, y, none⟩ (.int .i64 z)) (.slice (some ⟨G, 0, none⟩) (setT T x y z).length c) (setT T x y z) := by
  obtain ⟨ra, rc, h1, h2, h3, h4, h5⟩ := h.set hx hy
  obtain ⟨vs, q1, q2, _⟩ := h
  obtain ⟨u, hu, ho⟩ := q2 x hx
  obtain ⟨_, e, hc⟩ := rows_cell q1 hu
  injection e with e
  injection e with e
  subst e
  rw [hc] at h1
  injection h1 with h1
  subst h1
  rcases ho.2 with ⟨e', _⟩ | ⟨b', cap', cur', e', _, hb', _⟩
  · cases e'
  · injection e' with e' _ _
    injection e' with e'
    injection e' with e' _ _
    subst e'
    exact ⟨_, rc, cur', hc, h2, hb', h3, h4, h5⟩
set_option maxRecDepth 100000 in
theorem slice_runT (a : Option Addr) (n c : Nat) (h1 : 1 ≤ n) (w : World) : (Instr.slice 24 (.slice a n c) (some (.int .i64 1)) none none).run Tryz.prog w = .ok (sliced a 1 n c 1) w := by
  have hs : ∀ w : World, (sizeOf (Tryz.prog.elem 24)).run Tryz.prog w = .ok 1 w := fun w => by kernel_rfl
  have := run_slice_l (P := Tryz.prog) (t := 24) (a := a) (len := n) (cap := c) w Tryz.underlying24 .i64 1 (by decide) (by omega)
  rw [this, hs]
  rfl
set_option maxRecDepth 100000 in
theorem slice_runI (a : Option Addr) (n c : Nat) (h1 : 1 ≤ n) (w : World) : (Instr.slice 23 (.slice a n c) (some (.int .i64 1)) none none).run Tryz.prog w = .ok (sliced a 1 n c 1) w := by
  have hs : ∀ w : World, (sizeOf (Tryz.prog.elem 23)).run Tryz.prog w = .ok 1 w := fun w => by kernel_rfl
  have := run_slice_l (P := Tryz.prog) (t := 23) (a := a) (len := n) (cap := c) w Tryz.underlying23 .i64 1 (by decide) (by omega)
  rw [this, hs]
  rfl
theorem slice_tailT (G : Nat) (T : List (List Int)) (c : Nat) {n : Nat} (l1 : 1 ≤ n) (hn : n ≤ T.length) : ∃ a' c', (∀ w, TY w (some ⟨G, 0, none⟩) T → T.length ≤ c → TY w a' T.tail) ∧ ∀ w : World, (Instr.slice 24 (.slice (some ⟨G, 0, none⟩) T.length c) (some (.int .i64 1)) none none).run Tryz.prog w = .ok (.slice a' (T.length - 1) c') w := by
  by_cases h1 : c = 1
  · refine ⟨some ⟨G, 0, none⟩, 0, fun w h hc hne => absurd (List.length_eq_zero_iff.1 (by rw [List.length_tail]; omega)) hne, fun w => ?_⟩
    rw [slice_runT _ _ _ (by omega)]
    unfold sliced
    rw [if_pos h1, h1]
  · refine ⟨some ⟨G, 1, none⟩, c - 1, fun w h _ => by have := h.tail; rwa [Nat.zero_add] at this, fun w => ?_⟩
    rw [slice_runT _ _ _ (by omega)]
    unfold sliced
    rw [if_neg h1]
    simp [Addr.add]
theorem slice_tailI (G : Nat) (T : List Int) (c : Nat) {n : Nat} (l1 : 1 ≤ n) (hn : n ≤ T.length) : ∃ a' c', (∀ w, RY w (some ⟨G, 0, none⟩) T → T.length ≤ c → RY w a' T.tail) ∧ ∀ w : World, (Instr.slice 23 (.slice (some ⟨G, 0, none⟩) T.length c) (some (.int .i64 1)) none none).run Tryz.prog w = .ok (.slice a' (T.length - 1) c') w := by
  by_cases h1 : c = 1
  · refine ⟨some ⟨G, 0, none⟩, 0, fun w h hc hne => absurd (List.length_eq_zero_iff.1 (by rw [List.length_tail]; omega)) hne, fun w => ?_⟩
    rw [slice_runI _ _ _ (by omega)]
    unfold sliced
    rw [if_pos h1, h1]
  · refine ⟨some ⟨G, 1, none⟩, c - 1, fun w h _ => by have := h.tail; rwa [Nat.zero_add] at this, fun w => ?_⟩
    rw [slice_runI _ _ _ (by omega)]
    unfold sliced
    rw [if_neg h1]
    simp [Addr.add]
theorem rowsAt_cap {B : Nat} {w : World} {a : Option Addr} {n c : Nat} {T : List (List Int)} (h : RowsAt B w (.slice a n c) T) : T.length ≤ c := by
  obtain ⟨vs, h1, _⟩ := h
  rcases h1.2 with ⟨e, hn⟩ | ⟨g, cap, cur, e, _, _, hc, _⟩
  · omega
  · injection e with _ _ e
    omega
theorem own_cap {B : Nat} {w : World} {a : Option Addr} {n c : Nat} {L : List Int} (h : Own B w (.slice a n c) L) : L.length ≤ c := by
  rcases h.2 with ⟨e, hn⟩ | ⟨g, cap, cur, e, _, _, hc, _⟩
  · omega
  · injection e with _ _ e
    omega
theorem own_blk {B G n c : Nat} {w : World} {L : List Int} (h : Own B w (.slice (some ⟨G, 0, none⟩) n c) L) : ∃ cs, w.heap[G]? = some (.cells cs 3 (0, 0)) := by
  rcases h.2 with ⟨e, _⟩ | ⟨g, cap, cur, e, _, hg, _⟩
  · cases e
  · injection e with e _ _
    injection e with e
    injection e with e _ _
    subst e
    exact ⟨_, hg⟩
theorem litB3 (w : World) : Own w.heap.size (w.alloc (.cells #[.int .i64 0, .int .i64 3, .int .i64 (-1)] 3)) (.slice (some ⟨w.heap.size, 0, none⟩) 3 3) [0, 3, -1] := Own.row (L := [0, 3, -1]) (show Row _ _ [0, 3, -1] from heap_alloc_new w _) (Nat.le_refl _) (by unfold maxLen; simp)
theorem litB4 (w : World) : Own w.heap.size (w.alloc (.cells #[.int .i64 0, .int .i64 1, .int .i64 (-1), .int .i64 6] 3)) (.slice (some ⟨w.heap.size, 0, none⟩) 4 4) [0, 1, -1, 6] := Own.row (L := [0, 1, -1, 6]) (show Row _ _ [0, 1, -1, 6] from heap_alloc_new w _) (Nat.le_refl _) (by unfold maxLen; simp)
theorem RY.set {w : World} {ua n q : Nat} {L : List Int} {v : Value} (h : RY w (some ⟨ua, 0, none⟩) L) (ne : ua ≠ n) : RY (w.setCell ⟨n, q, none⟩ v) (some ⟨ua, 0, none⟩) L := fun hL => by
  obtain ⟨b, o, c, e, hb, hc⟩ := h hL
  have e' := e
  injection e' with e'
  injection e' with e1 _ _
  subst e1
  have hk : (w.setCell ⟨n, q, none⟩ v).heap[ua]? = w.heap[ua]? := heap_setCell_other _ _ _ _ ne
  exact ⟨ua, o, c, e, hk.trans hb, fun j hj => (cell_of_heap hb hk _).trans (hc j hj)⟩
theorem one4_any (C g : Nat) (m : Int) (a : Option Addr) (w : World) (hr : Rdr w C g m) (m1 : m ≤ 90000) (hh : Held g w a [0, 1, -1, 6]) : Calls Tryz.prog 43 #[.pointer (some ⟨g, 0, none⟩), .slice a 4 4] w fun e w' => ∃ u, e = .returned (.int .i64 u) ∧ u ∈ [(0 : Int), 1, -1, 6] ∧ w.grownBy w' (some g) ∧ Rdr w' C g (m + 1) :=
  (one_any C g m a 4 [0, 1, -1, 6] w hr (by omega) hh (by simp) (by simp)).mono fun e w' ⟨i, i0, i1, he, hg, hr'⟩ => ⟨_, he, nth_mem' _ i0 i1, hg, hr'⟩
theorem slice_inj {a b : Option Addr} {n m c d : Nat} (h : some (Value.slice a n c) = some (Value.slice b m d)) : a = b ∧ n = m ∧ c = d := by
  injection h with h
  injection h with h1 h2 h3
  exact ⟨h1, h2, h3⟩
theorem litB3d (w : World) : Own w.heap.size (w.alloc (.cells #[.int .i64 0, .int .i64 3, .int .i64 (-1)] 3)).drew (.slice (some ⟨w.heap.size, 0, none⟩) 3 3) [0, 3, -1] := (litB3 w).below ((Below.refl _ _).drew)
theorem litB4d (w : World) : Own w.heap.size (w.alloc (.cells #[.int .i64 0, .int .i64 1, .int .i64 (-1), .int .i64 6] 3)).drew (.slice (some ⟨w.heap.size, 0, none⟩) 4 4) [0, 1, -1, 6] := (litB4 w).below ((Below.refl _ _).drew)
theorem Rdr.drew {w : World} {C g : Nat} {m : Int} (h : Rdr w C g m) : Rdr w.drew C g m := h.below ((Below.refl _ _).drew)
theorem grown_drew {w w' : World} {r : Option Nat} (h : w.grownBy w' r) : w.grownBy w'.drew r := ⟨h.os, h.tape, h.output, h.size, h.block⟩
theorem Own.drew {B : Nat} {w : World} {v : Value} {L : List Int} (h : Own B w v L) : Own B w.drew v L := h.below ((Below.refl _ _).drew)
theorem RowsD.drew {B : Nat} {w : World} {v : Value} {T : List (List Int)} (h : RowsD B w v T) : RowsD B w.drew v T := h.below ((Below.refl _ _).drew)
theorem RowsD.blk {B G c n : Nat} {w : World} {T : List (List Int)} (h : RowsD B w (.slice (some ⟨G, 0, none⟩) n c) T) : ∃ cs, w.heap[G]? = some (.cells cs 23 (0, 0)) ∧ B ≤ G := by
  obtain ⟨vs, h1, _⟩ := h
  rcases h1.2 with ⟨e, _⟩ | ⟨g, cap, cur, e, hB, hg, _⟩
  · cases e
  · injection e with e _ _
    injection e with e
    injection e with e _ _
    subst e
    exact ⟨_, hg, hB⟩
theorem RowsD.free {B G c n : Nat} {w : World} {T : List (List Int)} (h : RowsD B w (.slice (some ⟨G, 0, none⟩) n c) T) (k : Nat) : w.frozen? ⟨G, k, none⟩ = false := by
  obtain ⟨cs, hc, _⟩ := h.blk
  exact frozen_of_row w G k _ _ hc
theorem blk_ne {w : World} {a b : Nat} {c1 c2 : Array Value} {t1 t2 : TypeId} (h1 : w.heap[a]? = some (.cells c1 t1 (0, 0))) (h2 : w.heap[b]? = some (.cells c2 t2 (0, 0))) (hn : t1 ≠ t2) : a ≠ b := fun e => by
  subst e
  rw [h1] at h2
  injection h2 with h2
  injection h2 with _ h2 _
  exact hn h2
theorem retH_dr {C g q : Nat} {m m' : Int} {P : List Int → List (List Int) → Prop} {w wk : World} {L : List Int} {T : List (List Int)} {a b : Option Addr} {ca cb : Nat} {x y : Value} (hz : wk.heap[q]? = some (.cells #[x, y] 26 (0, 0))) (hq : w.heap.size ≤ q) (hP : P L T) (hR : RY wk a L) (hT : TY wk b T) (hg : w.grownBy wk (some g)) (hr : Rdr wk C g m') (hm : m' ≤ m) (gl : g < w.heap.size) :
    RetH C g m P w (.returned (.agg #[.slice a L.length ca, .slice b T.length cb])) (wk.drew.setRow q #[.slice a L.length ca, .slice b T.length cb]) :=
  have hd : Below wk.heap.size wk wk.drew := (Below.refl _ _).drew
  retH_fin hz hq hP (hR.kp (kp_below hd)) (hT.kp (kp_below hd)) (grown_new hg hd) (hr.below hd) hm gl
/-- what bending does -/
def BentP (L : List Int) (T : List (List Int)) (L' : List Int) (T' : List (List Int)) : Prop := (L' = L ∧ T' = T) ∨ (L', T') ∈ bents L T
theorem bent_j {L : List Int} {T : List (List Int)} {q : List Int × List (List Int)} {k : Nat} (hk : k < L.length) (h : q ∈ (L, T.set k (rowAt T k).tail) :: [0, 3, -1].map (fun v => (L.set k v, T)) ++ (List.range L.length).flatMap fun j => [0, 1, -1, 6].map fun v => (L, setT T k j v)) : q ∈ bents L T :=
  List.mem_cons_of_mem _ (List.mem_cons_of_mem _ (List.mem_flatMap.2 ⟨k, List.mem_range.2 hk, h⟩))
end Go.Proofs.YtpophjloedpcfaaGreatDoor

namespace Go.Proofs.YtpophjloedpcfaaGreatDoor
open Go.RowKit

set_option maxRecDepth 100000 in
set_option maxHeartbeats 8000000 in
/-- spec.bent -/
theorem bent_any (C g : Nat) (m : Int) (w : World) (hr : Rdr w C g m) (m1 : m ≤ 80000) (ab ao tb tq : Nat) (ca cb : Nat) (L : List Int) (T : List (List Int)) (hL : RY w (some ⟨ab, ao, none⟩) L) (hT : TY w (some ⟨tb, tq, none⟩) T) (l1 : 1 ≤ L.length) (l6 : L.length ≤ 6) (hl : T.length = L.length) (hrw : ∀ j : Nat, j < T.length → (rowAt T j).length = L.length) :
    Calls Tryz.prog 61 #[.pointer (some ⟨g, 0, none⟩), .agg #[.slice (some ⟨ab, ao, none⟩) L.length ca, .slice (some ⟨tb, tq, none⟩) T.length cb]] w (RetH C g (m + 5) (BentP L T) w) := by
  obtain ⟨i0, hi, hz0, hz1, hz2⟩ := info_parts info_int
  have gl := hr.lt
  obtain ⟨b3, w0, eb3, ew0, hgw0, hBw0, K3⟩ := drawn_box (.slice (some ⟨ab, ao, none⟩) L.length ca) (.slice (some ⟨tb, tq, none⟩) T.length cb) gl
  have hr0 := hr.below hBw0
  have gl0 := hr0.lt
  have s0 := hBw0.size
  obtain ⟨w1, hw1, hg1, hs1, hR1, KZ⟩ := drawn_zero gl0
  have hr1 := hR1 _ _ hr0
  have e4 : w0.heap.size = b3 + 1 := by rw [ew0, eb3]; simp
  rw [e4] at KZ
  have s0' : w.heap.size ≤ b3 + 1 := by omega
  clear e4
  clear hR1
  have hgw := grown_trans hgw0 hg1
  have KL := Lib.hid (show ∀ wz, w1.grownBy wz (some g) → RY wz (some ⟨ab, ao, none⟩) L ∧ TY wz (some ⟨tb, tq, none⟩) T from fun wz h => by
    have hk := kp_drawn hr (grown_trans hgw h)
    exact ⟨hL.kp hk, hT.kp hk⟩)
  have lt1 : T.length ≤ L.length := by omega
  have lt2 : L.length ≤ T.length := by omega
  clear hl
  have HRW := Lib.hid (show ∀ j : Nat, j < T.length → 1 ≤ (rowAt T j).length ∧ (rowAt T j).length ≤ 64 from fun j hj => by have := hrw j hj; omega)
  have HRL := Lib.hid hrw
  clear hT hrw hL hr hr0
  go_enter Tryz.func61, Tryz.ntmps61
  go_wp2_with (rw [← ew0, ← eb3, ← hw1]; clear ew0 eb3 hw1)
  refine (pick_any C g m 16 w1 hr1 (by omega) (by omega) (by omega)).mono ?_
  rintro e w2 ⟨k, rfl, k0, k1, hg2, hr2⟩
  have gl2 := hr2.lt
  have lt4 : b3 + 1 < w2.heap.size := lt_of_block (KZ.out _ hg2)
  by_cases hk : k > 0
  · have hx3 := K3.out _ (grown_trans hg1 hg2)
    have hz := KZ.out _ hg2
    obtain ⟨hRY, hTY⟩ := KL.out _ hg2
    have hRY' := Lib.hid hRY
    have hTY' := Lib.hid hTY
    clear hRY hTY
    go_wp2_with (first
      | (refine wpList_load_row_w rfl 26 _ rfl b3 rfl _ _ _ _ hx3 Tryz.underlying26 rfl (size_Alg _ _) ?_)
      | (refine wpList_store_row rfl 26 _ _ rfl (b3 + 1) #[.slice (some ⟨ab, ao, none⟩) L.length ca, .slice (some ⟨tb, tq, none⟩) T.length cb] rfl rfl _ _ hz (size_Alg _ _) rfl (one_sl2 _ _ _ _ _ _) ?_))
    refine bodyPost_ret (results_cell_row rfl _ _ (b3 + 1) _ _ _ _ rfl (setRow_heap _ _ _ _ _ _ hz) Tryz.underlying26 rfl (size_Alg _ _)) rfl ?_
    exact retH_fin hz s0' (.inl ⟨rfl, rfl⟩) hRY'.out hTY'.out (grown_trans hgw hg2) hr2 (by omega) gl
  · have hx3 := K3.out _ (grown_trans hg1 hg2)
    obtain ⟨c0, c1⟩ := bx_cells hx3
    have lt3 : b3 < w2.heap.size := lt_of_block hx3
    have n3 := World.new_ne w2 _ c0
    have n31 := World.new_ne w2 _ c1
    have hLne : L ≠ [] := fun e => by rw [e] at l1; simp at l1
    have HL := Lib.hid (show ∀ j u, (L.map fun x => Value.int .i64 x)[j]? = some u → w2.cell? ((⟨ab, ao, none⟩ : Addr).add j) = some u from rd_cells (KL.out _ hg2).1.rd)
    have HT2 := Lib.hid (KL.out _ hg2).2.rd
    clear hLne
    go_wp2
    go_cut [5] (fun u5 wx => BentAt w2 L T u5 wx)
    case first =>
      go_region_held3 (fun w' => w'.cell? ⟨b3, 0, none⟩ = some (.slice (some ⟨ab, ao, none⟩) L.length ca) ∧ w'.cell? ⟨b3, 1, none⟩ = some (.slice (some ⟨tb, tq, none⟩) T.length cb))
        (first
          | go_keep
          | exact ⟨d0, d1⟩
          | exact ⟨e0, e1⟩
          | exact ⟨cell_set2 e0 (Nat.ne_of_lt lt3), cell_set2 e1 (Nat.ne_of_lt lt3)⟩
          | exact ⟨cell_set2 e0 (Nat.ne_of_lt (Nat.lt_succ_of_lt lt3)), cell_set2 e1 (Nat.ne_of_lt (Nat.lt_succ_of_lt lt3))⟩
          | exact ⟨cell_set2 e0 (Nat.ne_of_lt (Nat.lt_of_lt_of_le lt3 s9)), cell_set2 e1 (Nat.ne_of_lt (Nat.lt_of_lt_of_le lt3 s9))⟩)
        (first
          | (refine step_append_lies _ (by rfl) _ _ _ (by rfl) w2.heap.size 3 i0 (.int .i64 0) 1 8 Tryz.underlying23 hi hz0 hz1 hz2 rfl (by omega) (.slice (some ⟨w2.heap.size, 0, none⟩) 0 0) 0 [] (by rfl) (Own.row (L := []) (heap_alloc_new w2 _) (Nat.le_refl _) (Nat.zero_le _)) ⟨ab, ao, none⟩ L.length ca (L.map fun x => Value.int .i64 x) (by rfl) (by simp) (old_newsZ _ HL.out) (fun x hx => by simp at hx; obtain ⟨y, _, rfl⟩ := hx; rfl) (by omega) (by unfold maxLen; omega) (by omega) (by simp; try omega) (w2.heap.size + 1) (by simp) ?_; intro gg cap w9 hown hgrow hat hlt; have hb9 : Below w2.heap.size w2 w9 := app1 (w2 := w2) (((Below.refl w2.heap.size w2).alloc (Nat.le_refl _) _).drew) hgrow (Nat.le_refl _); have d0 := (hb9.cell (p := ⟨b3, 0, none⟩) lt3).trans c0; have d1 := (hb9.cell (p := ⟨b3, 1, none⟩) lt3).trans c1; have n9 := World.new_ne w9 _ d0; have n91 := World.new_ne w9 _ d1; have ho9 := own_of_app hown; have hT9 := HT2.out.below hb9; have s9 := hb9.size; clear hgrow hat hown)
          | (refine step_append_lies _ (by rfl) _ _ _ (by rfl) w2.heap.size 3 i0 (.int .i64 0) 1 8 Tryz.underlying23 hi hz0 hz1 hz2 rfl (by omega) (.slice (some ⟨w2.heap.size + 1, 0, none⟩) 0 0) 0 [] (by rfl) (Own.row (B := w2.heap.size) (L := []) (heap_alloc2_new w2 (.cells #[.slice none 0 0, .slice none 0 0] 26) (.cells #[] 3)) (Nat.le_succ _) (Nat.zero_le _)) ⟨ab, ao, none⟩ L.length ca (L.map fun x => Value.int .i64 x) (by rfl) (by simp) (old_newsZ _ (old_newsZ _ HL.out)) (fun x hx => by simp at hx; obtain ⟨y, _, rfl⟩ := hx; rfl) (by omega) (by unfold maxLen; omega) (by omega) (by simp; try omega) (w2.heap.size + 1 + 1) (by simp) ?_; intro gg cap w9 hown hgrow hat hlt; have hb9 : Below w2.heap.size w2 w9 := app1 (w2 := w2) ((((Below.refl w2.heap.size w2).alloc (Nat.le_refl _) _).alloc (le_size1 w2 _) _).drew) hgrow (Nat.le_succ _); have hz9 : w9.heap[w2.heap.size]? = some (.cells #[.slice none 0 0, .slice none 0 0] 26 (0, 0)) := app2 (n := w2.heap.size) hgrow (Nat.ne_of_lt (Nat.lt_succ_self _)) (zero_then w2 _); have d0 := (hb9.cell (p := ⟨b3, 0, none⟩) lt3).trans c0; have d1 := (hb9.cell (p := ⟨b3, 1, none⟩) lt3).trans c1; have n9 := World.new_ne w9 _ d0; have n91 := World.new_ne w9 _ d1; have ho9 := own_of_app hown; have hT9 := HT2.out.below hb9; have s9 := hb9.size; clear hgrow hat hown)
          | (refine step_append_lies _ (by rfl) _ _ _ (by rfl) w2.heap.size 3 i0 (.int .i64 0) 1 8 Tryz.underlying23 hi hz0 hz1 hz2 rfl (by omega) (.slice (some ⟨w2.heap.size + 1, 0, none⟩) 0 0) 0 [] (by rfl) (Own.row (B := w2.heap.size) (L := []) (heap_alloc2_new w2 (.cells #[.slice none 0 0, .slice none 0 0] 26) (.cells #[] 3)) (Nat.le_succ _) (Nat.zero_le _)) ⟨ab, ao, none⟩ L.length ca (L.map fun x => Value.int .i64 x) (by rfl) (by simp) (old_newsZ _ (old_newsZ _ HL.out)) (fun x hx => by simp at hx; obtain ⟨y, _, rfl⟩ := hx; rfl) (by omega) (by unfold maxLen; omega) (by omega) (by simp; try omega) (w2.heap.size + 1 + 1) (by simp) ?_; intro gg cap w9 hown hgrow hat hlt; have hb9 : Below w2.heap.size w2 w9 := app1 (w2 := w2) ((((Below.refl w2.heap.size w2).alloc (Nat.le_refl _) _).alloc (le_size1 w2 _) _).drew.drew) hgrow (Nat.le_succ _); have hz9 : w9.heap[w2.heap.size]? = some (.cells #[.slice none 0 0, .slice none 0 0] 26 (0, 0)) := app2 (n := w2.heap.size) hgrow (Nat.ne_of_lt (Nat.lt_succ_self _)) (zero_then w2 _); have d0 := (hb9.cell (p := ⟨b3, 0, none⟩) lt3).trans c0; have d1 := (hb9.cell (p := ⟨b3, 1, none⟩) lt3).trans c1; have n9 := World.new_ne w9 _ d0; have n91 := World.new_ne w9 _ d1; have ho9 := own_of_app hown; have hT9 := HT2.out.below hb9; have s9 := hb9.size; clear hgrow hat hown)
          | (refine step_append_lies _ (by rfl) _ _ _ (by rfl) w2.heap.size 3 i0 (.int .i64 0) 1 8 Tryz.underlying23 hi hz0 hz1 hz2 rfl (by omega) (.slice (some ⟨w2.heap.size + 1, 0, none⟩) 0 0) 0 [] (by rfl) (Own.row (B := w2.heap.size) (L := []) (heap_alloc2_new w2 (.cells #[.slice none 0 0, .slice none 0 0] 26) (.cells #[] 3)) (Nat.le_succ _) (Nat.zero_le _)) ⟨ab, ao, none⟩ L.length ca (L.map fun x => Value.int .i64 x) (by rfl) (by simp) (old_newsZ _ (old_newsZ _ HL.out)) (fun x hx => by simp at hx; obtain ⟨y, _, rfl⟩ := hx; rfl) (by omega) (by unfold maxLen; omega) (by omega) (by simp; try omega) (w2.heap.size + 1 + 1) (by simp) ?_; intro gg cap w9 hown hgrow hat hlt; have hb9 : Below w2.heap.size w2 w9 := app1 (w2 := w2) ((((Below.refl w2.heap.size w2).alloc (Nat.le_refl _) _).alloc (le_size1 w2 _) _).drew.drew.drew) hgrow (Nat.le_succ _); have hz9 : w9.heap[w2.heap.size]? = some (.cells #[.slice none 0 0, .slice none 0 0] 26 (0, 0)) := app2 (n := w2.heap.size) hgrow (Nat.ne_of_lt (Nat.lt_succ_self _)) (zero_then w2 _); have d0 := (hb9.cell (p := ⟨b3, 0, none⟩) lt3).trans c0; have d1 := (hb9.cell (p := ⟨b3, 1, none⟩) lt3).trans c1; have n9 := World.new_ne w9 _ d0; have n91 := World.new_ne w9 _ d1; have ho9 := own_of_app hown; have hT9 := HT2.out.below hb9; have s9 := hb9.size; clear hgrow hat hown)
          | (refine step_append_lies _ (by rfl) _ _ _ (by rfl) w2.heap.size 3 i0 (.int .i64 0) 1 8 Tryz.underlying23 hi hz0 hz1 hz2 rfl (by omega) (.slice (some ⟨w2.heap.size, 0, none⟩) 0 0) 0 [] (by rfl) (Own.alloc (Own.row (L := []) (heap_alloc_new w2 _) (Nat.le_refl _) (Nat.zero_le _)) (.cells #[.slice none 0 0, .slice none 0 0] 26)) ⟨ab, ao, none⟩ L.length ca (L.map fun x => Value.int .i64 x) (by rfl) (by simp) (old_newsZ _ (old_newsZ _ HL.out)) (fun x hx => by simp at hx; obtain ⟨y, _, rfl⟩ := hx; rfl) (by omega) (by unfold maxLen; omega) (by omega) (by simp; try omega) (w2.heap.size + 1 + 1) (by simp) ?_; intro gg cap w9 hown hgrow hat hlt; have hb9 : Below w2.heap.size w2 w9 := app1 (w2 := w2) ((((Below.refl w2.heap.size w2).alloc (Nat.le_refl _) _).alloc (le_size1 w2 _) _).drew) hgrow (Nat.le_refl _); have hz9 : w9.heap[w2.heap.size + 1]? = some (.cells #[.slice none 0 0, .slice none 0 0] 26 (0, 0)) := app2 (n := w2.heap.size + 1) hgrow (Nat.ne_of_gt (Nat.lt_succ_self _)) (heap_alloc2_new w2 _ (.cells #[.slice none 0 0, .slice none 0 0] 26)); have d0 := (hb9.cell (p := ⟨b3, 0, none⟩) lt3).trans c0; have d1 := (hb9.cell (p := ⟨b3, 1, none⟩) lt3).trans c1; have n9 := World.new_ne w9 _ d0; have n91 := World.new_ne w9 _ d1; have ho9 := own_of_app hown; have hT9 := HT2.out.below hb9; have s9 := hb9.size; clear hgrow hat hown)
          | (refine step_append_lies _ (by rfl) _ _ _ (by rfl) w2.heap.size 3 i0 (.int .i64 0) 1 8 Tryz.underlying23 hi hz0 hz1 hz2 rfl (by omega) (.slice (some ⟨w2.heap.size, 0, none⟩) 0 0) 0 [] (by rfl) (Own.alloc (Own.row (L := []) (heap_alloc_new w2 _) (Nat.le_refl _) (Nat.zero_le _)) (.cells #[.slice none 0 0, .slice none 0 0] 26)) ⟨ab, ao, none⟩ L.length ca (L.map fun x => Value.int .i64 x) (by rfl) (by simp) (old_newsZ _ (old_newsZ _ HL.out)) (fun x hx => by simp at hx; obtain ⟨y, _, rfl⟩ := hx; rfl) (by omega) (by unfold maxLen; omega) (by omega) (by simp; try omega) (w2.heap.size + 1 + 1) (by simp) ?_; intro gg cap w9 hown hgrow hat hlt; have hb9 : Below w2.heap.size w2 w9 := app1 (w2 := w2) ((((Below.refl w2.heap.size w2).alloc (Nat.le_refl _) _).alloc (le_size1 w2 _) _).drew.drew) hgrow (Nat.le_refl _); have hz9 : w9.heap[w2.heap.size + 1]? = some (.cells #[.slice none 0 0, .slice none 0 0] 26 (0, 0)) := app2 (n := w2.heap.size + 1) hgrow (Nat.ne_of_gt (Nat.lt_succ_self _)) (heap_alloc2_new w2 _ (.cells #[.slice none 0 0, .slice none 0 0] 26)); have d0 := (hb9.cell (p := ⟨b3, 0, none⟩) lt3).trans c0; have d1 := (hb9.cell (p := ⟨b3, 1, none⟩) lt3).trans c1; have n9 := World.new_ne w9 _ d0; have n91 := World.new_ne w9 _ d1; have ho9 := own_of_app hown; have hT9 := HT2.out.below hb9; have s9 := hb9.size; clear hgrow hat hown)
          | (refine step_append_lies _ (by rfl) _ _ _ (by rfl) w2.heap.size 3 i0 (.int .i64 0) 1 8 Tryz.underlying23 hi hz0 hz1 hz2 rfl (by omega) (.slice (some ⟨w2.heap.size, 0, none⟩) 0 0) 0 [] (by rfl) (Own.alloc (Own.row (L := []) (heap_alloc_new w2 _) (Nat.le_refl _) (Nat.zero_le _)) (.cells #[.slice none 0 0, .slice none 0 0] 26)) ⟨ab, ao, none⟩ L.length ca (L.map fun x => Value.int .i64 x) (by rfl) (by simp) (old_newsZ _ (old_newsZ _ HL.out)) (fun x hx => by simp at hx; obtain ⟨y, _, rfl⟩ := hx; rfl) (by omega) (by unfold maxLen; omega) (by omega) (by simp; try omega) (w2.heap.size + 1 + 1) (by simp) ?_; intro gg cap w9 hown hgrow hat hlt; have hb9 : Below w2.heap.size w2 w9 := app1 (w2 := w2) ((((Below.refl w2.heap.size w2).alloc (Nat.le_refl _) _).alloc (le_size1 w2 _) _).drew.drew.drew) hgrow (Nat.le_refl _); have hz9 : w9.heap[w2.heap.size + 1]? = some (.cells #[.slice none 0 0, .slice none 0 0] 26 (0, 0)) := app2 (n := w2.heap.size + 1) hgrow (Nat.ne_of_gt (Nat.lt_succ_self _)) (heap_alloc2_new w2 _ (.cells #[.slice none 0 0, .slice none 0 0] 26)); have d0 := (hb9.cell (p := ⟨b3, 0, none⟩) lt3).trans c0; have d1 := (hb9.cell (p := ⟨b3, 1, none⟩) lt3).trans c1; have n9 := World.new_ne w9 _ d0; have n91 := World.new_ne w9 _ d1; have ho9 := own_of_app hown; have hT9 := HT2.out.below hb9; have s9 := hb9.size; clear hgrow hat hown)
          | (go_simp; go_at_call 93; refine (copyTable_any (some ⟨tb, tq, none⟩) cb T w9 hT9 (by omega) HRW.out).mono ?_; rintro e w10 ⟨G, gc, rfl, hD, hb10'⟩; have hb10 : Below w2.heap.size w2 w10 := (hb9).trans (hb10'.mono s9); have e0 := (hb10.cell (p := ⟨b3, 0, none⟩) lt3).trans c0; have e1 := (hb10.cell (p := ⟨b3, 1, none⟩) lt3).trans c1; have n10 := World.new_ne w10 _ e0; have n101 := World.new_ne w10 _ e1; have ho10 := ho9.below hb10'; have hD10 := hD; have lo10 := hlt; (try (have hz10 := (hb10'.block _ (lt_of_block hz9)).trans hz9; obtain ⟨z0, z1⟩ := bx_cells hz10; have zf0 := frozen_of_row w10 _ 0 _ _ hz10; have zf1 := frozen_of_row w10 _ 1 _ _ hz10)); clear hb10')
          | (go_simp; go_at_call 93; refine (copyTable_any (some ⟨tb, tq, none⟩) cb T (w9.alloc (.cells #[.slice none 0 0, .slice none 0 0] 26)) (hT9.below ((Below.refl _ _).alloc (Nat.le_refl _) _)) (by omega) HRW.out).mono ?_; rintro e w10 ⟨G, gc, rfl, hD, hb10'⟩; have hb10 : Below w2.heap.size w2 w10 := (hb9.alloc s9 _).trans (hb10'.mono (Nat.le_trans s9 (le_size1 w9 _))); have e0 := (hb10.cell (p := ⟨b3, 0, none⟩) lt3).trans c0; have e1 := (hb10.cell (p := ⟨b3, 1, none⟩) lt3).trans c1; have n10 := World.new_ne w10 _ e0; have n101 := World.new_ne w10 _ e1; have ho10 := (ho9.alloc (.cells #[.slice none 0 0, .slice none 0 0] 26)).below hb10'; have hD10 := hD; have lo10 := Nat.lt_of_lt_of_le hlt (le_size1 w9 (.cells #[.slice none 0 0, .slice none 0 0] 26)); have hz10 := (hb10'.block _ (by simp)).trans (heap_alloc_new w9 (.cells #[.slice none 0 0, .slice none 0 0] 26)); obtain ⟨z0, z1⟩ := bx_cells hz10; have zf0 := frozen_of_row w10 _ 0 _ _ hz10; have zf1 := frozen_of_row w10 _ 1 _ _ hz10; clear hb10'))
      all_goals
        go_wp2_with fail
        go_meet
        first
          | exact bentEnd1 hb10 ho10 hD10 lo10 (by first | exact s9 | exact Nat.le_trans s9 (le_size1 _ _))
          | exact bentEnd2 (Nat.le_refl _) hz10 hb10 ho10 hD10 lo10 (by first | exact s9 | exact Nat.le_trans s9 (le_size1 _ _))
          | exact bentEnd2 (Nat.le_succ _) hz10 hb10 ho10 hD10 lo10 (by first | exact s9 | exact Nat.le_trans s9 (le_size1 _ _))
          | exact bentEnd2 s9 hz10 hb10 ho10 hD10 lo10 (by first | exact s9 | exact Nat.le_trans s9 (le_size1 _ _))
    case rest =>
    obtain ⟨w3, hwc⟩ : ∃ x : World, x = wc := ⟨_, rfl⟩
    rw [← hwc] at hcut ⊢
    clear hwc hx3 c0 c1 n3 n31 HL HT2 hk KL K3
    obtain ⟨b5, ua, uc, G, gc, lo, rfl, hx3, hU3, hD3, lo1, lo2, lb5, hb3⟩ := hcut
    have hr3 := hr2.below hb3
    have hgA := grown_new hg2 hb3
    obtain ⟨c0, c1⟩ := bx_cells hx3
    have sB3 := hb3.size
    have nb5 : b5 ≠ g := by omega
    have l1' : (1 : Int) ≤ L.length := by omega
    clear hr2
    go_wp2_with fail
    refine (pick_any C g (m + 1) L.length w3 hr3 (by omega) l1' (by omega)).mono ?_
    rintro e w4 ⟨kk, rfl, k0', k1', hg4, hr4⟩
    have hU4 := hU3.drawn hr3 hg4
    have hD4 := hD3.drawn hr3 hg4
    have hx4 := box_drawn hx3 nb5 hg4
    have hgB := grown_trans hgA hg4
    clear hU3 hD3 hx3 c0 c1 hr3
    go_wp2_with fail
    refine (pick_any C g (m + 1 + 1) 5 w4 hr4 (by omega) (by omega) (by omega)).mono ?_
    rintro e w5 ⟨j, rfl, j0, j1, hg5, hr5⟩
    have hU5 := hU4.drawn hr4 hg5
    have hD5 := hD4.drawn hr4 hg5
    have hx5 := box_drawn hx4 nb5 hg5
    have hgC := grown_trans hgB hg5
    obtain ⟨c0, c1⟩ := bx_cells hx5
    have f0 := frozen_of_row w5 _ 0 _ _ hx5
    have f1 := frozen_of_row w5 _ 1 _ _ hx5
    have s5 : w2.heap.size ≤ w5.heap.size := Nat.le_trans sB3 (Nat.le_trans hg4.size hg5.size)
    obtain ⟨k, rfl⟩ : ∃ k : Nat, kk = k := ⟨kk.toNat, by omega⟩
    have hkL : k < L.length := by omega
    clear hU4 hD4 hx4 hr4 hg4 hg5 k0'
    by_cases e0 : j = 0
    · subst e0
      obtain ⟨ra, rc, cs, k1, k2, _, _, _, _⟩ := hD5.set2 (x := k) (y := 0) (by omega) (by have := HRW.out k (by omega); omega)
      obtain ⟨gcs, hG5, loG⟩ := hD5.blk
      have nG : G ≠ g := by omega
      have hrk := HRL.out k (by omega)
      obtain ⟨R, hR'⟩ : ∃ R, R = rowAt T (k : Int) := ⟨_, rfl⟩
      rw [← hR'] at k1 hrk
      have rl1 : R.length ≤ L.length := by omega
      have rl2 : L.length ≤ R.length := by omega
      have HR := Lib.hid hR'
      have kI : (0 : Int) ≤ (k : Int) := by omega
      have kT : (k : Int) < T.length := by omega
      clear hrk hR' k2
      go_wp2
      go_region_held3 (fun w' => w'.cell? ⟨b5, 1, none⟩ = some (.slice (some ⟨G, 0, none⟩) T.length gc) ∧ w'.cell? ⟨b5, 0, none⟩ = some (.slice (some ⟨ua, 0, none⟩) L.length uc) ∧ w'.cell? ⟨G, k, none⟩ = some (.slice (some ⟨ra, 0, none⟩) R.length rc))
        (first | go_keep | exact ⟨d1, d0, d2⟩ | exact ⟨g1, g0, g2⟩ | exact ⟨h1, h0, h2⟩)
        (first
          | (go_simp; go_at_call 40; (with_reducible refine (pick_any C g (m + 1 + 1 + 1) L.length w5 (hr5) (by omega) l1' (by omega)).mono ?_); rintro e w6 ⟨v, rfl, v0, v1, hg6, hr6⟩; have hg56 := grown_trans (grown_refl w5 (some g)) hg6; have d0 := (bx_cells (box_drawn2 (b := b5) hg56 nb5 hx5)).1; have d1 := (bx_cells (box_drawn2 (b := b5) hg56 nb5 hx5)).2; have d2 := (cell_of_heap hG5 (hg56.block G (lt_of_block hG5) (fun e => nG (by injection e))) k).trans k1; obtain ⟨q, rfl⟩ : ∃ q : Nat, v = q := ⟨v.toNat, by omega⟩; have qI : (0 : Int) ≤ (q : Int) := v0; have qR : (q : Int) < R.length := by omega)
          | (go_simp; go_at_call 40; (with_reducible refine (pick_any C g (m + 1 + 1 + 1) L.length w5.drew (hr5.drew) (by omega) l1' (by omega)).mono ?_); rintro e w6 ⟨v, rfl, v0, v1, hg6, hr6⟩; have hg56 := grown_trans (grown_drew (grown_refl w5 (some g))) hg6; have d0 := (bx_cells (box_drawn2 (b := b5) hg56 nb5 hx5)).1; have d1 := (bx_cells (box_drawn2 (b := b5) hg56 nb5 hx5)).2; have d2 := (cell_of_heap hG5 (hg56.block G (lt_of_block hG5) (fun e => nG (by injection e))) k).trans k1; obtain ⟨q, rfl⟩ : ∃ q : Nat, v = q := ⟨v.toNat, by omega⟩; have qI : (0 : Int) ≤ (q : Int) := v0; have qR : (q : Int) < R.length := by omega)
          | (go_simp; go_at_call 40; (with_reducible refine (pick_any C g (m + 1 + 1 + 1) L.length w5.drew.drew (hr5.drew.drew) (by omega) l1' (by omega)).mono ?_); rintro e w6 ⟨v, rfl, v0, v1, hg6, hr6⟩; have hg56 := grown_trans (grown_drew (grown_drew (grown_refl w5 (some g)))) hg6; have d0 := (bx_cells (box_drawn2 (b := b5) hg56 nb5 hx5)).1; have d1 := (bx_cells (box_drawn2 (b := b5) hg56 nb5 hx5)).2; have d2 := (cell_of_heap hG5 (hg56.block G (lt_of_block hG5) (fun e => nG (by injection e))) k).trans k1; obtain ⟨q, rfl⟩ : ∃ q : Nat, v = q := ⟨v.toNat, by omega⟩; have qI : (0 : Int) ≤ (q : Int) := v0; have qR : (q : Int) < R.length := by omega)
          | (go_simp; go_at_call 40; (with_reducible refine (pick_any C g (m + 1 + 1 + 1) L.length (w5.alloc (.cells #[.int .i64 0, .int .i64 1, .int .i64 (-1), .int .i64 6] 3)) ((hr5.alloc (.cells #[.int .i64 0, .int .i64 1, .int .i64 (-1), .int .i64 6] 3))) (by omega) l1' (by omega)).mono ?_); rintro e w6 ⟨v, rfl, v0, v1, hg6, hr6⟩; have hg56 := grown_trans (grown_alloc (grown_refl w5 (some g)) (.cells #[.int .i64 0, .int .i64 1, .int .i64 (-1), .int .i64 6] 3)) hg6; have hH6 := ((litB4 w5)).drawn ((hr5.alloc (.cells #[.int .i64 0, .int .i64 1, .int .i64 (-1), .int .i64 6] 3))) hg6; have d0 := (bx_cells (box_drawn2 (b := b5) hg56 nb5 hx5)).1; have d1 := (bx_cells (box_drawn2 (b := b5) hg56 nb5 hx5)).2; have d2 := (cell_of_heap hG5 (hg56.block G (lt_of_block hG5) (fun e => nG (by injection e))) k).trans k1; obtain ⟨q, rfl⟩ : ∃ q : Nat, v = q := ⟨v.toNat, by omega⟩; have qI : (0 : Int) ≤ (q : Int) := v0; have qR : (q : Int) < R.length := by omega)
          | (go_simp; go_at_call 40; (with_reducible refine (pick_any C g (m + 1 + 1 + 1) L.length (w5.alloc (.cells #[.int .i64 0, .int .i64 1, .int .i64 (-1), .int .i64 6] 3)).drew ((hr5.alloc (.cells #[.int .i64 0, .int .i64 1, .int .i64 (-1), .int .i64 6] 3)).drew) (by omega) l1' (by omega)).mono ?_); rintro e w6 ⟨v, rfl, v0, v1, hg6, hr6⟩; have hg56 := grown_trans (grown_drew (grown_alloc (grown_refl w5 (some g)) (.cells #[.int .i64 0, .int .i64 1, .int .i64 (-1), .int .i64 6] 3))) hg6; have hH6 := ((litB4 w5).drew).drawn ((hr5.alloc (.cells #[.int .i64 0, .int .i64 1, .int .i64 (-1), .int .i64 6] 3)).drew) hg6; have d0 := (bx_cells (box_drawn2 (b := b5) hg56 nb5 hx5)).1; have d1 := (bx_cells (box_drawn2 (b := b5) hg56 nb5 hx5)).2; have d2 := (cell_of_heap hG5 (hg56.block G (lt_of_block hG5) (fun e => nG (by injection e))) k).trans k1; obtain ⟨q, rfl⟩ : ∃ q : Nat, v = q := ⟨v.toNat, by omega⟩; have qI : (0 : Int) ≤ (q : Int) := v0; have qR : (q : Int) < R.length := by omega)
          | (go_simp; go_at_call 40; (with_reducible refine (pick_any C g (m + 1 + 1 + 1) L.length (w5.alloc (.cells #[.int .i64 0, .int .i64 1, .int .i64 (-1), .int .i64 6] 3)).drew.drew ((hr5.alloc (.cells #[.int .i64 0, .int .i64 1, .int .i64 (-1), .int .i64 6] 3)).drew.drew) (by omega) l1' (by omega)).mono ?_); rintro e w6 ⟨v, rfl, v0, v1, hg6, hr6⟩; have hg56 := grown_trans (grown_drew (grown_drew (grown_alloc (grown_refl w5 (some g)) (.cells #[.int .i64 0, .int .i64 1, .int .i64 (-1), .int .i64 6] 3)))) hg6; have hH6 := ((litB4 w5).drew.drew).drawn ((hr5.alloc (.cells #[.int .i64 0, .int .i64 1, .int .i64 (-1), .int .i64 6] 3)).drew.drew) hg6; have d0 := (bx_cells (box_drawn2 (b := b5) hg56 nb5 hx5)).1; have d1 := (bx_cells (box_drawn2 (b := b5) hg56 nb5 hx5)).2; have d2 := (cell_of_heap hG5 (hg56.block G (lt_of_block hG5) (fun e => nG (by injection e))) k).trans k1; obtain ⟨q, rfl⟩ : ∃ q : Nat, v = q := ⟨v.toNat, by omega⟩; have qI : (0 : Int) ≤ (q : Int) := v0; have qR : (q : Int) < R.length := by omega)
          | (go_simp; go_at_call 43; have HH := (((litB4 w6)).held ((hr6.alloc (.cells #[.int .i64 0, .int .i64 1, .int .i64 (-1), .int .i64 6] 3)))); (with_reducible refine (one4_any C g (m + 1 + 1 + 1 + 1) _ (w6.alloc (.cells #[.int .i64 0, .int .i64 1, .int .i64 (-1), .int .i64 6] 3)) ((hr6.alloc (.cells #[.int .i64 0, .int .i64 1, .int .i64 (-1), .int .i64 6] 3))) (by omega) HH).mono ?_); rintro e w7 ⟨u, rfl, hum, hg7, hr7⟩; have hg57 := grown_trans (grown_alloc hg56 (.cells #[.int .i64 0, .int .i64 1, .int .i64 (-1), .int .i64 6] 3)) hg7; have hU7 := hU5.drawn hr5 hg57; have hD7 := hD5.drawn hr5 hg57; have hgD := grown_trans hgC hg57; have hx7 := box_drawn2 (b := b5) hg57 nb5 hx5; have g0 := (bx_cells hx7).1; have g1 := (bx_cells hx7).2; have hG7 := (hg57.block G (lt_of_block hG5) (fun e => nG (by injection e))); have g2 := (cell_of_heap hG5 hG7 k).trans k1; obtain ⟨ra', rc', cs', t1, t2, t3, t4, t5, t6⟩ := hD7.set2 (x := k) (y := q) (by omega) (by rw [← HR.out]; omega); have ee := (slice_inj (g2.symm.trans t1)).1; injection ee with ee; injection ee with ee _ _; subst ee; have neR := blk_ne hx7 t3 (by decide); have neGR := blk_ne (hG7.trans hG5) t3 (by decide); have hz := (heap_setCell_other w7 ⟨ra, q, none⟩ (b3 + 1) (.int .i64 u) (by exact blk_ne (KZ.out _ hgD) t3 (by decide))).trans (KZ.out _ hgD); have hxK := (heap_setCell_other w7 ⟨ra, q, none⟩ b5 (.int .i64 u) (by exact neR)).trans hx7; have h0 := (bx_cells hxK).1; have h1 := (bx_cells hxK).2; have h2 := (cell_of_heap (hG7.trans hG5) (heap_setCell_other w7 ⟨ra, q, none⟩ G (.int .i64 u) (by exact neGR)) k).trans g2; have HT6 := Lib.hid (t6 u); have lra : lo ≤ ra := t2; clear t1 t6)
          | (go_simp; go_at_call 43; have HH := (((litB4 w6).drew).held ((hr6.alloc (.cells #[.int .i64 0, .int .i64 1, .int .i64 (-1), .int .i64 6] 3)).drew)); (with_reducible refine (one4_any C g (m + 1 + 1 + 1 + 1) _ (w6.alloc (.cells #[.int .i64 0, .int .i64 1, .int .i64 (-1), .int .i64 6] 3)).drew ((hr6.alloc (.cells #[.int .i64 0, .int .i64 1, .int .i64 (-1), .int .i64 6] 3)).drew) (by omega) HH).mono ?_); rintro e w7 ⟨u, rfl, hum, hg7, hr7⟩; have hg57 := grown_trans (grown_drew (grown_alloc hg56 (.cells #[.int .i64 0, .int .i64 1, .int .i64 (-1), .int .i64 6] 3))) hg7; have hU7 := hU5.drawn hr5 hg57; have hD7 := hD5.drawn hr5 hg57; have hgD := grown_trans hgC hg57; have hx7 := box_drawn2 (b := b5) hg57 nb5 hx5; have g0 := (bx_cells hx7).1; have g1 := (bx_cells hx7).2; have hG7 := (hg57.block G (lt_of_block hG5) (fun e => nG (by injection e))); have g2 := (cell_of_heap hG5 hG7 k).trans k1; obtain ⟨ra', rc', cs', t1, t2, t3, t4, t5, t6⟩ := hD7.set2 (x := k) (y := q) (by omega) (by rw [← HR.out]; omega); have ee := (slice_inj (g2.symm.trans t1)).1; injection ee with ee; injection ee with ee _ _; subst ee; have neR := blk_ne hx7 t3 (by decide); have neGR := blk_ne (hG7.trans hG5) t3 (by decide); have hz := (heap_setCell_other w7 ⟨ra, q, none⟩ (b3 + 1) (.int .i64 u) (by exact blk_ne (KZ.out _ hgD) t3 (by decide))).trans (KZ.out _ hgD); have hxK := (heap_setCell_other w7 ⟨ra, q, none⟩ b5 (.int .i64 u) (by exact neR)).trans hx7; have h0 := (bx_cells hxK).1; have h1 := (bx_cells hxK).2; have h2 := (cell_of_heap (hG7.trans hG5) (heap_setCell_other w7 ⟨ra, q, none⟩ G (.int .i64 u) (by exact neGR)) k).trans g2; have HT6 := Lib.hid (t6 u); have lra : lo ≤ ra := t2; clear t1 t6)
          | (go_simp; go_at_call 43; have HH := (((litB4 w6).drew.drew).held ((hr6.alloc (.cells #[.int .i64 0, .int .i64 1, .int .i64 (-1), .int .i64 6] 3)).drew.drew)); (with_reducible refine (one4_any C g (m + 1 + 1 + 1 + 1) _ (w6.alloc (.cells #[.int .i64 0, .int .i64 1, .int .i64 (-1), .int .i64 6] 3)).drew.drew ((hr6.alloc (.cells #[.int .i64 0, .int .i64 1, .int .i64 (-1), .int .i64 6] 3)).drew.drew) (by omega) HH).mono ?_); rintro e w7 ⟨u, rfl, hum, hg7, hr7⟩; have hg57 := grown_trans (grown_drew (grown_drew (grown_alloc hg56 (.cells #[.int .i64 0, .int .i64 1, .int .i64 (-1), .int .i64 6] 3)))) hg7; have hU7 := hU5.drawn hr5 hg57; have hD7 := hD5.drawn hr5 hg57; have hgD := grown_trans hgC hg57; have hx7 := box_drawn2 (b := b5) hg57 nb5 hx5; have g0 := (bx_cells hx7).1; have g1 := (bx_cells hx7).2; have hG7 := (hg57.block G (lt_of_block hG5) (fun e => nG (by injection e))); have g2 := (cell_of_heap hG5 hG7 k).trans k1; obtain ⟨ra', rc', cs', t1, t2, t3, t4, t5, t6⟩ := hD7.set2 (x := k) (y := q) (by omega) (by rw [← HR.out]; omega); have ee := (slice_inj (g2.symm.trans t1)).1; injection ee with ee; injection ee with ee _ _; subst ee; have neR := blk_ne hx7 t3 (by decide); have neGR := blk_ne (hG7.trans hG5) t3 (by decide); have hz := (heap_setCell_other w7 ⟨ra, q, none⟩ (b3 + 1) (.int .i64 u) (by exact blk_ne (KZ.out _ hgD) t3 (by decide))).trans (KZ.out _ hgD); have hxK := (heap_setCell_other w7 ⟨ra, q, none⟩ b5 (.int .i64 u) (by exact neR)).trans hx7; have h0 := (bx_cells hxK).1; have h1 := (bx_cells hxK).2; have h2 := (cell_of_heap (hG7.trans hG5) (heap_setCell_other w7 ⟨ra, q, none⟩ G (.int .i64 u) (by exact neGR)) k).trans g2; have HT6 := Lib.hid (t6 u); have lra : lo ≤ ra := t2; clear t1 t6)
          | (go_simp; go_at_call 43; have HH := ((hH6).held (hr6)); (with_reducible refine (one4_any C g (m + 1 + 1 + 1 + 1) _ w6 (hr6) (by omega) HH).mono ?_); rintro e w7 ⟨u, rfl, hum, hg7, hr7⟩; have hg57 := grown_trans hg56 hg7; have hU7 := hU5.drawn hr5 hg57; have hD7 := hD5.drawn hr5 hg57; have hgD := grown_trans hgC hg57; have hx7 := box_drawn2 (b := b5) hg57 nb5 hx5; have g0 := (bx_cells hx7).1; have g1 := (bx_cells hx7).2; have hG7 := (hg57.block G (lt_of_block hG5) (fun e => nG (by injection e))); have g2 := (cell_of_heap hG5 hG7 k).trans k1; obtain ⟨ra', rc', cs', t1, t2, t3, t4, t5, t6⟩ := hD7.set2 (x := k) (y := q) (by omega) (by rw [← HR.out]; omega); have ee := (slice_inj (g2.symm.trans t1)).1; injection ee with ee; injection ee with ee _ _; subst ee; have neR := blk_ne hx7 t3 (by decide); have neGR := blk_ne (hG7.trans hG5) t3 (by decide); have hz := (heap_setCell_other w7 ⟨ra, q, none⟩ (b3 + 1) (.int .i64 u) (by exact blk_ne (KZ.out _ hgD) t3 (by decide))).trans (KZ.out _ hgD); have hxK := (heap_setCell_other w7 ⟨ra, q, none⟩ b5 (.int .i64 u) (by exact neR)).trans hx7; have h0 := (bx_cells hxK).1; have h1 := (bx_cells hxK).2; have h2 := (cell_of_heap (hG7.trans hG5) (heap_setCell_other w7 ⟨ra, q, none⟩ G (.int .i64 u) (by exact neGR)) k).trans g2; have HT6 := Lib.hid (t6 u); have lra : lo ≤ ra := t2; clear t1 t6)
          | (go_simp; go_at_call 43; have HH := ((hH6.drew).held (hr6.drew)); (with_reducible refine (one4_any C g (m + 1 + 1 + 1 + 1) _ w6.drew (hr6.drew) (by omega) HH).mono ?_); rintro e w7 ⟨u, rfl, hum, hg7, hr7⟩; have hg57 := grown_trans (grown_drew hg56) hg7; have hU7 := hU5.drawn hr5 hg57; have hD7 := hD5.drawn hr5 hg57; have hgD := grown_trans hgC hg57; have hx7 := box_drawn2 (b := b5) hg57 nb5 hx5; have g0 := (bx_cells hx7).1; have g1 := (bx_cells hx7).2; have hG7 := (hg57.block G (lt_of_block hG5) (fun e => nG (by injection e))); have g2 := (cell_of_heap hG5 hG7 k).trans k1; obtain ⟨ra', rc', cs', t1, t2, t3, t4, t5, t6⟩ := hD7.set2 (x := k) (y := q) (by omega) (by rw [← HR.out]; omega); have ee := (slice_inj (g2.symm.trans t1)).1; injection ee with ee; injection ee with ee _ _; subst ee; have neR := blk_ne hx7 t3 (by decide); have neGR := blk_ne (hG7.trans hG5) t3 (by decide); have hz := (heap_setCell_other w7 ⟨ra, q, none⟩ (b3 + 1) (.int .i64 u) (by exact blk_ne (KZ.out _ hgD) t3 (by decide))).trans (KZ.out _ hgD); have hxK := (heap_setCell_other w7 ⟨ra, q, none⟩ b5 (.int .i64 u) (by exact neR)).trans hx7; have h0 := (bx_cells hxK).1; have h1 := (bx_cells hxK).2; have h2 := (cell_of_heap (hG7.trans hG5) (heap_setCell_other w7 ⟨ra, q, none⟩ G (.int .i64 u) (by exact neGR)) k).trans g2; have HT6 := Lib.hid (t6 u); have lra : lo ≤ ra := t2; clear t1 t6)
          | (go_simp; go_at_call 43; have HH := ((hH6.drew.drew).held (hr6.drew.drew)); (with_reducible refine (one4_any C g (m + 1 + 1 + 1 + 1) _ w6.drew.drew (hr6.drew.drew) (by omega) HH).mono ?_); rintro e w7 ⟨u, rfl, hum, hg7, hr7⟩; have hg57 := grown_trans (grown_drew (grown_drew hg56)) hg7; have hU7 := hU5.drawn hr5 hg57; have hD7 := hD5.drawn hr5 hg57; have hgD := grown_trans hgC hg57; have hx7 := box_drawn2 (b := b5) hg57 nb5 hx5; have g0 := (bx_cells hx7).1; have g1 := (bx_cells hx7).2; have hG7 := (hg57.block G (lt_of_block hG5) (fun e => nG (by injection e))); have g2 := (cell_of_heap hG5 hG7 k).trans k1; obtain ⟨ra', rc', cs', t1, t2, t3, t4, t5, t6⟩ := hD7.set2 (x := k) (y := q) (by omega) (by rw [← HR.out]; omega); have ee := (slice_inj (g2.symm.trans t1)).1; injection ee with ee; injection ee with ee _ _; subst ee; have neR := blk_ne hx7 t3 (by decide); have neGR := blk_ne (hG7.trans hG5) t3 (by decide); have hz := (heap_setCell_other w7 ⟨ra, q, none⟩ (b3 + 1) (.int .i64 u) (by exact blk_ne (KZ.out _ hgD) t3 (by decide))).trans (KZ.out _ hgD); have hxK := (heap_setCell_other w7 ⟨ra, q, none⟩ b5 (.int .i64 u) (by exact neR)).trans hx7; have h0 := (bx_cells hxK).1; have h1 := (bx_cells hxK).2; have h2 := (cell_of_heap (hG7.trans hG5) (heap_setCell_other w7 ⟨ra, q, none⟩ G (.int .i64 u) (by exact neGR)) k).trans g2; have HT6 := Lib.hid (t6 u); have lra : lo ≤ ra := t2; clear t1 t6))
      all_goals
        obtain ⟨T', hT'⟩ : ∃ T', T' = setT T k q u := ⟨_, rfl⟩
        have HTL := Lib.hid (show T.length = T'.length by rw [hT', setT_len])
        have hmem := Lib.hid (show BentP L T L T' from .inr (by rw [hT']; exact bent_j hkL (List.mem_cons_of_mem _ (List.mem_append_right _ (List.mem_flatMap.2 ⟨q, List.mem_range.2 (by omega), List.mem_map.2 ⟨u, hum, rfl⟩⟩)))))
        have hTY := Lib.hid (show TY (w7.setCell ⟨ra, q, none⟩ (.int .i64 u)) (some ⟨G, 0, none⟩) T' by rw [hT']; exact ty_of HT6.out.at)
        clear hT' HT6
        go_wp2_with (first
          | (refine wpList_load_row_w rfl 26 _ rfl b5 rfl _ _ _ _ hxK Tryz.underlying26 rfl (size_Alg _ _) ?_)
          | (refine wpList_store_row rfl 26 _ _ rfl (b3 + 1) #[.slice (some ⟨ua, 0, none⟩) L.length uc, .slice (some ⟨G, 0, none⟩) T.length gc] rfl rfl _ _ hz (size_Alg _ _) rfl (one_sl2 _ _ _ _ _ _) ?_))
        refine bodyPost_ret (results_cell_row rfl _ _ (b3 + 1) _ _ _ _ rfl (setRow_heap _ _ _ _ _ _ hz) Tryz.underlying26 rfl (size_Alg _ _)) rfl ?_
        rw [HTL.out]
        first
          | exact retH_fin hz s0' hmem.out ((ry_of hU7).set (by omega)) hTY.out (grown_trans hgw (grown_setCell hgD (by have := hg2.size; omega))) (hr7.setCell (by omega)) (by omega) gl
          | exact retH_dr hz s0' hmem.out ((ry_of hU7).set (by omega)) hTY.out (grown_trans hgw (grown_setCell hgD (by have := hg2.size; omega))) (hr7.setCell (by omega)) (by omega) gl
    · have q0 : (j == 0) = false := by rw [beq_eq_false_iff_ne]; exact e0
      by_cases e1 : j = 1
      · subst e1
        have kI : (0 : Int) ≤ (k : Int) := by omega
        have kL : (k : Int) < L.length := by omega
        have hUb := own_blk hU5
        obtain ⟨ucs, hUb⟩ := hUb
        have neU := blk_ne hx5 hUb (by decide)
        have neq := blk_ne (KZ.out _ hgC) hUb (by decide)
        have luB : w2.heap.size ≤ ua := (World.ownsRow.lt hU5 ua rfl).1
        go_wp2
        go_region_held3 (fun w' => w'.cell? ⟨b5, 0, none⟩ = some (.slice (some ⟨ua, 0, none⟩) L.length uc))
          (first | go_keep | exact e0' | exact e0'')
          (first
            | (go_simp; go_at_call 43; refine (one_any C g (m + 1 + 1 + 1) _ 3 [0, 3, -1] _ ((hr5.alloc _).drew) (by omega) ((litB3d w5).held ((hr5.alloc _).drew)) (by simp) (by simp)).mono ?_; rintro e w7 ⟨i, i0', i1', rfl, hg7, hr7⟩; have hum := nth_mem' [0, 3, -1] i0' i1'; obtain ⟨u, hu⟩ : ∃ u, u = nth [0, 3, -1] i := ⟨_, rfl⟩; rw [← hu] at hum ⊢; clear hu; have hU7 := ((hU5.alloc _).drew).drawn ((hr5.alloc _).drew) hg7; have hD7 := ((hD5.alloc _).drew).drawn ((hr5.alloc _).drew) hg7; have hgD := grown_trans (grown_drew (grown_alloc hgC _)) hg7; have hx7 := box_drawn2 (b := b5) hg7 nb5 ((heap_alloc_old w5 _ (lt_of_block hx5)).trans hx5); have e0' := (bx_cells hx7).1; have fU := hU7.freeAt k; have cU := hU7.cellAt kI kL; have hz := (heap_setCell_other w7 ⟨ua, k, none⟩ (b3 + 1) (.int .i64 u) (by exact neq)).trans (KZ.out _ hgD); have hxK := (heap_setCell_other w7 ⟨ua, k, none⟩ b5 (.int .i64 u) (by exact neU)).trans hx7; have e0'' := (bx_cells hxK).1; rw [Int.toNat_natCast] at cU)
            | (go_simp; go_at_call 43; refine (one_any C g (m + 1 + 1 + 1) _ 3 [0, 3, -1] _ ((hr5.alloc _)) (by omega) ((litB3 w5).held ((hr5.alloc _))) (by simp) (by simp)).mono ?_; rintro e w7 ⟨i, i0', i1', rfl, hg7, hr7⟩; have hum := nth_mem' [0, 3, -1] i0' i1'; obtain ⟨u, hu⟩ : ∃ u, u = nth [0, 3, -1] i := ⟨_, rfl⟩; rw [← hu] at hum ⊢; clear hu; have hU7 := ((hU5.alloc _)).drawn ((hr5.alloc _)) hg7; have hD7 := ((hD5.alloc _)).drawn ((hr5.alloc _)) hg7; have hgD := grown_trans (grown_alloc hgC _) hg7; have hx7 := box_drawn2 (b := b5) hg7 nb5 ((heap_alloc_old w5 _ (lt_of_block hx5)).trans hx5); have e0' := (bx_cells hx7).1; have fU := hU7.freeAt k; have cU := hU7.cellAt kI kL; have hz := (heap_setCell_other w7 ⟨ua, k, none⟩ (b3 + 1) (.int .i64 u) (by exact neq)).trans (KZ.out _ hgD); have hxK := (heap_setCell_other w7 ⟨ua, k, none⟩ b5 (.int .i64 u) (by exact neU)).trans hx7; have e0'' := (bx_cells hxK).1; rw [Int.toNat_natCast] at cU))
        all_goals
          have hll : (L.set k u).length = L.length := List.length_set
          have hmem : BentP L T (L.set k u) T := .inr (bent_j hkL (List.mem_cons_of_mem _ (List.mem_append_left _ (List.mem_map.2 ⟨u, hum, rfl⟩))))
          have HMEM := Lib.hid hmem
          obtain ⟨hU8, _⟩ := hU7.stored k u
          have HU8 := Lib.hid hU8
          clear hmem hU8 hll
          go_wp2_with (first
            | (refine wpList_load_row_w rfl 26 _ rfl b5 rfl _ _ _ _ hxK Tryz.underlying26 rfl (size_Alg _ _) ?_)
            | (refine wpList_store_row rfl 26 _ _ rfl (b3 + 1) #[.slice (some ⟨ua, 0, none⟩) L.length uc, .slice (some ⟨G, 0, none⟩) T.length gc] rfl rfl _ _ hz (size_Alg _ _) rfl (one_sl2 _ _ _ _ _ _) ?_))
          refine bodyPost_ret (results_cell_row rfl _ _ (b3 + 1) _ _ _ _ rfl (setRow_heap _ _ _ _ _ _ hz) Tryz.underlying26 rfl (size_Alg _ _)) rfl ?_
          have hll : (L.set k u).length = L.length := List.length_set
          rw [← hll]
          first
            | exact retH_fin hz s0' HMEM.out (ry_of HU8.out) (ty_of (hD7.setBelow (a := ⟨ua, k, none⟩) lo1 _).at) (grown_trans hgw (grown_setCell hgD (by have := hg2.size; omega))) (hr7.setCell (by omega)) (by omega) gl
            | exact retH_dr hz s0' HMEM.out (ry_of HU8.out) (ty_of (hD7.setBelow (a := ⟨ua, k, none⟩) lo1 _).at) (grown_trans hgw (grown_setCell hgD (by have := hg2.size; omega))) (hr7.setCell (by omega)) (by omega) gl
      · have q1 : (j == 1) = false := by rw [beq_eq_false_iff_ne]; exact e1
        by_cases e2 : j = 2
        · subst e2
          obtain ⟨tg, tc, htl, hsl⟩ := slice_tailT G T gc l1 lt2
          obtain ⟨T', hT'⟩ : ∃ T', T' = T.tail := ⟨_, rfl⟩
          have hTl : T.length - 1 = T'.length := by rw [hT', List.length_tail]
          rw [hTl] at hsl
          have hmem : BentP L T L T' := .inr (by rw [hT']; exact List.mem_cons_of_mem _ (List.mem_cons_self ..))
          have hxK := set1_heap (x := .slice tg T'.length tc) hx5
          have hoK := fun k (hk : k ≠ b5) => heap_setCell_other w5 ⟨b5, 1, none⟩ k (.slice tg T'.length tc) hk
          have hz := (hoK (b3 + 1) (by omega)).trans (KZ.out _ hgC)
          have hTY := Lib.hid (show TY w5 tg T' by rw [hT']; exact htl w5 (ty_of hD5.at) (rowsAt_cap hD5.at))
          have HOK := Lib.hid hoK
          clear hTl hT' htl hoK
          go_wp2_with (first
            | (refine wpList_load_row_w rfl 26 _ rfl b5 rfl _ _ _ _ hxK Tryz.underlying26 rfl (size_Alg _ _) ?_)
            | (refine wpList_store_row rfl 26 _ _ rfl (b3 + 1) #[.slice (some ⟨ua, 0, none⟩) L.length uc, .slice tg T'.length tc] rfl rfl _ _ hz (size_Alg _ _) rfl (one_sl2 _ _ _ _ _ _) ?_))
          refine bodyPost_ret (results_cell_row rfl _ _ (b3 + 1) _ _ _ _ rfl (setRow_heap _ _ _ _ _ _ hz) Tryz.underlying26 rfl (size_Alg _ _)) rfl ?_
          exact retH_fin hz s0' hmem (ry_of (ownsRow_other hU5 hx5 (by decide) HOK.out)) (hTY.out.kp (kp_row hx5 HOK.out)) (grown_trans hgw (grown_setCell hgC (Nat.le_trans hg2.size lb5))) (hr5.setCell (by omega)) (by omega) gl
        · have q2 : (j == 2) = false := by rw [beq_eq_false_iff_ne]; exact e2
          by_cases e3 : j = 3
          · subst e3
            obtain ⟨ra, rc, cs, k1, k2, k3, k4, k5, k6⟩ := hD5.set2 (x := k) (y := 0) (by omega) (by have := HRW.out k (by omega); omega)
            obtain ⟨gcs, hG5, loG⟩ := hD5.blk
            have neG := blk_ne hx5 hG5 (by decide)
            have fG := hD5.free k
            have hrk := HRL.out k (by omega)
            obtain ⟨R, hR⟩ : ∃ R, R = rowAt T (k : Int) := ⟨_, rfl⟩
            rw [← hR] at k1 hrk
            have hRY : RY w5 (some ⟨ra, 0, none⟩) R := by
              obtain ⟨B', o', c', e, hb, hc⟩ := ty_of hD5.at (fun e => by have : T.length = 0 := (by rw [e]; rfl); omega)
              injection e with e
              injection e with e1 e2 _
              subst e1; subst e2
              obtain ⟨a', cc', h1', h2'⟩ := hc k (by omega)
              rw [Nat.zero_add, k1] at h1'
              injection h1' with h1'
              injection h1' with h1' _ _
              rw [h1', hR]; exact h2'
            have hRc : R.length ≤ rc := by
              obtain ⟨vs, q1, q2, _⟩ := hD5
              obtain ⟨u, hu, ho⟩ := q2 k (by omega)
              obtain ⟨_, e, hc⟩ := rows_cell q1 hu
              injection e with e
              injection e with e
              subst e
              rw [k1] at hc
              injection hc with hc
              subst hc
              rw [hR]; exact own_cap ho
            obtain ⟨tg, tc, htl, hsl⟩ := slice_tailI ra R rc (n := 1) (by omega) (by omega)
            obtain ⟨R', hR'⟩ : ∃ R', R' = R.tail := ⟨_, rfl⟩
            have hRl : R.length - 1 = R'.length := by rw [hR', List.length_tail]
            rw [hRl] at hsl
            have hmem := Lib.hid (show BentP L T L (T.set k R') from .inr (by rw [hR', hR]; exact bent_j hkL (List.mem_cons_self ..)))
            have hTY := Lib.hid ((ty_of hD5.at).setRow (k := k) (by omega) (c := tc) (show RY w5 tg R' by rw [hR']; exact htl w5 hRY hRc))
            have hRl1 : 1 ≤ R.length := by omega
            have kI : (0 : Int) ≤ (k : Int) := by omega
            have kT : (k : Int) < T.length := by omega
            clear hRl hR' htl k2 k3 k4 k5 k6 hR hrk hRY hRc
            have hxK := (heap_setCell_other w5 ⟨G, k, none⟩ b5 (.slice tg R'.length tc) neG).trans hx5
            have neq : b3 + 1 ≠ G := blk_ne (KZ.out _ hgC) hG5 (by decide)
            have hz := (heap_setCell_other w5 ⟨G, k, none⟩ (b3 + 1) (.slice tg R'.length tc) neq).trans (KZ.out _ hgC)
            obtain ⟨T', hT'⟩ : ∃ T', T' = T.set k R' := ⟨_, rfl⟩
            have HTL := Lib.hid (show T.length = T'.length by rw [hT', List.length_set])
            rw [← hT'] at hmem hTY
            clear hT'
            go_wp2
            go_region
            go_wp2_with (first
              | (refine wpList_load_row_w rfl 26 _ rfl b5 rfl _ _ _ _ hxK Tryz.underlying26 rfl (size_Alg _ _) ?_)
              | (refine wpList_store_row rfl 26 _ _ rfl (b3 + 1) #[.slice (some ⟨ua, 0, none⟩) L.length uc, .slice (some ⟨G, 0, none⟩) T.length gc] rfl rfl _ _ hz (size_Alg _ _) rfl (one_sl2 _ _ _ _ _ _) ?_))
            refine bodyPost_ret (results_cell_row rfl _ _ (b3 + 1) _ _ _ _ rfl (setRow_heap _ _ _ _ _ _ hz) Tryz.underlying26 rfl (size_Alg _ _)) rfl ?_
            rw [HTL.out]
            first
              | exact retH_fin hz s0' hmem.out (ry_of (ownsRow_other hU5 hG5 (by decide) (fun k' hk' => heap_setCell_other w5 ⟨G, k, none⟩ k' _ hk'))) hTY.out (grown_trans hgw (grown_setCell hgC (by have := hg2.size; omega))) (hr5.setCell (by omega)) (by omega) gl
              | exact retH_dr hz s0' hmem.out (ry_of (ownsRow_other hU5 hG5 (by decide) (fun k' hk' => heap_setCell_other w5 ⟨G, k, none⟩ k' _ hk'))) hTY.out (grown_trans hgw (grown_setCell hgC (by have := hg2.size; omega))) (hr5.setCell (by omega)) (by omega) gl
          · have q3 : (j == 3) = false := by rw [beq_eq_false_iff_ne]; exact e3
            obtain ⟨L', hL'⟩ : ∃ L', L' = L ++ [64] := ⟨_, rfl⟩
            have hmem : BentP L T L' T := .inr (by rw [hL']; exact List.mem_cons_self ..)
            have HLQ := Lib.hid hL'
            have HMEM := Lib.hid hmem
            clear hL' hmem
            go_wp2_with (first
              | (at_builtin; refine wpList_append_own _ rfl _ _ 23 rfl w2.heap.size 3 i0 (.int .i64 0) 1 8 Tryz.underlying23 hi hz0 hz1 hz2 rfl (by decide) _ _ _ rfl (World.ownsRow.alloc hU5 _) ⟨w5.heap.size, 0, none⟩ 1 1 [.int .i64 64] rfl rfl (cell_one_new _ _ _) (fun x hx => by simp at hx; subst hx; rfl) (by unfold maxLen; omega) (by omega) (by simp; omega) ?_; intro v6 w6 hown6 hgrow6 _; have hU6 : Own w2.heap.size w6 v6 L' := (by rw [HLQ.out]; unfold Own; rw [List.map_append, List.length_append]; exact hown6); have hx6 := grown_keep hgrow6 (World.ownsRow.alloc hU5 _) ((heap_alloc_old w5 _ (lt_of_block hx5)).trans hx5) (by decide); have hD6 := (hD5.alloc _).app hgrow6 lo1; have hgD := grown_app (grown_alloc hgC (.cells #[.int .i64 64] 3)) hgrow6 (fun q hq => by have e : some ua = some q := hq; injection e with e; have := (World.ownsRow.lt hU5 ua rfl).1; have := hg2.size; omega); have hr6 := (hr5.alloc (.cells #[.int .i64 64] 3)).app (World.ownsRow.alloc hU5 _) (by have := hr5.low; omega) hgrow6; obtain ⟨va, vc, rfl, _⟩ := hU6.slice; clear hown6 hgrow6; obtain ⟨d0, d1⟩ := bx_cells hx6; have f60 := frozen_of_row w6 _ 0 _ _ hx6; have hxK := set0_heap (x := .slice va L'.length vc) hx6; have hz := (heap_setCell_other w6 ⟨b5, 0, none⟩ (b3 + 1) (.slice va L'.length vc) (by show b3 + 1 ≠ b5; omega)).trans (KZ.out _ hgD))
              | (refine wpList_load_row_w rfl 26 _ rfl b5 rfl _ _ _ _ hxK Tryz.underlying26 rfl (size_Alg _ _) ?_)
              | (refine wpList_store_row rfl 26 _ _ rfl (b3 + 1) #[.slice va L'.length vc, .slice (some ⟨G, 0, none⟩) T.length gc] rfl rfl _ _ hz (size_Alg _ _) rfl (one_sl2 _ _ _ _ _ _) ?_))
            refine bodyPost_ret (results_cell_row rfl _ _ (b3 + 1) _ _ _ _ rfl (setRow_heap _ _ _ _ _ _ hz) Tryz.underlying26 rfl (size_Alg _ _)) rfl ?_
            have hoK := fun k (hk : k ≠ b5) => heap_setCell_other w6 ⟨b5, 0, none⟩ k (.slice va L'.length vc) hk
            exact retH_fin hz s0' HMEM.out (ry_of (ownsRow_other hU6 hx6 (by decide) hoK)) (ty_of (hD6.other hx6 (by decide) (by decide) hoK).at) (grown_trans hgw (grown_setCell hgD (Nat.le_trans hg2.size lb5))) (hr6.setCell (by omega)) (by omega) gl
end Go.Proofs.YtpophjloedpcfaaGreatDoor

namespace Go.Proofs.YtpophjloedpcfaaGreatDoor
open Go.RowKit

/-- what someAlgebra draws -/
def SomeP (L : List Int) (T : List (List Int)) : Prop := ∃ L0 T0, Gd L0 T0 ∧ BentP L0 T0 L T
theorem rowAt_setL {T : List (List Int)} {k j : Nat} {r : List Int} (hk : k < T.length) : rowAt (T.set k r) j = if j = k then r else rowAt T j := by
  unfold rowAt
  simp only [Int.toNat_natCast, List.getD_eq_getElem?_getD, List.getElem?_set]
  by_cases e : k = j
  · subst e; rw [if_pos rfl, if_pos rfl, if_pos hk]; rfl
  · rw [if_neg e, if_neg (fun h => e h.symm)]
theorem rowAt_tail (T : List (List Int)) (j : Nat) : rowAt T.tail j = rowAt T ((j + 1 : Nat) : Int) := by
  unfold rowAt
  cases T <;> simp
theorem rowAt_big {T : List (List Int)} {j : Nat} (h : T.length ≤ j) : rowAt T j = [] := by
  unfold rowAt
  simp [List.getElem?_eq_none h]
theorem someP_len {L : List Int} {T : List (List Int)} (h : SomeP L T) : 1 ≤ L.length ∧ L.length ≤ 7 ∧ T.length ≤ 6 ∧ ∀ j : Nat, j < T.length → (rowAt T j).length ≤ 6 := by
  obtain ⟨L0, T0, hG, hb⟩ := h
  obtain ⟨l1, l6, ht, hr⟩ := gd_len hG
  have hr6 : ∀ j : Nat, (rowAt T0 j).length ≤ 6 := fun j => by
    by_cases hj : j < T0.length
    · have := hr j hj; omega
    · rw [rowAt_big (by omega)]; simp
  rcases hb with ⟨rfl, rfl⟩ | hb
  · exact ⟨l1, by omega, by omega, fun j _ => hr6 j⟩
  · unfold bents at hb
    rw [List.mem_cons, List.mem_cons, List.mem_flatMap] at hb
    rcases hb with e | e | ⟨k, hk, hb⟩
    · injection e with e1 e2
      subst e1; subst e2
      exact ⟨by simp, by simp; omega, by omega, fun j _ => hr6 j⟩
    · injection e with e1 e2
      subst e1; subst e2
      refine ⟨l1, by omega, by rw [List.length_tail]; omega, fun j _ => ?_⟩
      rw [rowAt_tail]; exact hr6 _
    · rw [List.mem_range] at hk
      rw [List.cons_append, List.mem_cons, List.mem_append, List.mem_map, List.mem_flatMap] at hb
      rcases hb with e | ⟨v, _, e⟩ | ⟨q, _, hb⟩
      · injection e with e1 e2
        subst e1; subst e2
        refine ⟨l1, by omega, by rw [List.length_set]; omega, fun j _ => ?_⟩
        rw [rowAt_setL (by omega)]
        split
        · rw [List.length_tail]; have := hr6 k; omega
        · exact hr6 j
      · injection e with e1 e2
        subst e1; subst e2
        exact ⟨by rw [List.length_set]; omega, by rw [List.length_set]; omega, by omega, fun j _ => hr6 j⟩
      · rw [List.mem_map] at hb
        obtain ⟨v, _, e⟩ := hb
        injection e with e1 e2
        subst e1; subst e2
        refine ⟨l1, by omega, by rw [setT_len]; omega, fun j _ => ?_⟩
        rw [setT_rlen _ _ (by omega)]; exact hr6 j
set_option maxRecDepth 100000 in
set_option maxHeartbeats 2000000 in
/-- spec.someAlgebra -/
theorem someAlgebra_any (C g : Nat) (m : Int) (w : World) (hr : Rdr w C g m) (m1 : m ≤ 70000) :
    Calls Tryz.prog 26 #[.pointer (some ⟨g, 0, none⟩)] w (RetH C g (m + 12) SomeP w) := by
  have gl := hr.lt
  obtain ⟨w1, hw1, hg1, hs1, hR1, KZ⟩ := drawn_zero gl
  have hr1 := hR1 _ _ hr
  clear hR1 hr
  go_enter Tryz.func26, Tryz.ntmps26
  go_wp2_with (rw [← hw1]; clear hw1)
  refine (goodAlgebra_any C g m w1 hr1 (by omega)).mono ?_
  rintro e w2 ⟨L, T, a, ca, b, cb, rfl, hG, ho, hT, hg2, hr2⟩
  obtain ⟨l1, l6, ht, hrw⟩ := gd_len hG
  have hRY := ry_of ho
  have hTY := ty_of hT
  obtain ⟨ab, ao, _, rfl, _⟩ := hRY (fun e => by rw [e] at l1; simp at l1)
  obtain ⟨tb, tq, _, rfl, _⟩ := hTY (fun e => by have : T.length = 0 := (by rw [e]; rfl); omega)
  have HB := Lib.hid (bent_any C g (m + 7) w2 hr2 (by omega) ab ao tb tq ca cb L T hRY hTY l1 l6 ht hrw)
  clear hRY hTY ho hT ht hrw l1 l6
  go_wp2_with fail
  refine HB.out.mono ?_
  rintro e w3 ⟨L', T', a', ca', b', cb', rfl, hP, hR', hT', hg3, hr3⟩
  have hgA := grown_trans hg2 hg3
  have hz := KZ.out _ hgA
  have HP := Lib.hid (show SomeP L' T' from ⟨L, T, hG, hP⟩)
  clear hP hG HB
  go_wp2_with (refine wpList_store_row rfl 26 _ _ rfl w.heap.size #[.slice a' L'.length ca', .slice b' T'.length cb'] rfl rfl _ _ hz (size_Alg _ _) rfl (one_sl2 _ _ _ _ _ _) ?_)
  refine bodyPost_ret (results_cell_row rfl _ _ w.heap.size _ _ _ _ rfl (setRow_heap _ _ _ _ _ _ hz) Tryz.underlying26 rfl (size_Alg _ _)) rfl ?_
  exact retH_fin hz (Nat.le_refl _) HP.out hR' hT' (grown_trans hg1 hgA) hr3 (by omega) gl
/-- an algebra is drawn -/
def DrA (w : World) (L : List Int) (T : List (List Int)) (a b : Option Addr) (w' : World) : Prop := SomeP L T ∧ Rd w' a L ∧ RdT w' b T ∧ Below w.heap.size w w'
def RetDA (w : World) (e : Ending) (w' : World) : Prop := ∃ L T a ca b cb, e = .returned (.agg #[.slice a L.length ca, .slice b T.length cb]) ∧ DrA w L T a b w'
def RetDAi (w : World) (e : Ending) (w' : World) : Prop := ∃ (L : List Int) (T : List (List Int)) (a : Option Addr) (ca : Nat) (b : Option Addr) (cb : Nat) (x : Int), e = .returned (.tuple #[.agg #[.slice a L.length ca, .slice b T.length cb], .int .i64 x]) ∧ -1 ≤ x ∧ x ≤ 1000 ∧ DrA w L T a b w'
def RetDAii (w : World) (e : Ending) (w' : World) : Prop := ∃ (L : List Int) (T : List (List Int)) (a : Option Addr) (ca : Nat) (b : Option Addr) (cb : Nat) (x y : Int), e = .returned (.tuple #[.agg #[.slice a L.length ca, .slice b T.length cb], .int .i64 x, .int .i64 y]) ∧ -1 ≤ x ∧ x ≤ 1000 ∧ -1 ≤ y ∧ y ≤ 1000 ∧ DrA w L T a b w'
theorem RdY.up {w w' : World} {a : Option Addr} {n C C' : Nat} (h : RdY w a n C) (hb : Below C w w') (hC : C ≤ C') : RdY w' a n C' := fun hn => by
  obtain ⟨b, off, e, hbC, hc⟩ := (h.below hb) hn
  exact ⟨b, off, e, by omega, hc⟩
theorem results_Alg_tmp2 {fn : Func} {p u u' : Tmp} (h : fn.results = #[.cell p 26, .tmp u, .tmp u']) (tmps : Array Value) (w : World) (g : Nat) (hp : tmps.getD p undef = .pointer (some ⟨g, 0, none⟩))
    (s t : Value) {v v' : Value} (hg : w.heap[g]? = some (.cells #[s, t] 26 (0, 0))) (hu : tmps.getD u undef = v) (hu2 : tmps.getD u' undef = v') :
    (results fn tmps).run Tryz.prog w = .ok (.tuple #[.agg #[s, t], v, v']) w := by
  have hp' : tmps[p]?.getD undef = .pointer (some ⟨g, 0, none⟩) := by simpa using hp
  have hu' : tmps[u]?.getD undef = v := by simpa using hu
  have hu2' : tmps[u']?.getD undef = v' := by simpa using hu2
  have hl := run_loadVar_row (P := Tryz.prog) w g _ 26 _ _ _ hg Tryz.underlying26 rfl (size_Alg _ _)
  simp [results, h, hp', hu', hu2', asAddr, hl]
theorem drA_end {g q : Nat} {w wa wk : World} {L : List Int} {T : List (List Int)} {a b : Option Addr} {x y : Value} (hz : wk.heap[q]? = some (.cells #[x, y] 26 (0, 0))) (hq : w.heap.size ≤ q) (hP : SomeP L T) (hR : RY wk a L) (hT : TY wk b T) (hwa : Below w.heap.size w wa) (hg : wa.grownBy wk (some g)) (hgw : w.heap.size ≤ g) {u v : Value} {wf : World} (hf : wf = (wk.setCell ⟨q, 0, none⟩ u).setCell ⟨q, 1, none⟩ v ∨ wf = ((wk.setCell ⟨q, 0, none⟩ u).setCell ⟨q, 1, none⟩ v).drew) : DrA w L T a b wf := by
  have hk := kp_row hz (set2_other wk q u v)
  have hb : Below w.heap.size w wk := hwa.trans (grown_below hg hgw hwa.size)
  have hb2 : Below w.heap.size w ((wk.setCell ⟨q, 0, none⟩ u).setCell ⟨q, 1, none⟩ v) := (hb.setCell (by exact hq) _).setCell (by exact hq) _
  rcases hf with rfl | rfl
  · exact ⟨hP, (hR.kp hk).rd, (hT.kp hk).rd, hb2⟩
  · have hd := kp_below ((Below.refl ((wk.setCell ⟨q, 0, none⟩ u).setCell ⟨q, 1, none⟩ v).heap.size _).drew)
    exact ⟨hP, ((hR.kp hk).kp hd).rd, ((hT.kp hk).kp hd).rd, hb2.drew⟩
set_option maxRecDepth 100000 in
set_option maxHeartbeats 2000000 in
/-- spec.DrawAlgebraText -/
theorem drawAlgebraText_any (a : Option Addr) (n cap : Nat) (w : World) (hy : RdY w a n w.heap.size) (hc : n ≤ cap) (hm : n ≤ 1048576) :
    Calls Tryz.prog 8 #[.slice a n cap] w (RetDA w) := by
  obtain ⟨w0, hw0⟩ : ∃ w0, w0 = w.alloc (.cells #[.slice none 0 0, .slice none 0 0] 26) := ⟨_, rfl⟩
  have hB : Below w.heap.size w w0 := by rw [hw0]; exact (Below.refl _ _).alloc (Nat.le_refl _) _
  have hz0 : w0.heap[w.heap.size]? = some (.cells #[.slice none 0 0, .slice none 0 0] 26 (0, 0)) := by rw [hw0]; exact heap_alloc_new w _
  have lz := lt_of_block hz0
  have hy0 := hy.up hB hB.size
  clear hy
  go_enter Tryz.func8, Tryz.ntmps8
  go_wp2_with (rw [← hw0]; clear hw0)
  refine (newReader_any a n cap w0 hy0 hc hm).mono ?_
  rintro e w1 ⟨rfl, hb1, hr1⟩
  have hs1 := hb1.size
  obtain ⟨g, hg⟩ : ∃ g : Nat, g = w0.heap.size := ⟨_, rfl⟩
  rw [← hg] at hr1 ⊢
  have lg : w.heap.size < g := by omega
  have hz1 := (hb1.block _ lz).trans hz0
  have hB1 : Below w.heap.size w w1 := hB.trans (hb1.mono hB.size)
  clear hg hz0 hb1 hy0
  go_wp2_with fail
  refine (someAlgebra_any g g 0 w1 hr1 (by omega)).mono ?_
  rintro e w2 ⟨L, T, va, vca, vb, vcb, rfl, hP, hR2, hT2, hg2, hr2⟩
  have hz := box_drawn hz1 (by omega) hg2
  have hk := kp_row hz (w' := w2.setRow w.heap.size #[.slice va L.length vca, .slice vb T.length vcb]) (fun k hk => setRow_other w2 _ k _ hk)
  have HD := Lib.hid (show DrA w L T va vb (w2.setRow w.heap.size #[.slice va L.length vca, .slice vb T.length vcb]) from ⟨hP, (hR2.kp hk).rd, (hT2.kp hk).rd, below_setRow' (hB1.trans (grown_below hg2 (by omega) hB1.size)) (Nat.le_refl _) _⟩)
  clear hP hR2 hT2 hk
  go_wp2_with (refine wpList_store_row rfl 26 _ _ rfl w.heap.size #[.slice va L.length vca, .slice vb T.length vcb] rfl rfl _ _ hz (size_Alg _ _) rfl (one_sl2 _ _ _ _ _ _) ?_)
  refine bodyPost_ret (results_cell_row rfl _ _ w.heap.size _ _ _ _ rfl (setRow_heap _ _ _ _ _ _ hz) Tryz.underlying26 rfl (size_Alg _ _)) rfl ?_
  exact ⟨L, T, va, vca, vb, vcb, rfl, HD.out⟩
end Go.Proofs.YtpophjloedpcfaaGreatDoor

namespace Go.Proofs.YtpophjloedpcfaaGreatDoor
open Go.RowKit

set_option linter.unusedVariables false
theorem ret_to {f : FuncId} {args : Array Value} {w : World} {v v' : Value} {n : Nat} (h : Calls Tryz.prog f args w fun e w' => e = .returned v ∧ Below n w w') (e : v = v') : Calls Tryz.prog f args w fun e w' => e = .returned v' ∧ Below n w w' := by rw [← e]; exact h
theorem algIn_el {L : List Int} {T : List (List Int)} {x y : Int} (h : algB L T = true) (hx : El L x) (hy : El L y) : algIn L T x y = true := by
  unfold algIn
  have e : num L = L.length := rfl
  unfold El at hx hy
  rw [h, decide_eq_true hx.1, decide_eq_true hy.1, decide_eq_true (show x ≤ (L.length : Int) - 1 by omega), decide_eq_true (show y ≤ (L.length : Int) - 1 by omega)]
  rfl
theorem below_el {L : List Int} {x y : Int} (h : latB L = true) (hx : El L x) (hy : El L y) : isBelowB L x y = bl L x y := by unfold isBelowB; rw [good_el.2 ⟨h, hx, hy⟩]; rfl
theorem meet_el {L : List Int} {x y : Int} (h : latB L = true) (hx : El L x) (hy : El L y) : meetOfI L x y = mt L x y := by unfold meetOfI; rw [good_el.2 ⟨h, hx, hy⟩]; rfl
theorem join_el {L : List Int} {x y : Int} (h : latB L = true) (hx : El L x) (hy : El L y) : joinOfI L x y = jn L x y := by unfold joinOfI; rw [good_el.2 ⟨h, hx, hy⟩]; rfl
theorem not_el {L : List Int} {T : List (List Int)} {x : Int} (h : algB L T = true) (hx : El L x) : notI L T x = imp L T x 0 := by unfold notI; rw [algIn_el h hx hx]; rfl
theorem imply_el {L : List Int} {T : List (List Int)} {x y : Int} (h : algB L T = true) (hx : El L x) (hy : El L y) : implyI L T x y = imp L T x y := by unfold implyI; rw [algIn_el h hx hy]; rfl
theorem near_el {L : List Int} {T : List (List Int)} {x y : Int} (h : algB L T = true) (hx : El L x) (hy : El L y) : nearO L T x y = nearI L T x y := by unfold nearO; rw [algIn_el h hx hy]; rfl
end Go.Proofs.YtpophjloedpcfaaGreatDoor
