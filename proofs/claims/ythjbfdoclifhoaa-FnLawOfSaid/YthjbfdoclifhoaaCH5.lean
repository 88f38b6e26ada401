import Derived.Test.YthjbfdoclifhoaaMK
import Derived.Test.YthjbfdoclifhoaaG3
import Derived.Test.YthjbfdoclifhoaaL5
import Derived.Test.YthjbfdoclifhoaaFA
import Derived.Test.YthjbfdoclifhoaaH10
import Derived.RegionTactic
import Derived.BigRegion
import Derived.Deep.AppendLies
namespace Go.Proofs.Ythjbfdoclifhoaa
open Go.RowKit

theorem RowsD.push {B : Nat} {w w' : World} {v v' u : Value} {T : List (List Int)} {r : List Int} {vs : List Value} (r1 : w.ownsRow B 24 1 v T.length vs) (r2 : ∀ j : Nat, j < T.length → ∃ u, vs[j]? = some u ∧ Own B w u (rowAt T j))
    (r3 : ∀ (i j : Nat) (a x : Value), i < j → j < T.length → vs[i]? = some a → vs[j]? = some x → a.ownBlock = none ∨ a.ownBlock ≠ x.ownBlock) (hu : Own B w u r) (rn : ∀ (i : Nat) (a : Value), i < T.length → vs[i]? = some a → a.ownBlock = none ∨ a.ownBlock ≠ u.ownBlock)
    (h3 : w'.ownsRow B 24 1 v' (T.length + 1) (vs ++ [u])) (hg : w.grownBy w' v.ownBlock) : RowsD B w' v' (T ++ [r]) := by
  have hvl : vs.length = T.length := by have := r1.1; omega
  refine ⟨vs ++ [u], by rw [List.length_append]; exact h3, fun j hj => ?_, ?_⟩
  · rw [List.length_append, List.length_singleton] at hj
    by_cases e : j < T.length
    · obtain ⟨a, ha, ho⟩ := r2 j e
      refine ⟨a, by rw [List.getElem?_append_left (by omega)]; exact ha, ?_⟩
      rw [rowAt_old e]
      exact World.ownsRow.kept ho hg (own_types ho r1 (by decide))
    · have e2 : j = T.length := by omega
      subst e2
      refine ⟨u, by rw [List.getElem?_append_right (by omega), hvl, Nat.sub_self]; rfl, ?_⟩
      rw [rowAt_new]
      exact World.ownsRow.kept hu hg (own_types hu r1 (by decide))
  · rw [List.length_append, List.length_singleton]
    exact rows_apart hvl r3 rn
/-- a row that is newer than the others is apart from them -/
theorem rows_newer {B : Nat} {w : World} {T : List (List Int)} {vs : List Value} {u : Value} {r : List Int} {w2 : World} (h : ∀ j : Nat, j < T.length → ∃ u, vs[j]? = some u ∧ Own B w u (rowAt T j)) (hu : Own w.heap.size w2 u r) : ∀ (i : Nat) (a : Value), i < T.length → vs[i]? = some a → a.ownBlock = none ∨ a.ownBlock ≠ u.ownBlock := fun i x hi hx => by
  obtain ⟨y, hy, ho⟩ := h i hi
  rw [hx] at hy
  injection hy with hy
  subst hy
  cases hxb : x.ownBlock with
  | none => exact .inl rfl
  | some q =>
    right
    intro e
    have l1 := (World.ownsRow.lt ho q hxb).2
    have l2 := (World.ownsRow.lt hu q e.symm).1
    omega
theorem take_rowT (T : List (List Int)) {i : Int} (i0 : 0 ≤ i) (h : i < T.length) : T.take (i + 1).toNat = T.take i.toNat ++ [rowAt T i] := by
  rw [show (i + 1).toNat = i.toNat + 1 by omega, List.take_add_one]
  congr 1
  unfold rowAt
  have : i.toNat < T.length := by omega
  rw [List.getElem?_eq_getElem this, List.getD_eq_getElem?_getD, List.getElem?_eq_getElem this]
  rfl
theorem rows_noneD {B : Nat} (w : World) (hB : B ≤ w.heap.size) : RowsD B (w.alloc (.cells #[] 24)) (.slice (some ⟨w.heap.size, 0, none⟩) 0 0) [] :=
  ⟨[], ⟨by simp, .inr ⟨w.heap.size, 0, #[], rfl, hB, heap_alloc_new w _, Nat.le_refl _, by unfold maxLen; omega, by simp, by simp⟩⟩, fun j hj => absurd hj (by simp), fun i j u x _ hj => absurd hj (by simp)⟩
/-- a table of its own, rows apart, is handed back -/
def RetTD (T : List (List Int)) (w : World) (e : Ending) (w' : World) : Prop := ∃ G c, e = .returned (.slice (some ⟨G, 0, none⟩) T.length c) ∧ RowsD w.heap.size w' (.slice (some ⟨G, 0, none⟩) T.length c) T ∧ Below w.heap.size w w'
/-- a product is laid into a table -/
def setT (T : List (List Int)) (x y : Nat) (z : Int) : List (List Int) := T.set x ((rowAt T x).set y z)
theorem setT_len (T : List (List Int)) (x y : Nat) (z : Int) : (setT T x y z).length = T.length := by simp [setT]
theorem setT_row (T : List (List Int)) {x y j : Nat} (z : Int) (hx : x < T.length) : rowAt (setT T x y z) j = if j = x then (rowAt T x).set y z else rowAt T j := by
  unfold setT rowAt
  simp only [Int.toNat_natCast, List.getD_eq_getElem?_getD, List.getElem?_set]
  by_cases e : x = j
  · subst e; rw [if_pos rfl, if_pos rfl, if_pos hx]; rfl
  · rw [if_neg e, if_neg (fun h => e h.symm)]
theorem setT_rlen (T : List (List Int)) {x y j : Nat} (z : Int) (hx : x < T.length) : (rowAt (setT T x y z) j).length = (rowAt T j).length := by
  rw [setT_row T z hx]
  split
  · rename_i e; rw [List.length_set, e]
  · rfl
theorem RowsD.set {B G c : Nat} {w : World} {T : List (List Int)} (h : RowsD B w (.slice (some ⟨G, 0, none⟩) T.length c) T) {x y : Nat} (hx : x < T.length) (hy : y < (rowAt T x).length) :
    ∃ ra rc, w.cell? ⟨G, x, none⟩ = some (.slice (some ⟨ra, 0, none⟩) (rowAt T x).length rc) ∧ B ≤ ra ∧ w.cell? ⟨ra, y, none⟩ = some (.int .i64 (nth (rowAt T x) y)) ∧ w.frozen? ⟨ra, y, none⟩ = false ∧
      ∀ z : Int, RowsD B (w.setCell ⟨ra, y, none⟩ (.int .i64 z)) (.slice (some ⟨G, 0, none⟩) (setT T x y z).length c) (setT T x y z) := by
  obtain ⟨vs, h1, h2, h3⟩ := h
  obtain ⟨u, hu, ho⟩ := h2 x hx
  obtain ⟨ra, rc, rfl, hB, _⟩ := ho.shape.resolve_left (fun h => by have := h.2; rw [this] at hy; simp at hy)
  obtain ⟨_, e, hc⟩ := rows_cell h1 hu
  injection e with e
  injection e with e
  subst e
  refine ⟨ra, rc, hc, hB, ?_, ho.freeAt y, fun z => ?_⟩
  · have := ho.cellAt (x := (y : Int)) (by omega) (by omega)
    rwa [Int.toNat_natCast] at this
  · obtain ⟨s1, s2⟩ := ho.stored y z
    refine ⟨vs, by rw [setT_len]; exact World.ownsRow.kept h1 s2 (own_types h1 ho (by decide)), fun j hj => ?_, fun i j a b hij hj => by rw [setT_len] at hj; exact h3 i j a b hij hj⟩
    rw [setT_len] at hj
    rw [setT_row T z hx]
    by_cases ej : j = x
    · subst ej
      rw [if_pos rfl]
      refine ⟨_, hu, ?_⟩
      rw [List.length_set] at s1
      exact s1
    · rw [if_neg ej]
      obtain ⟨a, ha, hao⟩ := h2 j hj
      refine ⟨a, ha, World.ownsRow.kept hao s2 ?_⟩
      rcases Nat.lt_or_gt_of_ne ej with hlt | hlt
      · have := h3 j x a _ hlt hx ha hu
        exact this
      · have := h3 x j _ a hlt hj hu ha
        rcases this with h | h
        · simp [Value.ownBlock] at h
        · exact .inr fun e => h e.symm
end Go.Proofs.Ythjbfdoclifhoaa

namespace Go.Proofs.Ythjbfdoclifhoaa
open Go.RowKit

/-! What spec.fill lists. -/
def fillC (T : List (List Int)) (x y z : Nat) : Bool := decide (tv T ((x : Int) - 1) y ≤ (z : Int)) && decide (tv T x ((y : Int) - 1) ≤ (z : Int))
def set2 (T : List (List Int)) (x y : Nat) (z : Int) : List (List Int) := setT (setT T x y z) y x z
def catTs (f : Nat → List (List (List Int))) : Nat → List (List (List Int))
  | 0 => []
  | j + 1 => catTs f j ++ f j
def chF (n : Nat) : Nat → List (List Int) → Nat → Nat → List (List (List Int))
  | 0, _, _, _ => []
  | k + 1, T, x, y => if x = n - 1 then (if algB (chainTo n n) T then [T] else []) else if y = n - 1 then chF n k T (x + 1) (x + 1) else catTs (fun z => if fillC T x y z then chF n k (set2 T x y z) x (y + 1) else []) (min x y + 1)
def tri : Nat → Nat
  | 0 => 0
  | k + 1 => (k + 1) + tri k
def plc (n x y : Nat) : Nat := (n - 1 - y) + tri (n - 2 - x)
theorem catTs_len {f : Nat → List (List (List Int))} {B : Nat} (hf : ∀ i, (f i).length ≤ B) : ∀ j, (catTs f j).length ≤ j * B
  | 0 => by rw [Nat.zero_mul]; exact Nat.zero_le _
  | j + 1 => by
    show (catTs f j ++ f j).length ≤ _
    rw [List.length_append, Nat.succ_mul]
    exact Nat.add_le_add (catTs_len hf j) (hf _)
theorem chF_len {n : Nat} (n5 : n ≤ 5) : ∀ (k : Nat) (T : List (List Int)) (x y : Nat), x ≤ y → y ≤ n - 1 → 1 ≤ n → (chF n k T x y).length ≤ 5 ^ plc n x y
  | 0, _, _, _, _, _, _ => Nat.zero_le _
  | k + 1, T, x, y, hxy, hy, n1 => by
    show (if x = n - 1 then (if algB (chainTo n n) T then [T] else []) else if y = n - 1 then chF n k T (x + 1) (x + 1) else catTs (fun z => if fillC T x y z then chF n k (set2 T x y z) x (y + 1) else []) (min x y + 1)).length ≤ _
    have p1 : 1 ≤ 5 ^ plc n x y := Nat.pow_pos (by decide)
    split
    · split
      · exact p1
      · exact Nat.zero_le _
    · split
      · rename_i h1 h2
        refine Nat.le_trans (chF_len n5 k T (x + 1) (x + 1) (Nat.le_refl _) (by omega) n1) (Nat.pow_le_pow_right (by decide) ?_)
        unfold plc
        subst h2
        obtain ⟨d, hd⟩ : ∃ d, n - 2 - x = d + 1 ∨ n - 2 - x = 0 := by
          rcases Nat.eq_zero_or_pos (n - 2 - x) with h | h
          · exact ⟨0, .inr h⟩
          · exact ⟨n - 2 - x - 1, .inl (by omega)⟩
        rcases hd with hd | hd
        · have e : n - 2 - (x + 1) = d := by omega
          rw [hd, e]
          show _ ≤ _ + ((d + 1) + tri d)
          omega
        · have e : n - 2 - (x + 1) = 0 := by omega
          rw [hd, e]
          omega
      · rename_i h1 h2
        have hB := catTs_len (f := fun z => if fillC T x y z then chF n k (set2 T x y z) x (y + 1) else []) (B := 5 ^ plc n x (y + 1)) (fun i => by
          split
          · exact chF_len n5 k _ x (y + 1) (by omega) (by omega) n1
          · exact Nat.zero_le _) (min x y + 1)
        have e : plc n x y = plc n x (y + 1) + 1 := by unfold plc; omega
        rw [e, Nat.pow_succ, Nat.mul_comm]
        exact Nat.le_trans hB (Nat.mul_le_mul_right _ (by omega))
theorem set2_len (T : List (List Int)) (x y : Nat) (z : Int) : (set2 T x y z).length = T.length := by unfold set2; rw [setT_len, setT_len]
theorem set2_rlen (T : List (List Int)) {x y j : Nat} (z : Int) (hx : x < T.length) (hy : y < T.length) : (rowAt (set2 T x y z) j).length = (rowAt T j).length := by
  unfold set2
  rw [setT_rlen _ z (by rw [setT_len]; exact hy), setT_rlen _ z hx]
/-- a table as spec.fill takes it -/
def Sq (n : Nat) (T : List (List Int)) : Prop := T.length = n ∧ ∀ j : Nat, j < n → (rowAt T j).length = n
theorem Sq.set2 {n : Nat} {T : List (List Int)} (h : Sq n T) {x y : Nat} (z : Int) (hx : x < n) (hy : y < n) : Sq n (set2 T x y z) :=
  ⟨by rw [set2_len]; exact h.1, fun j hj => by rw [set2_rlen T z (by rw [h.1]; exact hx) (by rw [h.1]; exact hy)]; exact h.2 j hj⟩
theorem Sq.rows {n : Nat} {T : List (List Int)} (h : Sq n T) (n1 : 1 ≤ n) (n5 : n ≤ 5) : ∀ j : Nat, j < T.length → 1 ≤ (rowAt T j).length ∧ (rowAt T j).length ≤ 64 := fun j hj => by
  have := h.2 j (by have := h.1; omega)
  omega
theorem chF_sq {n : Nat} {U : List (List Int)} : ∀ {k : Nat} {T : List (List Int)} {x y : Nat}, Sq n T → x ≤ y → y ≤ n - 1 → 1 ≤ n → U ∈ chF n k T x y → Sq n U ∧ algB (chainTo n n) U = true
  | 0, _, _, _, _, _, _, _, h => by cases h
  | k + 1, T, x, y, hT, hxy, hy, n1, h => by
    change U ∈ (if x = n - 1 then (if algB (chainTo n n) T then [T] else []) else if y = n - 1 then chF n k T (x + 1) (x + 1) else catTs (fun z => if fillC T x y z then chF n k (set2 T x y z) x (y + 1) else []) (min x y + 1)) at h
    split at h
    · split at h
      · rename_i ha
        rw [List.mem_singleton.1 h]; exact ⟨hT, ha⟩
      · cases h
    · split at h
      · exact chF_sq hT (Nat.le_refl _) (by omega) n1 h
      · have : ∀ j, U ∈ catTs (fun z => if fillC T x y z then chF n k (Go.Proofs.Ythjbfdoclifhoaa.set2 T x y z) x (y + 1) else []) j → ∃ z : Nat, U ∈ chF n k (Go.Proofs.Ythjbfdoclifhoaa.set2 T x y z) x (y + 1) := by
          intro j
          induction j with
          | zero => intro h; cases h
          | succ j ih =>
            intro h
            change U ∈ catTs _ j ++ _ at h
            rcases List.mem_append.1 h with h | h
            · exact ih h
            · dsimp only at h
              split at h
              · exact ⟨j, h⟩
              · cases h
        obtain ⟨z, hz⟩ := this _ h
        exact chF_sq (hT.set2 z (by omega) (by omega)) (by omega) (by omega) n1 hz
theorem info_intss : (Try.prog.info? 29).map (fun i => (i.zero, i.size, i.bytes)) = some (some (.slice none 0 0), 1, 24) := by kernel_rfl
/-- a list of tables of the call's own -/
def tabAt (Ts : List (List (List Int))) (j : Nat) : List (List Int) := Ts.getD j []
def TabsAt (B : Nat) (w : World) (v : Value) (Ts : List (List (List Int))) : Prop :=
  ∃ vs : List Value, w.ownsRow B 29 1 v Ts.length vs ∧ ∀ j : Nat, j < Ts.length → ∃ u, vs[j]? = some u ∧ RowsAt B w u (tabAt Ts j)
theorem TabsAt.below {B : Nat} {w w' : World} {v : Value} {Ts : List (List (List Int))} (h : TabsAt B w v Ts) (hb : Below w.heap.size w w') : TabsAt B w' v Ts := by
  obtain ⟨vs, h1, h2⟩ := h
  exact ⟨vs, ownsRow_below h1 hb, fun j hj => by obtain ⟨u, hu, ho⟩ := h2 j hj; exact ⟨u, hu, ho.below hb⟩⟩
theorem RowsAt.kept {B B' : Nat} {w w' : World} {v u : Value} {T : List (List Int)} {n : Nat} {xs : List Value} (h : RowsAt B w v T) (hu : w.ownsRow B' 29 1 u n xs) (hg : w.grownBy w' u.ownBlock) : RowsAt B w' v T := by
  obtain ⟨vs, h1, h2⟩ := h
  exact ⟨vs, World.ownsRow.kept h1 hg (own_types h1 hu (by decide)), fun j hj => by obtain ⟨x, hx, ho⟩ := h2 j hj; exact ⟨x, hx, World.ownsRow.kept ho hg (own_types ho hu (by decide))⟩⟩
theorem tabAt_l {T U : List (List (List Int))} {j : Nat} (h : j < T.length) : tabAt (T ++ U) j = tabAt T j := by
  unfold tabAt; simp [List.getElem?_append_left h]
theorem tabAt_r {T U : List (List (List Int))} {j : Nat} (h : T.length ≤ j) : tabAt (T ++ U) j = tabAt U (j - T.length) := by
  unfold tabAt; simp [List.getElem?_append_right h]
theorem TabsAt.cat {B : Nat} {w w' : World} {v v' : Value} {T U : List (List (List Int))} {vs us : List Value} (h1 : w.ownsRow B 29 1 v T.length vs) (h2 : ∀ j : Nat, j < T.length → ∃ u, vs[j]? = some u ∧ RowsAt B w u (tabAt T j))
    (k2 : ∀ j : Nat, j < U.length → ∃ u, us[j]? = some u ∧ RowsAt B w u (tabAt U j)) (h3 : w'.ownsRow B 29 1 v' (T.length + U.length) (vs ++ us)) (hg : w.grownBy w' v.ownBlock) : TabsAt B w' v' (T ++ U) := by
  have hvl : vs.length = T.length := by have := h1.1; omega
  refine ⟨vs ++ us, by rw [List.length_append]; exact h3, fun j hj => ?_⟩
  rw [List.length_append] at hj
  by_cases e : j < T.length
  · obtain ⟨u', hu', ho⟩ := h2 j e
    exact ⟨u', by rw [List.getElem?_append_left (by omega)]; exact hu', by rw [tabAt_l e]; exact ho.kept h1 hg⟩
  · obtain ⟨u', hu', ho⟩ := k2 (j - T.length) (by omega)
    exact ⟨u', by rw [List.getElem?_append_right (by omega), hvl]; exact hu', by rw [tabAt_r (by omega)]; exact ho.kept h1 hg⟩
def RetTabs (B : Nat) (Ts : List (List (List Int))) (w : World) (e : Ending) (w' : World) : Prop := ∃ v, e = .returned v ∧ TabsAt B w' v Ts ∧ v ≠ .slice none 0 0 ∧ Below w.heap.size w w'
theorem tabs_one {B : Nat} {w : World} {v : Value} {T : List (List Int)} (h : RowsAt B w v T) (hB : B ≤ w.heap.size) : TabsAt B (w.alloc (.cells #[v] 29)) (.slice (some ⟨w.heap.size, 0, none⟩) 1 1) [T] :=
  ⟨[v], ⟨by simp, .inr ⟨w.heap.size, 1, #[v], rfl, hB, heap_alloc_new w _, Nat.le_refl _, by unfold maxLen; omega, by simp, by simp⟩⟩, fun j hj => by
    have e : j = 0 := by simp at hj; omega
    subst e
    exact ⟨v, rfl, h.below ((Below.refl _ _).alloc (Nat.le_refl _) _)⟩⟩
theorem tabs_none {B : Nat} (w : World) (hB : B ≤ w.heap.size) : TabsAt B (w.alloc (.cells #[] 29)) (.slice (some ⟨w.heap.size, 0, none⟩) 0 0) [] :=
  ⟨[], ⟨by simp, .inr ⟨w.heap.size, 0, #[], rfl, hB, heap_alloc_new w _, Nat.le_refl _, by unfold maxLen; omega, by simp, by simp⟩⟩, fun j hj => absurd hj (by simp)⟩
end Go.Proofs.Ythjbfdoclifhoaa

namespace Go.Proofs.Ythjbfdoclifhoaa
open Go.RowKit

end Go.Proofs.Ythjbfdoclifhoaa

namespace Go.Proofs.Ythjbfdoclifhoaa
open Go.RowKit

theorem tabs_shape {w : World} {B : Nat} {v : Value} {n : Nat} {us : List Value} (h : w.ownsRow B 29 1 v n us) (hv : v ≠ .slice none 0 0) : ∃ g c, v = .slice (some ⟨g, 0, none⟩) n c ∧ B ≤ g ∧ ∀ j u, us[j]? = some u → w.cell? ((⟨g, 0, none⟩ : Addr).add j) = some u := by
  rcases h.2 with ⟨rfl, _⟩ | ⟨g, cap, cur, rfl, hb, _⟩
  · exact absurd rfl hv
  · exact ⟨g, cap, rfl, hb, h.cells rfl⟩
theorem tabs_cells {B : Nat} {w : World} {us : List Value} {U : List (List (List Int))} (h : ∀ j : Nat, j < U.length → ∃ u, us[j]? = some u ∧ RowsAt B w u (tabAt U j)) (hl : us.length = U.length * 1) : ∀ u ∈ us, u.oneCell' = true := fun u hu => by
  obtain ⟨i, hi, rfl⟩ := List.getElem_of_mem hu
  obtain ⟨u', hu', ho⟩ := h i (by omega)
  rw [List.getElem?_eq_getElem hi] at hu'
  injection hu' with hu'
  obtain ⟨a, c, e, _⟩ := ho.rd
  rw [hu', e]; rfl
theorem sq_cell {n : Nat} {T : List (List Int)} {w : World} {b : Option Addr} (hT : Sq n T) (h : RdT w b T) (n1 : 1 ≤ n) : ∃ B o, b = some ⟨B, o, none⟩ ∧ ∀ x y : Int, 0 ≤ x → x < n → 0 ≤ y → y < n → ∃ ra ro rc, w.cell? ⟨B, o + x.toNat, none⟩ = some (.slice (some ⟨ra, ro, none⟩) (rowAt T x).length rc) ∧ w.cell? ⟨ra, ro + y.toNat, none⟩ = some (.int .i64 (tv T x y)) ∧ (rowAt T x).length = n := by
  have hl := hT.1
  obtain ⟨B, o, rfl, q⟩ := h (by intro e; rw [e] at hl; simp at hl; omega)
  refine ⟨B, o, rfl, fun x y x0 x1 y0 y1 => ?_⟩
  obtain ⟨ra, rc, d, r⟩ := RdT.row q x0 (by omega)
  have hr := hT.2 x.toNat (by omega)
  rw [Int.toNat_of_nonneg x0] at hr
  obtain ⟨rb, ro, rfl, hc⟩ := r (by intro e; rw [e] at hr; simp at hr; omega)
  exact ⟨rb, ro, rc, d, hc.at y y0 (by unfold num; omega), hr⟩
theorem catTs_succ (f : Nat → List (List (List Int))) (j : Nat) : catTs f (j + 1) = catTs f j ++ f j := rfl
end Go.Proofs.Ythjbfdoclifhoaa

namespace Go.Proofs.Ythjbfdoclifhoaa
open Go.RowKit

/-! spec.chains: the table from which the places are filled -/
def rowC (n : Nat) (x : Nat) : List Int := (List.replicate n 0).set (n - 1) (x : Int)
def idC (n x : Nat) : Nat → List Int
  | 0 => rowC n x
  | k + 1 => (idC n x k).set k (k : Int)
def topRow (n x : Nat) : List Int := if x = n - 1 then idC n x n else rowC n x
def topC (n k : Nat) : List (List Int) := (List.range k).map (topRow n)
theorem rowC_len (n x : Nat) : (rowC n x).length = n := by simp [rowC]
theorem idC_len (n x : Nat) : ∀ k, (idC n x k).length = n
  | 0 => rowC_len n x
  | k + 1 => by show ((idC n x k).set k (k : Int)).length = n; rw [List.length_set]; exact idC_len n x k
theorem topRow_len (n x : Nat) : (topRow n x).length = n := by
  unfold topRow
  split
  · exact idC_len n x n
  · exact rowC_len n x
theorem topC_len (n k : Nat) : (topC n k).length = k := by simp [topC]
theorem topC_succ (n k : Nat) : topC n (k + 1) = topC n k ++ [topRow n k] := by
  unfold topC
  rw [List.range_succ, List.map_append]
  rfl
theorem topC_sq (n : Nat) : Sq n (topC n n) := ⟨topC_len n n, fun j hj => by
  have : rowAt (topC n n) (j : Int) = topRow n j := by
    unfold rowAt topC
    simp [hj]
  rw [this]; exact topRow_len n j⟩

theorem info_Alg : (Try.prog.info? 31).map (fun i => (i.zero, i.size, i.bytes)) = some (some (.agg #[.slice none 0 0, .slice none 0 0]), 2, 48) := by kernel_rfl
/-- algebras of one lattice, laid in a slice of the call's own -/
def AlgsAt (B C : Nat) (w : World) (v : Value) (L : List Int) (Ts : List (List (List Int))) : Prop :=
  ∃ cs : List Value, w.ownsRow B 31 2 v Ts.length cs ∧ ∀ j : Nat, j < Ts.length → ∃ u1 u2, cs[2 * j]? = some u1 ∧ cs[2 * j + 1]? = some u2 ∧ Own C w u1 L ∧ RowsAt C w u2 (tabAt Ts j)
theorem RowsAt.keptA {B B' s n : Nat} {e : TypeId} {w w' : World} {v u : Value} {T : List (List Int)} {xs : List Value} (h : RowsAt B w v T) (hu : w.ownsRow B' e s u n xs) (e1 : 24 ≠ e) (e2 : 3 ≠ e) (hg : w.grownBy w' u.ownBlock) : RowsAt B w' v T := by
  obtain ⟨vs, h1, h2⟩ := h
  exact ⟨vs, World.ownsRow.kept h1 hg (own_types h1 hu e1), fun j hj => by obtain ⟨x, hx, ho⟩ := h2 j hj; exact ⟨x, hx, World.ownsRow.kept ho hg (own_types ho hu e2)⟩⟩
theorem AlgsAt.push {B C : Nat} {w w' : World} {v v' u1 u2 : Value} {L : List Int} {Ts : List (List (List Int))} {T : List (List Int)} {cs : List Value} (h1 : w.ownsRow B 31 2 v Ts.length cs)
    (h2 : ∀ j : Nat, j < Ts.length → ∃ u1 u2, cs[2 * j]? = some u1 ∧ cs[2 * j + 1]? = some u2 ∧ Own C w u1 L ∧ RowsAt C w u2 (tabAt Ts j)) (k1 : Own C w u1 L) (k2 : RowsAt C w u2 T)
    (h3 : w'.ownsRow B 31 2 v' (Ts.length + 1) (cs ++ [u1, u2])) (hg : w.grownBy w' v.ownBlock) : AlgsAt B C w' v' L (Ts ++ [T]) := by
  have hvl : cs.length = Ts.length * 2 := h1.1
  refine ⟨cs ++ [u1, u2], by rw [List.length_append, List.length_singleton]; exact h3, fun j hj => ?_⟩
  rw [List.length_append, List.length_singleton] at hj
  by_cases e : j < Ts.length
  · obtain ⟨a, b, ha, hb, ho, hr⟩ := h2 j e
    refine ⟨a, b, by rw [List.getElem?_append_left (by omega)]; exact ha, by rw [List.getElem?_append_left (by omega)]; exact hb, World.ownsRow.kept ho hg (own_types ho h1 (by decide)), ?_⟩
    rw [tabAt_l e]
    exact hr.keptA h1 (by decide) (by decide) hg
  · have e2 : j = Ts.length := by omega
    subst e2
    refine ⟨u1, u2, by rw [List.getElem?_append_right (by omega), hvl, show 2 * Ts.length - Ts.length * 2 = 0 by omega]; rfl, by rw [List.getElem?_append_right (by omega), hvl, show 2 * Ts.length + 1 - Ts.length * 2 = 1 by omega]; rfl, World.ownsRow.kept k1 hg (own_types k1 h1 (by decide)), ?_⟩
    rw [tabAt_r (Nat.le_refl _), Nat.sub_self]
    exact k2.keptA h1 (by decide) (by decide) hg
theorem AlgsAt.below {B C : Nat} {w w' : World} {v : Value} {L : List Int} {Ts : List (List (List Int))} (h : AlgsAt B C w v L Ts) (hb : Below w.heap.size w w') : AlgsAt B C w' v L Ts := by
  obtain ⟨cs, h1, h2⟩ := h
  exact ⟨cs, ownsRow_below h1 hb, fun j hj => by obtain ⟨a, b, ha, hb', ho, hr⟩ := h2 j hj; exact ⟨a, b, ha, hb', ho.below hb, hr.below hb⟩⟩
theorem algs_none {B C : Nat} (w : World) (L : List Int) (hB : B ≤ w.heap.size) : AlgsAt B C (w.alloc (.cells #[] 31)) (.slice (some ⟨w.heap.size, 0, none⟩) 0 0) L [] :=
  ⟨[], ⟨by simp, .inr ⟨w.heap.size, 0, #[], rfl, hB, heap_alloc_new w _, Nat.le_refl _, by unfold maxLen; omega, by simp, by simp⟩⟩, fun j hj => absurd hj (by simp)⟩
theorem take_tab (Ts : List (List (List Int))) {i : Nat} (h : i < Ts.length) : Ts.take (i + 1) = Ts.take i ++ [tabAt Ts i] := by
  rw [List.take_add_one]
  congr 1
  unfold tabAt
  rw [List.getElem?_eq_getElem h, List.getD_eq_getElem?_getD, List.getElem?_eq_getElem h]
  rfl
/-- the tables that spec.chains lists -/
def chT (n : Nat) : List (List (List Int)) := if n ≤ 2 then [topC n n] else chF n 30 (topC n n) 1 1
theorem chT_len {n : Nat} (n1 : 1 ≤ n) (n5 : n ≤ 5) : (chT n).length ≤ 1000000 := by
  unfold chT
  split
  · simp
  · rename_i hn
    have h1 := chF_len n5 30 (topC n n) 1 1 (Nat.le_refl _) (by omega) (by omega)
    have h2 : plc n 1 1 ≤ 6 := by
      have : n = 3 ∨ n = 3 ∨ n = 4 ∨ n = 5 := by omega
      rcases this with h | h | h | h <;> rw [h] <;> decide
    have h3 : 5 ^ plc n 1 1 ≤ 5 ^ 6 := Nat.pow_le_pow_right (by decide) h2
    have h4 : 5 ^ 6 = 15625 := by decide
    omega
theorem ch_meas {n : Nat} (n5 : n ≤ 5) : (n - 1 - 1) * n + (n - 1 - 1) < 30 := by
  have : n = 0 ∨ n = 1 ∨ n = 2 ∨ n = 3 ∨ n = 4 ∨ n = 5 := by omega
  rcases this with h | h | h | h | h | h <;> rw [h] <;> decide

theorem tabAt_mem {U : List (List (List Int))} {j : Nat} (h : j < U.length) : tabAt U j ∈ U := by
  unfold tabAt
  rw [List.getD_eq_getElem?_getD, List.getElem?_eq_getElem h]
  exact List.getElem_mem h
theorem algs_shape {w : World} {B : Nat} {v : Value} {n : Nat} {us : List Value} (h : w.ownsRow B 31 2 v n us) (hv : v ≠ .slice none 0 0) : ∃ g c, v = .slice (some ⟨g, 0, none⟩) n c ∧ B ≤ g ∧ ∀ j u, us[j]? = some u → w.cell? ⟨g, j, none⟩ = some u := by
  rcases h.2 with ⟨rfl, _⟩ | ⟨g, cap, cur, rfl, hb, _⟩
  · exact absurd rfl hv
  · refine ⟨g, cap, rfl, hb, fun j u hu => ?_⟩
    have := h.cells rfl j u hu
    rwa [Addr.add_mid, Nat.zero_add] at this
theorem AlgsAt.from {B B' C C' : Nat} {w : World} {v : Value} {L : List Int} {Ts : List (List (List Int))} (h : AlgsAt B C w v L Ts) (hB : B' ≤ B) (hC : C' ≤ C) : AlgsAt B' C' w v L Ts := by
  obtain ⟨cs, h1, h2⟩ := h
  refine ⟨cs, ?_, fun j hj => by obtain ⟨a, b, ha, hb', ho, hr⟩ := h2 j hj; exact ⟨a, b, ha, hb', ho.from hC, hr.from hC⟩⟩
  refine ⟨h1.1, ?_⟩
  rcases h1.2 with h | ⟨g, cap, cur, e1, e2, e3⟩
  · exact .inl h
  · exact .inr ⟨g, cap, cur, e1, Nat.le_trans hB e2, e3⟩
theorem AlgsAt.drawn {B B' C : Nat} {w w' : World} {v : Value} {L : List Int} {Ts : List (List (List Int))} {g : Nat} {m : Int} (h : AlgsAt B B' w v L Ts) (hr : Rdr w C g m) (hg : w.grownBy w' (some g)) : AlgsAt B B' w' v L Ts := by
  obtain ⟨c, hc⟩ := hr.type
  obtain ⟨cs, h1, h2⟩ := h
  refine ⟨cs, World.ownsRow.kept h1 hg ?_, fun j hj => by obtain ⟨a, b, ha, hb', ho, hr'⟩ := h2 j hj; exact ⟨a, b, ha, hb', ho.drawn hr hg, hr'.drawn hr hg⟩⟩
  rcases h1.2 with ⟨rfl, _⟩ | ⟨b, cap, cur, rfl, _, hb, _⟩
  · exact .inl rfl
  · right
    simp only [Value.ownBlock, ne_eq, Option.some.injEq]
    intro e
    rw [e, hc] at hb
    injection hb with hb
    injection hb with _ hb
    exact absurd hb (by decide)
theorem AlgsAt.at {B C : Nat} {w : World} {G n cap : Nat} {L : List Int} {Ts : List (List (List Int))} (h : AlgsAt B C w (.slice (some ⟨G, 0, none⟩) n cap) L Ts) {k : Int} (k0 : 0 ≤ k) (k1 : k < Ts.length) :
    ∃ a ca b cb, w.rangeAt G (k.toNat * 2) [.slice a L.length ca, .slice b (tabAt Ts k.toNat).length cb] ∧ Own C w (.slice a L.length ca) L ∧ RowsAt C w (.slice b (tabAt Ts k.toNat).length cb) (tabAt Ts k.toNat) := by
  obtain ⟨cs, h1, h2⟩ := h
  obtain ⟨u1, u2, e1, e2, ho, hr⟩ := h2 k.toNat (by omega)
  obtain ⟨a, ca, rfl, _⟩ := ho.slice
  obtain ⟨b, cb, rfl, _⟩ := hr.rd
  obtain ⟨g', c', e, _, hcell⟩ := algs_shape h1 (by simp)
  injection e with e
  injection e with e
  injection e with e
  subst e
  refine ⟨a, ca, b, cb, fun j v hv => ?_, ho, hr⟩
  rcases j with _ | _ | j
  · simp only [List.getElem?_cons_zero, Option.some.injEq] at hv
    subst hv
    rw [Nat.add_zero, Nat.mul_comm]
    exact hcell _ _ e1
  · simp only [List.getElem?_cons_succ, List.getElem?_cons_zero, Option.some.injEq] at hv
    subst hv
    rw [Nat.mul_comm]
    exact hcell _ _ e2
  · simp at hv
/-- algebras of one lattice are handed back -/
def RetAlgs (L : List Int) (Ts : List (List (List Int))) (w : World) (e : Ending) (w' : World) : Prop := ∃ G c, e = .returned (.slice (some ⟨G, 0, none⟩) Ts.length c) ∧ AlgsAt w.heap.size w.heap.size w' (.slice (some ⟨G, 0, none⟩) Ts.length c) L Ts ∧ Below w.heap.size w w'
theorem retAlgs_end {w w2 wr : World} {L : List Int} {Ts : List (List (List Int))} {v : Value} (h : AlgsAt w2.heap.size w.heap.size wr v L Ts) (hv : v ≠ .slice none 0 0) (hs : w.heap.size ≤ w2.heap.size) (h2 : Below w.heap.size w w2) (h3 : Below w2.heap.size w2 wr) : RetAlgs L Ts w (.returned v) wr := by
  have h' := h
  obtain ⟨cs, h1, _⟩ := h'
  obtain ⟨g, c, rfl, _⟩ := algs_shape h1 hv
  exact ⟨g, c, rfl, h.from hs (Nat.le_refl _), h2.trans (h3.mono hs)⟩
theorem ch_meas2 {i : Nat} (h : i ≤ 1000000) : (2000000 - intOf (.int .i64 ((i : Int) + 1))).toNat < (2000000 - intOf (.int .i64 (i : Int))).toNat := by
  simp only [intOf]; omega
/-- the state of the last loop -/
def ChRel (w w2 : World) (L : List Int) (U : List (List (List Int))) (av iv : Value) (wr : World) : Prop := ∃ i : Nat, i ≤ U.length ∧ iv = .int .i64 (i : Int) ∧ AlgsAt w2.heap.size w.heap.size wr av L (U.take i) ∧ av ≠ .slice none 0 0 ∧ Below w2.heap.size w2 wr
theorem ChRel.mk' {w w2 : World} {L : List Int} {U Q : List (List (List Int))} {wr : World} {i g : Nat} {n c : Nat} {T : List (List Int)} (hi : i < U.length) (hq : U.take (i + 1) = Q ++ [T]) (h : AlgsAt w2.heap.size w.heap.size wr (.slice (some ⟨g, 0, none⟩) n c) L (Q ++ [T])) (hb : Below w2.heap.size w2 wr) {x : Int} (hx : x = (i : Int) + 1) : ChRel w w2 L U (.slice (some ⟨g, 0, none⟩) n c) (.int .i64 x) wr :=
  ⟨i + 1, hi, by rw [hx]; rfl, by rw [hq]; exact h, by simp, hb⟩
end Go.Proofs.Ythjbfdoclifhoaa
