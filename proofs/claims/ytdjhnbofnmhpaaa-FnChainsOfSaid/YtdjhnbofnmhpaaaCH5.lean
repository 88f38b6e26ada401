import Derived.Test.YtdjhnbofnmhpaaaMK
import Derived.Test.YtdjhnbofnmhpaaaG3
import Derived.Test.YtdjhnbofnmhpaaaL5
import Derived.Test.YtdjhnbofnmhpaaaFA
import Derived.Test.YtdjhnbofnmhpaaaH10
import Derived.RegionTactic
import Derived.BigRegion
import Derived.Deep.AppendLies
namespace Go.Proofs.Ytdjhnbofnmhpaaa
open Go.RowKit

theorem RowsD.push {B : Nat} {w w' : World} {v v' u : Value} {T : List (List Int)} {r : List Int} {vs : List Value} (r1 : w.ownsRow B 35 1 v T.length vs) (r2 : ∀ j : Nat, j < T.length → ∃ u, vs[j]? = some u ∧ Own B w u (rowAt T j))
    (r3 : ∀ (i j : Nat) (a x : Value), i < j → j < T.length → vs[i]? = some a → vs[j]? = some x → a.ownBlock = none ∨ a.ownBlock ≠ x.ownBlock) (hu : Own B w u r) (rn : ∀ (i : Nat) (a : Value), i < T.length → vs[i]? = some a → a.ownBlock = none ∨ a.ownBlock ≠ u.ownBlock)
    (h3 : w'.ownsRow B 35 1 v' (T.length + 1) (vs ++ [u])) (hg : w.grownBy w' v.ownBlock) : RowsD B w' v' (T ++ [r]) := by
  have hvl : vs.length = T.length := by have := r1.1; omega
  refine ⟨vs ++ [u], by rw [List.length_append]; exact h3, fun j hj => ?_, ?_⟩
  · rw [List.length_append, List.length_singleton] at hj
    by_cases e : j < T.length
    · obtain ⟨a, ha, ho⟩ := r2 j e
      refine ⟨a, by rw [List.getElem?_append_left (by omega)]; exact ha, ?_⟩
      rw [rowAt_old e]
      exact World.ownsRow.kept ho hg (own_types ho r1 (by decide))
    · have e2 : j = T.length := by omega
      subst e2
      refine ⟨u, by rw [List.getElem?_append_right (by omega), hvl, Nat.sub_self]; rfl, ?_⟩
      rw [rowAt_new]
      exact World.ownsRow.kept hu hg (own_types hu r1 (by decide))
  · rw [List.length_append, List.length_singleton]
    exact rows_apart hvl r3 rn
/-- a row that is newer than the others is apart from them -/
theorem rows_newer {B : Nat} {w : World} {T : List (List Int)} {vs : List Value} {u : Value} {r : List Int} {w2 : World} (h : ∀ j : Nat, j < T.length → ∃ u, vs[j]? = some u ∧ Own B w u (rowAt T j)) (hu : Own w.heap.size w2 u r) : ∀ (i : Nat) (a : Value), i < T.length → vs[i]? = some a → a.ownBlock = none ∨ a.ownBlock ≠ u.ownBlock := fun i x hi hx => by
  obtain ⟨y, hy, ho⟩ := h i hi
  rw [hx] at hy
  injection hy with hy
  subst hy
  cases hxb : x.ownBlock with
  | none => exact .inl rfl
  | some q =>
    right
    intro e
    have l1 := (World.ownsRow.lt ho q hxb).2
    have l2 := (World.ownsRow.lt hu q e.symm).1
    omega
theorem take_rowT (T : List (List Int)) {i : Int} (i0 : 0 ≤ i) (h : i < T.length) : T.take (i + 1).toNat = T.take i.toNat ++ [rowAt T i] := by
  rw [show (i + 1).toNat = i.toNat + 1 by omega, List.take_add_one]
  congr 1
  unfold rowAt
  have : i.toNat < T.length := by omega
  rw [List.getElem?_eq_getElem this, List.getD_eq_getElem?_getD, List.getElem?_eq_getElem this]
  rfl
theorem rows_noneD {B : Nat} (w : World) (hB : B ≤ w.heap.size) : RowsD B (w.alloc (.cells #[] 35)) (.slice (some ⟨w.heap.size, 0, none⟩) 0 0) [] :=
  ⟨[], ⟨by simp, .inr ⟨w.heap.size, 0, #[], rfl, hB, heap_alloc_new w _, Nat.le_refl _, by unfold maxLen; omega, by simp, by simp⟩⟩, fun j hj => absurd hj (by simp), fun i j u x _ hj => absurd hj (by simp)⟩
/-- a table of its own, rows apart, is handed back -/
def RetTD (T : List (List Int)) (w : World) (e : Ending) (w' : World) : Prop := ∃ G c, e = .returned (.slice (some ⟨G, 0, none⟩) T.length c) ∧ RowsD w.heap.size w' (.slice (some ⟨G, 0, none⟩) T.length c) T ∧ Below w.heap.size w w'
set_option maxRecDepth 100000 in
set_option maxHeartbeats 2000000 in
/-- spec.copyTable -/
theorem copyTable_any (b : Option Addr) (c : Nat) (T : List (List Int)) (w : World) (h : RdT w b T) (hn : T.length ≤ 64) (hm : ∀ j : Nat, j < T.length → 1 ≤ (rowAt T j).length ∧ (rowAt T j).length ≤ 64) :
    Calls Try.prog 86 #[.slice b T.length c] w (RetTD T w) := by
  obtain ⟨i0, hi, hz0, hz1, hz2⟩ := info_parts info_int
  obtain ⟨i1, hi1, hy0, hy1, hy2⟩ := info_parts info_ints
  have HM := Lib.hid hm
  have H := Lib.hid h
  clear hm h
  go_enter Try.func86, Try.ntmps86
  go_wp2
  go_loopw [3, 4] (fun ov iv wr => ∃ (i : Int) (G cc : Nat), 0 ≤ i ∧ i ≤ T.length ∧ iv = .int .i64 i ∧ ov = .slice (some ⟨G, 0, none⟩) (T.take i.toNat).length cc ∧ RowsD w.heap.size wr (.slice (some ⟨G, 0, none⟩) (T.take i.toNat).length cc) (T.take i.toNat) ∧ Below w.heap.size w wr) (fun _ iv _ => ((T.length : Int) - intOf iv).toNat)
  case atStart => exact ⟨0, w.heap.size, 0, by omega, by omega, rfl, by simp, by simpa using rows_noneD w (Nat.le_refl _), (Below.refl _ _).alloc (Nat.le_refl _) _⟩
  case round =>
    obtain ⟨i, G, cc, i0', i1', rfl, rfl, hD, hb⟩ := hrel
    by_cases hk : i < T.length
    · have hne2 : T ≠ [] := by intro e; rw [e] at hk; simp at hk; omega
      obtain ⟨B1, o1, rfl, q1⟩ := (H.out.below hb) hne2
      obtain ⟨ra, rc, d1, r1⟩ := RdT.row q1 i0' hk
      obtain ⟨m1, m2⟩ := HM.out i.toNat (by omega)
      rw [Int.toNat_of_nonneg i0'] at m1 m2
      obtain ⟨rb, ro, rfl, _⟩ := r1 (by intro e; rw [e] at m1; simp at m1)
      have htk := take_rowT T i0' hk
      have htl : (T.take i.toNat).length = i.toNat := by rw [List.length_take]; omega
      obtain ⟨R, hR⟩ : ∃ R, R = rowAt T i := ⟨_, rfl⟩
      rw [← hR] at d1 r1 m1 m2 htk
      obtain ⟨P, hP⟩ : ∃ P, P = T.take i.toNat := ⟨_, rfl⟩
      rw [← hP] at hD htk htl
      have d2 : (wr.alloc (.cells #[] 3)).cell? ⟨B1, o1 + i.toNat, none⟩ = some (.slice (some ⟨rb, ro, none⟩) R.length rc) := (((Below.refl wr.heap.size wr).alloc (Nat.le_refl _) _).cell (by exact block_lt_of_cell d1)).trans d1
      have HTK := Lib.hid htk
      have HP := Lib.hid hP
      have hPl : P.length ≤ 64 := by omega
      obtain ⟨vs, s1, s2, s3⟩ := hD
      have S2 := Lib.hid s2
      have S3 := Lib.hid s3
      have hs := hb.size
      have HN := Lib.hid (rd_cells r1)
      clear hR q1 htk htl s2 s3 hP hne2
      rw [← HP.out]
      go_wp2_with (first
        | (at_builtin; refine wpList_append_own _ rfl _ _ 36 rfl w.heap.size 35 i1 (.slice none 0 0) 1 24 Try.underlying36 hi1 hy0 hy1 hy2 rfl (by decide) _ _ _ rfl (World.ownsRow.alloc (ownsRow_below s1 hb2) _) ⟨w2.heap.size, 0, none⟩ 1 1 [.slice va R.length vc] rfl rfl (cell_one_new _ _ _) (fun x hx => by simp at hx; subst hx; rfl) (by unfold maxLen; omega) (by omega) (by have := hb2.size; simp; omega) ?_; intro v5 w5 hown5 hgrow5 hnil5)
        | (at_builtin; refine wpList_append_own _ rfl _ _ 35 rfl wr.heap.size 3 i0 (.int .i64 0) 1 8 Try.underlying35 hi hz0 hz1 hz2 rfl (by decide) _ _ _ rfl (Own.row (L := []) (heap_alloc_new wr _) (Nat.le_refl _) (Nat.zero_le _)) ⟨rb, ro, none⟩ R.length rc (R.map fun x => Value.int .i64 x) rfl (by simp) (old_newsZ _ HN.out) (fun x hx => by simp at hx; obtain ⟨y, _, rfl⟩ := hx; rfl) (by unfold maxLen; simp; omega) (by simp; omega) (by simp) ?_; intro v2 w2 hown2 hgrow2 _; have ho2 : Own wr.heap.size w2 v2 R := (by unfold Own; simpa using hown2); have hb2 : Below wr.heap.size wr w2 := ((Below.refl _ _).alloc (Nat.le_refl _) _).grown hgrow2 (by simp) (fun q hq => (by have hq' : some wr.heap.size = some q := hq; injection hq' with hq'; omega)); clear hown2 hgrow2; obtain ⟨va, vc, rfl, _⟩ := ho2.slice))
      go_roundw
      case rel =>
        have hp := RowsD.push (T := P) (r := R) (World.ownsRow.alloc (ownsRow_below s1 hb2) (.cells #[.slice va R.length vc] 35)) (fun j hj => by obtain ⟨u, hu, ho⟩ := S2.out j hj; exact ⟨u, hu, (ho.below hb2).alloc _⟩) S3.out ((ho2.from hs).alloc _) (rows_newer S2.out ho2) hown5 hgrow5
        have hp' := hp
        obtain ⟨ws, x1, _⟩ := hp'
        obtain ⟨g5, c5, e5, _⟩ := rows_shape x1 (fun e => by have := (hnil5.1 e).1; cases this)
        subst e5
        refine ⟨i + 1, g5, c5, by omega, by omega, rfl, by rw [HTK.out], by rw [HTK.out]; exact hp, (hb.trans ((hb2.alloc hb2.size _).mono hs)).grown hgrow5 (by have := hb2.size; simp; omega) (fun q hq => (World.ownsRow.lt s1 q hq).1)⟩
      case measure => simp [intOf]; omega
    · have e : T.take i.toNat = T := List.take_of_length_le (by omega)
      rw [e] at hD ⊢
      go_wp2
      go_ret
      exact ⟨G, cc, rfl, hD, hb⟩
/-- a product is laid into a table -/
def setT (T : List (List Int)) (x y : Nat) (z : Int) : List (List Int) := T.set x ((rowAt T x).set y z)
theorem setT_len (T : List (List Int)) (x y : Nat) (z : Int) : (setT T x y z).length = T.length := by simp [setT]
theorem setT_row (T : List (List Int)) {x y j : Nat} (z : Int) (hx : x < T.length) : rowAt (setT T x y z) j = if j = x then (rowAt T x).set y z else rowAt T j := by
  unfold setT rowAt
  simp only [Int.toNat_natCast, List.getD_eq_getElem?_getD, List.getElem?_set]
  by_cases e : x = j
  · subst e; rw [if_pos rfl, if_pos rfl, if_pos hx]; rfl
  · rw [if_neg e, if_neg (fun h => e h.symm)]
theorem setT_rlen (T : List (List Int)) {x y j : Nat} (z : Int) (hx : x < T.length) : (rowAt (setT T x y z) j).length = (rowAt T j).length := by
  rw [setT_row T z hx]
  split
  · rename_i e; rw [List.length_set, e]
  · rfl
theorem RowsD.set {B G c : Nat} {w : World} {T : List (List Int)} (h : RowsD B w (.slice (some ⟨G, 0, none⟩) T.length c) T) {x y : Nat} (hx : x < T.length) (hy : y < (rowAt T x).length) :
    ∃ ra rc, w.cell? ⟨G, x, none⟩ = some (.slice (some ⟨ra, 0, none⟩) (rowAt T x).length rc) ∧ B ≤ ra ∧ w.cell? ⟨ra, y, none⟩ = some (.int .i64 (nth (rowAt T x) y)) ∧ w.frozen? ⟨ra, y, none⟩ = false ∧
      ∀ z : Int, RowsD B (w.setCell ⟨ra, y, none⟩ (.int .i64 z)) (.slice (some ⟨G, 0, none⟩) (setT T x y z).length c) (setT T x y z) := by
  obtain ⟨vs, h1, h2, h3⟩ := h
  obtain ⟨u, hu, ho⟩ := h2 x hx
  obtain ⟨ra, rc, rfl, hB, _⟩ := ho.shape.resolve_left (fun h => by have := h.2; rw [this] at hy; simp at hy)
  obtain ⟨_, e, hc⟩ := rows_cell h1 hu
  injection e with e
  injection e with e
  subst e
  refine ⟨ra, rc, hc, hB, ?_, ho.freeAt y, fun z => ?_⟩
  · have := ho.cellAt (x := (y : Int)) (by omega) (by omega)
    rwa [Int.toNat_natCast] at this
  · obtain ⟨s1, s2⟩ := ho.stored y z
    refine ⟨vs, by rw [setT_len]; exact World.ownsRow.kept h1 s2 (own_types h1 ho (by decide)), fun j hj => ?_, fun i j a b hij hj => by rw [setT_len] at hj; exact h3 i j a b hij hj⟩
    rw [setT_len] at hj
    rw [setT_row T z hx]
    by_cases ej : j = x
    · subst ej
      rw [if_pos rfl]
      refine ⟨_, hu, ?_⟩
      rw [List.length_set] at s1
      exact s1
    · rw [if_neg ej]
      obtain ⟨a, ha, hao⟩ := h2 j hj
      refine ⟨a, ha, World.ownsRow.kept hao s2 ?_⟩
      rcases Nat.lt_or_gt_of_ne ej with hlt | hlt
      · have := h3 j x a _ hlt hx ha hu
        exact this
      · have := h3 x j _ a hlt hj hu ha
        rcases this with h | h
        · simp [Value.ownBlock] at h
        · exact .inr fun e => h e.symm
end Go.Proofs.Ytdjhnbofnmhpaaa

namespace Go.Proofs.Ytdjhnbofnmhpaaa
open Go.RowKit

/-! What spec.fill lists. -/
def fillC (T : List (List Int)) (x y z : Nat) : Bool := decide (tv T ((x : Int) - 1) y ≤ (z : Int)) && decide (tv T x ((y : Int) - 1) ≤ (z : Int))
def set2 (T : List (List Int)) (x y : Nat) (z : Int) : List (List Int) := setT (setT T x y z) y x z
def catTs (f : Nat → List (List (List Int))) : Nat → List (List (List Int))
  | 0 => []
  | j + 1 => catTs f j ++ f j
def chF (n : Nat) : Nat → List (List Int) → Nat → Nat → List (List (List Int))
  | 0, _, _, _ => []
  | k + 1, T, x, y => if x = n - 1 then (if algB (chainTo n n) T then [T] else []) else if y = n - 1 then chF n k T (x + 1) (x + 1) else catTs (fun z => if fillC T x y z then chF n k (set2 T x y z) x (y + 1) else []) (min x y + 1)
def tri : Nat → Nat
  | 0 => 0
  | k + 1 => (k + 1) + tri k
def plc (n x y : Nat) : Nat := (n - 1 - y) + tri (n - 2 - x)
theorem catTs_len {f : Nat → List (List (List Int))} {B : Nat} (hf : ∀ i, (f i).length ≤ B) : ∀ j, (catTs f j).length ≤ j * B
  | 0 => by rw [Nat.zero_mul]; exact Nat.zero_le _
  | j + 1 => by
    show (catTs f j ++ f j).length ≤ _
    rw [List.length_append, Nat.succ_mul]
    exact Nat.add_le_add (catTs_len hf j) (hf _)
theorem chF_len {n : Nat} (n5 : n ≤ 5) : ∀ (k : Nat) (T : List (List Int)) (x y : Nat), x ≤ y → y ≤ n - 1 → 1 ≤ n → (chF n k T x y).length ≤ 5 ^ plc n x y
  | 0, _, _, _, _, _, _ => Nat.zero_le _
  | k + 1, T, x, y, hxy, hy, n1 => by
    show (if x = n - 1 then (if algB (chainTo n n) T then [T] else []) else if y = n - 1 then chF n k T (x + 1) (x + 1) else catTs (fun z => if fillC T x y z then chF n k (set2 T x y z) x (y + 1) else []) (min x y + 1)).length ≤ _
    have p1 : 1 ≤ 5 ^ plc n x y := Nat.pow_pos (by decide)
    split
    · split
      · exact p1
      · exact Nat.zero_le _
    · split
      · rename_i h1 h2
        refine Nat.le_trans (chF_len n5 k T (x + 1) (x + 1) (Nat.le_refl _) (by omega) n1) (Nat.pow_le_pow_right (by decide) ?_)
        unfold plc
        subst h2
        obtain ⟨d, hd⟩ : ∃ d, n - 2 - x = d + 1 ∨ n - 2 - x = 0 := by
          rcases Nat.eq_zero_or_pos (n - 2 - x) with h | h
          · exact ⟨0, .inr h⟩
          · exact ⟨n - 2 - x - 1, .inl (by omega)⟩
        rcases hd with hd | hd
        · have e : n - 2 - (x + 1) = d := by omega
          rw [hd, e]
          show _ ≤ _ + ((d + 1) + tri d)
          omega
        · have e : n - 2 - (x + 1) = 0 := by omega
          rw [hd, e]
          omega
      · rename_i h1 h2
        have hB := catTs_len (f := fun z => if fillC T x y z then chF n k (set2 T x y z) x (y + 1) else []) (B := 5 ^ plc n x (y + 1)) (fun i => by
          split
          · exact chF_len n5 k _ x (y + 1) (by omega) (by omega) n1
          · exact Nat.zero_le _) (min x y + 1)
        have e : plc n x y = plc n x (y + 1) + 1 := by unfold plc; omega
        rw [e, Nat.pow_succ, Nat.mul_comm]
        exact Nat.le_trans hB (Nat.mul_le_mul_right _ (by omega))
theorem set2_len (T : List (List Int)) (x y : Nat) (z : Int) : (set2 T x y z).length = T.length := by unfold set2; rw [setT_len, setT_len]
theorem set2_rlen (T : List (List Int)) {x y j : Nat} (z : Int) (hx : x < T.length) (hy : y < T.length) : (rowAt (set2 T x y z) j).length = (rowAt T j).length := by
  unfold set2
  rw [setT_rlen _ z (by rw [setT_len]; exact hy), setT_rlen _ z hx]
/-- a table as spec.fill takes it -/
def Sq (n : Nat) (T : List (List Int)) : Prop := T.length = n ∧ ∀ j : Nat, j < n → (rowAt T j).length = n
theorem Sq.set2 {n : Nat} {T : List (List Int)} (h : Sq n T) {x y : Nat} (z : Int) (hx : x < n) (hy : y < n) : Sq n (set2 T x y z) :=
  ⟨by rw [set2_len]; exact h.1, fun j hj => by rw [set2_rlen T z (by rw [h.1]; exact hx) (by rw [h.1]; exact hy)]; exact h.2 j hj⟩
theorem Sq.rows {n : Nat} {T : List (List Int)} (h : Sq n T) (n1 : 1 ≤ n) (n5 : n ≤ 5) : ∀ j : Nat, j < T.length → 1 ≤ (rowAt T j).length ∧ (rowAt T j).length ≤ 64 := fun j hj => by
  have := h.2 j (by have := h.1; omega)
  omega
theorem chF_sq {n : Nat} {U : List (List Int)} : ∀ {k : Nat} {T : List (List Int)} {x y : Nat}, Sq n T → x ≤ y → y ≤ n - 1 → 1 ≤ n → U ∈ chF n k T x y → Sq n U ∧ algB (chainTo n n) U = true
  | 0, _, _, _, _, _, _, _, h => by cases h
  | k + 1, T, x, y, hT, hxy, hy, n1, h => by
    change U ∈ (if x = n - 1 then (if algB (chainTo n n) T then [T] else []) else if y = n - 1 then chF n k T (x + 1) (x + 1) else catTs (fun z => if fillC T x y z then chF n k (set2 T x y z) x (y + 1) else []) (min x y + 1)) at h
    split at h
    · split at h
      · rename_i ha
        rw [List.mem_singleton.1 h]; exact ⟨hT, ha⟩
      · cases h
    · split at h
      · exact chF_sq hT (Nat.le_refl _) (by omega) n1 h
      · have : ∀ j, U ∈ catTs (fun z => if fillC T x y z then chF n k (Go.Proofs.Ytdjhnbofnmhpaaa.set2 T x y z) x (y + 1) else []) j → ∃ z : Nat, U ∈ chF n k (Go.Proofs.Ytdjhnbofnmhpaaa.set2 T x y z) x (y + 1) := by
          intro j
          induction j with
          | zero => intro h; cases h
          | succ j ih =>
            intro h
            change U ∈ catTs _ j ++ _ at h
            rcases List.mem_append.1 h with h | h
            · exact ih h
            · dsimp only at h
              split at h
              · exact ⟨j, h⟩
              · cases h
        obtain ⟨z, hz⟩ := this _ h
        exact chF_sq (hT.set2 z (by omega) (by omega)) (by omega) (by omega) n1 hz
theorem info_intss : (Try.prog.info? 36).map (fun i => (i.zero, i.size, i.bytes)) = some (some (.slice none 0 0), 1, 24) := by kernel_rfl
/-- a list of tables of the call's own -/
def tabAt (Ts : List (List (List Int))) (j : Nat) : List (List Int) := Ts.getD j []
def TabsAt (B : Nat) (w : World) (v : Value) (Ts : List (List (List Int))) : Prop :=
  ∃ vs : List Value, w.ownsRow B 36 1 v Ts.length vs ∧ ∀ j : Nat, j < Ts.length → ∃ u, vs[j]? = some u ∧ RowsAt B w u (tabAt Ts j)
theorem TabsAt.below {B : Nat} {w w' : World} {v : Value} {Ts : List (List (List Int))} (h : TabsAt B w v Ts) (hb : Below w.heap.size w w') : TabsAt B w' v Ts := by
  obtain ⟨vs, h1, h2⟩ := h
  exact ⟨vs, ownsRow_below h1 hb, fun j hj => by obtain ⟨u, hu, ho⟩ := h2 j hj; exact ⟨u, hu, ho.below hb⟩⟩
theorem RowsAt.kept {B B' : Nat} {w w' : World} {v u : Value} {T : List (List Int)} {n : Nat} {xs : List Value} (h : RowsAt B w v T) (hu : w.ownsRow B' 36 1 u n xs) (hg : w.grownBy w' u.ownBlock) : RowsAt B w' v T := by
  obtain ⟨vs, h1, h2⟩ := h
  exact ⟨vs, World.ownsRow.kept h1 hg (own_types h1 hu (by decide)), fun j hj => by obtain ⟨x, hx, ho⟩ := h2 j hj; exact ⟨x, hx, World.ownsRow.kept ho hg (own_types ho hu (by decide))⟩⟩
theorem tabAt_l {T U : List (List (List Int))} {j : Nat} (h : j < T.length) : tabAt (T ++ U) j = tabAt T j := by
  unfold tabAt; simp [List.getElem?_append_left h]
theorem tabAt_r {T U : List (List (List Int))} {j : Nat} (h : T.length ≤ j) : tabAt (T ++ U) j = tabAt U (j - T.length) := by
  unfold tabAt; simp [List.getElem?_append_right h]
theorem TabsAt.cat {B : Nat} {w w' : World} {v v' : Value} {T U : List (List (List Int))} {vs us : List Value} (h1 : w.ownsRow B 36 1 v T.length vs) (h2 : ∀ j : Nat, j < T.length → ∃ u, vs[j]? = some u ∧ RowsAt B w u (tabAt T j))
    (k2 : ∀ j : Nat, j < U.length → ∃ u, us[j]? = some u ∧ RowsAt B w u (tabAt U j)) (h3 : w'.ownsRow B 36 1 v' (T.length + U.length) (vs ++ us)) (hg : w.grownBy w' v.ownBlock) : TabsAt B w' v' (T ++ U) := by
  have hvl : vs.length = T.length := by have := h1.1; omega
  refine ⟨vs ++ us, by rw [List.length_append]; exact h3, fun j hj => ?_⟩
  rw [List.length_append] at hj
  by_cases e : j < T.length
  · obtain ⟨u', hu', ho⟩ := h2 j e
    exact ⟨u', by rw [List.getElem?_append_left (by omega)]; exact hu', by rw [tabAt_l e]; exact ho.kept h1 hg⟩
  · obtain ⟨u', hu', ho⟩ := k2 (j - T.length) (by omega)
    exact ⟨u', by rw [List.getElem?_append_right (by omega), hvl]; exact hu', by rw [tabAt_r (by omega)]; exact ho.kept h1 hg⟩
def RetTabs (B : Nat) (Ts : List (List (List Int))) (w : World) (e : Ending) (w' : World) : Prop := ∃ v, e = .returned v ∧ TabsAt B w' v Ts ∧ v ≠ .slice none 0 0 ∧ Below w.heap.size w w'
theorem tabs_one {B : Nat} {w : World} {v : Value} {T : List (List Int)} (h : RowsAt B w v T) (hB : B ≤ w.heap.size) : TabsAt B (w.alloc (.cells #[v] 36)) (.slice (some ⟨w.heap.size, 0, none⟩) 1 1) [T] :=
  ⟨[v], ⟨by simp, .inr ⟨w.heap.size, 1, #[v], rfl, hB, heap_alloc_new w _, Nat.le_refl _, by unfold maxLen; omega, by simp, by simp⟩⟩, fun j hj => by
    have e : j = 0 := by simp at hj; omega
    subst e
    exact ⟨v, rfl, h.below ((Below.refl _ _).alloc (Nat.le_refl _) _)⟩⟩
theorem tabs_none {B : Nat} (w : World) (hB : B ≤ w.heap.size) : TabsAt B (w.alloc (.cells #[] 36)) (.slice (some ⟨w.heap.size, 0, none⟩) 0 0) [] :=
  ⟨[], ⟨by simp, .inr ⟨w.heap.size, 0, #[], rfl, hB, heap_alloc_new w _, Nat.le_refl _, by unfold maxLen; omega, by simp, by simp⟩⟩, fun j hj => absurd hj (by simp)⟩
end Go.Proofs.Ytdjhnbofnmhpaaa

namespace Go.Proofs.Ytdjhnbofnmhpaaa
open Go.RowKit

set_option maxRecDepth 100000 in
set_option maxHeartbeats 4000000 in
/-- spec.fill where no place is left -/
theorem fill3_end (n : Nat) (n1 : 1 ≤ n) (n5 : n ≤ 5) (k : Nat) (b : Option Addr) (c : Nat) (T : List (List Int)) (x y : Nat) (w : World) (hT : Sq n T) (h : RdT w b T) (hx : x = n - 1) :
    Calls Try.prog 50 #[.int .i64 n, .slice b T.length c, .int .i64 x, .int .i64 y] w (RetTabs w.heap.size (chF n (k + 1) T x y) w) := by
  have hxe : ((x : Int) == (n : Int) - 1) = true := by rw [beq_iff_eq]; omega
  have hlen := chainTo_len (n : Int) n (by omega)
  have hcp := copyTable_any b c T
  have hrows := hT.rows n1 n5
  have hT5 : T.length ≤ 64 := by have := hT.1; omega
  obtain ⟨L, hL⟩ : ∃ L, L = chainTo (n : Int) n := ⟨_, rfl⟩
  have hch := chain_any (n : Int)
  have HC := Lib.hid (show ∀ w : World, Calls Try.prog 51 #[.int .i64 n] w (RetOwn w.heap.size L w) from fun w => by rw [hL]; exact chain_any n w (by omega) (by omega))
  have hF : chF n (k + 1) T x y = if algB L T then [T] else [] := by
    show (if x = n - 1 then (if algB (chainTo n n) T then [T] else []) else _) = _
    rw [if_pos hx, hL]
  have HF := Lib.hid hF
  rw [← hL] at hlen
  clear hL hF hcp hch
  go_enter Try.func50, Try.ntmps50
  go_wp2_with fail
  refine (HC.out w).mono ?_
  rintro e w1 ⟨v, rfl, ho1, hb1⟩
  obtain ⟨ua, uc, rfl, _⟩ := ho1.slice
  have z1 := hb1.size
  go_wp2_with fail
  refine (copyTable_any b c T w1 (h.below hb1) hT5 hrows).mono ?_
  rintro e w2 ⟨G, gc, rfl, hD, hb2⟩
  have ho2 := ho1.below hb2
  have z2 := hb2.size
  obtain ⟨w3, hw3⟩ : ∃ w3, w3 = w2.alloc (.cells #[.slice ua L.length uc, .slice (some ⟨G, 0, none⟩) T.length gc] 38) := ⟨_, rfl⟩
  obtain ⟨g, hg⟩ : ∃ g, g = w2.heap.size := ⟨_, rfl⟩
  have hb3 : Below w2.heap.size w2 w3 := by rw [hw3]; exact (Below.refl _ _).alloc (Nat.le_refl _) _
  have hx3 : w3.heap[g]? = some (.cells #[.slice ua L.length uc, .slice (some ⟨G, 0, none⟩) T.length gc] 38 (0, 0)) := by rw [hw3, hg]; exact heap_alloc_new w2 _
  have ho3 := ho2.below hb3
  have hD3 := hD.below hb3
  have bT : Below w.heap.size w w3 := (hb1.trans (hb2.mono z1)).trans (hb3.mono (by omega))
  have z3 := hb3.size
  have hrt : RdT w3 (some ⟨G, 0, none⟩) T := by
    obtain ⟨_, _, e', r⟩ := hD3.at.rd
    injection e' with e1 _ _
    rw [e1]; exact r
  have W3 := Lib.hid hw3
  have HG := Lib.hid hg
  clear hw3 hg
  cases hA : algB L T with
  | false =>
    go_wp2_with (first
      | (refine wpList_store_row rfl 38 _ _ rfl w2.heap.size #[.slice ua L.length uc, .slice (some ⟨G, 0, none⟩) T.length gc] rfl rfl _ _ (heap_alloc_new w2 (.cells #[.slice none 0 0, .slice none 0 0] 38)) (size_Alg _ _) rfl (one_sl2 _ _ _ _ _ _) ?_; rw [World.setRow_alloc_new, ← W3.out, ← HG.out])
      | (refine wpList_load_row_w rfl 38 _ rfl g rfl _ _ _ _ hx3 Try.underlying38 rfl (size_Alg _ _) ?_)
      | (go_at_call 87; refine (ret_below (validAlgebra_any _ _ _ _ L T _ ho3.rd hrt) hA).mono ?_; rintro e w4 ⟨rfl, h4⟩))
    go_ret
    rw [HF.out, hA]
    have bT4 := bT.trans (h4.mono (by omega))
    exact ⟨_, rfl, tabs_none _ bT4.size, by simp, bT4.alloc bT4.size _⟩
  | true =>
    go_wp2_with (first
      | (refine wpList_store_row rfl 38 _ _ rfl w2.heap.size #[.slice ua L.length uc, .slice (some ⟨G, 0, none⟩) T.length gc] rfl rfl _ _ (heap_alloc_new w2 (.cells #[.slice none 0 0, .slice none 0 0] 38)) (size_Alg _ _) rfl (one_sl2 _ _ _ _ _ _) ?_; rw [World.setRow_alloc_new, ← W3.out, ← HG.out])
      | (refine wpList_load_row_w rfl 38 _ rfl g rfl _ _ _ _ hx3 Try.underlying38 rfl (size_Alg _ _) ?_)
      | (go_at_call 87; refine (ret_below (validAlgebra_any _ _ _ _ L T _ ho3.rd hrt) hA).mono ?_; rintro e w4 ⟨rfl, h4⟩; obtain ⟨c4, c5⟩ := bx_cells ((h4.block g (lt_of_block hx3)).trans hx3)))
    go_ret
    rw [HF.out, hA]
    have bT4 := bT.trans (h4.mono (by omega))
    have s4 := h4.size
    refine ⟨_, rfl, tabs_one (RowsAt.from (hD3.below h4).at z1) bT4.size, by simp, bT4.alloc bT4.size _⟩
end Go.Proofs.Ytdjhnbofnmhpaaa

namespace Go.Proofs.Ytdjhnbofnmhpaaa
open Go.RowKit

theorem tabs_shape {w : World} {B : Nat} {v : Value} {n : Nat} {us : List Value} (h : w.ownsRow B 36 1 v n us) (hv : v ≠ .slice none 0 0) : ∃ g c, v = .slice (some ⟨g, 0, none⟩) n c ∧ B ≤ g ∧ ∀ j u, us[j]? = some u → w.cell? ((⟨g, 0, none⟩ : Addr).add j) = some u := by
  rcases h.2 with ⟨rfl, _⟩ | ⟨g, cap, cur, rfl, hb, _⟩
  · exact absurd rfl hv
  · exact ⟨g, cap, rfl, hb, h.cells rfl⟩
theorem tabs_cells {B : Nat} {w : World} {us : List Value} {U : List (List (List Int))} (h : ∀ j : Nat, j < U.length → ∃ u, us[j]? = some u ∧ RowsAt B w u (tabAt U j)) (hl : us.length = U.length * 1) : ∀ u ∈ us, u.oneCell' = true := fun u hu => by
  obtain ⟨i, hi, rfl⟩ := List.getElem_of_mem hu
  obtain ⟨u', hu', ho⟩ := h i (by omega)
  rw [List.getElem?_eq_getElem hi] at hu'
  injection hu' with hu'
  obtain ⟨a, c, e, _⟩ := ho.rd
  rw [hu', e]; rfl
theorem sq_cell {n : Nat} {T : List (List Int)} {w : World} {b : Option Addr} (hT : Sq n T) (h : RdT w b T) (n1 : 1 ≤ n) : ∃ B o, b = some ⟨B, o, none⟩ ∧ ∀ x y : Int, 0 ≤ x → x < n → 0 ≤ y → y < n → ∃ ra ro rc, w.cell? ⟨B, o + x.toNat, none⟩ = some (.slice (some ⟨ra, ro, none⟩) (rowAt T x).length rc) ∧ w.cell? ⟨ra, ro + y.toNat, none⟩ = some (.int .i64 (tv T x y)) ∧ (rowAt T x).length = n := by
  have hl := hT.1
  obtain ⟨B, o, rfl, q⟩ := h (by intro e; rw [e] at hl; simp at hl; omega)
  refine ⟨B, o, rfl, fun x y x0 x1 y0 y1 => ?_⟩
  obtain ⟨ra, rc, d, r⟩ := RdT.row q x0 (by omega)
  have hr := hT.2 x.toNat (by omega)
  rw [Int.toNat_of_nonneg x0] at hr
  obtain ⟨rb, ro, rfl, hc⟩ := r (by intro e; rw [e] at hr; simp at hr; omega)
  exact ⟨rb, ro, rc, d, hc.at y y0 (by unfold num; omega), hr⟩
theorem catTs_succ (f : Nat → List (List (List Int))) (j : Nat) : catTs f (j + 1) = catTs f j ++ f j := rfl
set_option maxRecDepth 100000 in
set_option maxHeartbeats 4000000 in
/-- spec.fill -/
theorem fill3_any (n : Nat) (n1 : 1 ≤ n) (n5 : n ≤ 5) : ∀ (k : Nat) (b : Option Addr) (c : Nat) (T : List (List Int)) (x y : Nat) (w : World), Sq n T → RdT w b T → 1 ≤ x → x ≤ y → y ≤ n - 1 → (n - 1 - x) * n + (n - 1 - y) < k →
    Calls Try.prog 50 #[.int .i64 n, .slice b T.length c, .int .i64 x, .int .i64 y] w (RetTabs w.heap.size (chF n k T x y) w) := by
  intro k
  induction k with
  | zero => intro b c T x y w _ _ _ _ _ hk; omega
  | succ k ih =>
    intro b c T x y w hT h x1 hxy hy hk
    by_cases hx : x = n - 1
    · exact fill3_end n n1 n5 k b c T x y w hT h hx
    · have hxn : ((x : Int) == (n : Int) - 1) = false := by rw [beq_eq_false_iff_ne]; omega
      by_cases hyn : y = n - 1
      · have hye : ((y : Int) == (n : Int) - 1) = true := by rw [beq_iff_eq]; omega
        have hF : chF n (k + 1) T x y = chF n k T (x + 1) (x + 1) := by
          show (if x = n - 1 then _ else if y = n - 1 then _ else _) = _
          rw [if_neg hx, if_pos hyn]
        have hms : (n - 1 - (x + 1)) * n + (n - 1 - (x + 1)) < k := by
          obtain ⟨d, hd⟩ : ∃ d, n - 1 - x = d + 1 := ⟨n - 1 - x - 1, by omega⟩
          have e : n - 1 - (x + 1) = d := by omega
          rw [hd, Nat.succ_mul] at hk
          rw [e]
          omega
        have hC := ih b c T (x + 1) (x + 1) w hT h (by omega) (Nat.le_refl _) (by omega) hms
        rw [show ((x + 1 : Nat) : Int) = (x : Int) + 1 by omega] at hC
        have HC := Lib.hid hC
        have HF := Lib.hid hF
        clear hC hF ih hms
        go_enter Try.func50, Try.ntmps50
        go_wp2_with fail
        refine HC.out.mono ?_
        rintro e w1 ⟨v, rfl, hv, hn, hb⟩
        go_wp2
        go_ret
        rw [HF.out]
        exact ⟨v, rfl, hv, hn, hb⟩
      · have hyf : ((y : Int) == (n : Int) - 1) = false := by rw [beq_eq_false_iff_ne]; omega
        obtain ⟨F, hFd⟩ : ∃ F : Nat → List (List (List Int)), F = fun z => if fillC T x y z then chF n k (set2 T x y z) x (y + 1) else [] := ⟨_, rfl⟩
        have hF : chF n (k + 1) T x y = catTs F (x + 1) := by
          show (if x = n - 1 then _ else if y = n - 1 then _ else _) = _
          rw [if_neg hx, if_neg hyn, Nat.min_eq_left hxy, hFd]
        have hlen : ∀ j, j ≤ x + 1 → (catTs F j).length ≤ 1000000 := fun j hj => by
          have h1 := catTs_len (f := F) (B := 5 ^ plc n x (y + 1)) (fun i => by
            rw [hFd]
            dsimp only
            split
            · exact chF_len n5 k _ x (y + 1) (by omega) (by omega) n1
            · exact Nat.zero_le _) j
          have h2 : plc n x (y + 1) ≤ 7 := by
            unfold plc
            have : tri (n - 2 - x) ≤ 3 := by
              have : n - 2 - x = 0 ∨ n - 2 - x = 1 ∨ n - 2 - x = 2 := by omega
              rcases this with h | h | h <;> rw [h] <;> decide
            omega
          have h3 : 5 ^ plc n x (y + 1) ≤ 5 ^ 7 := Nat.pow_le_pow_right (by decide) h2
          have h4 : 5 ^ 7 = 78125 := by decide
          have h5 : j * 5 ^ plc n x (y + 1) ≤ 5 * 78125 := Nat.mul_le_mul (by omega) (by omega)
          omega
        have hfl : ∀ z : Nat, (chF n k (set2 T x y z) x (y + 1)).length ≤ 1000000 := fun z => by
          have h1 := chF_len n5 k (set2 T x y z) x (y + 1) (by omega) (by omega) n1
          have h2 : plc n x (y + 1) ≤ 7 := by
            unfold plc
            have : tri (n - 2 - x) ≤ 3 := by
              have : n - 2 - x = 0 ∨ n - 2 - x = 1 ∨ n - 2 - x = 2 := by omega
              rcases this with h | h | h <;> rw [h] <;> decide
            omega
          have h3 : 5 ^ plc n x (y + 1) ≤ 5 ^ 7 := Nat.pow_le_pow_right (by decide) h2
          have h4 : 5 ^ 7 = 78125 := by decide
          omega
        obtain ⟨i2, hi2, hv0, hv1, hv2⟩ := info_parts info_intss
        have IH := Lib.hid ih
        have HF := Lib.hid hF
        have HFD := Lib.hid hFd
        have HL := Lib.hid hlen
        have HFL := Lib.hid hfl
        have HT := Lib.hid hT
        have HR := Lib.hid h
        have hrows := hT.rows n1 n5
        have HRW := Lib.hid hrows
        have hT1 := hT.1
        have hT64 : T.length ≤ 64 := by omega
        have hxT : x < T.length := by omega
        have hyT : y < T.length := by omega
        have hxR : x < (rowAt T y).length := by have := hT.2 y (by omega); omega
        have hyR : y < (rowAt T x).length := by have := hT.2 x (by omega); omega
        have HRX := Lib.hid hyR
        have HRY := Lib.hid hxR
        have hxyI : (x : Int) ≤ y := by omega
        have hmin : min (x : Int) (y : Int) = x := by omega
        have HT1 := Lib.hid hT1
        clear ih hF hFd hlen hfl hrows hT h hxR hyR hT1
        go_enter Try.func50, Try.ntmps50
        go_wp2
        go_loopw [10, 11, 12] (fun ov zv _ wr => ∃ z : Nat, z ≤ x + 1 ∧ zv = .int .i64 (z : Int) ∧ TabsAt w.heap.size wr ov (catTs F z) ∧ ov ≠ .slice none 0 0 ∧ Below w.heap.size w wr) (fun _ zv _ _ => (10 - intOf zv).toNat)
        case atStart => exact ⟨0, by omega, rfl, tabs_none _ (Nat.le_refl _), by simp, (Below.refl _ _).alloc (Nat.le_refl _) _⟩
        case round =>
          obtain ⟨z, hz, rfl, htab, hnn, hb⟩ := hrel
          by_cases hzx : z ≤ x
          · have hzI : (z : Int) ≤ x := by omega
            obtain ⟨B, o, rfl, hcell⟩ := sq_cell HT.out (HR.out.below hb) n1
            obtain ⟨ra, ro, rc, c1, c2, l1⟩ := hcell ((x : Int) - 1) y (by omega) (by omega) (by omega) (by omega)
            obtain ⟨sa, so, sc, c3, c4, l2⟩ := hcell x ((y : Int) - 1) (by omega) (by omega) (by omega) (by omega)
            rw [l1, show ((x : Int) - 1).toNat = x - 1 by omega] at c1
            rw [Int.toNat_natCast] at c2 c3
            rw [l2] at c3
            rw [show ((y : Int) - 1).toNat = y - 1 by omega] at c4
            obtain ⟨p, hp⟩ : ∃ p, p = tv T ((x : Int) - 1) y := ⟨_, rfl⟩
            obtain ⟨q, hq⟩ : ∃ q, q = tv T x ((y : Int) - 1) := ⟨_, rfl⟩
            have hfc : fillC T x y z = (decide (p ≤ (z : Int)) && decide (q ≤ (z : Int))) := by rw [hp, hq]; rfl
            have hcs : catTs F (z + 1) = catTs F z ++ (if fillC T x y z then chF n k (set2 T x y z) x (y + 1) else []) := by rw [catTs_succ, HFD.out]
            rw [← hp] at c2
            rw [← hq] at c4
            have FC := Lib.hid hfc
            have CS := Lib.hid hcs
            clear hp hq hfc hcs hcell l1 l2
            by_cases hzp : p ≤ (z : Int)
            · by_cases hzq : q ≤ (z : Int)
              · have hS := CS.out
                rw [FC.out, decide_eq_true hzp, decide_eq_true hzq, Bool.and_true, if_pos rfl] at hS
                obtain ⟨P, hP⟩ : ∃ P, P = catTs F z := ⟨_, rfl⟩
                obtain ⟨U, hU⟩ : ∃ U, U = chF n k (set2 T x y z) x (y + 1) := ⟨_, rfl⟩
                have B1 := HL.out z (by omega)
                have B2 := HFL.out z
                rw [← hP, ← hU] at hS
                rw [← hP] at B1 htab
                rw [← hU] at B2
                have HS := Lib.hid hS
                have HU := Lib.hid hU
                clear hS hU hP CS FC
                obtain ⟨vs, r1, r2⟩ := htab
                have R2 := Lib.hid r2
                clear r2
                have zs := hb.size
                have CP := Lib.hid (show Calls Try.prog 86 #[.slice (some ⟨B, o, none⟩) T.length c] wr (RetTD T wr) from copyTable_any (some ⟨B, o, none⟩) c T wr (HR.out.below hb) (by omega) HRW.out)
                have HI := Lib.hid (show ∀ (G gc : Nat) (V : List (List Int)) (w' : World), Sq n V → RdT w' (some ⟨G, 0, none⟩) V → Calls Try.prog 50 #[.int .i64 n, .slice (some ⟨G, 0, none⟩) T.length gc, .int .i64 x, .int .i64 ((y : Int) + 1)] w' (RetTabs w'.heap.size (chF n k V x (y + 1)) w') from fun G gc V w' hV hRV => by
                  have := IH.out (some ⟨G, 0, none⟩) gc V x (y + 1) w' hV hRV x1 (by omega) (by omega) (by omega)
                  rw [hV.1.trans HT1.out.symm, show ((y + 1 : Nat) : Int) = (y : Int) + 1 by omega] at this
                  exact this)
                have HSQ := Lib.hid (HT.out.set2 (x := x) (y := y) (z : Int) (by omega) (by omega))
                go_wp2_with (first
                  | go_skip
                  | (rw [← W3.out]; clear W3)
                  | (rw [← W4.out]; clear W4)
                  | (go_at_call 86; refine CP.out.mono ?_; rintro e w2 ⟨G, gc, rfl, hD, hb2⟩; obtain ⟨ra1, rc1, k1, k2, k3, k4, hD1⟩ := hD.set (x := x) (y := y) hxT HRX.out; have hD3 := hD1 z; clear hD1; obtain ⟨w3, hw3⟩ : ∃ w3 : World, w3 = w2.setCell ⟨ra1, y, none⟩ (.int .i64 z) := ⟨_, rfl⟩; rw [← hw3] at hD3; have hb3 : Below wr.heap.size wr w3 := (by rw [hw3]; exact hb2.setCell k2 _); have W3 := Lib.hid hw3; clear hw3; obtain ⟨ra2, rc2, m1, m2, m3, m4, hD4⟩ := hD3.set (x := y) (y := x) (by rw [setT_len]; exact hyT) (by rw [setT_rlen _ _ hxT]; exact HRY.out); have hD5 := hD4 z; clear hD4; obtain ⟨w4, hw4⟩ : ∃ w4 : World, w4 = w3.setCell ⟨ra2, x, none⟩ (.int .i64 z) := ⟨_, rfl⟩; rw [← hw4] at hD5; have hb4 : Below wr.heap.size wr w4 := (by rw [hw4]; exact hb3.setCell m2 _); have W4 := Lib.hid hw4; clear hw4; rw [setT_rlen _ _ hxT, HT.out.2 y (by omega)] at m1; rw [HT.out.2 x (by omega)] at k1; have hrt : RdT w4 (some ⟨G, 0, none⟩) (set2 T x y z) := (by obtain ⟨_, _, e', r⟩ := hD5.at.rd; injection e' with e1 _ _; rw [e1]; exact r); have HRT := Lib.hid hrt; clear hrt hD5 hD3 hD)
                  | (go_at_call 50; refine (HI.out G gc _ w4 HSQ.out HRT.out).mono ?_; rintro e w5 ⟨u, rfl, hUs, hUn, hb5⟩; rw [← HU.out] at hUs; obtain ⟨us, s1, s2⟩ := hUs; have S2 := Lib.hid s2; clear s2; obtain ⟨ug, uc, rfl, ugl, ucells⟩ := tabs_shape s1 hUn; have r4 := ownsRow_below (ownsRow_below r1 hb4) hb5; have hb6 : Below w.heap.size w w5 := (hb.trans (hb4.mono zs)).trans (hb5.mono (Nat.le_trans zs hb4.size)))
                  | (at_builtin; refine wpList_append_own _ rfl _ _ 85 rfl w.heap.size 36 i2 (.slice none 0 0) 1 24 Try.underlying85 hi2 hv0 hv1 hv2 rfl (by decide) _ _ _ rfl r4 ⟨ug, 0, none⟩ U.length uc us rfl (by have := s1.1; omega) ucells (tabs_cells S2.out s1.1) (by unfold maxLen; omega) (by omega) (by have := hb6.size; omega) ?_; intro v6 w6 hown6 hgrow6 hnil6))
                go_roundw
                case rel =>
                  have hc := TabsAt.cat r4 (fun i hi => by obtain ⟨u, hu, ho⟩ := R2.out i hi; exact ⟨u, hu, (ho.below hb4).below hb5⟩) (fun i hi => by obtain ⟨u, hu, ho⟩ := S2.out i hi; exact ⟨u, hu, ho.from (Nat.le_trans zs hb4.size)⟩) hown6 hgrow6
                  refine ⟨z + 1, by omega, by simp, by rw [HS.out]; exact hc, fun e => hnn (hnil6.1 e).1, hb6.grown hgrow6 (by have := hb6.size; omega) (fun q hq => (World.ownsRow.lt r4 q hq).1)⟩
                case measure => simp [intOf]; omega
              · have hS := CS.out
                rw [FC.out, decide_eq_false hzq, Bool.and_false, if_neg (by decide), List.append_nil] at hS
                have HS := Lib.hid hS
                clear hS CS FC
                go_wp2_with (first | go_skip)
                go_roundw
                case rel => exact ⟨z + 1, by omega, by simp, by rw [HS.out]; exact htab, hnn, hb⟩
                case measure => simp [intOf]; omega
            · have hS := CS.out
              rw [FC.out, decide_eq_false hzp, Bool.false_and, if_neg (by decide), List.append_nil] at hS
              have HS := Lib.hid hS
              clear hS CS FC
              go_wp2_with (first | go_skip)
              go_roundw
              case rel => exact ⟨z + 1, by omega, by simp, by rw [HS.out]; exact htab, hnn, hb⟩
              case measure => simp [intOf]; omega
          · have e : z = x + 1 := by omega
            subst e
            go_wp2
            go_ret
            exact ⟨_, rfl, by rw [HF.out]; exact htab, hnn, hb⟩
end Go.Proofs.Ytdjhnbofnmhpaaa

namespace Go.Proofs.Ytdjhnbofnmhpaaa
open Go.RowKit

/-! spec.chains: the table from which the places are filled -/
def rowC (n : Nat) (x : Nat) : List Int := (List.replicate n 0).set (n - 1) (x : Int)
def idC (n x : Nat) : Nat → List Int
  | 0 => rowC n x
  | k + 1 => (idC n x k).set k (k : Int)
def topRow (n x : Nat) : List Int := if x = n - 1 then idC n x n else rowC n x
def topC (n k : Nat) : List (List Int) := (List.range k).map (topRow n)
theorem rowC_len (n x : Nat) : (rowC n x).length = n := by simp [rowC]
theorem idC_len (n x : Nat) : ∀ k, (idC n x k).length = n
  | 0 => rowC_len n x
  | k + 1 => by show ((idC n x k).set k (k : Int)).length = n; rw [List.length_set]; exact idC_len n x k
theorem topRow_len (n x : Nat) : (topRow n x).length = n := by
  unfold topRow
  split
  · exact idC_len n x n
  · exact rowC_len n x
theorem topC_len (n k : Nat) : (topC n k).length = k := by simp [topC]
theorem topC_succ (n k : Nat) : topC n (k + 1) = topC n k ++ [topRow n k] := by
  unfold topC
  rw [List.range_succ, List.map_append]
  rfl
theorem topC_sq (n : Nat) : Sq n (topC n n) := ⟨topC_len n n, fun j hj => by
  have : rowAt (topC n n) (j : Int) = topRow n j := by
    unfold rowAt topC
    simp [hj]
  rw [this]; exact topRow_len n j⟩

theorem info_Alg : (Try.prog.info? 38).map (fun i => (i.zero, i.size, i.bytes)) = some (some (.agg #[.slice none 0 0, .slice none 0 0]), 2, 48) := by kernel_rfl
/-- algebras of one lattice, laid in a slice of the call's own -/
def AlgsAt (B C : Nat) (w : World) (v : Value) (L : List Int) (Ts : List (List (List Int))) : Prop :=
  ∃ cs : List Value, w.ownsRow B 38 2 v Ts.length cs ∧ ∀ j : Nat, j < Ts.length → ∃ u1 u2, cs[2 * j]? = some u1 ∧ cs[2 * j + 1]? = some u2 ∧ Own C w u1 L ∧ RowsAt C w u2 (tabAt Ts j)
theorem RowsAt.keptA {B B' s n : Nat} {e : TypeId} {w w' : World} {v u : Value} {T : List (List Int)} {xs : List Value} (h : RowsAt B w v T) (hu : w.ownsRow B' e s u n xs) (e1 : 35 ≠ e) (e2 : 3 ≠ e) (hg : w.grownBy w' u.ownBlock) : RowsAt B w' v T := by
  obtain ⟨vs, h1, h2⟩ := h
  exact ⟨vs, World.ownsRow.kept h1 hg (own_types h1 hu e1), fun j hj => by obtain ⟨x, hx, ho⟩ := h2 j hj; exact ⟨x, hx, World.ownsRow.kept ho hg (own_types ho hu e2)⟩⟩
theorem AlgsAt.push {B C : Nat} {w w' : World} {v v' u1 u2 : Value} {L : List Int} {Ts : List (List (List Int))} {T : List (List Int)} {cs : List Value} (h1 : w.ownsRow B 38 2 v Ts.length cs)
    (h2 : ∀ j : Nat, j < Ts.length → ∃ u1 u2, cs[2 * j]? = some u1 ∧ cs[2 * j + 1]? = some u2 ∧ Own C w u1 L ∧ RowsAt C w u2 (tabAt Ts j)) (k1 : Own C w u1 L) (k2 : RowsAt C w u2 T)
    (h3 : w'.ownsRow B 38 2 v' (Ts.length + 1) (cs ++ [u1, u2])) (hg : w.grownBy w' v.ownBlock) : AlgsAt B C w' v' L (Ts ++ [T]) := by
  have hvl : cs.length = Ts.length * 2 := h1.1
  refine ⟨cs ++ [u1, u2], by rw [List.length_append, List.length_singleton]; exact h3, fun j hj => ?_⟩
  rw [List.length_append, List.length_singleton] at hj
  by_cases e : j < Ts.length
  · obtain ⟨a, b, ha, hb, ho, hr⟩ := h2 j e
    refine ⟨a, b, by rw [List.getElem?_append_left (by omega)]; exact ha, by rw [List.getElem?_append_left (by omega)]; exact hb, World.ownsRow.kept ho hg (own_types ho h1 (by decide)), ?_⟩
    rw [tabAt_l e]
    exact hr.keptA h1 (by decide) (by decide) hg
  · have e2 : j = Ts.length := by omega
    subst e2
    refine ⟨u1, u2, by rw [List.getElem?_append_right (by omega), hvl, show 2 * Ts.length - Ts.length * 2 = 0 by omega]; rfl, by rw [List.getElem?_append_right (by omega), hvl, show 2 * Ts.length + 1 - Ts.length * 2 = 1 by omega]; rfl, World.ownsRow.kept k1 hg (own_types k1 h1 (by decide)), ?_⟩
    rw [tabAt_r (Nat.le_refl _), Nat.sub_self]
    exact k2.keptA h1 (by decide) (by decide) hg
theorem AlgsAt.below {B C : Nat} {w w' : World} {v : Value} {L : List Int} {Ts : List (List (List Int))} (h : AlgsAt B C w v L Ts) (hb : Below w.heap.size w w') : AlgsAt B C w' v L Ts := by
  obtain ⟨cs, h1, h2⟩ := h
  exact ⟨cs, ownsRow_below h1 hb, fun j hj => by obtain ⟨a, b, ha, hb', ho, hr⟩ := h2 j hj; exact ⟨a, b, ha, hb', ho.below hb, hr.below hb⟩⟩
theorem algs_none {B C : Nat} (w : World) (L : List Int) (hB : B ≤ w.heap.size) : AlgsAt B C (w.alloc (.cells #[] 38)) (.slice (some ⟨w.heap.size, 0, none⟩) 0 0) L [] :=
  ⟨[], ⟨by simp, .inr ⟨w.heap.size, 0, #[], rfl, hB, heap_alloc_new w _, Nat.le_refl _, by unfold maxLen; omega, by simp, by simp⟩⟩, fun j hj => absurd hj (by simp)⟩
theorem take_tab (Ts : List (List (List Int))) {i : Nat} (h : i < Ts.length) : Ts.take (i + 1) = Ts.take i ++ [tabAt Ts i] := by
  rw [List.take_add_one]
  congr 1
  unfold tabAt
  rw [List.getElem?_eq_getElem h, List.getD_eq_getElem?_getD, List.getElem?_eq_getElem h]
  rfl
/-- the tables that spec.chains lists -/
def chT (n : Nat) : List (List (List Int)) := if n ≤ 2 then [topC n n] else chF n 30 (topC n n) 1 1
theorem chT_len {n : Nat} (n1 : 1 ≤ n) (n5 : n ≤ 5) : (chT n).length ≤ 1000000 := by
  unfold chT
  split
  · simp
  · rename_i hn
    have h1 := chF_len n5 30 (topC n n) 1 1 (Nat.le_refl _) (by omega) (by omega)
    have h2 : plc n 1 1 ≤ 6 := by
      have : n = 3 ∨ n = 3 ∨ n = 4 ∨ n = 5 := by omega
      rcases this with h | h | h | h <;> rw [h] <;> decide
    have h3 : 5 ^ plc n 1 1 ≤ 5 ^ 6 := Nat.pow_le_pow_right (by decide) h2
    have h4 : 5 ^ 6 = 15625 := by decide
    omega
theorem ch_meas {n : Nat} (n5 : n ≤ 5) : (n - 1 - 1) * n + (n - 1 - 1) < 30 := by
  have : n = 0 ∨ n = 1 ∨ n = 2 ∨ n = 3 ∨ n = 4 ∨ n = 5 := by omega
  rcases this with h | h | h | h | h | h <;> rw [h] <;> decide

theorem tabAt_mem {U : List (List (List Int))} {j : Nat} (h : j < U.length) : tabAt U j ∈ U := by
  unfold tabAt
  rw [List.getD_eq_getElem?_getD, List.getElem?_eq_getElem h]
  exact List.getElem_mem h
theorem algs_shape {w : World} {B : Nat} {v : Value} {n : Nat} {us : List Value} (h : w.ownsRow B 38 2 v n us) (hv : v ≠ .slice none 0 0) : ∃ g c, v = .slice (some ⟨g, 0, none⟩) n c ∧ B ≤ g ∧ ∀ j u, us[j]? = some u → w.cell? ⟨g, j, none⟩ = some u := by
  rcases h.2 with ⟨rfl, _⟩ | ⟨g, cap, cur, rfl, hb, _⟩
  · exact absurd rfl hv
  · refine ⟨g, cap, rfl, hb, fun j u hu => ?_⟩
    have := h.cells rfl j u hu
    rwa [Addr.add_mid, Nat.zero_add] at this
theorem AlgsAt.from {B B' C C' : Nat} {w : World} {v : Value} {L : List Int} {Ts : List (List (List Int))} (h : AlgsAt B C w v L Ts) (hB : B' ≤ B) (hC : C' ≤ C) : AlgsAt B' C' w v L Ts := by
  obtain ⟨cs, h1, h2⟩ := h
  refine ⟨cs, ?_, fun j hj => by obtain ⟨a, b, ha, hb', ho, hr⟩ := h2 j hj; exact ⟨a, b, ha, hb', ho.from hC, hr.from hC⟩⟩
  refine ⟨h1.1, ?_⟩
  rcases h1.2 with h | ⟨g, cap, cur, e1, e2, e3⟩
  · exact .inl h
  · exact .inr ⟨g, cap, cur, e1, Nat.le_trans hB e2, e3⟩
theorem AlgsAt.drawn {B B' C : Nat} {w w' : World} {v : Value} {L : List Int} {Ts : List (List (List Int))} {g : Nat} {m : Int} (h : AlgsAt B B' w v L Ts) (hr : Rdr w C g m) (hg : w.grownBy w' (some g)) : AlgsAt B B' w' v L Ts := by
  obtain ⟨c, hc⟩ := hr.type
  obtain ⟨cs, h1, h2⟩ := h
  refine ⟨cs, World.ownsRow.kept h1 hg ?_, fun j hj => by obtain ⟨a, b, ha, hb', ho, hr'⟩ := h2 j hj; exact ⟨a, b, ha, hb', ho.drawn hr hg, hr'.drawn hr hg⟩⟩
  rcases h1.2 with ⟨rfl, _⟩ | ⟨b, cap, cur, rfl, _, hb, _⟩
  · exact .inl rfl
  · right
    simp only [Value.ownBlock, ne_eq, Option.some.injEq]
    intro e
    rw [e, hc] at hb
    injection hb with hb
    injection hb with _ hb
    exact absurd hb (by decide)
theorem AlgsAt.at {B C : Nat} {w : World} {G n cap : Nat} {L : List Int} {Ts : List (List (List Int))} (h : AlgsAt B C w (.slice (some ⟨G, 0, none⟩) n cap) L Ts) {k : Int} (k0 : 0 ≤ k) (k1 : k < Ts.length) :
    ∃ a ca b cb, w.rangeAt G (k.toNat * 2) [.slice a L.length ca, .slice b (tabAt Ts k.toNat).length cb] ∧ Own C w (.slice a L.length ca) L ∧ RowsAt C w (.slice b (tabAt Ts k.toNat).length cb) (tabAt Ts k.toNat) := by
  obtain ⟨cs, h1, h2⟩ := h
  obtain ⟨u1, u2, e1, e2, ho, hr⟩ := h2 k.toNat (by omega)
  obtain ⟨a, ca, rfl, _⟩ := ho.slice
  obtain ⟨b, cb, rfl, _⟩ := hr.rd
  obtain ⟨g', c', e, _, hcell⟩ := algs_shape h1 (by simp)
  injection e with e
  injection e with e
  injection e with e
  subst e
  refine ⟨a, ca, b, cb, fun j v hv => ?_, ho, hr⟩
  rcases j with _ | _ | j
  · simp only [List.getElem?_cons_zero, Option.some.injEq] at hv
    subst hv
    rw [Nat.add_zero, Nat.mul_comm]
    exact hcell _ _ e1
  · simp only [List.getElem?_cons_succ, List.getElem?_cons_zero, Option.some.injEq] at hv
    subst hv
    rw [Nat.mul_comm]
    exact hcell _ _ e2
  · simp at hv
/-- algebras of one lattice are handed back -/
def RetAlgs (L : List Int) (Ts : List (List (List Int))) (w : World) (e : Ending) (w' : World) : Prop := ∃ G c, e = .returned (.slice (some ⟨G, 0, none⟩) Ts.length c) ∧ AlgsAt w.heap.size w.heap.size w' (.slice (some ⟨G, 0, none⟩) Ts.length c) L Ts ∧ Below w.heap.size w w'
theorem retAlgs_end {w w2 wr : World} {L : List Int} {Ts : List (List (List Int))} {v : Value} (h : AlgsAt w2.heap.size w.heap.size wr v L Ts) (hv : v ≠ .slice none 0 0) (hs : w.heap.size ≤ w2.heap.size) (h2 : Below w.heap.size w w2) (h3 : Below w2.heap.size w2 wr) : RetAlgs L Ts w (.returned v) wr := by
  have h' := h
  obtain ⟨cs, h1, _⟩ := h'
  obtain ⟨g, c, rfl, _⟩ := algs_shape h1 hv
  exact ⟨g, c, rfl, h.from hs (Nat.le_refl _), h2.trans (h3.mono hs)⟩
theorem ch_meas2 {i : Nat} (h : i ≤ 1000000) : (2000000 - intOf (.int .i64 ((i : Int) + 1))).toNat < (2000000 - intOf (.int .i64 (i : Int))).toNat := by
  simp only [intOf]; omega
/-- the state of the last loop -/
def ChRel (w w2 : World) (L : List Int) (U : List (List (List Int))) (av iv : Value) (wr : World) : Prop := ∃ i : Nat, i ≤ U.length ∧ iv = .int .i64 (i : Int) ∧ AlgsAt w2.heap.size w.heap.size wr av L (U.take i) ∧ av ≠ .slice none 0 0 ∧ Below w2.heap.size w2 wr
theorem ChRel.mk' {w w2 : World} {L : List Int} {U Q : List (List (List Int))} {wr : World} {i g : Nat} {n c : Nat} {T : List (List Int)} (hi : i < U.length) (hq : U.take (i + 1) = Q ++ [T]) (h : AlgsAt w2.heap.size w.heap.size wr (.slice (some ⟨g, 0, none⟩) n c) L (Q ++ [T])) (hb : Below w2.heap.size w2 wr) {x : Int} (hx : x = (i : Int) + 1) : ChRel w w2 L U (.slice (some ⟨g, 0, none⟩) n c) (.int .i64 x) wr :=
  ⟨i + 1, hi, by rw [hx]; rfl, by rw [hq]; exact h, by simp, hb⟩
set_option maxRecDepth 100000 in
set_option maxHeartbeats 4000000 in
/-- spec.chains -/
theorem chains_any (n : Nat) (n1 : 1 ≤ n) (n5 : n ≤ 5) (w : World) :
    Calls Try.prog 26 #[.int .i64 n] w (RetAlgs (chainTo n n) (chT n) w) := by
  obtain ⟨i0, hi, hz0, hz1, hz2⟩ := info_parts info_int
  obtain ⟨i1, hi1, hy0, hy1, hy2⟩ := info_parts info_ints
  have hmk := run_make_ints n (by omega)
  go_enter Try.func26, Try.ntmps26
  go_wp2
  go_loopw [3, 4, 5, 6] (fun ov xv _ _ wr => ∃ x : Nat, x ≤ n ∧ xv = .int .i64 (x : Int) ∧ RowsAt w.heap.size wr ov (topC n x) ∧ ov ≠ .slice none 0 0 ∧ Below w.heap.size w wr) (fun _ xv _ _ _ => (10 - intOf xv).toNat)
  case atStart => exact ⟨0, by omega, rfl, rows_none _ (Nat.le_refl _), by simp, (Below.refl _ _).alloc (Nat.le_refl _) _⟩
  case round =>
    obtain ⟨x, hx, rfl, hrows, hnn, hb⟩ := hrel
    by_cases hxn : x < n
    · have hxI : (x : Int) < n := by omega
      have hI0 : (0 : Int) ≤ (n : Int) - 1 := by omega
      have hI1 : (n : Int) - 1 < n := by omega
      have hTS := Lib.hid (topC_succ n x)
      have hTL := topC_len n x
      obtain ⟨P, hP⟩ : ∃ P, P = topC n x := ⟨_, rfl⟩
      rw [← hP] at hrows hTL hTS
      have hPl : P.length ≤ 64 := by omega
      clear hP
      have zs := hb.size
      obtain ⟨w5, hw5⟩ : ∃ w5 : World, w5 = wr.alloc (.cells (IL (List.replicate n 0)) 3) := ⟨_, rfl⟩
      obtain ⟨g, hg⟩ : ∃ g : Nat, g = wr.heap.size := ⟨_, rfl⟩
      have o5 : Own wr.heap.size w5 (.slice (some ⟨g, 0, none⟩) (List.replicate n (0 : Int)).length (List.replicate n (0 : Int)).length) (List.replicate n 0) := by rw [hw5, hg]; exact Own.row (L := List.replicate n 0) (heap_alloc_new wr _) (Nat.le_refl _) (by simp; unfold maxLen; omega)
      have b5 : Below wr.heap.size wr w5 := by rw [hw5]; exact (Below.refl _ _).alloc (Nat.le_refl _) _
      obtain ⟨w6, hw6⟩ : ∃ w6 : World, w6 = w5.setCell ⟨g, n - 1, none⟩ (.int .i64 x) := ⟨_, rfl⟩
      have c5 := o5.cellAt (x := (n : Int) - 1) hI0 (by simp; omega)
      rw [show ((n : Int) - 1).toNat = n - 1 by omega] at c5
      have f5 := o5.freeAt (n - 1)
      have o6 := (o5.stored (n - 1) x).1
      have b6 : Below wr.heap.size wr w6 := by rw [hw6]; exact b5.setCell (by show wr.heap.size ≤ g; omega) _
      rw [← hw6] at o6
      have o7 : Own wr.heap.size w6 (.slice (some ⟨g, 0, none⟩) n n) (rowC n x) := by
        have := o6
        rw [List.length_set, List.length_replicate] at this
        exact this
      have W5 := Lib.hid hw5
      have W6 := Lib.hid hw6
      have HG := Lib.hid hg
      clear hw5 hw6 o5 o6 b5 hg
      by_cases hxl : x = n - 1
      · have hxe : ((x : Int) == (n : Int) - 1) = true := by rw [beq_iff_eq]; omega
        have hR : topRow n x = idC n x n := by unfold topRow; rw [if_pos hxl]
        rw [hR] at hTS
        clear hR hxl
        obtain ⟨vs, r1, r2⟩ := hrows
        have R2 := Lib.hid r2
        clear r2
        go_wp2_with (first
          | (rw [← W6.out]; clear W6)
          | (rw [← W5.out, ← HG.out]; clear W5))
        obtain ⟨wo, rfl⟩ : ∃ wo : World, wo = wr := ⟨_, rfl⟩
        have gl : wo.heap.size ≤ g := by have := HG.out; omega
        go_loopw [6] (fun yv wr => ∃ y : Nat, y ≤ n ∧ yv = .int .i64 (y : Int) ∧ Own wo.heap.size wr (.slice (some ⟨g, 0, none⟩) n n) (idC n x y) ∧ Below wo.heap.size wo wr) (fun yv _ => (10 - intOf yv).toNat)
        case atStart => exact ⟨0, by omega, rfl, o7, b6⟩
        case round =>
          obtain ⟨y, hy, rfl, oy, by'⟩ := hrel
          have il := idC_len n x y
          have hIS := Lib.hid (show idC n x (y + 1) = (idC n x y).set y (y : Int) from rfl)
          have IE := Lib.hid (show y = n → idC n x y = idC n x n from fun e => by rw [e])
          obtain ⟨L, hL⟩ : ∃ L, L = idC n x y := ⟨_, rfl⟩
          rw [← hL] at oy il hIS IE
          clear hL
          by_cases hyn : y < n
          · have hyI : (y : Int) < n := by omega
            have oy' : Own wo.heap.size wr (.slice (some ⟨g, 0, none⟩) L.length n) L := by rw [il]; exact oy
            have c8 := oy'.cellAt (x := (y : Int)) (by omega) (by omega)
            rw [Int.toNat_natCast] at c8
            have f8 := oy'.freeAt y
            have o8 := (oy'.stored y y).1
            rw [List.length_set, il] at o8
            have b8 : Below wo.heap.size wo (wr.setCell ⟨g, y, none⟩ (.int .i64 y)) := by'.setCell gl _
            have O8 := Lib.hid o8
            have B8 := Lib.hid b8
            clear o8 b8 oy'
            go_wp2
            go_roundw
            case rel => exact ⟨y + 1, by omega, by simp, by rw [hIS.out]; exact O8.out, B8.out⟩
            case measure => simp [intOf]; omega
          · have e : y = n := by omega
            rw [IE.out e] at oy
            go_wp2_with (first
              | (at_builtin; refine wpList_append_own _ rfl _ _ 36 rfl w.heap.size 35 i1 (.slice none 0 0) 1 24 Try.underlying36 hi1 hy0 hy1 hy2 rfl (by decide) _ _ _ rfl (World.ownsRow.alloc (ownsRow_below r1 by') _) ⟨wr.heap.size, 0, none⟩ 1 1 [.slice (some ⟨g, 0, none⟩) n n] rfl rfl (cell_one_new _ _ _) (fun x hx => by simp at hx; subst hx; rfl) (by unfold maxLen; omega) (by omega) (by have := by'.size; simp; omega) ?_; intro v7 w7 hown7 hgrow7 hnil7))
            go_roundw
            case rel =>
              have hp := RowsAt.push (T := P) (r := idC n x n) (World.ownsRow.alloc (ownsRow_below r1 by') (.cells #[.slice (some ⟨g, 0, none⟩) n n] 35)) (fun j hj => by obtain ⟨u, hu, ho⟩ := R2.out j hj; exact ⟨u, hu, (ho.below by').alloc _⟩) (((show Own w.heap.size wr (.slice (some ⟨g, 0, none⟩) n n) (idC n x n) from oy.from zs)).alloc _) hown7 hgrow7
              refine ⟨x + 1, by omega, by simp, by rw [hTS.out]; exact hp, fun e => by have := (hnil7.1 e).1; exact hnn this, (hb.trans ((by'.alloc by'.size _).mono zs)).grown hgrow7 (by have := by'.size; simp; omega) (fun q hq => (World.ownsRow.lt r1 q hq).1)⟩
            case measure => simp [intOf]; omega
      · have hxe : ((x : Int) == (n : Int) - 1) = false := by rw [beq_eq_false_iff_ne]; omega
        have hR : topRow n x = rowC n x := by unfold topRow; rw [if_neg hxl]
        rw [hR] at hTS
        clear hR
        obtain ⟨vs, r1, r2⟩ := hrows
        have R2 := Lib.hid r2
        clear r2
        go_wp2_with (first
          | (rw [← W6.out]; clear W6)
          | (rw [← W5.out, ← HG.out]; clear W5)
          | (at_builtin; refine wpList_append_own _ rfl _ _ 36 rfl w.heap.size 35 i1 (.slice none 0 0) 1 24 Try.underlying36 hi1 hy0 hy1 hy2 rfl (by decide) _ _ _ rfl (World.ownsRow.alloc (ownsRow_below r1 b6) _) ⟨w6.heap.size, 0, none⟩ 1 1 [.slice (some ⟨g, 0, none⟩) n n] rfl rfl (cell_one_new _ _ _) (fun x hx => by simp at hx; subst hx; rfl) (by unfold maxLen; omega) (by omega) (by have := b6.size; simp; omega) ?_; intro v7 w7 hown7 hgrow7 hnil7))
        go_roundw
        case rel =>
          have hp := RowsAt.push (T := P) (r := rowC n x) (World.ownsRow.alloc (ownsRow_below r1 b6) (.cells #[.slice (some ⟨g, 0, none⟩) n n] 35)) (fun j hj => by obtain ⟨u, hu, ho⟩ := R2.out j hj; exact ⟨u, hu, (ho.below b6).alloc _⟩) (((show Own w.heap.size w6 (.slice (some ⟨g, 0, none⟩) n n) (rowC n x) from o7.from zs)).alloc _) hown7 hgrow7
          refine ⟨x + 1, by omega, by simp, by rw [hTS.out]; exact hp, fun e => by have := (hnil7.1 e).1; exact hnn this, (hb.trans ((b6.alloc b6.size _).mono zs)).grown hgrow7 (by have := b6.size; simp; omega) (fun q hq => (World.ownsRow.lt r1 q hq).1)⟩
        case measure => simp [intOf]; omega
    · have e : x = n := by omega
      subst e
      have HTB := Lib.hid hrows
      obtain ⟨ga, gc, rfl, hr⟩ := hrows.rd
      have HR := Lib.hid hr
      have HTL := Lib.hid (chT_len n1 n5)
      have zs := hb.size
      clear hr
      obtain ⟨P, hP⟩ : ∃ P, P = topC x x := ⟨_, rfl⟩
      rw [← hP] at HTB HR
      have HP := Lib.hid hP
      clear hP
      by_cases h2 : x ≤ 2
      · have hg2 : ¬ ((x : Int) > 2) := by omega
        have hT : chT x = [P] := by unfold chT; rw [if_pos h2, HP.out]
        obtain ⟨U, hUd⟩ : ∃ U, U = chT x := ⟨_, rfl⟩
        have hU1 : U = [P] := by rw [hUd, hT]
        have HUL := Lib.hid (show U.length = 1 by rw [hU1]; rfl)
        have ul : U.length ≤ 1000000 := by have := HUL.out; omega
        obtain ⟨ug, hug⟩ : ∃ ug : Nat, ug = wr.heap.size := ⟨_, rfl⟩
        obtain ⟨w2, hw2⟩ : ∃ w2 : World, w2 = wr.alloc (.cells #[.slice ga P.length gc] 36) := ⟨_, rfl⟩
        have b2 : Below w.heap.size w w2 := by rw [hw2]; exact hb.alloc zs _
        have UC := Lib.hid (show ∀ j u, [Value.slice ga P.length gc][j]? = some u → w2.cell? ((⟨ug, 0, none⟩ : Addr).add j) = some u from by rw [hw2, hug]; exact cell_one_new _ _ _)
        have S2' := Lib.hid (show ∀ j : Nat, j < U.length → ∃ u, [Value.slice ga P.length gc][j]? = some u ∧ RowsAt w.heap.size w2 u (tabAt U j) from fun j hj => by
          have e : j = 0 := by have := HUL.out; omega
          subst e
          refine ⟨_, rfl, ?_⟩
          rw [hU1, hw2]
          exact HTB.out.below ((Below.refl _ _).alloc (Nat.le_refl _) _))
        have HUD := Lib.hid hUd
        clear hUd hT hU1 h2
        rw [← HP.out]
        go_wp2_with (rw [← hw2, ← hug]; clear hw2 hug)
        have z2 := b2.size
        obtain ⟨L, hL⟩ : ∃ L, L = chainTo (x : Int) x := ⟨_, rfl⟩
        have hLl := chainTo_len (x : Int) x (by omega)
        rw [← hL] at hLl
        have HC := Lib.hid (show ∀ w : World, Calls Try.prog 51 #[.int .i64 x] w (RetOwn w.heap.size L w) from fun w => by rw [hL]; exact chain_any x w (by omega) (by omega))
        have HLD := Lib.hid hL
        clear hL
        obtain ⟨iA, hiA, hA0, hA1, hA2⟩ := info_parts info_Alg
        go_wp2
        go_loopw [8, 9] (fun av iv wr => ChRel w w2 L U av iv wr) (fun _ iv _ => (2000000 - intOf iv).toNat)
        case atStart => exact ⟨0, by omega, rfl, algs_none _ _ (Nat.le_refl _), by simp, (Below.refl _ _).alloc (Nat.le_refl _) _⟩
        case round =>
          obtain ⟨i, hi', rfl, halg, han, hbr⟩ := hrel
          by_cases hiu : i < U.length
          · have hiI : (i : Int) < 1 := by have := HUL.out; omega
            have htk := take_tab U hiu
            have htl : (U.take i).length = i := by rw [List.length_take]; omega
            obtain ⟨u, hu, hru⟩ := S2'.out i hiu
            have cu := UC.out i u hu
            obtain ⟨T, hT'⟩ : ∃ T, T = tabAt U i := ⟨_, rfl⟩
            rw [← hT'] at htk hru
            obtain ⟨Q, hQ⟩ : ∃ Q, Q = U.take i := ⟨_, rfl⟩
            rw [← hQ] at htk htl halg
            have HTK := Lib.hid htk
            clear htk hT' hQ hu
            obtain ⟨ta, tc, rfl, _⟩ := hru.rd
            have e0 : ((⟨ug, 0, none⟩ : Addr).add i) = ⟨ug, i, none⟩ := by rw [Addr.add_mid, Nat.zero_add]
            rw [e0] at cu
            clear e0
            have KU := Lib.hid (show ∀ wz, Below w2.heap.size w2 wz → wz.cell? ⟨ug, i, none⟩ = some (.slice ta T.length tc) from fun wz hz => (hz.cell (by exact block_lt_of_cell cu)).trans cu)
            have k1 := KU.out _ hbr
            clear cu
            obtain ⟨cs, r1, r2⟩ := halg
            have R2 := Lib.hid r2
            clear r2
            have zr := hbr.size
            have hQl : Q.length ≤ 1000000 := by omega
            have hQl2 : i ≤ 1000000 := by omega
            clear htl
            go_wp2
            go_region_law (first
              | (refine step_append_lies _ (by rfl) _ _ _ (by rfl) w2.heap.size 38 iA _ 2 48 Try.underlying22 hiA hA0 hA1 hA2 rfl (by omega) _ _ _ (by rfl) (World.ownsRow.alloc (ownsRow_below r1 hb3) _) ⟨w3.heap.size, 0, none⟩ 1 1 [.slice ca L.length cc, .slice ta T.length tc] (by rfl) (by rfl) (World.news_of_block (cs := #[.slice ca L.length cc, .slice ta T.length tc]) (t := 38) (fr := (0, 0)) (heap_alloc_new w3 _)) (by simp [Value.oneCell']) (by omega) (by unfold maxLen; omega) (by omega) (by simp; omega) (w3.heap.size + 1) (by simp) ?_; intro v5g v5c w5 hown5 hgrow5 hat5 hlt5)
              | (go_simp; go_at_call 51; refine (HC.out _).mono ?_; rintro e w3 ⟨cv, rfl, ho3, hb3'⟩; have hb3 : Below wr.heap.size wr w3 := ((Below.refl _ wr).drew).trans hb3'; have ho4 := ho3.from (Nat.le_trans (Nat.le_trans z2 zr) ((Below.refl wr.heap.size wr).drew).size); clear ho3; obtain ⟨ca, cc, rfl, _⟩ := ho4.slice; have z3 := hb3.size; have k3 := KU.out _ (hbr.trans (hb3.mono zr))))
            all_goals
              have hc := AlgsAt.push (C := w.heap.size) (L := L) (T := T) (World.ownsRow.alloc (ownsRow_below r1 hb3) (.cells #[.slice ca L.length cc, .slice ta T.length tc] 38)) (fun j hj => by obtain ⟨a, b, ha, hb', ho, hr⟩ := R2.out j hj; exact ⟨a, b, ha, hb', ho.below (hb3.alloc z3 _), hr.below (hb3.alloc z3 _)⟩) (ho4.alloc _) (RowsAt.below hru ((hbr.trans (hb3.mono zr)).alloc (by omega) _)) hown5 hgrow5
              have hbq : Below w2.heap.size w2 w5 := ((hbr.trans (hb3.mono zr)).alloc (by omega) _).grown hgrow5 (by simp; omega) (fun q hq => (World.ownsRow.lt r1 q hq).1)
              have HD := Lib.hid (fun x hx => ChRel.mk' (x := x) hiu HTK.out hc hbq hx)
              clear hc hbq hown5 hgrow5 hat5 hlt5 r1 ho4 hb3 hb3'
              go_wp2
              go_roundw
              case rel => exact HD.out _ rfl
              case measure => exact ch_meas2 hQl2
          · have e : U.take i = U := List.take_of_length_le (by omega)
            rw [e] at halg
            have hNI : ¬ (i : Int) < 1 := by have := HUL.out; omega
            have HE := Lib.hid (show RetAlgs (chainTo (x : Int) x) (chT x) w (.returned _) wr by rw [← HLD.out, ← HUD.out]; exact retAlgs_end halg han z2 b2 hbr)
            clear e halg
            go_wp2
            go_ret
            exact HE.out
      · have hg2 : (x : Int) > 2 := by omega
        have hT := Lib.hid (show chT x = chF x 30 P 1 1 by unfold chT; rw [if_neg h2, HP.out])
        have hF := Lib.hid (show ∀ w' : World, RdT w' ga P → Calls Try.prog 50 #[.int .i64 x, .slice ga P.length gc, .int .i64 1, .int .i64 1] w' (RetTabs w'.heap.size (chT x) w') from fun w' h => by
          rw [hT.out]
          exact fill3_any x (by omega) n5 30 ga gc P 1 1 w' (by rw [HP.out]; exact topC_sq x) h (Nat.le_refl _) (Nat.le_refl _) (by omega) (ch_meas n5))
        clear h2
        rw [← HP.out]
        go_wp2_with (first
          | (go_at_call 50; refine (hF.out _ (HR.out.below ((Below.refl _ _).alloc (Nat.le_refl _) _))).mono ?_; rintro e w2 ⟨u, rfl, hU, hUn, hb2⟩))
        rw [show (wr.alloc (.cells #[.slice ga P.length gc] 36)).heap.size = wr.heap.size + 1 by simp] at hU hb2
        have HU := Lib.hid hU
        obtain ⟨us, s1, s2⟩ := hU
        have S2 := Lib.hid s2
        clear s2
        obtain ⟨U, hUd⟩ : ∃ U, U = chT x := ⟨_, rfl⟩
        have ul := HTL.out
        rw [← hUd] at s1 ul
        have S2' := Lib.hid (show ∀ j : Nat, j < U.length → ∃ u, us[j]? = some u ∧ RowsAt w.heap.size w2 u (tabAt U j) from fun j hj => by rw [hUd] at hj ⊢; obtain ⟨u, hu, ho⟩ := S2.out j hj; exact ⟨u, hu, ho.from (by omega)⟩)
        have HUD := Lib.hid hUd
        clear hUd S2
        obtain ⟨ug, uc, rfl, ugl, ucells⟩ := tabs_shape s1 hUn
        have UC := Lib.hid ucells
        clear ucells
        have b2 : Below w.heap.size w w2 := (hb.alloc zs _).trans (hb2.mono (by omega))
        have z2 := b2.size
        obtain ⟨L, hL⟩ : ∃ L, L = chainTo (x : Int) x := ⟨_, rfl⟩
        have hLl := chainTo_len (x : Int) x (by omega)
        rw [← hL] at hLl
        have HC := Lib.hid (show ∀ w : World, Calls Try.prog 51 #[.int .i64 x] w (RetOwn w.heap.size L w) from fun w => by rw [hL]; exact chain_any x w (by omega) (by omega))
        have HLD := Lib.hid hL
        clear hL
        obtain ⟨iA, hiA, hA0, hA1, hA2⟩ := info_parts info_Alg
        go_wp2
        go_loopw [8, 9] (fun av iv wr => ChRel w w2 L U av iv wr) (fun _ iv _ => (2000000 - intOf iv).toNat)
        case atStart => exact ⟨0, by omega, rfl, algs_none _ _ (Nat.le_refl _), by simp, (Below.refl _ _).alloc (Nat.le_refl _) _⟩
        case round =>
          obtain ⟨i, hi', rfl, halg, han, hbr⟩ := hrel
          by_cases hiu : i < U.length
          · have hiI : (i : Int) < U.length := by omega
            have htk := take_tab U hiu
            have htl : (U.take i).length = i := by rw [List.length_take]; omega
            obtain ⟨u, hu, hru⟩ := S2'.out i hiu
            have cu := UC.out i u hu
            obtain ⟨T, hT'⟩ : ∃ T, T = tabAt U i := ⟨_, rfl⟩
            rw [← hT'] at htk hru
            obtain ⟨Q, hQ⟩ : ∃ Q, Q = U.take i := ⟨_, rfl⟩
            rw [← hQ] at htk htl halg
            have HTK := Lib.hid htk
            clear htk hT' hQ hu
            obtain ⟨ta, tc, rfl, _⟩ := hru.rd
            have e0 : ((⟨ug, 0, none⟩ : Addr).add i) = ⟨ug, i, none⟩ := by rw [Addr.add_mid, Nat.zero_add]
            rw [e0] at cu
            clear e0
            have KU := Lib.hid (show ∀ wz, Below w2.heap.size w2 wz → wz.cell? ⟨ug, i, none⟩ = some (.slice ta T.length tc) from fun wz hz => (hz.cell (by exact block_lt_of_cell cu)).trans cu)
            have k1 := KU.out _ hbr
            clear cu
            obtain ⟨cs, r1, r2⟩ := halg
            have R2 := Lib.hid r2
            clear r2
            have zr := hbr.size
            have hQl : Q.length ≤ 1000000 := by omega
            have hQl2 : i ≤ 1000000 := by omega
            clear htl
            go_wp2
            go_region_law (first
              | (refine step_append_lies _ (by rfl) _ _ _ (by rfl) w2.heap.size 38 iA _ 2 48 Try.underlying22 hiA hA0 hA1 hA2 rfl (by omega) _ _ _ (by rfl) (World.ownsRow.alloc (ownsRow_below r1 hb3) _) ⟨w3.heap.size, 0, none⟩ 1 1 [.slice ca L.length cc, .slice ta T.length tc] (by rfl) (by rfl) (World.news_of_block (cs := #[.slice ca L.length cc, .slice ta T.length tc]) (t := 38) (fr := (0, 0)) (heap_alloc_new w3 _)) (by simp [Value.oneCell']) (by omega) (by unfold maxLen; omega) (by omega) (by simp; omega) (w3.heap.size + 1) (by simp) ?_; intro v5g v5c w5 hown5 hgrow5 hat5 hlt5)
              | (go_simp; go_at_call 51; refine (HC.out _).mono ?_; rintro e w3 ⟨cv, rfl, ho3, hb3'⟩; have hb3 : Below wr.heap.size wr w3 := ((Below.refl _ wr).drew).trans hb3'; have ho4 := ho3.from (Nat.le_trans (Nat.le_trans z2 zr) ((Below.refl wr.heap.size wr).drew).size); clear ho3; obtain ⟨ca, cc, rfl, _⟩ := ho4.slice; have z3 := hb3.size; have k3 := KU.out _ (hbr.trans (hb3.mono zr))))
            all_goals
              have hc := AlgsAt.push (C := w.heap.size) (L := L) (T := T) (World.ownsRow.alloc (ownsRow_below r1 hb3) (.cells #[.slice ca L.length cc, .slice ta T.length tc] 38)) (fun j hj => by obtain ⟨a, b, ha, hb', ho, hr⟩ := R2.out j hj; exact ⟨a, b, ha, hb', ho.below (hb3.alloc z3 _), hr.below (hb3.alloc z3 _)⟩) (ho4.alloc _) (RowsAt.below hru ((hbr.trans (hb3.mono zr)).alloc (by omega) _)) hown5 hgrow5
              have hbq : Below w2.heap.size w2 w5 := ((hbr.trans (hb3.mono zr)).alloc (by omega) _).grown hgrow5 (by simp; omega) (fun q hq => (World.ownsRow.lt r1 q hq).1)
              have HD := Lib.hid (fun x hx => ChRel.mk' (x := x) hiu HTK.out hc hbq hx)
              clear hc hbq hown5 hgrow5 hat5 hlt5 r1 ho4 hb3 hb3'
              go_wp2
              go_roundw
              case rel => exact HD.out _ rfl
              case measure => exact ch_meas2 hQl2
          · have e : U.take i = U := List.take_of_length_le (by omega)
            rw [e] at halg
            have hNI : ¬ (i : Int) < U.length := by omega
            have HE := Lib.hid (show RetAlgs (chainTo (x : Int) x) (chT x) w (.returned _) wr by rw [← HLD.out, ← HUD.out]; exact retAlgs_end halg han z2 b2 hbr)
            clear e halg
            go_wp2
            go_ret
            exact HE.out
end Go.Proofs.Ytdjhnbofnmhpaaa
