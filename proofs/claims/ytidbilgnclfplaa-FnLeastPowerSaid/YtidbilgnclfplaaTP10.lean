import Derived.Test.YtidbilgnclfplaaTP9
import Derived.Test.YtidbilgnclfplaaG10
namespace Go.Proofs.Ytidbilgnclfplaa
open Go.RowKit

set_option linter.unusedVariables false
theorem fsI_all {α : Type} : ∀ {k : Nat} {f : Int → Option α}, fsI k f = none → ∀ i : Int, 0 ≤ i → i < k → f i = none
  | 0, _, _, i, h0, h1 => by omega
  | k + 1, f, h, i, h0, h1 => by
    have h' : (match fsI k f with | some a => some a | none => f k) = none := h
    cases e : fsI k f with
    | some b => rw [e] at h'; cases h'
    | none =>
      rw [e] at h'
      by_cases hi : i < k
      · exact fsI_all e i h0 hi
      · have e2 : i = k := by omega
        rw [e2]; exact h'
theorem fsI_first {α : Type} : ∀ {k : Nat} {f : Int → Option α} {a : α}, fsI k f = some a → ∃ i : Int, 0 ≤ i ∧ i < k ∧ f i = some a ∧ ∀ j : Int, 0 ≤ j → j < i → f j = none
  | 0, _, _, h => by cases h
  | k + 1, f, a, h => by
    have h' : (match fsI k f with | some a => some a | none => f k) = some a := h
    cases e : fsI k f with
    | some b =>
      rw [e] at h'
      injection h' with h'
      subst h'
      obtain ⟨i, i0, i1, h1, h2⟩ := fsI_first e
      exact ⟨i, i0, by omega, h1, h2⟩
    | none =>
      rw [e] at h'
      exact ⟨k, by omega, by omega, h', fun j j0 j1 => fsI_all e j j0 j1⟩
theorem pwT_el {L : List Int} {T : List (List Int)} (h : algB L T = true) {x : Int} (hx : El L x) (k : Nat) : El L (pwN L T x k) := pwN_lt (alg_lat h) (alg_shape h) hx.1 hx.2 k
theorem pwT_add {L : List Int} {T : List (List Int)} (h : algB L T = true) {x : Int} (hx : El L x) (i : Nat) : ∀ j : Nat, tv T (pwN L T x i) (pwN L T x j) = pwN L T x (i + j)
  | 0 => tv_top h (pwT_el h hx i)
  | j + 1 => by
    show tv T (pwN L T x i) (tv T (pwN L T x j) x) = tv T (pwN L T x (i + j)) x
    rw [← pwT_add h hx i j, tv_assoc h (pwT_el h hx i) (pwT_el h hx j) hx]
theorem pwT_down {L : List Int} {T : List (List Int)} (h : algB L T = true) {x : Int} (hx : El L x) (i : Nat) : ∀ j : Nat, bl L (pwN L T x (i + j)) (pwN L T x i) = true := fun j => by
  rw [← pwT_add h hx i j]; exact tv_le1 h (pwT_el h hx i) (pwT_el h hx j)
theorem pwT_still {L : List Int} {T : List (List Int)} (h : algB L T = true) {x : Int} (hx : El L x) : ∀ t : Nat, pwN L T x ((num L).toNat + t) = pwN L T x (num L).toNat := by
  have hl := alg_lat h
  obtain ⟨i, j, hij, hj, e⟩ := pigeons (num L).toNat (fun i => (pwN L T x i).toNat) (fun i _ => by
    have := pwT_el h hx i
    unfold El at this
    show (pwN L T x i).toNat < (num L).toNat
    omega)
  have ei := pwT_el h hx i
  have ej := pwT_el h hx j
  have e1 : pwN L T x i = pwN L T x j := by
    have e' : (pwN L T x i).toNat = (pwN L T x j).toNat := e
    unfold El at ei ej
    omega
  have e2 : pwN L T x i = pwN L T x (i + 1) := by
    refine bl_anti hl ei (pwT_el h hx _) ?_ (pwT_down h hx i 1)
    rw [e1, show j = (i + 1) + (j - (i + 1)) by omega]
    exact pwT_down h hx (i + 1) _
  have e3 : ∀ t : Nat, pwN L T x (i + t) = pwN L T x i := by
    intro t
    induction t with
    | zero => rfl
    | succ t ih =>
      have := pwN_same e2 t
      rw [show i + 1 + t = i + (t + 1) by omega] at this
      rw [← this, ih]
  intro t
  rw [show (num L).toNat + t = i + ((num L).toNat - i + t) by omega, e3, ← e3 ((num L).toNat - i), show i + ((num L).toNat - i) = (num L).toNat by omega]
theorem pwN_top {L : List Int} {T : List (List Int)} (h : algB L T = true) : ∀ k : Nat, pwN L T (num L - 1) k = num L - 1
  | 0 => rfl
  | k + 1 => by
    show tv T (pwN L T (num L - 1) k) (num L - 1) = _
    rw [pwN_top h k]
    exact tv_top h (el_t (alg_lat h))
theorem hd_of {L : List Int} {T : List (List Int)} {t N : List Int} (hA : algB L T = true) (ht : vtB t = true) (hN : ∀ i, 0 ≤ i → i < 3 → El L (nth N i)) (h : bl L (num L - 1) (vlI L T N t.length t) = true) : hdB L T t N = true := by
  have hl := alg_lat hA
  have e := vlI_el hA hN t.length t [] (vtB_parts ht).2
  have hn := lat_len hl
  unfold hdB
  rw [beq_iff_eq]
  exact bl_anti hl e ⟨by omega, by omega⟩ (bl_top hl e) h
theorem lp_some {L : List Int} {T : List (List Int)} {p t : List Int} (hA : algB L T = true) (hp : vtB p = true) (ht : vtB t = true) {k : Int} (h : lpI L T p t = some k) : flB L T p t = true ∧ 0 ≤ k ∧ k ≤ L.length ∧ itB L T t = (k == 0) := by
  have hl := alg_lat hA
  obtain ⟨n1, n6⟩ := lat_len hl
  unfold lpI at h
  rw [hA, hp, ht] at h
  have h' : fsI 21 (lpF L T p t) = some k := h
  obtain ⟨i, i0, i1, h1, h2⟩ := fsI_first h'
  have hk : i = k ∧ ∀ x y z : Int, 0 ≤ x → x < L.length → 0 ≤ y → y < L.length → 0 ≤ z → z < L.length → lpQ L T p t i [x, y, z] = true := by
    unfold lpF at h1
    split at h1
    · rename_i hq
      injection h1 with h1
      rw [Option.isNone_iff_eq_none, f3_none] at hq
      exact ⟨h1, fun x y z x0 x1 y0 y1 z0 z1 => by simpa using hq x y z x0 x1 y0 y1 z0 z1⟩
    · cases h1
  obtain ⟨rfl, hq⟩ := hk
  refine ⟨?_, i0, ?_, ?_⟩
  · refine fl_of hA hp ht fun x y z x0 x1 y0 y1 z0 z1 hd => ?_
    have hE := el3 x0 x1 y0 y1 z0 z1
    have q := hq x y z x0 x1 y0 y1 z0 z1
    unfold lpQ at q
    unfold hdB at hd
    rw [beq_iff_eq] at hd
    rw [hd, show powr L T (num L - 1) i = num L - 1 from pwN_top hA _] at q
    exact hd_of hA ht hE q
  · refine Classical.byContradiction fun hc => ?_
    have hj := h2 (L.length : Int) (by omega) (by omega)
    unfold lpF at hj
    rw [if_pos] at hj
    · cases hj
    · rw [Option.isNone_iff_eq_none, f3_none]
      intro x y z x0 x1 y0 y1 z0 z1
      have hE := el3 x0 x1 y0 y1 z0 z1
      have q := hq x y z x0 x1 y0 y1 z0 z1
      have ep := vlI_el hA hE p.length p [] (vtB_parts hp).2
      have st := pwT_still hA ep (i.toNat - L.length)
      have e1 : (num L).toNat + (i.toNat - L.length) = i.toNat := by show ((L.length : Int)).toNat + _ = _; omega
      rw [e1] at st
      unfold lpQ powr at q ⊢
      rw [st] at q
      have e2 : ((L.length : Int)).toNat = (num L).toNat := rfl
      rw [e2, q]; rfl
  · cases hit : itB L T t with
    | true =>
      have : i = 0 := by
        refine Classical.byContradiction fun hc => ?_
        have hj := h2 0 (by omega) (by omega)
        unfold lpF at hj
        rw [if_pos] at hj
        · cases hj
        · rw [Option.isNone_iff_eq_none, f3_none]
          intro x y z x0 x1 y0 y1 z0 z1
          have hE := el3 x0 x1 y0 y1 z0 z1
          have hd := it_all hit x0 x1 y0 y1 z0 z1
          unfold hdB at hd
          rw [beq_iff_eq] at hd
          unfold lpQ
          rw [hd, powr_zero, bl_refl hl ⟨by omega, by omega⟩]; rfl
      rw [this]; rfl
    | false =>
      symm
      rw [beq_eq_false_iff_ne]
      intro e
      subst e
      refine absurd hit ?_
      unfold itB
      rw [hA, ht]
      show ¬ (true && _) = false
      rw [Bool.true_and, Bool.not_eq_false, Option.isNone_iff_eq_none, f3_none]
      intro x y z x0 x1 y0 y1 z0 z1
      have hE := el3 x0 x1 y0 y1 z0 z1
      have q := hq x y z x0 x1 y0 y1 z0 z1
      unfold lpQ at q
      rw [powr_zero] at q
      rw [hd_of hA ht hE q]; rfl
theorem lp_none {L : List Int} {T : List (List Int)} {p t : List Int} (hA : algB L T = true) (hp : vtB p = true) (ht : vtB t = true) (h : lpI L T p t = none) : itB L T t = false := by
  have hl := alg_lat hA
  obtain ⟨n1, n6⟩ := lat_len hl
  unfold lpI at h
  rw [hA, hp, ht] at h
  have h' : fsI 21 (lpF L T p t) = none := h
  have hj := fsI_all h' 0 (by omega) (by omega)
  cases hit : itB L T t with
  | false => rfl
  | true =>
    unfold lpF at hj
    rw [if_pos] at hj
    · cases hj
    · rw [Option.isNone_iff_eq_none, f3_none]
      intro x y z x0 x1 y0 y1 z0 z1
      have hE := el3 x0 x1 y0 y1 z0 z1
      have hd := it_all hit x0 x1 y0 y1 z0 z1
      unfold hdB at hd
      rw [beq_iff_eq] at hd
      unfold lpQ
      rw [hd, powr_zero, bl_refl hl ⟨by omega, by omega⟩]; rfl
end Go.Proofs.Ytidbilgnclfplaa
