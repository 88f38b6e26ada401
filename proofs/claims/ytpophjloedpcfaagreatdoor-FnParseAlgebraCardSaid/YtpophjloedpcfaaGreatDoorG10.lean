import Derived.Test.YtpophjloedpcfaaGreatDoorG6
namespace Go.Proofs.YtpophjloedpcfaaGreatDoor
open Go.RowKit

/-- more things than places: two in one -/
theorem pigeons : ∀ (n : Nat) (f : Nat → Nat), (∀ i, i ≤ n → f i < n) → ∃ i j, i < j ∧ j ≤ n ∧ f i = f j
  | 0, f, h => absurd (h 0 (Nat.le_refl _)) (Nat.not_lt_zero _)
  | n + 1, f, h => by
    by_cases hm : ∃ i, i ≤ n ∧ f i = f (n + 1)
    · obtain ⟨i, hi, e⟩ := hm
      exact ⟨i, n + 1, by omega, Nat.le_refl _, e⟩
    · have hne : ∀ i, i ≤ n → f i ≠ f (n + 1) := fun i hi e => hm ⟨i, hi, e⟩
      obtain ⟨i, j, hij, hj, e⟩ := pigeons n (fun i => if f (n + 1) < f i then f i - 1 else f i) (fun i hi => by
        have a := h i (by omega)
        have b := h (n + 1) (Nat.le_refl _)
        have c := hne i hi
        show (if f (n + 1) < f i then f i - 1 else f i) < n
        split <;> omega)
      refine ⟨i, j, hij, by omega, ?_⟩
      have c := hne i (by omega)
      have d := hne j hj
      have e' : (if f (n + 1) < f i then f i - 1 else f i) = (if f (n + 1) < f j then f j - 1 else f j) := e
      split at e' <;> split at e' <;> omega
theorem pwN_same {L : List Int} {T : List (List Int)} {x : Int} {i j : Nat} (h : pwN L T x i = pwN L T x j) : ∀ t, pwN L T x (i + t) = pwN L T x (j + t)
  | 0 => h
  | t + 1 => by
    show tv T (pwN L T x (i + t)) x = tv T (pwN L T x (j + t)) x
    rw [pwN_same h t]
def depQ (L : List Int) (T : List (List Int)) (x k : Int) : Bool := powr L T x k == 0
/-- if a power ends, one of the first does -/
theorem dep_first {L : List Int} {T : List (List Int)} {x : Int} (h : algB L T = true) (x0 : 0 ≤ x) (x1 : x < num L) : firstI 21 (depQ L T x) = firstI (num L + 1) (depQ L T x) := by
  obtain ⟨hl, hs, _⟩ := algB_parts h
  obtain ⟨n1, n6⟩ := lat_len hl
  rcases firstI_cases 21 (depQ L T x) with ⟨e, hn⟩ | ⟨k0, k1, hk, hb⟩
  · rw [e]; exact (firstI_none fun j j0 j1 => hn j j0 (by omega)).symm
  · obtain ⟨k, hkk⟩ : ∃ k, k = firstI 21 (depQ L T x) := ⟨_, rfl⟩
    rw [← hkk] at k0 k1 hk hb ⊢
    by_cases hle : k ≤ num L
    · exact (firstI_some k0 (by omega) hb hk).symm
    · exfalso
      obtain ⟨i, j, hij, hj, e⟩ := pigeons (num L).toNat (fun i => (pwN L T x i).toNat) (fun i _ => by
        have := pwN_lt hl hs x0 x1 i
        show (pwN L T x i).toNat < (num L).toNat
        omega)
      have e' : (pwN L T x i).toNat = (pwN L T x j).toNat := e
      have a := pwN_lt hl hs x0 x1 i
      have b := pwN_lt hl hs x0 x1 j
      have hp := pwN_same (L := L) (T := T) (x := x) (i := i) (j := j) (by omega) (k.toNat - j)
      have h1 : j + (k.toNat - j) = k.toNat := by omega
      rw [h1] at hp
      have hz : pwN L T x k.toNat = 0 := by simpa [depQ, powr] using hk
      have hm := hb ((i + (k.toNat - j) : Nat) : Int) (by omega) (by omega)
      unfold depQ powr at hm
      rw [Int.toNat_natCast, hp, hz] at hm
      cases hm
def depV (L : List Int) (T : List (List Int)) (x : Int) : Int := if firstI (num L + 1) (depQ L T x) < 0 then 0 else firstI (num L + 1) (depQ L T x)
def depI (L : List Int) (T : List (List Int)) (x : Int) : Int := if algIn L T x x then depV L T x else 0
def depB (L : List Int) (T : List (List Int)) (x : Int) : Bool := algIn L T x x && decide (0 ≤ firstI (num L + 1) (depQ L T x))
theorem dep_out {L : List Int} {T : List (List Int)} {x : Int} (h : algIn L T x x = false) : depI L T x = 0 ∧ depB L T x = false := by
  unfold depI depB; rw [h]; exact ⟨rfl, rfl⟩
theorem dep_no {L : List Int} {T : List (List Int)} {x : Int} (h : algIn L T x x = true) (hf : firstI (num L + 1) (depQ L T x) = -1) : depI L T x = 0 ∧ depB L T x = false := by
  unfold depI depB depV; rw [h, hf]; exact ⟨rfl, rfl⟩
theorem dep_yes {L : List Int} {T : List (List Int)} {x k : Int} (h : algIn L T x x = true) (k0 : 0 ≤ k) (hf : firstI (num L + 1) (depQ L T x) = k) : depI L T x = k ∧ depB L T x = true := by
  unfold depI depB depV
  rw [h, hf]
  have : ¬ k < 0 := by omega
  simp [this, k0]
end Go.Proofs.YtpophjloedpcfaaGreatDoor
