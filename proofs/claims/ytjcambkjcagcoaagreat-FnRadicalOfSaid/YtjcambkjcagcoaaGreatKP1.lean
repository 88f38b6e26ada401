import Derived.Test.YtjcambkjcagcoaaGreatKM2
import Derived.Test.YtjcambkjcagcoaaGreatM13
import Derived.Test.YtjcambkjcagcoaaGreatSL0
/- There are at most six filters. -/
namespace Go.Proofs.YtjcambkjcagcoaaGreat

/-- the product of what a filter has of the first ones -/
def mmF (L : List Int) (T : List (List Int)) (f : Int) : Nat → Int
  | 0 => num L - 1
  | k + 1 => if ib f k then tv T (mmF L T f k) k else mmF L T f k
theorem mmF_ok {L : List Int} {T : List (List Int)} (h : algB L T = true) {f : Int} (hf : filB L T f = true) : ∀ k : Nat, (k : Int) ≤ num L → El L (mmF L T f k) ∧ ib f (mmF L T f k) = true ∧ ∀ x : Int, 0 ≤ x → x < k → ib f x = true → bl L (mmF L T f k) x = true
  | 0, _ => ⟨el_t (alg_lat h), (fil_iff.1 hf).1, fun x x0 x1 => by omega⟩
  | k + 1, hk => by
    obtain ⟨h1, h2, h3⟩ := mmF_ok h hf k (by omega)
    have hl := alg_lat h
    have hK : El L (k : Int) := ⟨by omega, by omega⟩
    unfold mmF
    by_cases hb : ib f k = true
    · rw [if_pos hb]
      have ht := tv_el h h1 hK
      refine ⟨ht, (fil_iff.1 hf).2.1 _ _ h1 hK h2 hb, fun x x0 x1 hx => ?_⟩
      by_cases e : x = k
      · rw [e]; exact tv_le2 h h1 hK
      · exact bl_trans hl ht h1 ⟨x0, by omega⟩ (tv_le1 h h1 hK) (h3 x x0 (by omega) hx)
    · rw [if_neg hb]
      refine ⟨h1, h2, fun x x0 x1 hx => ?_⟩
      by_cases e : x = k
      · rw [e] at hx; exact absurd hx hb
      · exact h3 x x0 (by omega) hx
def mmI (L : List Int) (T : List (List Int)) (f : Int) : Int := mmF L T f (num L).toNat
theorem mmI_ib {L : List Int} {T : List (List Int)} (h : algB L T = true) {f : Int} (hf : filB L T f = true) {x : Int} (hx : El L x) : ib f x = bl L (mmI L T f) x := by
  have n1 := (lat_len (alg_lat h)).1
  obtain ⟨h1, h2, h3⟩ := mmF_ok h hf (num L).toNat (by omega)
  rw [Bool.eq_iff_iff]
  exact ⟨fun hb => h3 x hx.1 (by have := hx.2; omega) hb, fun hb => (fil_iff.1 hf).2.2 _ _ h1 hx h2 hb⟩
theorem ib_same6 : ∀ f g : Fin 64, (∀ x : Fin 6, ib (f.val : Int) (x.val : Int) = ib (g.val : Int) (x.val : Int)) → f = g := by decide +kernel
theorem ib_high : ∀ n : Fin 7, ∀ f : Fin 64, (f.val : Int) < pw (n.val : Int) → ∀ x : Fin 6, n.val ≤ x.val → ib (f.val : Int) (x.val : Int) = false := by decide +kernel
theorem mmI_inj {L : List Int} {T : List (List Int)} (h : algB L T = true) {f g : Int} (hf : f ∈ fls L T) (hg : g ∈ fls L T) (e : mmI L T f = mmI L T g) : f = g := by
  obtain ⟨n1, n6⟩ := lat_len (alg_lat h)
  obtain ⟨f0, f1, f2⟩ := fls_mem.1 hf
  obtain ⟨g0, g1, g2⟩ := fls_mem.1 hg
  have p6 := (pw_6 n6).2
  have := ib_same6 ⟨f.toNat, by omega⟩ ⟨g.toNat, by omega⟩ (fun x => by
    have hx := x.2
    show ib ((f.toNat : Nat) : Int) ((x.val : Nat) : Int) = ib ((g.toNat : Nat) : Int) ((x.val : Nat) : Int)
    by_cases hn : (x.val : Int) < num L
    · rw [Int.toNat_of_nonneg f0, Int.toNat_of_nonneg g0, mmI_ib h f2 ⟨by omega, hn⟩, mmI_ib h g2 ⟨by omega, hn⟩, e]
    · have a := ib_high ⟨(num L).toNat, by omega⟩ ⟨f.toNat, by omega⟩ (by show ((f.toNat : Nat) : Int) < pw (((num L).toNat : Nat) : Int); rw [Int.toNat_of_nonneg f0, Int.toNat_of_nonneg (by omega)]; exact f1) x (by show (num L).toNat ≤ x.val; omega)
      have b := ib_high ⟨(num L).toNat, by omega⟩ ⟨g.toNat, by omega⟩ (by show ((g.toNat : Nat) : Int) < pw (((num L).toNat : Nat) : Int); rw [Int.toNat_of_nonneg g0, Int.toNat_of_nonneg (by omega)]; exact g1) x (by show (num L).toNat ≤ x.val; omega)
      exact a.trans b.symm)
  have hv : f.toNat = g.toNat := congrArg Fin.val this
  omega
/-- a list without repeats is no longer than what holds all of it -/
theorem nodup_le : ∀ (A B : List Int), A.Nodup → (∀ x ∈ A, x ∈ B) → A.length ≤ B.length
  | [], B, _, _ => Nat.zero_le _
  | a :: A, B, hn, hm => by
    rw [List.nodup_cons] at hn
    have ha := hm a (by simp)
    have := nodup_le A (B.erase a) hn.2 fun x hx => by
      have hne : x ≠ a := fun e => hn.1 (by rw [← e]; exact hx)
      exact (List.mem_erase_of_ne hne).2 (hm x (by simp [hx]))
    rw [List.length_erase_of_mem ha] at this
    have hl : 0 < B.length := List.length_pos_of_mem ha
    rw [List.length_cons]; omega
theorem asc_lt {A : List Int} (h : Asc A) {a b : Int} (a0 : 0 ≤ a) (ab : a < b) (b1 : b < A.length) : nth A a < nth A b := by
  have hlt : ∀ (d : Nat) (i : Int), 0 ≤ i → i + d + 1 < A.length → nth A i < nth A (i + d + 1) := by
    intro d
    induction d with
    | zero => intro i i0 i1; have := h (i + 1) (by omega) (by omega); rw [show i + 1 - 1 = i by omega] at this; rw [show i + ((0 : Nat) : Int) + 1 = i + 1 by omega]; exact this
    | succ d ih =>
      intro i i0 i1
      have h1 := ih i i0 (by omega)
      have h2 := h (i + (d : Int) + 1 + 1) (by omega) (by omega)
      rw [show i + (d : Int) + 1 + 1 - 1 = i + (d : Int) + 1 by omega] at h2
      rw [show i + ((d + 1 : Nat) : Int) + 1 = i + (d : Int) + 1 + 1 by omega]
      omega
  have := hlt (b - a - 1).toNat a a0 (by omega)
  rwa [show a + (((b - a - 1).toNat : Nat) : Int) + 1 = b by omega] at this
theorem asc_nodup {A : List Int} (h : Asc A) : A.Nodup := by
  have hlt : ∀ (d : Nat) (i : Int), 0 ≤ i → i + d + 1 < A.length → nth A i < nth A (i + d + 1) := by
    intro d
    induction d with
    | zero => intro i i0 i1; have := h (i + 1) (by omega) (by omega); rw [show i + 1 - 1 = i by omega] at this; rw [show i + ((0 : Nat) : Int) + 1 = i + 1 by omega]; exact this
    | succ d ih =>
      intro i i0 i1
      have h1 := ih i i0 (by omega)
      have h2 := h (i + (d : Int) + 1 + 1) (by omega) (by omega)
      rw [show i + (d : Int) + 1 + 1 - 1 = i + (d : Int) + 1 by omega] at h2
      rw [show i + ((d + 1 : Nat) : Int) + 1 = i + (d : Int) + 1 + 1 by omega]
      omega
  unfold List.Nodup
  rw [List.pairwise_iff_getElem]
  intro i j hi hj hij e
  have := hlt (j - i - 1) (i : Int) (by omega) (by omega)
  rw [show (i : Int) + ((j - i - 1 : Nat) : Int) + 1 = (j : Int) by omega] at this
  unfold nth at this
  rw [List.getD_eq_getElem?_getD, List.getD_eq_getElem?_getD, Int.toNat_natCast, Int.toNat_natCast, List.getElem?_eq_getElem hi, List.getElem?_eq_getElem hj] at this
  simp only [Option.getD_some] at this
  omega
theorem fls_nodup (L : List Int) (T : List (List Int)) : (fls L T).Nodup := asc_nodup (filtTo_ascI _ (by have := pw_pos (num L); omega))
theorem map_nodup {p : Int → Int} : ∀ {A : List Int}, A.Nodup → (∀ x ∈ A, ∀ y ∈ A, p x = p y → x = y) → (A.map p).Nodup
  | [], _, _ => by simp
  | a :: A, hn, hi => by
    rw [List.nodup_cons] at hn
    rw [List.map_cons, List.nodup_cons]
    refine ⟨fun hm => ?_, map_nodup hn.2 fun x hx y hy => hi x (by simp [hx]) y (by simp [hy])⟩
    obtain ⟨y, hy, e⟩ := List.mem_map.1 hm
    exact hn.1 (by rw [hi a (by simp) y (by simp [hy]) e.symm]; exact hy)
theorem fls_six {L : List Int} {T : List (List Int)} (h : algB L T = true) : (fls L T).length ≤ 6 := by
  obtain ⟨n1, n6⟩ := lat_len (alg_lat h)
  have := nodup_le ((fls L T).map (mmI L T)) (lstTo (fun x => x) (num L)) (map_nodup (fls_nodup L T) fun x hx y hy e => mmI_inj h hx hy e) fun x hx => by
    obtain ⟨f, hf, rfl⟩ := List.mem_map.1 hx
    obtain ⟨h1, _, _⟩ := mmF_ok h (fls_mem.1 hf).2.2 (num L).toNat (by omega)
    have hl := lstTo_len (fun x : Int => x) (num L) (by omega)
    have hx : nth (lstTo (fun x : Int => x) (num L)) (mmF L T f (num L).toNat) = mmF L T f (num L).toNat := lstTo_nth _ h1.1 h1.2
    have := nth_in (A := lstTo (fun x : Int => x) (num L)) h1.1 (by have := h1.2; omega)
    rw [hx] at this
    exact this
  have hl := lstTo_len (fun x : Int => x) (num L) (by omega)
  rw [List.length_map] at this
  omega
theorem grs_six {L : List Int} {T : List (List Int)} (h : algB L T = true) : (grs L T).length ≤ 6 := Nat.le_trans (List.length_filter_le _ _) (fls_six h)
end Go.Proofs.YtjcambkjcagcoaaGreat
