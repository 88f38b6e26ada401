import Derived.Test.YtnmhbbekmepinaaSZ1
/- The sizes that an algebra's squares tell. -/
namespace Go.Proofs.Ytnmhbbekmepinaa
set_option linter.unusedVariables false

theorem tot_gaps : ∀ (k : Nat) (g : Int → Int), totL (lstTo (fun i => g (i + 1) - g i) k) = g k - g 0
  | 0, g => by show (0 : Int) = _; simp
  | k + 1, g => by
    rw [show ((k + 1 : Nat) : Int) = (k : Int) + 1 from rfl, lstTo_cons]
    have ih := tot_gaps k (fun i => g (i + 1))
    show (g (0 + 1) - g 0) + totL (lstTo (fun i => g (i + 1 + 1) - g (i + 1)) k) = _
    rw [ih]
    simp only [Int.zero_add]
    omega
theorem nth_app1 {A B : List Int} {i : Int} (i0 : 0 ≤ i) (h : i < A.length) : nth (A ++ B) i = nth A i := by
  unfold nth
  rw [List.getD_eq_getElem?_getD, List.getD_eq_getElem?_getD, List.getElem?_append_left (by omega)]
theorem nth_app2 {A : List Int} {x : Int} : nth (A ++ [x]) (A.length : Int) = x := by
  unfold nth
  rw [Int.toNat_natCast, List.getD_eq_getElem?_getD, List.getElem?_append_right (Nat.le_refl _), Nat.sub_self]
  rfl
theorem filt_first {p : Int → Bool} (h : p 0 = true) : ∀ k : Nat, 0 < (filtTo p ((k : Int) + 1)).length ∧ nth (filtTo p ((k : Int) + 1)) 0 = 0
  | 0 => by
    rw [show ((0 : Nat) : Int) + 1 = (0 : Int) + 1 from rfl, filtTo_succ _ 0 (by omega), if_pos h]
    exact ⟨Nat.lt_succ_self _, rfl⟩
  | k + 1 => by
    obtain ⟨h1, h2⟩ := filt_first h k
    rw [show ((k + 1 : Nat) : Int) = (k : Int) + 1 from rfl, filtTo_succ _ _ (by omega)]
    split
    · exact ⟨by rw [List.length_append]; omega, by rw [nth_app1 (by omega) (by omega)]; exact h2⟩
    · exact ⟨h1, h2⟩
theorem fixF_in {L : List Int} {T : List (List Int)} {i : Int} (i0 : 0 ≤ i) (i1 : i < (filtTo (fixQ T) (num L)).length) : 0 ≤ nth (filtTo (fixQ T) (num L)) i ∧ nth (filtTo (fixQ T) (num L)) i < num L := by
  have := (filtTo_mem _ _ _).1 (nth_in i0 i1)
  exact ⟨this.1, this.2.1⟩
section
variable {L : List Int} {T : List (List Int)} (h : algB L T = true)
include h
theorem fixF_0 : fixQ T 0 = true := by
  have := tv_bot h (x := 0) ⟨by omega, by have := (lat_len (alg_lat h)).1; omega⟩
  unfold fixQ; rw [this]; rfl
theorem fixF_t : fixQ T (num L - 1) = true := by
  have := tv_top h (el_t (alg_lat h))
  unfold fixQ; rw [this]; simp
/-- the fixed elements: the first is 0, the last the greatest one -/
theorem fixF_ok : 0 < (filtTo (fixQ T) (num L)).length ∧ nth (filtTo (fixQ T) (num L)) 0 = 0 ∧ nth (filtTo (fixQ T) (num L)) (((filtTo (fixQ T) (num L)).length : Int) - 1) = num L - 1 := by
  obtain ⟨l1, l6⟩ := lat_len (alg_lat h)
  obtain ⟨k, hk⟩ : ∃ k : Nat, num L = (k : Int) + 1 := ⟨(num L - 1).toNat, by omega⟩
  have h1 := filt_first (fixF_0 h) k
  have h2 := fixF_t h
  rw [hk] at h2 ⊢
  refine ⟨h1.1, h1.2, ?_⟩
  rw [show (k : Int) + 1 - 1 = k by omega] at h2 ⊢
  rw [filtTo_succ _ _ (by omega), if_pos h2, List.length_append, show (((filtTo (fixQ T) (k : Int)).length + [(k : Int)].length : Nat) : Int) - 1 = ((filtTo (fixQ T) (k : Int)).length : Int) by simp]
  exact nth_app2
theorem fixF_asc {i : Int} (i0 : 0 ≤ i) (i1 : i + 1 < (filtTo (fixQ T) (num L)).length) : nth (filtTo (fixQ T) (num L)) i < nth (filtTo (fixQ T) (num L)) (i + 1) := by
  obtain ⟨l1, l6⟩ := lat_len (alg_lat h)
  have e : num L = ((num L).toNat : Int) := by omega
  rw [e] at i1 ⊢
  exact filt_inj _ _ _ _ i0 (by omega) i1
theorem szI_ok : szB 5 (szI L T) = true ∧ totL (szI L T) = num L - 1 := by
  obtain ⟨l1, l6⟩ := lat_len (alg_lat h)
  obtain ⟨f1, f2, f3⟩ := fixF_ok h
  obtain ⟨k, hk⟩ : ∃ k : Nat, (((filtTo (fixQ T) (num L)).length : Int) - 1) = k := ⟨(filtTo (fixQ T) (num L)).length - 1, by omega⟩
  unfold szI gapsL
  have h1 := szB_gaps k (nth (filtTo (fixQ T) (num L))) (fun i i0 i1 => fixF_asc h i0 (by omega)) (fun i i0 i1 => by have := fixF_in i0 (show i < ((filtTo (fixQ T) (num L)).length : Int) by omega); omega)
  have h2 := tot_gaps k (nth (filtTo (fixQ T) (num L)))
  rw [hk] at f3 ⊢
  rw [f2] at h1 h2
  rw [f3] at h2
  exact ⟨h1, by rw [h2]; omega⟩
theorem szI_len : (szI L T).length ≤ 5 := by
  have h1 := szI_ok h
  have h2 := szB_tot _ (by omega) h1.1
  omega
end
/-- whether an algebra is a stack of sums, and of which -/
def sqB (L : List Int) (T : List (List Int)) : Bool := algB L T && decide (skA (szI L T) = (L, T))
def sqL (L : List Int) (T : List (List Int)) : List Int := if sqB L T then szI L T else []
theorem sq_yes {L : List Int} {T : List (List Int)} (h : algB L T = true) (h2 : skA (szI L T) = (L, T)) : sqB L T = true ∧ sqL L T = szI L T := by
  have e : sqB L T = true := by unfold sqB; rw [h, decide_eq_true h2]; rfl
  exact ⟨e, by unfold sqL; rw [e]; rfl⟩
theorem sq_no {L : List Int} {T : List (List Int)} (h : skA (szI L T) ≠ (L, T)) : sqB L T = false ∧ sqL L T = [] := by
  have e : sqB L T = false := by unfold sqB; rw [decide_eq_false h, Bool.and_false]
  exact ⟨e, by unfold sqL; rw [e]; rfl⟩
theorem sq_na {L : List Int} {T : List (List Int)} (h : algB L T = false) : sqB L T = false ∧ sqL L T = [] := by
  have e : sqB L T = false := by unfold sqB; rw [h]; rfl
  exact ⟨e, by unfold sqL; rw [e]; rfl⟩
theorem sq_parts {L : List Int} {T : List (List Int)} (h : algB L T = true) (h2 : skA (szI L T) = (L, T)) : SkF (szI L T) L T := by
  have := skF _ (szI_ok h).1
  rwa [h2] at this
theorem sq_div {L : List Int} {T : List (List Int)} (h : algB L T = true) (h2 : chainB L = false ∨ hasB 1 L T = false) : sqB L T = false ∧ sqL L T = [] := sq_no fun e => by
  have f := sq_parts h e
  rcases h2 with h2 | h2
  · rw [f.chn] at h2; cases h2
  · rw [f.div] at h2; cases h2
theorem sqL_len (L : List Int) (T : List (List Int)) : (sqL L T).length ≤ 5 := by
  unfold sqL
  split
  · rename_i h
    exact szI_len (by unfold sqB at h; exact (Bool.and_eq_true_iff.1 h).1)
  · exact Nat.zero_le _
/-- the stack of an algebra's sizes is as large as it is -/
theorem sk_size {L : List Int} {T : List (List Int)} (h : algB L T = true) : (skA (szI L T)).1.length = L.length := by
  obtain ⟨h1, h2⟩ := szI_ok h
  have h3 := (skF _ h1).len
  have e : num L = L.length := rfl
  omega
/-- two algebras are the same where all their cells are -/
theorem alg_ext {L M : List Int} {T U : List (List Int)} (h : algB L T = true) (h2 : algB M U = true) (hl : M.length = L.length) (hL : ∀ x : Int, El L x → nth M x = nth L x) (hT : ∀ x y : Int, El L x → El L y → tv U x y = tv T x y) : (M, U) = (L, T) := by
  have sh := alg_shape h
  have sh2 := alg_shape h2
  have t1 := shape_len sh
  have u1 := shape_len sh2
  have hn : num L = L.length := rfl
  have hm : num M = M.length := rfl
  have e1 : M = L := by
    refine List.ext_getElem hl fun i h1 h2 => ?_
    have := hL i ⟨by omega, by omega⟩
    unfold nth at this
    rw [Int.toNat_natCast, List.getD_eq_getElem?_getD, List.getD_eq_getElem?_getD, List.getElem?_eq_getElem h1, List.getElem?_eq_getElem h2] at this
    exact this
  have e2 : U = T := by
    refine List.ext_getElem (by omega) fun i h1 h2 => ?_
    have r1 := shape_row sh2 (x := (i : Int)) (by omega) (by omega)
    have r2 := shape_row sh (x := (i : Int)) (by omega) (by omega)
    have g1 : rowAt U i = U[i] := by unfold rowAt; rw [Int.toNat_natCast, List.getD_eq_getElem?_getD, List.getElem?_eq_getElem h1]; rfl
    have g2 : rowAt T i = T[i] := by unfold rowAt; rw [Int.toNat_natCast, List.getD_eq_getElem?_getD, List.getElem?_eq_getElem h2]; rfl
    rw [← g1, ← g2]
    refine List.ext_getElem (by omega) fun j h3 h4 => ?_
    have := hT i j ⟨by omega, by omega⟩ ⟨by omega, by omega⟩
    unfold tv nth at this
    rw [Int.toNat_natCast, List.getD_eq_getElem?_getD, List.getD_eq_getElem?_getD, List.getElem?_eq_getElem h3, List.getElem?_eq_getElem h4] at this
    exact this
  rw [e1, e2]
end Go.Proofs.Ytnmhbbekmepinaa
