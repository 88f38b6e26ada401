import Derived.Test.YtjcambkjcagcoaaGreatTM15
import Derived.Test.YtjcambkjcagcoaaGreatTM21
import Derived.Test.YtjcambkjcagcoaaGreatQU2
import Derived.Test.YtjcambkjcagcoaaGreatSG
namespace Go.Proofs.YtjcambkjcagcoaaGreat
open Go.RowKit

/-- the four operations go over -/
def homQ (L : List Int) (T : List (List Int)) (A : List Int) (B : List (List Int)) (C : List Int) (x y : Int) : Bool :=
  (nth C (mt L x y) == mt A (nth C x) (nth C y) && nth C (jn L x y) == jn A (nth C x) (nth C y)) && (nth C (tv T x y) == tv B (nth C x) (nth C y) && nth C (imp L T x y) == imp A B (nth C x) (nth C y))
def sgHom1 (L : List Int) (T : List (List Int)) (f : Int) (A : List Int) (B : List (List Int)) (C : List Int) : Bool :=
  (afB L T f && algB A B) && (allI (num L) (fun x => allI (num L) (homQ L T A B C x)) && ((nth C 0 == 0 && nth C (num L - 1) == num A - 1) && allI (num A) fun c => !allI (num L) fun x => !(nth C x == c)))
theorem vl_hom {L : List Int} {T : List (List Int)} {A : List Int} {B : List (List Int)} {C N M : List Int} (h : algB L T = true) (hq : ∀ x y, El L x → El L y → homQ L T A B C x y = true) (h0 : nth C 0 = 0) (ht : nth C (num L - 1) = num A - 1) (hN : ∀ i, 0 ≤ i → i < 3 → El L (nth N i)) (hM : ∀ i, 0 ≤ i → i < 3 → nth M i = nth C (nth N i)) : ∀ (k : Nat) (t r : List Int), tmR k t = some r → nth C (vlI L T N k t) = vlI A B M k t
  | 0, _, _, h' => by cases h'
  | _ + 1, [], _, h' => by cases h'
  | k + 1, x :: t, r, h' => by
    have hl := alg_lat h
    cases h1 : isLf x with
    | true =>
      rw [vlI_leaf h1, vlI_leaf h1]
      by_cases e0 : x = 10
      · rw [if_pos e0, if_pos e0]; exact h0
      by_cases e1 : x = 11
      · rw [if_neg e0, if_neg e0, if_pos e1, if_pos e1]; exact ht
      rw [if_neg e0, if_neg e0, if_neg e1, if_neg e1]
      refine (hM x ?_ ?_).symm
      all_goals
        unfold isLf isNm at h1
        rw [Bool.or_eq_true, Bool.or_eq_true, Bool.and_eq_true, decide_eq_true_eq, decide_eq_true_eq, beq_iff_eq, beq_iff_eq] at h1
        omega
    | false =>
      have hp : ∀ x y, El L x → El L y → (nth C (mt L x y) = mt A (nth C x) (nth C y) ∧ nth C (jn L x y) = jn A (nth C x) (nth C y)) ∧ (nth C (tv T x y) = tv B (nth C x) (nth C y) ∧ nth C (imp L T x y) = imp A B (nth C x) (nth C y)) := fun x y hx hy => by
        have := hq x y hx hy
        unfold homQ at this
        rwa [Bool.and_eq_true, Bool.and_eq_true, Bool.and_eq_true, beq_iff_eq, beq_iff_eq, beq_iff_eq, beq_iff_eq] at this
      by_cases h2 : x = 12
      · rw [tmR_opp h1 h2] at h'
        rw [vlI_opp h1 h2, vlI_opp h1 h2, (hp _ _ (vlI_el h hN k t r h') (el_0 hl)).2.2, h0, vl_hom h hq h0 ht hN hM k t r h']
      · cases h3 : isSg x with
        | false => rw [tmR_no h1 h2 h3] at h'; cases h'
        | true =>
          rw [tmR_sign h1 h2 h3] at h'
          cases h4 : tmR k t with
          | none => rw [h4] at h'; cases h'
          | some q =>
            rw [h4] at h'
            have h5 : tmR k q = some r := h'
            have e1 := vlI_el h hN k t q h4
            have e2 := vlI_el h hN k q r h5
            have i1 := vl_hom h hq h0 ht hN hM k t q h4
            have i2 := vl_hom h hq h0 ht hN hM k q r h5
            have hpp := hp _ _ e1 e2
            rw [vlI_sign h1 h2 h4, vlI_sign h1 h2 h4, ← i1, ← i2]
            unfold cmI
            by_cases s1 : x = 13
            · rw [if_pos s1, if_pos s1]; exact hpp.1.1
            by_cases s2 : x = 14
            · rw [if_neg s1, if_neg s1, if_pos s2, if_pos s2]; exact hpp.1.2
            by_cases s3 : x = 15
            · rw [if_neg s1, if_neg s1, if_neg s2, if_neg s2, if_pos s3, if_pos s3]; exact hpp.2.1
            rw [if_neg s1, if_neg s1, if_neg s2, if_neg s2, if_neg s3, if_neg s3]; exact hpp.2.2
theorem fsI_no {α : Type} : ∀ {k : Nat} {f : Int → Option α}, fsI k f = none → ∀ i : Int, 0 ≤ i → i < k → f i = none
  | 0, _, _, i, i0, i1 => by omega
  | k + 1, f, h, i, i0, i1 => by
    have h' : (match fsI k f with | some a => some a | none => f k) = none := h
    cases e : fsI k f with
    | some b => rw [e] at h'; cases h'
    | none =>
      rw [e] at h'
      by_cases hi : i = k
      · rw [hi]; exact h'
      · exact fsI_no e i i0 (by omega)
theorem f3_no {n : Nat} {p : List Int → Bool} (h : f3 n p = none) {x y z : Int} (x0 : 0 ≤ x) (x1 : x < n) (y0 : 0 ≤ y) (y1 : y < n) (z0 : 0 ≤ z) (z1 : z < n) : p [x, y, z] = false := by
  have h1 := fsI_no (fsI_no (fsI_no h x x0 x1) y y0 y1) z z0 z1
  cases hp : p [x, y, z] with
  | false => rfl
  | true => rw [f3z_some hp] at h1; cases h1
theorem it_hom {L : List Int} {T : List (List Int)} {f : Int} {A : List Int} {B : List (List Int)} {C t : List Int} (hs : sgHom1 L T f A B C = true) (h : itB L T t = true) : afB L T f = true ∧ itB A B t = true := by
  unfold sgHom1 at hs
  rw [Bool.and_eq_true, Bool.and_eq_true, Bool.and_eq_true, Bool.and_eq_true, Bool.and_eq_true, allI_iff, allI_iff, beq_iff_eq, beq_iff_eq] at hs
  obtain ⟨⟨haf, hA⟩, hq, ⟨h0, ht⟩, hsu⟩ := hs
  refine ⟨haf, ?_⟩
  unfold itB at h ⊢
  rw [Bool.and_eq_true, Bool.and_eq_true] at h
  obtain ⟨⟨ha, hv⟩, hn⟩ := h
  have hl := alg_lat ha
  have hq' : ∀ x y, El L x → El L y → homQ L T A B C x y = true := fun x y hx hy => (allI_iff _ _).1 (hq x hx.1 hx.2) y hy.1 hy.2
  have onto : ∀ c : Int, 0 ≤ c → c < num A → ∃ x, El L x ∧ nth C x = c := fun c c0 c1 => by
    have h1 := hsu c c0 c1
    rw [Bool.not_eq_true'] at h1
    refine Classical.byContradiction fun hno => ?_
    have : (allI (num L) fun x => !(nth C x == c)) = true := (allI_iff _ _).2 fun x x0 x1 => by
      cases e : (nth C x == c) with
      | false => rfl
      | true => exact absurd ⟨x, ⟨x0, x1⟩, beq_iff_eq.1 e⟩ hno
    rw [this] at h1
    cases h1
  rw [hA, hv]
  cases hf : f3 A.length (fun N => !(hdB A B t N)) with
  | none => rfl
  | some v =>
    exfalso
    obtain ⟨x, y, z, x0, x1, y0, y1, z0, z1, rfl, hp⟩ := f3_is hf
    obtain ⟨p, ep, cp⟩ := onto x x0 x1
    obtain ⟨q, eq, cq⟩ := onto y y0 y1
    obtain ⟨s, es, cs⟩ := onto z z0 z1
    have h1 := f3_no (Option.isNone_iff_eq_none.1 hn) ep.1 ep.2 eq.1 eq.2 es.1 es.2
    have h2 : hdB L T t [p, q, s] = true := by simpa using h1
    have h3 : hdB A B t [x, y, z] = false := by simpa using hp
    have hN := el3 (L := L) ep.1 ep.2 eq.1 eq.2 es.1 es.2
    have hM : ∀ i : Int, 0 ≤ i → i < 3 → nth [x, y, z] i = nth C (nth [p, q, s] i) := fun i i0 i1 => by
      have : i = 0 ∨ i = 1 ∨ i = 2 := by omega
      rcases this with rfl | rfl | rfl
      · exact cp.symm
      · exact cq.symm
      · exact cs.symm
    have hv2 := vl_hom ha hq' h0 ht hN hM t.length t [] (vtB_parts hv).2
    unfold hdB at h2 h3
    rw [beq_iff_eq.1 h2, ht] at hv2
    rw [← hv2] at h3
    simp at h3
/-- what follows from the greatest element is what is true -/
theorem fl_top (L : List Int) (T : List (List Int)) (t : List Int) : flB L T [11] t = itB L T t := by
  unfold flB itB
  rw [show vtB [11] = true by decide, Bool.true_and]
  congr 2
  congr 1
  funext N
  have e : hdB L T [11] N = true := by
    unfold hdB
    show (vlI L T N (0 + 1) (11 :: []) == num L - 1) = true
    rw [vlI_leaf (by decide)]
    simp
  rw [e]; rfl
theorem rf_it {L : List Int} {T : List (List Int)} {t : List Int} (h : (algB L T && vtB t) = true) : (rfI L T t).isSome = !itB L T t := by
  unfold rfI itB
  rw [h, if_pos rfl, Bool.true_and]
  cases f3 L.length (fun N => !(hdB L T t N)) <;> rfl
end Go.Proofs.YtjcambkjcagcoaaGreat

namespace Go.Proofs.YtjcambkjcagcoaaGreat

def sgHom (p : List Int × List (List Int)) : Bool := (fls p.1 p.2).all fun f => sgHom1 p.1 p.2 f (quL p.1 p.2 f) (quTb p.1 p.2 f) (quTo p.1 p.2 f)
theorem sg_homP0 : ((goods).take 8).all sgHom = true := by decide +kernel
theorem sg_homP1 : ((goods.drop 8).take 8).all sgHom = true := by decide +kernel
theorem sg_homP2 : (((goods.drop 8).drop 8).take 8).all sgHom = true := by decide +kernel
theorem sg_homP3 : ((((goods.drop 8).drop 8).drop 8).take 8).all sgHom = true := by decide +kernel
theorem sg_homP4 : (((((goods.drop 8).drop 8).drop 8).drop 8).take 8).all sgHom = true := by decide +kernel
theorem sg_homP5 : ((((((goods.drop 8).drop 8).drop 8).drop 8).drop 8).take 8).all sgHom = true := by decide +kernel
theorem sg_homP6 : ((((((goods.drop 8).drop 8).drop 8).drop 8).drop 8).drop 8).all sgHom = true := by decide +kernel
theorem sg_homP_all {p : List Int × List (List Int)} (hm : p ∈ goods) : sgHom p = true := by
  rw [← List.take_append_drop 8 (goods), List.mem_append] at hm
  rcases hm with hm | hm
  · exact (List.all_eq_true.1 sg_homP0) _ hm
  rw [← List.take_append_drop 8 (goods.drop 8), List.mem_append] at hm
  rcases hm with hm | hm
  · exact (List.all_eq_true.1 sg_homP1) _ hm
  rw [← List.take_append_drop 8 ((goods.drop 8).drop 8), List.mem_append] at hm
  rcases hm with hm | hm
  · exact (List.all_eq_true.1 sg_homP2) _ hm
  rw [← List.take_append_drop 8 (((goods.drop 8).drop 8).drop 8), List.mem_append] at hm
  rcases hm with hm | hm
  · exact (List.all_eq_true.1 sg_homP3) _ hm
  rw [← List.take_append_drop 8 ((((goods.drop 8).drop 8).drop 8).drop 8), List.mem_append] at hm
  rcases hm with hm | hm
  · exact (List.all_eq_true.1 sg_homP4) _ hm
  rw [← List.take_append_drop 8 (((((goods.drop 8).drop 8).drop 8).drop 8).drop 8), List.mem_append] at hm
  rcases hm with hm | hm
  · exact (List.all_eq_true.1 sg_homP5) _ hm
  exact (List.all_eq_true.1 sg_homP6) _ hm
theorem sg_hom {L : List Int} {T : List (List Int)} (h : SomeP L T) (ha : algB L T = true) {f : Int} (hf : f ∈ fls L T) : sgHom1 L T f (quL L T f) (quTb L T f) (quTo L T f) = true := by
  have h1 := sg_homP_all (p := (L, T)) (someP_good h ha)
  unfold sgHom at h1
  exact (List.all_eq_true.1 h1) f hf
end Go.Proofs.YtjcambkjcagcoaaGreat
