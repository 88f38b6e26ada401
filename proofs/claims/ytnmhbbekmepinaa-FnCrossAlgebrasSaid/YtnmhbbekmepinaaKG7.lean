import Derived.Test.YtnmhbbekmepinaaSG
import Derived.Test.YtnmhbbekmepinaaP2
import Derived.Test.YtnmhbbekmepinaaPR3
/- Pairs of the fifty algebras: by the kernel. -/
namespace Go.Proofs.Ytnmhbbekmepinaa

def sgCr1 (L : List Int) (T : List (List Int)) (M : List Int) (U : List (List Int)) (A : List Int) (B : List (List Int)) : Bool :=
  (algB A B && ((fls A B).length == (fls L T).length * (fls M U).length)) && (((hasB 0 A B == (hasB 0 L T && hasB 0 M U)) && (hasB 1 A B == (hasB 1 L T && hasB 1 M U))) && ((hasB 2 A B == (hasB 2 L T && hasB 2 M U)) && ((hasB 3 A B == (hasB 3 L T && hasB 3 M U)) && (hasB 4 A B == (hasB 4 L T && hasB 4 M U)))))
def sgCr2 (p q : List Int × List (List Int)) : Bool := sgCr1 p.1 p.2 q.1 q.2 (upL (crossG p.1 q.1) ((p.1.length : Int) * q.1.length)) (tabL (caP p.2 q.2 q.1.length) ((p.1.length : Int) * q.1.length))
def sgCr (p : List Int × List (List Int)) : Bool := goods.all fun q => !decide ((p.1.length : Int) * q.1.length ≤ 6) || sgCr2 p q
theorem sg_crP0 : ((goods).take 1).all sgCr = true := by decide +kernel
theorem sg_crP1 : ((goods.drop 1).take 1).all sgCr = true := by decide +kernel
theorem sg_crP2 : (((goods.drop 1).drop 1).take 2).all sgCr = true := by decide +kernel
theorem sg_crP3 : ((((goods.drop 1).drop 1).drop 2).take 4).all sgCr = true := by decide +kernel
theorem sg_crP4 : (((((goods.drop 1).drop 1).drop 2).drop 4).take 8).all sgCr = true := by decide +kernel
theorem sg_crP5 : ((((((goods.drop 1).drop 1).drop 2).drop 4).drop 8).take 8).all sgCr = true := by decide +kernel
theorem sg_crP6 : (((((((goods.drop 1).drop 1).drop 2).drop 4).drop 8).drop 8).take 8).all sgCr = true := by decide +kernel
theorem sg_crP7 : ((((((((goods.drop 1).drop 1).drop 2).drop 4).drop 8).drop 8).drop 8).take 8).all sgCr = true := by decide +kernel
theorem sg_crP8 : ((((((((goods.drop 1).drop 1).drop 2).drop 4).drop 8).drop 8).drop 8).drop 8).all sgCr = true := by decide +kernel
theorem sg_crP_all {p : List Int × List (List Int)} (hm : p ∈ goods) : sgCr p = true := by
  rw [← List.take_append_drop 1 (goods), List.mem_append] at hm
  rcases hm with hm | hm
  · exact (List.all_eq_true.1 sg_crP0) _ hm
  rw [← List.take_append_drop 1 (goods.drop 1), List.mem_append] at hm
  rcases hm with hm | hm
  · exact (List.all_eq_true.1 sg_crP1) _ hm
  rw [← List.take_append_drop 2 ((goods.drop 1).drop 1), List.mem_append] at hm
  rcases hm with hm | hm
  · exact (List.all_eq_true.1 sg_crP2) _ hm
  rw [← List.take_append_drop 4 (((goods.drop 1).drop 1).drop 2), List.mem_append] at hm
  rcases hm with hm | hm
  · exact (List.all_eq_true.1 sg_crP3) _ hm
  rw [← List.take_append_drop 8 ((((goods.drop 1).drop 1).drop 2).drop 4), List.mem_append] at hm
  rcases hm with hm | hm
  · exact (List.all_eq_true.1 sg_crP4) _ hm
  rw [← List.take_append_drop 8 (((((goods.drop 1).drop 1).drop 2).drop 4).drop 8), List.mem_append] at hm
  rcases hm with hm | hm
  · exact (List.all_eq_true.1 sg_crP5) _ hm
  rw [← List.take_append_drop 8 ((((((goods.drop 1).drop 1).drop 2).drop 4).drop 8).drop 8), List.mem_append] at hm
  rcases hm with hm | hm
  · exact (List.all_eq_true.1 sg_crP6) _ hm
  rw [← List.take_append_drop 8 (((((((goods.drop 1).drop 1).drop 2).drop 4).drop 8).drop 8).drop 8), List.mem_append] at hm
  rcases hm with hm | hm
  · exact (List.all_eq_true.1 sg_crP7) _ hm
  exact (List.all_eq_true.1 sg_crP8) _ hm
theorem sg_cr {L M : List Int} {T U : List (List Int)} (h : SomeP L T) (h2 : SomeP M U) (hok : caOk L T M U = true) : sgCr1 L T M U (caL L T M U) (caT L T M U) = true := by
  have hk := hok
  unfold caOk at hk
  rw [Bool.and_eq_true, Bool.and_eq_true, decide_eq_true_iff] at hk
  obtain ⟨ha, hb, hl⟩ := hk
  have h1 := sg_crP_all (p := (L, T)) (someP_good h ha)
  unfold sgCr at h1
  have h3 := (List.all_eq_true.1 h1) _ (someP_good h2 hb)
  have h4 : sgCr2 (L, T) (M, U) = true := by
    rw [Bool.or_eq_true] at h3
    rcases h3 with h3 | h3
    · rw [Bool.not_eq_true'] at h3
      exact absurd hl (of_decide_eq_false h3)
    · exact h3
  unfold sgCr2 at h4
  obtain ⟨_, e1, e2⟩ := ca_yes ha hb hl
  rw [e1, e2]
  exact h4
end Go.Proofs.Ytnmhbbekmepinaa
