import Derived.Test.YtidbilgnclfplaaTM22
import Derived.Test.YtidbilgnclfplaaTM15
namespace Go.Proofs.Ytidbilgnclfplaa
open Go.RowKit

set_option linter.unusedVariables false
theorem hd_least {L : List Int} {T : List (List Int)} {N : List Int} : hdB L T [10] N = ((0 : Int) == num L - 1) := by
  unfold hdB
  rw [show vlI L T N ([10] : List Int).length [10] = 0 from by rw [show ([10] : List Int).length = 0 + 1 from rfl, vlI_leaf (by decide)]; rfl]
theorem vt_least : vtB [10] = true := by decide
theorem it_all {L : List Int} {T : List (List Int)} {t : List Int} (h : itB L T t = true) {x y z : Int} (x0 : 0 ≤ x) (x1 : x < L.length) (y0 : 0 ≤ y) (y1 : y < L.length) (z0 : 0 ≤ z) (z1 : z < L.length) : hdB L T t [x, y, z] = true := by
  unfold itB at h
  rw [Bool.and_eq_true, Option.isNone_iff_eq_none] at h
  have := f3_none.1 h.2 x y z x0 x1 y0 y1 z0 z1
  simpa using this
theorem fl_of {L : List Int} {T : List (List Int)} {p t : List Int} (hA : algB L T = true) (hp : vtB p = true) (ht : vtB t = true) (h : ∀ x y z : Int, 0 ≤ x → x < L.length → 0 ≤ y → y < L.length → 0 ≤ z → z < L.length → hdB L T p [x, y, z] = true → hdB L T t [x, y, z] = true) : flB L T p t = true := by
  unfold flB
  rw [hA, hp, ht]
  show (true && _) = true
  rw [Bool.true_and, Option.isNone_iff_eq_none, f3_none]
  intro x y z x0 x1 y0 y1 z0 z1
  cases e : hdB L T p [x, y, z] with
  | false => rfl
  | true => rw [h x y z x0 x1 y0 y1 z0 z1 e]; rfl
theorem fl_true {L : List Int} {T : List (List Int)} {p t : List Int} (hA : algB L T = true) (hp : vtB p = true) (ht : vtB t = true) (h : itB L T t = true) : flB L T p t = true :=
  fl_of hA hp ht fun x y z x0 x1 y0 y1 z0 z1 _ => it_all h x0 x1 y0 y1 z0 z1
theorem fl_self {L : List Int} {T : List (List Int)} {p : List Int} (hA : algB L T = true) (hp : vtB p = true) : flB L T p p = true :=
  fl_of hA hp hp fun x y z x0 x1 y0 y1 z0 z1 h => h
theorem fl_least {L : List Int} {T : List (List Int)} {t : List Int} (hA : algB L T = true) (ht : vtB t = true) : flB L T [10] t = true :=
  fl_of hA vt_least ht fun x y z x0 x1 y0 y1 z0 z1 h => by
    rw [hd_least, beq_iff_eq] at h
    obtain ⟨v0, v1⟩ := vlI_el hA (el3 x0 x1 y0 y1 z0 z1) t.length t [] (vtB_parts ht).2
    unfold hdB
    rw [beq_iff_eq]
    have : num L = L.length := rfl
    omega
end Go.Proofs.Ytidbilgnclfplaa
