import Derived.Test.YtjcambkjcagcoaaB10
import Derived.Test.YtjcambkjcagcoaaB11
namespace Go.Proofs.Ytjcambkjcagcoaa
open Go.RowKit

theorem mp_len {L : List Int} {T : List (List Int)} {M : List Int} {U : List (List Int)} {F : List Int} (h : num F ≠ num L) : mpB L T M U F = false := by unfold mpB; rw [decide_eq_false h]; rfl
theorem mp_r {L : List Int} {T : List (List Int)} {M : List Int} {U : List (List Int)} {F : List Int} {x : Int} (x0 : 0 ≤ x) (x1 : x < num L) (h : mpR M F x = false) : mpB L T M U F = false := by unfold mpB; rw [allI_false x x0 x1 h]; simp
theorem mp_e {L : List Int} {T : List (List Int)} {M : List Int} {U : List (List Int)} {F : List Int} (h : (nth F 0 == 0 && nth F (num L - 1) == num M - 1) = false) : mpB L T M U F = false := by unfold mpB; rw [h]; simp
theorem mp_q {L : List Int} {T : List (List Int)} {M : List Int} {U : List (List Int)} {F : List Int} {x y : Int} (x0 : 0 ≤ x) (x1 : x < num L) (y0 : 0 ≤ y) (y1 : y < num L) (h : mpQ L T M U F x y = false) : mpB L T M U F = false := by
  have e : all2 (num L) (mpQ L T M U F) = false := allI_false (p := fun x => allI (num L) (mpQ L T M U F x)) x x0 x1 (allI_false y y0 y1 h)
  unfold mpB; rw [e]; simp
theorem mp_t {L : List Int} {T : List (List Int)} {M : List Int} {U : List (List Int)} {F : List Int} (h1 : num F = num L) (h2 : AllTo (num L) (mpR M F)) (h3 : (nth F 0 == 0 && nth F (num L - 1) == num M - 1) = true) (h4 : all2 (num L) (mpQ L T M U F) = true) : mpB L T M U F = true := by
  unfold mpB; rw [decide_eq_true h1, h2.all (Int.le_refl _), h3, h4]; rfl
theorem bne_not {a b : Int} {r : Bool} (h : (a != b) = r) : (a == b) = !r := by rw [← h]; unfold bne; simp
end Go.Proofs.Ytjcambkjcagcoaa
