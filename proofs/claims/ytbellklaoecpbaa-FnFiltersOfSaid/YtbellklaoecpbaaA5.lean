import Derived.Test.YtbellklaoecpbaaA4
namespace Go.Proofs.Ytbellklaoecpbaa
open Go.RowKit

def goodB (L : List Int) (x y : Int) : Bool := latB L && (decide (0 ≤ x) && decide (x ≤ num L - 1)) && (decide (0 ≤ y) && decide (y ≤ num L - 1))
def isBelowB (L : List Int) (x y : Int) : Bool := goodB L x y && bl L x y
def meetOfI (L : List Int) (x y : Int) : Int := if goodB L x y then mt L x y else -1
def joinOfI (L : List Int) (x y : Int) : Int := if goodB L x y then jn L x y else -1
def chainXY (L : List Int) (x y : Int) : Bool := bl L x y || bl L y x
def chainB (L : List Int) : Bool := allI (num L) fun x => allI (num L) (chainXY L x)
theorem goodB_parts {L : List Int} {x y : Int} (h : goodB L x y = true) : latB L = true ∧ 1 ≤ num L ∧ num L ≤ 6 ∧ Small L ∧ 0 ≤ x ∧ x < num L ∧ 0 ≤ y ∧ y < num L := by
  unfold goodB at h
  simp only [Bool.and_eq_true, decide_eq_true_eq] at h
  obtain ⟨⟨a, b, c⟩, d, e⟩ := h
  obtain ⟨h1, h6, hs⟩ := latB_parts a
  exact ⟨a, h1, h6, hs, b, by omega, d, by omega⟩

theorem below_is (b off cap : Nat) (L : List Int) (x y : Int) (w : World) (hc : Cells w b off L) (hs : Small L) (x0 : 0 ≤ x) (x1 : x < num L) (y0 : 0 ≤ y) (y1 : y ≤ 30) {r : Bool} (h : bl L x y = r) :
    Calls Try.prog 120 #[.slice (some ⟨b, off, none⟩) L.length cap, .int .i64 x, .int .i64 y] w fun e w' => e = .returned (.bool r) ∧ w = w' := by
  subst h; exact below_any b off cap L x y w hc hs x0 x1 y0 y1
end Go.Proofs.Ytbellklaoecpbaa
