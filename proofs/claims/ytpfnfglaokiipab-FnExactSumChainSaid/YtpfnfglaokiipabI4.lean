import Derived.Test.YtpfnfglaokiipabI3
namespace Go.Proofs.Ytpfnfglaokiipab
open Go.RowKit

/-- Two arrays of tests are the same. -/
def sameG (f g : Int → Int → Bool) : Bool := allI 6 fun x => allI 6 fun y => f x y == g x y
theorem sameG_iff (f g : Int → Int → Bool) : sameG f g = true ↔ ∀ x y, 0 ≤ x → x < 6 → 0 ≤ y → y < 6 → f x y = g x y := by
  unfold sameG
  rw [allI_iff]
  constructor
  · intro h x y x0 x1 y0 y1
    have := (allI_iff _ _).1 (h x x0 x1) y y0 y1
    simpa using this
  · intro h x x0 x1
    exact (allI_iff _ _).2 fun y y0 y1 => by simpa using h x y x0 x1 y0 y1
def litsOf (g : Int → Int → Bool) : List Lit := (List.range 36).map fun (i : Nat) => Lit.bool (g ((i / 6 : Nat) : Int) ((i % 6 : Nat) : Int))
theorem litsOf_inj (f g : Int → Int → Bool) : litsOf f = litsOf g ↔ sameG f g = true := by
  rw [sameG_iff]
  constructor
  · intro h x y x0 x1 y0 y1
    have hi : x.toNat * 6 + y.toNat < 36 := by omega
    have := congrArg (fun l : List Lit => l[x.toNat * 6 + y.toNat]?) h
    unfold litsOf at this
    simp only [List.getElem?_map, List.getElem?_range hi, Option.map_some, Option.some.injEq, Lit.bool.injEq] at this
    have h1 : (((x.toNat * 6 + y.toNat) / 6 : Nat) : Int) = x := by omega
    have h2 : (((x.toNat * 6 + y.toNat) % 6 : Nat) : Int) = y := by omega
    rwa [h1, h2] at this
  · intro h
    unfold litsOf
    refine List.map_congr_left fun i hi => ?_
    have := List.mem_range.1 hi
    rw [h _ _ (by omega) (by omega) (by omega) (by omega)]
theorem keyLits_order (g : Int → Int → Bool) : Try.prog.keyLits 4 55 (tab2 (bv g)).toList = some (litsOf g) := by kernel_rfl
theorem formed_order (g : Int → Int → Bool) : (Value.agg (tab2 (bv g))).formed Try.prog 55 = true := by kernel_rfl
/-- '==' on two such arrays -/
theorem run_equalIn_order (f g : Int → Int → Bool) (w : World) :
    (Op.equalIn 10000 55 (.agg (tab2 (bv f))) (.agg (tab2 (bv g)))).run Try.prog w = .ok (sameG f g) w := by
  obtain ⟨r, hr, hiff⟩ := run_equalIn_deep (P := Try.prog) 9997 3 55 (by kernel_rfl) w 4 4 (.agg (tab2 (bv f))) (.agg (tab2 (bv g))) (litsOf f) (litsOf g) (formed_order f) (formed_order g) (keyLits_order f) (keyLits_order g)
  rw [show (10000 : Nat) = 9997 + 3 from rfl, hr]
  have : r = sameG f g := by
    rw [Bool.eq_iff_iff, hiff, litsOf_inj]
  rw [this]
end Go.Proofs.Ytpfnfglaokiipab
