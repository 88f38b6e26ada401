import Derived.Test.YtmlbdlobdnhimabY1
import Derived.Test.YtmlbdlobdnhimabM6
import Derived.Test.YtmlbdlobdnhimabW4
namespace Go.Proofs.Ytmlbdlobdnhimab
open Go.RowKit

/-- meets as products: the rows -/
def mtT (L : List Int) : List (List Int) := tabL (mt L) (num L)
theorem mtT_tv {L : List Int} {x y : Int} (hx : El L x) (hy : El L y) : tv (mtT L) x y = mt L x y := tabL_tv _ hx.1 hx.2 hy.1 hy.2
theorem mtT_shape {L : List Int} (h : latB L = true) : shapeB L (mtT L) = true := by
  have hn := (lat_len h).1
  refine shape_t (m := num L) (by unfold mtT; rw [tabL_len]; omega) (Int.le_refl _) fun x x0 x1 => ?_
  have hr : rowAt (mtT L) x = lstTo (mt L x) (num L) := by
    have := tabL_row (mt L) (n := num L) (j := x.toNat) (by omega)
    rw [Int.toNat_of_nonneg x0] at this
    exact this
  refine rowOk_t (m := num L) (by rw [hr]; exact lstTo_len _ _ (by omega)) (Int.le_refl _) fun y y0 y1 => ?_
  have := lat_mt h x0 x1 y0 y1
  unfold cellOk
  rw [mtT_tv ⟨x0, x1⟩ ⟨y0, y1⟩, decide_eq_true this.1, decide_eq_true (show mt L x y ≤ num L - 1 by omega)]; rfl
theorem mtT_go {L : List Int} (h : latB L = true) {x y z : Int} (hx : El L x) (hy : El L y) (hz : El L z) : goQ L (mtT L) x y z = distXYZ L x y z := by
  unfold goQ distXYZ
  rw [mtT_tv hx hy, mtT_tv hx hz, mtT_tv hx (jn_el h hy hz)]
theorem mtT_as {L : List Int} (h : latB L = true) {x y z : Int} (hx : El L x) (hy : El L y) (hz : El L z) : asQ (mtT L) x y z = true := by
  unfold asQ
  rw [mtT_tv hx hy, mtT_tv hy hz, mtT_tv (mt_el h hx hy) hz, mtT_tv hx (mt_el h hy hz), mt_assoc2 h hx hy hz]
  simp
theorem mtT_kb {L : List Int} (h : latB L = true) {x : Int} (hx : El L x) : (tv (mtT L) x (num L - 1) == x && tv (mtT L) x 0 == 0) = true := by
  have hn := (lat_len h).1
  have ht : El L (num L - 1) := ⟨by omega, by omega⟩
  have h0 : El L 0 := ⟨by omega, by omega⟩
  rw [mtT_tv hx ht, mtT_tv hx h0, mt_of_le h hx ht (bl_top h hx), mt_of_ge h hx h0 (bl_low h hx)]
  simp
theorem mtT_alg {L : List Int} (h : latB L = true) : algB L (mtT L) = distB L := by
  unfold algB distB
  rw [h, mtT_shape h, Bool.true_and, Bool.true_and]
  refine allI_congr fun x x0 x1 => ?_
  unfold lwX distX
  rw [mtT_kb h ⟨x0, x1⟩, Bool.true_and]
  refine allI_congr fun y y0 y1 => ?_
  unfold lwXY distXY
  rw [mtT_tv ⟨x0, x1⟩ ⟨y0, y1⟩, mtT_tv ⟨y0, y1⟩ ⟨x0, x1⟩, mt_comm2 h ⟨x0, x1⟩ ⟨y0, y1⟩, beq_self_eq_true, Bool.true_and]
  refine allI_congr fun z z0 z1 => ?_
  unfold lwXYZ
  rw [mtT_as h ⟨x0, x1⟩ ⟨y0, y1⟩ ⟨z0, z1⟩, Bool.true_and]
  exact mtT_go h ⟨x0, x1⟩ ⟨y0, y1⟩ ⟨z0, z1⟩
end Go.Proofs.Ytmlbdlobdnhimab
