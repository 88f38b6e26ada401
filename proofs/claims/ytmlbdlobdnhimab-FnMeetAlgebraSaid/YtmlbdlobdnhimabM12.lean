import Derived.Test.YtmlbdlobdnhimabM10
import Derived.Test.YtmlbdlobdnhimabFA
import Derived.Test.YtmlbdlobdnhimabP2
/- Plain facts for promise 22: the algebra of meets; nothing of the program. -/
namespace Go.Proofs.Ytmlbdlobdnhimab

theorem mt_assoc {L : List Int} (h : latB L = true) {x y z : Int} (hx : El L x) (hy : El L y) (hz : El L z) : mt L (mt L x y) z = mt L x (mt L y z) := by
  have a := mt_el h hx hy
  have b := mt_el h hy hz
  refine mt_eq h a hz (mt_el h hx b) ?_ ?_ fun w hw p q => ?_
  · exact mt_ge h hx hy (mt_el h hx b) (mt_lb1 h hx b) (bl_trans h (mt_el h hx b) b hy (mt_lb2 h hx b) (mt_lb1 h hy hz))
  · exact bl_trans h (mt_el h hx b) b hz (mt_lb2 h hx b) (mt_lb2 h hy hz)
  · exact mt_ge h hx b hw (bl_trans h hw a hx p (mt_lb1 h hx hy)) (mt_ge h hy hz hw (bl_trans h hw a hy p (mt_lb2 h hx hy)) q)
section
variable {L : List Int}
theorem mtA_tv (hn : num L = L.length) {x y : Int} (hx : El L x) (hy : El L y) : tv (tabL (mt L) L.length) x y = mt L x y := tabL_tv _ hx.1 (by have := hx.2; omega) hy.1 (by have := hy.2; omega)
theorem mtA_alg (h : latB L = true) (d : distB L = true) : algB L (tabL (mt L) L.length) = true := by
  have hn : num L = L.length := rfl
  have D := dist_iff.1 d
  refine alg_of h (by simp [tabL]; omega) (fun x hx => ?_) (fun x y hx hy => ?_) (fun x hx => ?_) (fun x hx => ?_) (fun x y hx hy => ?_) (fun x y z hx hy hz => ?_) (fun x y z hx hy hz => ?_)
  · rw [tabL_row' _ hx.1 (by have := hx.2; omega), lstTo_len _ _ (by omega)]; exact hn.symm
  · rw [mtA_tv hn hx hy]; exact mt_el h hx hy
  · rw [mtA_tv hn hx (el_t h)]; exact mt_of_le h hx (el_t h) (bl_top h hx)
  · rw [mtA_tv hn hx (el_0 h)]; exact mt_of_ge h hx (el_0 h) (bl_low h hx)
  · rw [mtA_tv hn hx hy, mtA_tv hn hy hx, mt_comm h hy hx]
  · rw [mtA_tv hn hx hy, mtA_tv hn hy hz, mtA_tv hn (mt_el h hx hy) hz, mtA_tv hn hx (mt_el h hy hz)]; exact mt_assoc h hx hy hz
  · rw [mtA_tv hn hx (jn_el h hy hz), mtA_tv hn hx hy, mtA_tv hn hx hz]; exact D x y z hx hy hz
theorem all2_t {n : Int} {p : Int → Int → Bool} (h : ∀ x y, 0 ≤ x → x < n → 0 ≤ y → y < n → p x y = true) : all2 n p = true := (all2_iff _ _).2 h
theorem mtA_idem (h : latB L = true) : hasB 3 L (tabL (mt L) L.length) = true := by
  have hn : num L = L.length := rfl
  refine all2_t fun x y x0 x1 y0 y1 => ?_
  have hx : El L x := ⟨x0, x1⟩
  show (tv (tabL (mt L) L.length) x x == x) = true
  rw [mtA_tv hn hx hx, beq_iff_eq]
  exact mt_of_le h hx hx (bl_refl h hx)
theorem mtA_div (h : latB L = true) (d : distB L = true) : hasB 1 L (tabL (mt L) L.length) = true := by
  have hn : num L = L.length := rfl
  have hA := mtA_alg h d
  refine all2_t fun x y x0 x1 y0 y1 => ?_
  have hx : El L x := ⟨x0, x1⟩
  have hy : El L y := ⟨y0, y1⟩
  have hi := imp_el hA x y
  show (tv (tabL (mt L) L.length) x (imp L (tabL (mt L) L.length) x y) == mt L x y) = true
  rw [beq_iff_eq, mtA_tv hn hx hi]
  have m := mt_el h hx hy
  refine mt_eq h hx hi m (mt_lb1 h hx hy) ?_ fun w hw a b => ?_
  · refine (imp_iff hA hx hy m).1 ?_
    rw [mtA_tv hn hx m]
    exact bl_trans h (mt_el h hx m) m hy (mt_lb2 h hx m) (mt_lb2 h hx hy)
  · refine mt_ge h hx hy hw a ?_
    have := (imp_iff hA hx hy hw).2 b
    rw [mtA_tv hn hx hw, mt_of_ge h hx hw a] at this
    exact this
end
end Go.Proofs.Ytmlbdlobdnhimab
