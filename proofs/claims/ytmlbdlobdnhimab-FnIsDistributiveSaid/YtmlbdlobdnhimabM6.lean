import Derived.Test.YtmlbdlobdnhimabM5
/- Meets as products. -/
namespace Go.Proofs.Ytmlbdlobdnhimab

theorem mt_comm2 {L : List Int} (h : latB L = true) {x y : Int} (hx : El L x) (hy : El L y) : mt L x y = mt L y x :=
  bl_anti h (mt_el h hx hy) (mt_el h hy hx) (mt_ge h hy hx (mt_el h hx hy) (mt_lb2 h hx hy) (mt_lb1 h hx hy)) (mt_ge h hx hy (mt_el h hy hx) (mt_lb2 h hy hx) (mt_lb1 h hy hx))
theorem mt_assoc2 {L : List Int} (h : latB L = true) {x y z : Int} (hx : El L x) (hy : El L y) (hz : El L z) : mt L (mt L x y) z = mt L x (mt L y z) := by
  have e1 := mt_el h hx hy
  have e2 := mt_el h hy hz
  have e3 := mt_el h e1 hz
  have e4 := mt_el h hx e2
  refine bl_anti h e3 e4 (mt_ge h hx e2 e3 ?_ (mt_ge h hy hz e3 ?_ (mt_lb2 h e1 hz))) (mt_ge h e1 hz e4 (mt_ge h hx hy e4 (mt_lb1 h hx e2) ?_) ?_)
  · exact bl_trans h e3 e1 hx (mt_lb1 h e1 hz) (mt_lb1 h hx hy)
  · exact bl_trans h e3 e1 hy (mt_lb1 h e1 hz) (mt_lb2 h hx hy)
  · exact bl_trans h e4 e2 hy (mt_lb2 h hx e2) (mt_lb1 h hy hz)
  · exact bl_trans h e4 e2 hz (mt_lb2 h hx e2) (mt_lb2 h hy hz)
end Go.Proofs.Ytmlbdlobdnhimab
