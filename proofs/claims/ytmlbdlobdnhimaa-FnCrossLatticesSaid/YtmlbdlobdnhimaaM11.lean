import Derived.Test.YtmlbdlobdnhimaaM10
import Derived.Test.YtmlbdlobdnhimaaU3
/- Plain facts for promise 11: pairs of elements; nothing of the program. -/
namespace Go.Proofs.Ytmlbdlobdnhimaa

def crL (A B : List Int) : List Int := upL (crossG A B) (num A * num B)
theorem pair_el {A B : List Int} {a b : Int} (ha : El A a) (hb : El B b) : 0 ≤ a * num B + b ∧ a * num B + b < num A * num B := by
  have h1 : (a + 1) * num B ≤ num A * num B := Int.mul_le_mul_of_nonneg_right (by have := ha.2; omega) (by unfold num; omega)
  rw [Int.add_mul, Int.one_mul] at h1
  have h2 : 0 ≤ a * num B := Int.mul_nonneg ha.1 (by unfold num; omega)
  have := hb.1; have := hb.2
  omega
theorem pair_div {B : List Int} (a : Int) {b : Int} (hb : El B b) : (a * num B + b) / num B = a := by
  have := hb.1; have := hb.2
  rw [Int.add_comm, Int.add_mul_ediv_right _ _ (by omega), Int.ediv_eq_zero_of_lt hb.1 hb.2, Int.zero_add]
theorem pair_mod {B : List Int} (a : Int) {b : Int} (hb : El B b) : (a * num B + b) % num B = b := by
  rw [Int.add_comm, Int.add_mul_emod_self_right, Int.emod_eq_of_lt hb.1 hb.2]
theorem pair_mk {B : List Int} (p : Int) : (p / num B) * num B + p % num B = p := by
  rw [Int.mul_comm]; exact Int.mul_ediv_add_emod p (num B)
theorem pair_pq {B : List Int} {p q : Int} (h1 : p / num B = q / num B) (h2 : p % num B = q % num B) : p = q := by
  rw [← pair_mk (B := B) p, ← pair_mk (B := B) q, h1, h2]
theorem crossG_iff {A B : List Int} {p q : Int} : crossG A B p q = true ↔ bl A (p / num B) (q / num B) = true ∧ bl B (p % num B) (q % num B) = true := by
  unfold crossG; rw [Bool.and_eq_true]
theorem crossG_pair {A B : List Int} {a b : Int} (hb : El B b) (q : Int) : crossG A B (a * num B + b) q = (bl A a (q / num B) && bl B b (q % num B)) := by
  unfold crossG; rw [pair_div a hb, pair_mod a hb]
theorem crossG_pair' {A B : List Int} {a b : Int} (hb : El B b) (p : Int) : crossG A B p (a * num B + b) = (bl A (p / num B) a && bl B (p % num B) b) := by
  unfold crossG; rw [pair_div a hb, pair_mod a hb]
theorem crL_el {A B : List Int} (hB : 1 ≤ num B) {p : Int} (p0 : 0 ≤ p) (p1 : p < num A * num B) : El A (p / num B) ∧ El B (p % num B) := by
  obtain ⟨a, b, c, d⟩ := div_fits p0 hB p1
  exact ⟨⟨a, b⟩, c, d⟩
theorem crL_lat {A B : List Int} (hA : latB A = true) (hB : latB B = true) (h6 : num A * num B ≤ 6) : latB (crL A B) = true := by
  have a1 := (lat_len hA).1
  have b1 := (lat_len hB).1
  have E : ∀ p, 0 ≤ p → p < num A * num B → El A (p / num B) ∧ El B (p % num B) := fun p p0 p1 => crL_el b1 p0 p1
  have n1 : 1 ≤ num A * num B := by
    have := (pair_el (el_0 hA) (el_0 hB)).2
    rw [Int.zero_mul] at this
    omega
  refine upL_lat n1 h6 (fun p p0 p1 => ?_) (fun p p0 p1 => ?_) (fun p p0 p1 => ?_) (fun p q p0 p1 q0 q1 a b => ?_) (fun p q r p0 p1 q0 q1 r0 r1 a b => ?_) (fun p q p0 p1 q0 q1 => ?_) (fun p q p0 p1 q0 q1 => ?_)
  · obtain ⟨e1, e2⟩ := E p p0 p1
    exact crossG_iff.2 ⟨bl_refl hA e1, bl_refl hB e2⟩
  · obtain ⟨e1, e2⟩ := E p p0 p1
    refine crossG_iff.2 ⟨?_, ?_⟩
    · rw [Int.zero_ediv]; exact bl_low hA e1
    · rw [Int.zero_emod]; exact bl_low hB e2
  · obtain ⟨e1, e2⟩ := E p p0 p1
    have e : num A * num B - 1 = (num A - 1) * num B + (num B - 1) := by rw [Int.sub_mul, Int.one_mul]; omega
    rw [e, crossG_pair' (el_t hB), bl_top hA e1, bl_top hB e2]; rfl
  · obtain ⟨e1, e2⟩ := E p p0 p1
    obtain ⟨f1, f2⟩ := E q q0 q1
    obtain ⟨x1, x2⟩ := crossG_iff.1 a
    obtain ⟨y1, y2⟩ := crossG_iff.1 b
    exact pair_pq (B := B) (bl_anti hA e1 f1 x1 y1) (bl_anti hB e2 f2 x2 y2)
  · obtain ⟨e1, e2⟩ := E p p0 p1
    obtain ⟨f1, f2⟩ := E q q0 q1
    obtain ⟨g1, g2⟩ := E r r0 r1
    obtain ⟨x1, x2⟩ := crossG_iff.1 a
    obtain ⟨y1, y2⟩ := crossG_iff.1 b
    exact crossG_iff.2 ⟨bl_trans hA e1 f1 g1 x1 y1, bl_trans hB e2 f2 g2 x2 y2⟩
  · obtain ⟨e1, e2⟩ := E p p0 p1
    obtain ⟨f1, f2⟩ := E q q0 q1
    have m1 := mt_el hA e1 f1
    have m2 := mt_el hB e2 f2
    obtain ⟨r0, r1⟩ := pair_el m1 m2
    refine ⟨_, r0, r1, ?_, ?_, fun w w0 w1 a b => ?_⟩
    · rw [crossG_pair m2, mt_lb1 hA e1 f1, mt_lb1 hB e2 f2]; rfl
    · rw [crossG_pair m2, mt_lb2 hA e1 f1, mt_lb2 hB e2 f2]; rfl
    · obtain ⟨g1, g2⟩ := E w w0 w1
      obtain ⟨x1, x2⟩ := crossG_iff.1 a
      obtain ⟨y1, y2⟩ := crossG_iff.1 b
      rw [crossG_pair' m2, mt_ge hA e1 f1 g1 x1 y1, mt_ge hB e2 f2 g2 x2 y2]; rfl
  · obtain ⟨e1, e2⟩ := E p p0 p1
    obtain ⟨f1, f2⟩ := E q q0 q1
    have m1 := jn_el hA e1 f1
    have m2 := jn_el hB e2 f2
    obtain ⟨r0, r1⟩ := pair_el m1 m2
    refine ⟨_, r0, r1, ?_, ?_, fun w w0 w1 a b => ?_⟩
    · rw [crossG_pair' m2, jn_ub1 hA e1 f1, jn_ub1 hB e2 f2]; rfl
    · rw [crossG_pair' m2, jn_ub2 hA e1 f1, jn_ub2 hB e2 f2]; rfl
    · obtain ⟨g1, g2⟩ := E w w0 w1
      obtain ⟨x1, x2⟩ := crossG_iff.1 a
      obtain ⟨y1, y2⟩ := crossG_iff.1 b
      rw [crossG_pair m2, jn_le hA e1 f1 g1 x1 y1, jn_le hB e2 f2 g2 x2 y2]; rfl
theorem crL_num {A B : List Int} : num (crL A B) = num A * num B := upL_num _ (Int.mul_nonneg (by unfold num; omega) (by unfold num; omega))
theorem crL_in {A B : List Int} {p : Int} (hp : El (crL A B) p) : 0 ≤ p ∧ p < num A * num B := ⟨hp.1, by have := hp.2; rwa [crL_num] at this⟩
theorem crL_elp {A B : List Int} {a b : Int} (ha : El A a) (hb : El B b) : El (crL A B) (a * num B + b) := by
  obtain ⟨x, y⟩ := pair_el ha hb
  exact ⟨x, by rw [crL_num]; exact y⟩
theorem crL_bl {A B : List Int} {p q : Int} (hp : El (crL A B) p) (hq : El (crL A B) q) : bl (crL A B) p q = crossG A B p q := by
  obtain ⟨a, b⟩ := crL_in hp
  obtain ⟨c, d⟩ := crL_in hq
  exact upL_bl _ a b c d
section
variable {A B : List Int} (hA : latB A = true) (hB : latB B = true) (h6 : num A * num B ≤ 6)
include hA hB h6
theorem crL_mt {p q : Int} (hp : El (crL A B) p) (hq : El (crL A B) q) : mt (crL A B) p q = mt A (p / num B) (q / num B) * num B + mt B (p % num B) (q % num B) := by
  have b1 := (lat_len hB).1
  obtain ⟨a, b⟩ := crL_in hp
  obtain ⟨c, d⟩ := crL_in hq
  obtain ⟨e1, e2⟩ := crL_el (A := A) b1 a b
  obtain ⟨f1, f2⟩ := crL_el (A := A) b1 c d
  have m1 := mt_el hA e1 f1
  have m2 := mt_el hB e2 f2
  have me := crL_elp m1 m2
  refine mt_eq (crL_lat hA hB h6) hp hq me ?_ ?_ fun w hw x y => ?_
  · rw [crL_bl me hp, crossG_pair m2, mt_lb1 hA e1 f1, mt_lb1 hB e2 f2]; rfl
  · rw [crL_bl me hq, crossG_pair m2, mt_lb2 hA e1 f1, mt_lb2 hB e2 f2]; rfl
  · obtain ⟨w0, w1⟩ := crL_in hw
    obtain ⟨g1, g2⟩ := crL_el (A := A) b1 w0 w1
    rw [crL_bl hw hp] at x
    rw [crL_bl hw hq] at y
    obtain ⟨x1, x2⟩ := crossG_iff.1 x
    obtain ⟨y1, y2⟩ := crossG_iff.1 y
    rw [crL_bl hw me, crossG_pair' m2, mt_ge hA e1 f1 g1 x1 y1, mt_ge hB e2 f2 g2 x2 y2]; rfl
theorem crL_jn {p q : Int} (hp : El (crL A B) p) (hq : El (crL A B) q) : jn (crL A B) p q = jn A (p / num B) (q / num B) * num B + jn B (p % num B) (q % num B) := by
  have b1 := (lat_len hB).1
  obtain ⟨a, b⟩ := crL_in hp
  obtain ⟨c, d⟩ := crL_in hq
  obtain ⟨e1, e2⟩ := crL_el (A := A) b1 a b
  obtain ⟨f1, f2⟩ := crL_el (A := A) b1 c d
  have m1 := jn_el hA e1 f1
  have m2 := jn_el hB e2 f2
  have me := crL_elp m1 m2
  refine jn_eq (crL_lat hA hB h6) hp hq me ?_ ?_ fun w hw x y => ?_
  · rw [crL_bl hp me, crossG_pair' m2, jn_ub1 hA e1 f1, jn_ub1 hB e2 f2]; rfl
  · rw [crL_bl hq me, crossG_pair' m2, jn_ub2 hA e1 f1, jn_ub2 hB e2 f2]; rfl
  · obtain ⟨w0, w1⟩ := crL_in hw
    obtain ⟨g1, g2⟩ := crL_el (A := A) b1 w0 w1
    rw [crL_bl hp hw] at x
    rw [crL_bl hq hw] at y
    obtain ⟨x1, x2⟩ := crossG_iff.1 x
    obtain ⟨y1, y2⟩ := crossG_iff.1 y
    rw [crL_bl me hw, crossG_pair m2, jn_le hA e1 f1 g1 x1 y1, jn_le hB e2 f2 g2 x2 y2]; rfl
theorem crL_dist : distB (crL A B) = (distB A && distB B) := by
  have b1 := (lat_len hB).1
  rw [Bool.eq_iff_iff, Bool.and_eq_true, dist_iff, dist_iff, dist_iff]
  have C : ∀ x y z : Int, El (crL A B) x → El (crL A B) y → El (crL A B) z → (mt (crL A B) x (jn (crL A B) y z) = jn (crL A B) (mt (crL A B) x y) (mt (crL A B) x z) ↔
      mt A (x / num B) (jn A (y / num B) (z / num B)) = jn A (mt A (x / num B) (y / num B)) (mt A (x / num B) (z / num B)) ∧ mt B (x % num B) (jn B (y % num B) (z % num B)) = jn B (mt B (x % num B) (y % num B)) (mt B (x % num B) (z % num B))) := by
    intro x y z hx hy hz
    have hl := crL_lat hA hB h6
    obtain ⟨ea1, ea2⟩ := crL_el (A := A) b1 (crL_in hx).1 (crL_in hx).2
    obtain ⟨eb1, eb2⟩ := crL_el (A := A) b1 (crL_in hy).1 (crL_in hy).2
    obtain ⟨ec1, ec2⟩ := crL_el (A := A) b1 (crL_in hz).1 (crL_in hz).2
    have j2 := jn_el hB eb2 ec2
    have p2 := mt_el hB ea2 eb2
    have q2 := mt_el hB ea2 ec2
    rw [crL_mt hA hB h6 hx (jn_el hl hy hz), crL_jn hA hB h6 (mt_el hl hx hy) (mt_el hl hx hz), crL_jn hA hB h6 hy hz, crL_mt hA hB h6 hx hy, crL_mt hA hB h6 hx hz, pair_div _ j2, pair_mod _ j2, pair_div _ p2, pair_mod _ p2, pair_div _ q2, pair_mod _ q2]
    constructor
    · intro e
      have m2 := mt_el hB ea2 j2
      have n2 := jn_el hB p2 q2
      have d1 : (mt A (x / num B) (jn A (y / num B) (z / num B)) * num B + mt B (x % num B) (jn B (y % num B) (z % num B))) / num B = _ := congrArg (fun q => q / num B) e
      have d2 : (mt A (x / num B) (jn A (y / num B) (z / num B)) * num B + mt B (x % num B) (jn B (y % num B) (z % num B))) % num B = _ := congrArg (fun q => q % num B) e
      rw [pair_div _ m2, pair_div _ n2] at d1
      rw [pair_mod _ m2, pair_mod _ n2] at d2
      exact ⟨d1, d2⟩
    · rintro ⟨d1, d2⟩; rw [d1, d2]
  constructor
  · intro a
    constructor
    · intro x y z hx hy hz
      have e0 := el_0 hB
      have := (C _ _ _ (crL_elp hx e0) (crL_elp hy e0) (crL_elp hz e0)).1 (a _ _ _ (crL_elp hx e0) (crL_elp hy e0) (crL_elp hz e0))
      rw [pair_div _ e0, pair_div _ e0, pair_div _ e0] at this
      exact this.1
    · intro x y z hx hy hz
      have e0 := el_0 hA
      have := (C _ _ _ (crL_elp e0 hx) (crL_elp e0 hy) (crL_elp e0 hz)).1 (a _ _ _ (crL_elp e0 hx) (crL_elp e0 hy) (crL_elp e0 hz))
      rw [pair_mod _ hx, pair_mod _ hy, pair_mod _ hz] at this
      exact this.2
  · rintro ⟨a, b⟩ x y z hx hy hz
    obtain ⟨ea1, ea2⟩ := crL_el (A := A) b1 (crL_in hx).1 (crL_in hx).2
    obtain ⟨eb1, eb2⟩ := crL_el (A := A) b1 (crL_in hy).1 (crL_in hy).2
    obtain ⟨ec1, ec2⟩ := crL_el (A := A) b1 (crL_in hz).1 (crL_in hz).2
    exact (C x y z hx hy hz).2 ⟨a _ _ _ ea1 eb1 ec1, b _ _ _ ea2 eb2 ec2⟩
end
end Go.Proofs.Ytmlbdlobdnhimaa
