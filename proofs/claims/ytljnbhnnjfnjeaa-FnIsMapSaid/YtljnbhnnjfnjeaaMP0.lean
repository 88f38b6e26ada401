import Derived.Test.YtljnbhnnjfnjeaaB15
import Derived.Test.YtljnbhnnjfnjeaaQU2
import Derived.Test.YtljnbhnnjfnjeaaM14
import Derived.Test.YtljnbhnnjfnjeaaM10
import Derived.Test.YtljnbhnnjfnjeaaM13
/- Maps: what they keep, their kernels and images; nothing of the program. -/
namespace Go.Proofs.Ytljnbhnnjfnjeaa
set_option linter.unusedVariables false

structure MapF (L : List Int) (T : List (List Int)) (M : List Int) (U : List (List Int)) (F : List Int) : Prop where
  a1 : algB L T = true
  a2 : algB M U = true
  len : num F = num L
  rng : ∀ x, 0 ≤ x → x < num L → El M (nth F x)
  bot : nth F 0 = 0
  top : nth F (num L - 1) = num M - 1
  tv : ∀ x y, El L x → El L y → nth F (tv T x y) = tv U (nth F x) (nth F y)
  imp : ∀ x y, El L x → El L y → nth F (imp L T x y) = imp M U (nth F x) (nth F y)
  mt : ∀ x y, El L x → El L y → nth F (mt L x y) = mt M (nth F x) (nth F y)
  jn : ∀ x y, El L x → El L y → nth F (jn L x y) = jn M (nth F x) (nth F y)
theorem mapF_of {L : List Int} {T : List (List Int)} {M : List Int} {U : List (List Int)} {F : List Int} (h : isMapB L T M U F = true) : MapF L T M U F := by
  obtain ⟨h1, h2, h3, h4, h5⟩ := isMap_parts h
  unfold mpB at h3
  rw [Bool.and_eq_true, Bool.and_eq_true, Bool.and_eq_true, Bool.and_eq_true, beq_iff_eq, beq_iff_eq, mp_all] at h3
  obtain ⟨_, _, ⟨b0, b1⟩, hq⟩ := h3
  exact ⟨h1, h2, h4, fun x x0 x1 => h5 x x0 (by omega), b0, b1, fun x y hx hy => (hq x y hx hy).1, fun x y hx hy => (hq x y hx hy).2.1, fun x y hx hy => (hq x y hx hy).2.2.1, fun x y hx hy => (hq x y hx hy).2.2.2⟩
section
variable {L : List Int} {T : List (List Int)} {M : List Int} {U : List (List Int)} {F : List Int} (h : MapF L T M U F)
include h
theorem MapF.near {x y : Int} (hx : El L x) (hy : El L y) : nth F (nearI L T x y) = nearI M U (nth F x) (nth F y) := by
  unfold nearI
  rw [h.tv _ _ (imp_el h.a1 x y) (imp_el h.a1 y x), h.imp _ _ hx hy, h.imp _ _ hy hx]
theorem MapF.el {x : Int} (hx : El L x) : El M (nth F x) := h.rng x hx.1 hx.2
theorem MapF.mono {x y : Int} (hx : El L x) (hy : El L y) (hl : bl L x y = true) : bl M (nth F x) (nth F y) = true := by
  have h1 := (imp_top h.a1 hx hy).2 hl
  have h2 := h.imp x y hx hy
  rw [h1, h.top] at h2
  exact (imp_top h.a2 (h.el hx) (h.el hy)).1 h2.symm
theorem MapF.ker {x : Int} (hx : El L x) : ib (rowTo (kerQ M F) (num F)) x = (nth F x == num M - 1) := by
  have e : num F = ((F.length : Nat) : Int) := rfl
  have hl := h.len
  obtain ⟨x0, x1⟩ := hx
  have := rowTo_bt (kerQ M F) F.length x.toNat (by omega)
  rw [Int.toNat_of_nonneg x0] at this
  rw [e, this]
  rfl
theorem MapF.fil : isFilB L T (rowTo (kerQ M F) (num F)) = true := by
  have hl := h.len
  have n0 : 0 ≤ num L := by have := (lat_len (alg_lat h.a1)).1; omega
  unfold isFilB setB
  rw [Bool.and_eq_true, Bool.and_eq_true, decide_eq_true_iff, decide_eq_true_iff]
  have hb := rowTo_bound (kerQ M F) (show 0 ≤ num F by omega)
  refine ⟨⟨hb.1, by rw [hl] at hb ⊢; omega⟩, fil_iff.2 ⟨?_, fun x y hx hy h1 h2 => ?_, fun x y hx hy h1 h2 => ?_⟩⟩
  · rw [h.ker (el_t (alg_lat h.a1)), beq_iff_eq]; exact h.top
  · rw [h.ker hx, beq_iff_eq] at h1
    rw [h.ker hy, beq_iff_eq] at h2
    rw [h.ker (tv_el h.a1 hx hy), beq_iff_eq, h.tv _ _ hx hy, h1, h2]
    exact tv_top h.a2 (el_t (alg_lat h.a2))
  · rw [h.ker hx, beq_iff_eq] at h1
    rw [h.ker hy, beq_iff_eq]
    have hm := h.mono hx hy h2
    rw [h1] at hm
    exact bl_anti (alg_lat h.a2) (h.el hy) (el_t (alg_lat h.a2)) (bl_top (alg_lat h.a2) (h.el hy)) hm
theorem MapF.cls {x y : Int} (hx : El L x) (hy : El L y) : clsQ L T (rowTo (kerQ M F) (num F)) x y = (nth F x == nth F y) := by
  unfold clsQ
  rw [h.ker (nearI_el h.a1 x y), h.near hx hy, Bool.eq_iff_iff, beq_iff_eq, beq_iff_eq]
  have e : num M = (M.length : Int) := rfl
  rw [e]
  exact nearI_top h.a2 (h.el hx) (h.el hy)
end
end Go.Proofs.Ytljnbhnnjfnjeaa
