import Derived.Test.YtjcambkjcagcoaaNU1
import Derived.Test.YtjcambkjcagcoaaPF4
namespace Go.Proofs.Ytjcambkjcagcoaa
open Go.RowKit

/-- what one implies of another one in what a nucleus leaves is what it implies in the algebra -/
theorem fx_imp {L : List Int} {T : List (List Int)} {J : List Int} (h : algB L T = true) (hJ : snB L T J = true) (hok : algB (fxU L J) (fxS L T J) = true) {p q : Int} (p0 : 0 ≤ p) (p1 : p < num (fxW L J)) (q0 : 0 ≤ q) (q1 : q < num (fxW L J)) :
    nth (fxW L J) (imp (fxU L J) (fxS L T J) p q) = imp L T (nth (fxW L J) p) (nth (fxW L J) q) := by
  obtain ⟨_, N⟩ := nuc_of hJ
  have hl := alg_lat h
  have hl2 := alg_lat hok
  have m0 : 0 ≤ num (fxW L J) := by omega
  have hlen : num (fxU L J) = num (fxW L J) := upL_num _ m0
  obtain ⟨⟨eP, fP⟩, _⟩ := fx_is p0 p1
  obtain ⟨⟨eQ, fQ⟩, _⟩ := fx_is q0 q1
  have G : ∀ x y, 0 ≤ x → x < num (fxW L J) → 0 ≤ y → y < num (fxW L J) → bl (fxU L J) x y = bl L (nth (fxW L J) x) (nth (fxW L J) y) := fun x y x0 x1 y0 y1 => upL_bl (fxG L J) x0 x1 y0 y1
  have S : ∀ x y, 0 ≤ x → x < num (fxW L J) → 0 ≤ y → y < num (fxW L J) → tv (fxS L T J) x y = fxI J (nth J (tv T (nth (fxW L J) x) (nth (fxW L J) y))) := fun x y x0 x1 y0 y1 => tabL_tv (fxT L T J) x0 x1 y0 y1
  have eI := imp_el h (nth (fxW L J) p) (nth (fxW L J) q)
  have fI := nu_imp h hJ eP eQ fQ
  obtain ⟨i0, i1, i2⟩ := fx_at (L := L) (J := J) ⟨eI, fI⟩
  obtain ⟨i, hi⟩ : ∃ i, i = fxI J (imp L T (nth (fxW L J) p) (nth (fxW L J) q)) := ⟨_, rfl⟩
  rw [← hi] at i0 i1 i2
  have hp : El (fxU L J) p := ⟨p0, by omega⟩
  have hq : El (fxU L J) q := ⟨q0, by omega⟩
  have hii : El (fxU L J) i := ⟨i0, by omega⟩
  have eo := imp_el hok p q
  obtain ⟨o, ho⟩ : ∃ o, o = imp (fxU L J) (fxS L T J) p q := ⟨_, rfl⟩
  rw [← ho] at eo ⊢
  have o1 : o < num (fxW L J) := by have := eo.2; omega
  obtain ⟨⟨eO, fO⟩, _⟩ := fx_is eo.1 o1
  have e : o = i := by
    refine bl_anti hl2 eo hii ?_ ?_
    · rw [G o i eo.1 o1 i0 i1, i2]
      refine (imp_iff h eP eQ eO).1 ?_
      have hk := imp_ok hok hp hq
      rw [← ho, S p o p0 p1 eo.1 o1] at hk
      have hm := tv_el h eP eO
      obtain ⟨a0, a1, a2⟩ := fx_at (L := L) (J := J) ⟨N.el _ hm, N.own _ hm⟩
      rw [G _ q a0 a1 q0 q1, a2] at hk
      exact bl_trans hl hm (N.el _ hm) eQ (N.le _ hm) hk
    · rw [ho]
      refine (imp_iff hok hp hq hii).1 ?_
      have hm := tv_el h eP eI
      rw [S p i p0 p1 i0 i1, i2]
      obtain ⟨a0, a1, a2⟩ := fx_at (L := L) (J := J) ⟨N.el _ hm, N.own _ hm⟩
      rw [G _ q a0 a1 q0 q1, a2]
      have := N.mono _ _ hm eQ (imp_ok h eP eQ)
      rwa [fQ] at this
  rw [e, i2]
end Go.Proofs.Ytjcambkjcagcoaa
