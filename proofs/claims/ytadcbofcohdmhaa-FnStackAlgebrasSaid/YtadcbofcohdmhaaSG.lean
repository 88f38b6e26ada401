import Derived.Test.YtadcbofcohdmhaaSL0
namespace Go.Proofs.Ytadcbofcohdmhaa
open Go.RowKit

/-! Bent algebras that are valid are among the fifty. -/
def comB (L : List Int) (T : List (List Int)) : Bool := allI (num L) fun x => allI (num L) fun y => tv T x y == tv T y x
def assB (L : List Int) (T : List (List Int)) : Bool := allI (num L) fun x => allI (num L) fun y => allI (num L) (asQ T x y)
def topB (L : List Int) (T : List (List Int)) : Bool := allI (num L) fun x => tv T x (num L - 1) == x && tv T x 0 == 0
def quick (L : List Int) (T : List (List Int)) : Bool := shapeB L T && (topB L T && (comB L T && (voB L && assB L T)))
theorem alg_quick {L : List Int} {T : List (List Int)} (h : algB L T = true) : quick L T = true := by
  have hs := alg_shape h
  have h1 : topB L T = true := (allI_iff _ _).2 fun x x0 x1 => by
    obtain ⟨e1, e2, _⟩ := alg_x h (show El L x from ⟨x0, x1⟩)
    rw [e1, e2]; simp
  have h2 : comB L T = true := (allI_iff _ _).2 fun x x0 x1 => (allI_iff _ _).2 fun y y0 y1 => by
    rw [tv_comm h (show El L x from ⟨x0, x1⟩) (show El L y from ⟨y0, y1⟩)]; simp
  have h3 : assB L T = true := (allI_iff _ _).2 fun x x0 x1 => (allI_iff _ _).2 fun y y0 y1 => (allI_iff _ _).2 fun z z0 z1 => by
    unfold asQ
    rw [tv_assoc h (show El L x from ⟨x0, x1⟩) (show El L y from ⟨y0, y1⟩) (show El L z from ⟨z0, z1⟩)]; simp
  have h4 : voB L = true := by
    have := alg_lat h
    unfold latB at this
    exact (Bool.and_eq_true_iff.1 this).1
  unfold quick
  rw [hs, h1, h2, h3, h4]; rfl
def okBent (p : List Int × List (List Int)) : Bool := (bents p.1 p.2).all fun q => (q.1 == p.1 && q.2 == p.2) || (!quick q.1 q.2 || (goods.contains q || !algB q.1 q.2))
theorem goods_bent0 : ((goods.drop 0).take 5).all okBent = true := by decide +kernel
theorem goods_bent1 : ((goods.drop 5).take 5).all okBent = true := by decide +kernel
theorem goods_bent2 : ((goods.drop 10).take 5).all okBent = true := by decide +kernel
theorem goods_bent3 : ((goods.drop 15).take 5).all okBent = true := by decide +kernel
theorem goods_bent4 : ((goods.drop 20).take 5).all okBent = true := by decide +kernel
theorem goods_bent5 : ((goods.drop 25).take 5).all okBent = true := by decide +kernel
theorem goods_bent6 : ((goods.drop 30).take 5).all okBent = true := by decide +kernel
theorem goods_bent7 : ((goods.drop 35).take 5).all okBent = true := by decide +kernel
theorem goods_bent8 : ((goods.drop 40).take 5).all okBent = true := by decide +kernel
theorem goods_bent {p q : List Int × List (List Int)} (hp : p ∈ goods.take 45) (hq : q ∈ bents p.1 p.2) (h : algB q.1 q.2 = true) : q ∈ goods := by
  have e : goods.take 45 = (goods.drop 0).take 5 ++ ((goods.drop 5).take 5 ++ ((goods.drop 10).take 5 ++ ((goods.drop 15).take 5 ++ ((goods.drop 20).take 5 ++ ((goods.drop 25).take 5 ++ ((goods.drop 30).take 5 ++ ((goods.drop 35).take 5 ++ (goods.drop 40).take 5))))))) := by rfl
  have hok : okBent p = true := by
    rw [e] at hp
    simp only [List.mem_append] at hp
    rcases hp with hp | hp | hp | hp | hp | hp | hp | hp | hp
    · exact List.all_eq_true.1 goods_bent0 p hp
    · exact List.all_eq_true.1 goods_bent1 p hp
    · exact List.all_eq_true.1 goods_bent2 p hp
    · exact List.all_eq_true.1 goods_bent3 p hp
    · exact List.all_eq_true.1 goods_bent4 p hp
    · exact List.all_eq_true.1 goods_bent5 p hp
    · exact List.all_eq_true.1 goods_bent6 p hp
    · exact List.all_eq_true.1 goods_bent7 p hp
    · exact List.all_eq_true.1 goods_bent8 p hp
  have := List.all_eq_true.1 hok q hq
  rw [alg_quick h, h] at this
  simp only [Bool.not_true, Bool.or_false, Bool.false_or, Bool.or_eq_true, Bool.and_eq_true, beq_iff_eq, List.contains_iff_mem] at this
  rcases this with ⟨e1, e2⟩ | h
  · have : q = p := Prod.ext e1 e2
    rw [this]; exact List.mem_of_mem_take hp
  · exact h
end Go.Proofs.Ytadcbofcohdmhaa

namespace Go.Proofs.Ytadcbofcohdmhaa
open Go.RowKit

theorem someP_good {L : List Int} {T : List (List Int)} (h : SomeP L T) (ha : algB L T = true) : (L, T) ∈ goods := by
  obtain ⟨L0, T0, hG, hb⟩ := h
  rcases hb with ⟨rfl, rfl⟩ | hb
  · exact hG.mem
  · exact goods_bent (p := (L0, T0)) (q := (L, T)) hG hb ha
theorem sg_all {P : List Int × List (List Int) → Bool} (h : goods.all P = true) {L : List Int} {T : List (List Int)} (hm : (L, T) ∈ goods) : P (L, T) = true := (List.all_eq_true.1 h) _ hm
end Go.Proofs.Ytadcbofcohdmhaa
