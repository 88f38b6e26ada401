import Derived.Test.YtljnbhnnjfnjeaaMP0
namespace Go.Proofs.Ytljnbhnnjfnjeaa
set_option linter.unusedVariables false

/-- an element's value comes nowhere ahead of it -/
def newQ (F : List Int) (x : Int) : Bool := allI x fun y => nth F y != nth F x
theorem or_ib : ∀ s : Fin 64, ∀ x : Fin 6, ∀ y : Fin 6, ib (orI (s.val : Int) (pw (x.val : Int))) (y.val : Int) = (ib (s.val : Int) (y.val : Int) || decide ((x.val : Int) = (y.val : Int))) := by decide +kernel
theorem or_wt : ∀ s : Fin 64, ∀ x : Fin 6, wt (orI (s.val : Int) (pw (x.val : Int))) = wt (s.val : Int) + if ib (s.val : Int) (x.val : Int) then 0 else 1 := by decide +kernel
theorem or_lt : ∀ m : Fin 7, ∀ s : Fin 64, ∀ x : Fin 6, (x.val : Int) < (m.val : Int) → (s.val : Int) < pw (m.val : Int) → orI (s.val : Int) (pw (x.val : Int)) < pw (m.val : Int) := by decide +kernel
section
variable {F : List Int} (hF : ∀ k, 0 ≤ k → k < num F → 0 ≤ nth F k ∧ nth F k < 6)
include hF
theorem setL_ib {y : Int} (y0 : 0 ≤ y) (y6 : y < 6) : ∀ k : Nat, k ≤ F.length → ib (setL (F.take k)) y = !(allI k fun i => nth F i != y)
 | 0, _ => by
  have : ∀ y : Fin 6, ib (setL []) (y.val : Int) = false := by decide +kernel
  have := this ⟨y.toNat, by omega⟩
  rw [show (((⟨y.toNat, by omega⟩ : Fin 6).val : Nat) : Int) = y by simp; omega] at this
  rw [List.take_zero, this]; rfl
 | k + 1, hk => by
  have hn : num F = F.length := rfl
  have ih := setL_ib y0 y6 k (by omega)
  have ht := take_next F (i := (k : Int)) (by omega) (by omega)
  obtain ⟨v0, v6⟩ := hF k (by omega) (by omega)
  obtain ⟨s0, s6⟩ := setL_64 hF k
  rw [show ((k : Int) + 1).toNat = k + 1 by omega, Int.toNat_natCast] at ht
  rw [ht, setL_snoc]
  have hb := or_ib ⟨(setL (F.take k)).toNat, by omega⟩ ⟨(nth F k).toNat, by omega⟩ ⟨y.toNat, by omega⟩
  simp only [Int.toNat_of_nonneg s0, Int.toNat_of_nonneg v0, Int.toNat_of_nonneg y0] at hb
  rw [hb, ih]
  have ha : allI ((k : Int) + 1) (fun i => nth F i != y) = (allI k (fun i => nth F i != y) && (nth F k != y)) := allI_succ (k : Int) (by omega) _
  rw [show ((k + 1 : Nat) : Int) = (k : Int) + 1 from rfl, ha]
  cases hq : allI k fun i => nth F i != y <;> by_cases hv : nth F k = y <;> simp [hv]
theorem setL_wt : ∀ k : Nat, k ≤ F.length → wt (setL (F.take k)) = ((filtTo (newQ F) k).length : Int)
 | 0, _ => by rw [List.take_zero, show wt (setL []) = 0 by decide +kernel]; rfl
 | k + 1, hk => by
  have hn : num F = F.length := rfl
  have ih := setL_wt k (by omega)
  have ht := take_next F (i := (k : Int)) (by omega) (by omega)
  obtain ⟨v0, v6⟩ := hF k (by omega) (by omega)
  obtain ⟨s0, s6⟩ := setL_64 hF k
  rw [show ((k : Int) + 1).toNat = k + 1 by omega, Int.toNat_natCast] at ht
  have hi := setL_ib hF v0 v6 k (by omega)
  rw [ht, setL_snoc]
  have hb := or_wt ⟨(setL (F.take k)).toNat, by omega⟩ ⟨(nth F k).toNat, by omega⟩
  simp only [Int.toNat_of_nonneg s0, Int.toNat_of_nonneg v0] at hb
  rw [hb, ih, hi, show ((k + 1 : Nat) : Int) = (k : Int) + 1 from rfl, filtTo_succ _ _ (by omega)]
  have hw : newQ F k = allI k fun i => nth F i != nth F k := rfl
  rw [← hw]
  cases newQ F k <;> simp
theorem setL_pw {m : Int} (m6 : m ≤ 6) (hm : ∀ k, 0 ≤ k → k < num F → nth F k < m) (m0 : 0 ≤ m) : ∀ k : Nat, k ≤ F.length → setL (F.take k) < pw m
 | 0, _ => by rw [List.take_zero]; exact pw_pos m
 | k + 1, hk => by
  have hn : num F = F.length := rfl
  have ih := setL_pw m6 hm m0 k (by omega)
  have ht := take_next F (i := (k : Int)) (by omega) (by omega)
  obtain ⟨v0, v6⟩ := hF k (by omega) (by omega)
  have vm := hm k (by omega) (by omega)
  obtain ⟨s0, s6⟩ := setL_64 hF k
  rw [show ((k : Int) + 1).toNat = k + 1 by omega, Int.toNat_natCast] at ht
  rw [ht, setL_snoc]
  have hb := or_lt ⟨m.toNat, by omega⟩ ⟨(setL (F.take k)).toNat, by omega⟩ ⟨(nth F k).toNat, by omega⟩
  simp only [Int.toNat_of_nonneg s0, Int.toNat_of_nonneg v0, Int.toNat_of_nonneg m0] at hb
  exact hb vm ih
end
theorem filt_but (p : Int → Bool) {z : Int} (hz : p z = true) (z0 : 0 ≤ z) : ∀ k : Nat, (filtTo (fun x => p x && x != z) k).length + (if z < k then 1 else 0) = (filtTo p k).length
 | 0 => by rw [if_neg (by omega)]; rfl
 | k + 1 => by
  have ih := filt_but p hz z0 k
  rw [show ((k + 1 : Nat) : Int) = (k : Int) + 1 from rfl, filtTo_succ _ _ (by omega), filtTo_succ _ _ (by omega)]
  by_cases e : (k : Int) = z
  ·have hpk : p (k : Int) = true := by rw [e]; exact hz
   have hnk : ((k : Int) != z) = false := by simp [e]
   rw [if_neg (by omega), Nat.add_zero] at ih
   rw [hpk, hnk, if_neg (by simp), if_pos rfl, if_pos (by omega), List.length_append, ih]
   rfl
  ·have hk : ((k : Int) != z) = true := by simp [e]
   rw [hk, Bool.and_true]
   cases p k with
   | false => simp only [Bool.false_eq_true, if_false]; rw [← ih]; congr 1; by_cases h : z < (k : Int) <;> simp [h] <;> omega
   | true => simp only [if_true, List.length_append]; rw [← ih]; by_cases h : z < (k : Int) <;> simp [h] <;> omega
section
variable {L : List Int} {T : List (List Int)} {M : List Int} {U : List (List Int)} {F : List Int} (h : MapF L T M U F)
include h
theorem MapF.r6 : ∀ k, 0 ≤ k → k < num F → 0 ≤ nth F k ∧ nth F k < 6 := fun k k0 k1 => by
 have := h.rng k k0 (by have := h.len; omega)
 have h6 := (lat_len (alg_lat h.a2)).2
 exact ⟨this.1, by have := this.2; omega⟩
/-- as many classes by the kernel as the image has elements -/
theorem MapF.count : ((quW L T (rowTo (kerQ M F) (num F))).length : Int) = wt (setL F) := by
 obtain ⟨f, hf⟩ : ∃ f, f = rowTo (kerQ M F) (num F) := ⟨_, rfl⟩
 have hfil : filB L T f = true := by have := h.fil; rw [← hf] at this; unfold isFilB at this; exact (Bool.and_eq_true_iff.1 this).2
 have hc : ∀ {x y : Int}, El L x → El L y → clsQ L T f x y = (nth F x == nth F y) := fun hx hy => by rw [hf]; exact h.cls hx hy
 rw [← hf]
 have hlen := h.len
 have n1 := (lat_len (alg_lat h.a1)).1
 have e1 : setL F = setL (F.take F.length) := by rw [List.take_length]
 have hn : num F = F.length := rfl
 rw [e1, setL_wt h.r6 F.length (Nat.le_refl _)]
 obtain ⟨N, hN⟩ : ∃ N : Nat, num L = N := ⟨L.length, rfl⟩
 have hNF : (F.length : Int) = N := by omega
 have hNF2 : F.length = N := by omega
 have hqz := quZ_el h.a1 hfil
 have hqi := quZ_idem h.a1 hfil
 unfold quW
 rw [List.length_append, List.length_singleton, hN]
 have hp := filt_but (fun x => clsI L T f x == x) (z := quZ L T f) (by simp only [beq_iff_eq]; exact hqi) hqz.1 N
 rw [if_pos (by have := hqz.2; omega)] at hp
 have e2 : filtTo (quP L T f) N = filtTo (fun x => (clsI L T f x == x) && x != quZ L T f) N := rfl
 rw [e2, hp, hNF2]
 congr 1
 refine congrArg List.length (filtTo_congr fun x x0 x1 => ?_)
 have hx : El L x := ⟨x0, by omega⟩
 obtain ⟨c0, c1, c2, c3⟩ := cls_ok h.a1 hfil hx
 rw [Bool.eq_iff_iff, beq_iff_eq]
 unfold newQ
 rw [allI_iff]
 constructor
 ·intro e y y0 y1
  have := c3 y y0 (by omega)
  rw [hc hx ⟨y0, by omega⟩] at this
  rw [bne_iff_ne]
  intro e2
  rw [e2, beq_self_eq_true] at this
  cases this
 ·intro hall
  by_cases e : clsI L T f x = x
  ·exact e
  ·have := hall (clsI L T f x) c0 (by omega)
   rw [hc hx ⟨c0, by omega⟩, beq_iff_eq] at c2
   rw [c2, bne_self_eq_false] at this
   cases this
theorem MapF.has {y : Int} (y0 : 0 ≤ y) (y6 : y < 6) : ib (setL F) y = true ↔ ∃ x, El L x ∧ nth F x = y := by
 have hlen := h.len
 have hn : num F = F.length := rfl
 have e1 := setL_ib h.r6 y0 y6 F.length (Nat.le_refl _)
 rw [List.take_length] at e1
 rw [e1, Bool.not_eq_true', ← Bool.not_eq_true, allI_iff]
 constructor
 ·intro hh
  refine Classical.byContradiction fun hc => hh fun i i0 i1 => ?_
  rw [bne_iff_ne]
  intro e
  exact hc ⟨i, ⟨i0, by omega⟩, e⟩
 ·rintro ⟨x, hx, e⟩ hh
  have := hh x hx.1 (by have := hx.2; omega)
  rw [e, bne_self_eq_false] at this
  cases this
/-- the image is a part -/
theorem MapF.part : prB M U (setL F) = true ∧ 0 ≤ setL F ∧ setL F < pw (num M) := by
 have hm := lat_len (alg_lat h.a2)
 have hn1 := lat_len (alg_lat h.a1)
 have hlen := h.len
 have hn : num F = F.length := rfl
 have key : ∀ {y : Int}, El M y → (ib (setL F) y = true ↔ ∃ x, El L x ∧ nth F x = y) := fun hy => h.has hy.1 (by have := hy.2; omega)
 refine ⟨?_, ?_, ?_⟩
 ·unfold prB
  rw [Bool.and_eq_true, Bool.and_eq_true, all2_iff]
  refine ⟨⟨(key ⟨by omega, by omega⟩).2 ⟨0, ⟨by omega, by omega⟩, h.bot⟩, (key (el_t (alg_lat h.a2))).2 ⟨_, el_t (alg_lat h.a1), h.top⟩⟩, fun x y x0 x1 y0 y1 => ?_⟩
  have hx : El M x := ⟨x0, x1⟩
  have hy : El M y := ⟨y0, y1⟩
  unfold ptQ
  cases hix : ib (setL F) x with
  | false => rfl
  | true =>
   cases hiy : ib (setL F) y with
   | false => rfl
   | true =>
    obtain ⟨p, hp, ep⟩ := (key hx).1 hix
    obtain ⟨q, hq, eq⟩ := (key hy).1 hiy
    rw [(key (tv_el h.a2 hx hy)).2 ⟨_, tv_el h.a1 hp hq, by rw [h.tv _ _ hp hq, ep, eq]⟩, (key (imp_el h.a2 x y)).2 ⟨_, imp_el h.a1 p q, by rw [h.imp _ _ hp hq, ep, eq]⟩, (key (mt_el (alg_lat h.a2) hx hy)).2 ⟨_, mt_el (alg_lat h.a1) hp hq, by rw [h.mt _ _ hp hq, ep, eq]⟩, (key (jn_el (alg_lat h.a2) hx hy)).2 ⟨_, jn_el (alg_lat h.a1) hp hq, by rw [h.jn _ _ hp hq, ep, eq]⟩]
    rfl
 ·have := (setL_64 h.r6 F.length).1
  rwa [List.take_length] at this
 ·have := setL_pw h.r6 (m := num M) hm.2 (fun k k0 k1 => (h.rng k k0 (by omega)).2) (by omega) F.length (Nat.le_refl _)
  rwa [List.take_length] at this
end
end Go.Proofs.Ytljnbhnnjfnjeaa
