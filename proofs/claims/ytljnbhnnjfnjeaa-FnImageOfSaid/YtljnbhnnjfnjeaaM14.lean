import Derived.Test.YtljnbhnnjfnjeaaM13
/- What is left by a filter: the classes in their order. -/
namespace Go.Proofs.Ytljnbhnnjfnjeaa

theorem nth_in {A : List Int} {p : Int} (p0 : 0 ≤ p) (h : p < A.length) : nth A p ∈ A := by
  unfold nth
  rw [List.getD_eq_getElem?_getD, List.getElem?_eq_getElem (show p.toNat < A.length by omega)]
  exact List.getElem_mem _
theorem in_nth {A : List Int} {v : Int} (h : v ∈ A) : ∃ i : Int, 0 ≤ i ∧ i < A.length ∧ nth A i = v := by
  obtain ⟨k, hk, e⟩ := List.getElem_of_mem h
  refine ⟨k, by omega, by omega, ?_⟩
  unfold nth
  rw [List.getD_eq_getElem?_getD, Int.toNat_natCast, List.getElem?_eq_getElem hk]
  exact e
/-- the least number of the class of the greatest element -/
def quZ (L : List Int) (T : List (List Int)) (f : Int) : Int := clsI L T f (num L - 1)
def quP (L : List Int) (T : List (List Int)) (f x : Int) : Bool := clsI L T f x == x && x != quZ L T f
/-- the least numbers of the classes in their order -/
def quW (L : List Int) (T : List (List Int)) (f : Int) : List Int := filtTo (quP L T f) (num L) ++ [quZ L T f]
/-- where a number stands among them -/
def quI (L : List Int) (T : List (List Int)) (f v : Int) : Int := firstI ((quW L T f).length : Int) fun i => nth (quW L T f) i == v
/-- the class of an element -/
def quC (L : List Int) (T : List (List Int)) (f x : Int) : Int := quI L T f (clsI L T f x)
def quT (L : List Int) (T : List (List Int)) (f : Int) : List Int := lstTo (quC L T f) (num L)
def quG (L : List Int) (T : List (List Int)) (f p q : Int) : Bool := ib f (imp L T (nth (quW L T f) p) (nth (quW L T f) q))
def quM (L : List Int) (T : List (List Int)) (f p q : Int) : Int := nth (quT L T f) (tv T (nth (quW L T f) p) (nth (quW L T f) q))
section
variable {L : List Int} {T : List (List Int)} {f : Int} (h : algB L T = true) (hf : filB L T f = true)
include h hf
theorem cls_el {x : Int} (hx : El L x) : El L (clsI L T f x) := ⟨(cls_ok h hf hx).1, by have := (cls_ok h hf hx).2.1; have := hx.2; omega⟩
theorem cls_idem {x : Int} (hx : El L x) : clsI L T f (clsI L T f x) = clsI L T f x := by
  have := cls_eq h hf (cls_el h hf hx) hx
  rw [cls_sym h (cls_ok h hf hx).2.2.1] at this
  exact beq_iff_eq.1 this
theorem quZ_el : El L (quZ L T f) := cls_el h hf (el_t (alg_lat h))
theorem quZ_idem : clsI L T f (quZ L T f) = quZ L T f := cls_idem h hf (el_t (alg_lat h))
omit h hf in
theorem quW_pos : 0 < (quW L T f).length := by unfold quW; simp
theorem quW_el {i : Int} (i0 : 0 ≤ i) (i1 : i < (quW L T f).length) : El L (nth (quW L T f) i) ∧ clsI L T f (nth (quW L T f) i) = nth (quW L T f) i := by
  have hm := nth_in i0 i1
  unfold quW at hm
  rw [List.mem_append, List.mem_singleton, filtTo_mem] at hm
  rcases hm with ⟨a, b, c⟩ | e
  · unfold quP at c
    rw [Bool.and_eq_true, beq_iff_eq] at c
    exact ⟨⟨a, b⟩, c.1⟩
  · unfold quW at *
    rw [e]
    exact ⟨quZ_el h hf, quZ_idem h hf⟩
theorem quW_has {x : Int} (hx : El L x) : clsI L T f x ∈ quW L T f := by
  unfold quW
  rw [List.mem_append, List.mem_singleton, filtTo_mem]
  by_cases e : clsI L T f x = quZ L T f
  · exact .inr e
  · refine .inl ⟨(cls_el h hf hx).1, (cls_el h hf hx).2, ?_⟩
    unfold quP
    rw [cls_idem h hf hx, beq_self_eq_true, Bool.true_and, bne_iff_ne]
    exact e
theorem quC_ok {x : Int} (hx : El L x) : 0 ≤ quC L T f x ∧ quC L T f x < (quW L T f).length ∧ nth (quW L T f) (quC L T f x) = clsI L T f x ∧ ∀ j, 0 ≤ j → j < quC L T f x → nth (quW L T f) j ≠ clsI L T f x := by
  obtain ⟨i, i0, i1, hi⟩ := in_nth (quW_has h hf hx)
  unfold quC quI
  rcases firstI_cases ((quW L T f).length : Int) (fun i => nth (quW L T f) i == clsI L T f x) with ⟨_, e⟩ | ⟨a, b, c, d⟩
  · have := e i i0 i1
    rw [beq_eq_false_iff_ne] at this
    exact absurd hi this
  · exact ⟨a, b, beq_iff_eq.1 c, fun j j0 j1 => beq_eq_false_iff_ne.1 (d j j0 j1)⟩
theorem quW_len : ((quW L T f).length : Int) ≤ num L := by
  obtain ⟨z0, z1⟩ := quZ_el h hf
  have hlt : ((List.range (num L).toNat).filter fun (j : Nat) => quP L T f j).length < (List.range (num L).toNat).length := by
    rw [List.length_filter_lt_length_iff_exists]
    refine ⟨(quZ L T f).toNat, by rw [List.mem_range]; omega, ?_⟩
    rw [Int.toNat_of_nonneg z0]
    unfold quP
    simp
  rw [List.length_range] at hlt
  unfold quW filtTo
  rw [List.length_append, List.length_map]
  simp
  omega
omit h hf in
theorem filt_inj (p : Int → Bool) : ∀ (n : Nat) (i j : Int), 0 ≤ i → i < j → j < (filtTo p n).length → nth (filtTo p n) i < nth (filtTo p n) j := by
  intro n
  induction n with
  | zero => intro i j _ _ h; rw [show filtTo p ((0 : Nat) : Int) = [] from rfl] at h; simp at h; omega
  | succ n ih =>
    intro i j i0 ij hj
    have e : filtTo p ((n + 1 : Nat) : Int) = if p n then filtTo p n ++ [(n : Int)] else filtTo p n := by rw [show ((n + 1 : Nat) : Int) = (n : Int) + 1 by omega, filtTo_nat]
    rw [e] at hj ⊢
    by_cases hp : p n = true
    · rw [if_pos hp] at hj ⊢
      rw [List.length_append] at hj
      have nl : ∀ k : Int, 0 ≤ k → k < (filtTo p n).length → nth (filtTo p n ++ [(n : Int)]) k = nth (filtTo p n) k := fun k k0 k1 => by
        unfold nth
        have : k.toNat < (filtTo p n).length := by omega
        simp [List.getElem?_append_left this]
      have hi : i < (filtTo p n).length := by simp at hj; omega
      rw [nl i i0 hi]
      by_cases hl : j < (filtTo p n).length
      · rw [nl j (by omega) hl]; exact ih i j i0 ij hl
      · have ej : j = (filtTo p n).length := by simp at hj; omega
        have en : nth (filtTo p n ++ [(n : Int)]) j = n := by rw [ej]; unfold nth; simp
        rw [en]
        have := (filtTo_mem p n _).1 (nth_in i0 hi)
        exact this.2.1
    · rw [if_neg hp] at hj ⊢
      exact ih i j i0 ij hj
omit hf in
/-- each class stands once -/
theorem quW_one {i j : Int} (i0 : 0 ≤ i) (ij : i < j) (j1 : j < (quW L T f).length) : nth (quW L T f) i ≠ nth (quW L T f) j := by
  have n0 := (lat_len (alg_lat h)).1
  have nn : num L = ((num L).toNat : Int) := by omega
  unfold quW at *
  rw [List.length_append] at j1
  have nl : ∀ k : Int, 0 ≤ k → k < (filtTo (quP L T f) (num L)).length → nth (filtTo (quP L T f) (num L) ++ [quZ L T f]) k = nth (filtTo (quP L T f) (num L)) k := fun k k0 k1 => by
    unfold nth
    have : k.toNat < (filtTo (quP L T f) (num L)).length := by omega
    simp [List.getElem?_append_left this]
  have hi : i < (filtTo (quP L T f) (num L)).length := by simp at j1; omega
  rw [nl i i0 hi]
  by_cases hl : j < (filtTo (quP L T f) (num L)).length
  · rw [nl j (by omega) hl]
    have := filt_inj (quP L T f) (num L).toNat i j i0 ij (by rw [← nn]; exact hl)
    rw [← nn] at this
    omega
  · have ej : j = (filtTo (quP L T f) (num L)).length := by simp at j1; omega
    have en : nth (filtTo (quP L T f) (num L) ++ [quZ L T f]) j = quZ L T f := by rw [ej]; unfold nth; simp
    rw [en]
    have := (filtTo_mem (quP L T f) (num L) _).1 (nth_in i0 hi)
    intro e
    rw [e] at this
    have := this.2.2
    unfold quP at this
    simp at this
theorem quC_uniq {x i : Int} (hx : El L x) (i0 : 0 ≤ i) (i1 : i < (quW L T f).length) (e : nth (quW L T f) i = clsI L T f x) : i = quC L T f x := by
  obtain ⟨a, b, c, d⟩ := quC_ok h hf hx
  rcases Int.lt_trichotomy i (quC L T f x) with l | l | l
  · exact absurd e (d i i0 l)
  · exact l
  · exact absurd (c.trans e.symm) (quW_one h a l i1)
/-- the class of a least number -/
theorem quC_W {i : Int} (i0 : 0 ≤ i) (i1 : i < (quW L T f).length) : quC L T f (nth (quW L T f) i) = i :=
  (quC_uniq h hf (quW_el h hf i0 i1).1 i0 i1 (quW_el h hf i0 i1).2.symm).symm
/-- the model's names -/
def quQ (L : List Int) (T : List (List Int)) (f x : Int) : Bool := quP L T f x && x != 0
omit h hf in
theorem quQ_is {x : Int} (x1 : 1 ≤ x) : quQ L T f x = (clsI L T f x == x && quZ L T f != x) := by
  unfold quQ quP
  rw [show (x != 0) = true by rw [bne_iff_ne]; omega, Bool.and_true]
  congr 1
  rw [Bool.eq_iff_iff, bne_iff_ne, bne_iff_ne]
  exact ⟨fun h e => h e.symm, fun h e => h e.symm⟩
theorem cls_0 : clsI L T f 0 = 0 := by
  have e0 := el_0 (alg_lat h)
  have := cls_ok h hf e0
  omega
theorem names_is : (0 :: filtTo (quQ L T f) (num L)) ++ (if quZ L T f != 0 then [quZ L T f] else []) = quW L T f := by
  have hl := alg_lat h
  have n0 := (lat_len hl).1
  have e0 := el_0 hl
  have et := el_t hl
  obtain ⟨m, hm⟩ : ∃ m : Nat, num L = (m : Int) + 1 := ⟨(num L - 1).toNat, by omega⟩
  by_cases hz : quZ L T f = 0
  · have hall : ∀ x, El L x → clsI L T f x = 0 := fun x hx => by
      have h1 : clsQ L T f (num L - 1) 0 = true := by
        have := cls_eq h hf et e0
        rw [cls_0 h hf] at this
        rw [← this, beq_iff_eq]; exact hz
      have h2 : clsQ L T f x (num L - 1) = true := by
        unfold clsQ at h1 ⊢
        rw [near_topE h hx]
        rw [nearI_comm h, near_topE h e0] at h1
        exact (fil_iff.1 hf).2.2 _ _ e0 hx h1 (bl_low hl hx)
      have := cls_eq h hf hx e0
      rw [cls_rel h hf hx et e0 h2 h1, cls_0 h hf] at this
      exact beq_iff_eq.1 this
    have f1 : filtTo (quQ L T f) (num L) = filtTo (fun _ => false) (num L) := filtTo_congr fun j j0 j1 => by
      unfold quQ quP
      rw [hall j ⟨j0, j1⟩]
      by_cases e : j = 0
      · subst e; simp
      · rw [show ((0 : Int) == j) = false by rw [beq_eq_false_iff_ne]; exact fun h => e h.symm]; rfl
    have f2 : filtTo (quP L T f) (num L) = filtTo (fun _ => false) (num L) := filtTo_congr fun j j0 j1 => by
      unfold quP
      rw [hall j ⟨j0, j1⟩, hz]
      by_cases e : j = 0
      · subst e; simp
      · rw [show ((0 : Int) == j) = false by rw [beq_eq_false_iff_ne]; exact fun h => e h.symm]; rfl
    have f3 : filtTo (fun _ => false) (num L) = [] := by unfold filtTo; simp
    unfold quW
    rw [f1, f2, f3, hz]; rfl
  · have hb : (quZ L T f != 0) = true := by rw [bne_iff_ne]; exact hz
    have key : ∀ k : Nat, filtTo (quP L T f) ((k : Int) + 1) = 0 :: filtTo (quQ L T f) ((k : Int) + 1) := by
      intro k
      induction k with
      | zero =>
        have p0 : quP L T f 0 = true := by
          unfold quP
          rw [cls_0 h hf, beq_self_eq_true, Bool.true_and, bne_iff_ne]
          exact fun e => hz e.symm
        have q0 : quQ L T f 0 = false := by unfold quQ; simp
        rw [show (((0 : Nat) : Int) + 1) = 0 + 1 by rfl, filtTo_succ _ 0 (by omega), filtTo_succ _ 0 (by omega), p0, q0]
        rfl
      | succ k ih =>
        rw [filtTo_succ _ ((k + 1 : Nat) : Int) (by omega), filtTo_succ _ ((k + 1 : Nat) : Int) (by omega)]
        have e : quQ L T f ((k + 1 : Nat) : Int) = quP L T f ((k + 1 : Nat) : Int) := by
          unfold quQ
          rw [show (((k + 1 : Nat) : Int) != 0) = true by rw [bne_iff_ne]; omega, Bool.and_true]
        rw [e, show ((k + 1 : Nat) : Int) = (k : Int) + 1 by omega, ih]
        split <;> rfl
    unfold quW
    rw [hb, if_pos rfl, hm, key m]
/-- the model's least elements, from the last one down -/
def quF (L : List Int) (T : List (List Int)) (f : Int) : Nat → List Int
  | 0 => List.replicate (quW L T f).length 0
  | k + 1 => (quF L T f k).set (quC L T f (num L - 1 - k)).toNat (num L - 1 - k)
omit h hf in
theorem quF_len : ∀ k, (quF L T f k).length = (quW L T f).length
  | 0 => by simp [quF]
  | k + 1 => by simp only [quF, List.length_set]; exact quF_len k
theorem quF_at : ∀ k : Nat, (k : Int) ≤ num L → ∀ i : Int, 0 ≤ i → i < (quW L T f).length → num L - k ≤ nth (quW L T f) i → nth (quF L T f k) i = nth (quW L T f) i
  | 0, _, i, i0, i1, hi => by have := (quW_el h hf i0 i1).1.2; omega
  | k + 1, hk, i, i0, i1, hi => by
    have hx : El L (num L - 1 - k) := ⟨by omega, by omega⟩
    have hlen := quF_len (L := L) (T := T) (f := f) k
    obtain ⟨c0, c1, c2, _⟩ := quC_ok h hf hx
    have hc := cls_ok h hf hx
    show nth ((quF L T f k).set (quC L T f (num L - 1 - k)).toNat (num L - 1 - k)) i = _
    by_cases e : quC L T f (num L - 1 - k) = i
    · have ew : nth (quW L T f) i = clsI L T f (num L - 1 - k) := by rw [← e]; exact c2
      have : nth ((quF L T f k).set (quC L T f (num L - 1 - k)).toNat (num L - 1 - k)) i = num L - 1 - k := by
        unfold nth
        rw [e, List.getD_eq_getElem?_getD, List.getElem?_set_self (by omega)]
        rfl
      rw [this]
      omega
    · have : nth ((quF L T f k).set (quC L T f (num L - 1 - k)).toNat (num L - 1 - k)) i = nth (quF L T f k) i := by
        unfold nth
        rw [List.getD_eq_getElem?_getD, List.getD_eq_getElem?_getD, List.getElem?_set_ne (by omega)]
      rw [this]
      refine quF_at k (by omega) i i0 i1 ?_
      by_cases ex : nth (quW L T f) i = num L - 1 - k
      · exfalso
        apply e
        rw [← ex]
        exact quC_W h hf i0 i1
      · omega
theorem quF_end {i : Int} (i0 : 0 ≤ i) (i1 : i < (quW L T f).length) : nth (quF L T f (num L).toNat) i = nth (quW L T f) i := by
  have := (quW_el h hf i0 i1).1.1
  have := (lat_len (alg_lat h)).1
  exact quF_at h hf _ (by omega) i i0 i1 (by omega)
theorem quM_is {p q : Int} (p0 : 0 ≤ p) (p1 : p < (quW L T f).length) (q0 : 0 ≤ q) (q1 : q < (quW L T f).length) : quM L T f p q = quC L T f (tv T (nth (quW L T f) p) (nth (quW L T f) q)) := by
  have := tv_el h (quW_el h hf p0 p1).1 (quW_el h hf q0 q1).1
  unfold quM quT
  rw [lstTo_nth _ this.1 this.2]
end
end Go.Proofs.Ytljnbhnnjfnjeaa
