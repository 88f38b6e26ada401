import Derived.Test.YtjcambkjcagcoaaM10
import Derived.Test.YtjcambkjcagcoaaB5
import Derived.Test.YtjcambkjcagcoaaP2
import Derived.Test.YtjcambkjcagcoaaG9
import Derived.Test.YtjcambkjcagcoaaA5
import Derived.Deep.RegionHeld3
import Derived.Deep.AppendLies
import Derived.Test.YtjcambkjcagcoaaG3
/- What a nucleus leaves. -/
namespace Go.Proofs.Ytjcambkjcagcoaa

theorem nth_left {A B : List Int} {p : Int} (p0 : 0 ≤ p) (h : p < A.length) : nth (A ++ B) p = nth A p := by
  unfold nth
  have : p.toNat < A.length := by omega
  simp [List.getElem?_append_left this]
theorem nth_last {A : List Int} {v : Int} : nth (A ++ [v]) (A.length : Int) = v := by
  unfold nth
  simp
theorem filt_idx (P : Int → Bool) : ∀ (n : Nat) (p : Int), 0 ≤ p → p < (filtTo P n).length → P (nth (filtTo P n) p) = true ∧ 0 ≤ nth (filtTo P n) p ∧ nth (filtTo P n) p < n ∧ ((filtTo P (nth (filtTo P n) p)).length : Int) = p
  | 0, p, p0, h => by rw [show filtTo P ((0 : Nat) : Int) = [] from rfl] at h; simp at h; omega
  | n + 1, p, p0, h => by
    have e : filtTo P ((n + 1 : Nat) : Int) = if P n then filtTo P n ++ [(n : Int)] else filtTo P n := by rw [show ((n + 1 : Nat) : Int) = (n : Int) + 1 by omega, filtTo_nat]
    rw [e] at h ⊢
    by_cases hp : P n = true
    · rw [if_pos hp] at h ⊢
      rw [List.length_append] at h
      by_cases hl : p < (filtTo P n).length
      · rw [nth_left p0 hl]
        obtain ⟨a, b, c, d⟩ := filt_idx P n p p0 hl
        exact ⟨a, b, by omega, d⟩
      · have ep : p = (filtTo P n).length := by simp at h; omega
        subst ep
        rw [nth_last]
        exact ⟨hp, by omega, by omega, rfl⟩
    · rw [if_neg hp] at h ⊢
      obtain ⟨a, b, c, d⟩ := filt_idx P n p p0 h
      exact ⟨a, b, by omega, d⟩
theorem filt_at (P : Int → Bool) : ∀ (n : Nat) (x : Int), 0 ≤ x → x < n → P x = true → (filtTo P x).length < (filtTo P n).length ∧ nth (filtTo P n) ((filtTo P x).length : Int) = x
  | 0, x, x0, h, _ => absurd h (by omega)
  | n + 1, x, x0, h, hx => by
    have e : filtTo P ((n + 1 : Nat) : Int) = if P n then filtTo P n ++ [(n : Int)] else filtTo P n := by rw [show ((n + 1 : Nat) : Int) = (n : Int) + 1 by omega, filtTo_nat]
    rw [e]
    by_cases ex : x = n
    · subst ex
      rw [if_pos hx, List.length_append, nth_last]
      exact ⟨by simp, rfl⟩
    · obtain ⟨a, b⟩ := filt_at P n x x0 (by omega) hx
      by_cases hp : P n = true
      · rw [if_pos hp, List.length_append, nth_left (by omega) (by omega)]
        exact ⟨by omega, b⟩
      · rw [if_neg hp]
        exact ⟨a, b⟩
def fxP (J : List Int) (x : Int) : Bool := nth J x == x
def fxW (L J : List Int) : List Int := filtTo (fxP J) (num L)
def fxI (J : List Int) (v : Int) : Int := (filtTo (fxP J) v).length
def fxG (L J : List Int) (p q : Int) : Bool := bl L (nth (fxW L J) p) (nth (fxW L J) q)
def fxT (L : List Int) (T : List (List Int)) (J : List Int) (p q : Int) : Int := fxI J (nth J (tv T (nth (fxW L J) p) (nth (fxW L J) q)))
def fxU (L J : List Int) : List Int := upL (fxG L J) (num (fxW L J))
def fxS (L : List Int) (T : List (List Int)) (J : List Int) : List (List Int) := tabL (fxT L T J) (num (fxW L J))
/-- an element that is its own -/
def Fx (L J : List Int) (v : Int) : Prop := El L v ∧ nth J v = v
theorem fx_at {L J : List Int} {v : Int} (h : Fx L J v) : 0 ≤ fxI J v ∧ fxI J v < num (fxW L J) ∧ nth (fxW L J) (fxI J v) = v := by
  obtain ⟨⟨v0, v1⟩, hv⟩ := h
  have := filt_at (fxP J) (num L).toNat v v0 (by omega) (by unfold fxP; rw [hv]; simp)
  rw [Int.toNat_of_nonneg (show 0 ≤ num L by omega)] at this
  unfold fxI fxW
  exact ⟨by omega, by unfold num; have := this.1; unfold num at this; omega, this.2⟩
theorem fx_is {L J : List Int} {p : Int} (p0 : 0 ≤ p) (p1 : p < num (fxW L J)) : Fx L J (nth (fxW L J) p) ∧ fxI J (nth (fxW L J) p) = p := by
  have hn : 0 ≤ num L := by unfold num; omega
  have := filt_idx (fxP J) (num L).toNat p p0 (by rw [Int.toNat_of_nonneg hn]; exact p1)
  rw [Int.toNat_of_nonneg hn] at this
  obtain ⟨a, b, c, d⟩ := this
  unfold fxP at a
  rw [beq_iff_eq] at a
  exact ⟨⟨⟨b, c⟩, a⟩, d⟩
/-- the laws of nuclei -/
structure Nuc (L : List Int) (T : List (List Int)) (J : List Int) : Prop where
  el : ∀ x, El L x → El L (nth J x)
  le : ∀ x, El L x → bl L x (nth J x) = true
  own : ∀ x, El L x → nth J (nth J x) = nth J x
  mono : ∀ x y, El L x → El L y → bl L x y = true → bl L (nth J x) (nth J y) = true
  tim : ∀ x y, El L x → El L y → bl L (tv T (nth J x) (nth J y)) (nth J (tv T x y)) = true
theorem nuc_of {L : List Int} {T : List (List Int)} {J : List Int} (h : snB L T J = true) : num J = num L ∧ Nuc L T J := by
  unfold snB at h
  simp only [Bool.and_eq_true, decide_eq_true_eq] at h
  obtain ⟨h1, h2, h3⟩ := h
  rw [mpR_all] at h2
  have e : ∀ x, El L x → (bl L x (nth J x) = true ∧ nth J (nth J x) = nth J x) ∧ ∀ y, El L y → ((bl L x y && !bl L (nth J x) (nth J y)) = false ∧ bl L (tv T (nth J x) (nth J y)) (nth J (tv T x y)) = true) := fun x hx => by
    have := (allI_iff _ _).1 h3 x hx.1 hx.2
    unfold snX at this
    rw [Bool.and_eq_true, Bool.not_eq_true', Bool.or_eq_false_iff, Bool.not_eq_false', bne_eq_false_iff_eq] at this
    refine ⟨this.1, fun y hy => ?_⟩
    have := (allI_iff _ _).1 this.2 y hy.1 hy.2
    unfold snQ at this
    rw [Bool.not_eq_true', Bool.or_eq_false_iff, Bool.not_eq_false'] at this
    exact this
  refine ⟨h1, fun x hx => h2 x hx.1 hx.2, fun x hx => (e x hx).1.1, fun x hx => (e x hx).1.2, fun x y hx hy hb => ?_, fun x y hx hy => ((e x hx).2 y hy).2⟩
  have := ((e x hx).2 y hy).1
  rw [hb] at this
  simpa using this
theorem fx_alg_iff {L : List Int} {T : List (List Int)} {J : List Int} (h : algB L T = true) (hJ : snB L T J = true) : algB (fxU L J) (fxS L T J) = true ↔ nth (fxW L J) 0 = nth J 0 := by
  obtain ⟨_, N⟩ := nuc_of hJ
  have hl := alg_lat h
  have n1 := (lat_len hl).1
  have n6 := (lat_len hl).2
  have e0 := el_0 hl
  have et := el_t hl
  have hfj : ∀ x, El L x → Fx L J (nth J x) := fun x hx => ⟨N.el x hx, N.own x hx⟩
  have htop : Fx L J (num L - 1) := ⟨et, top_of hl (N.el _ et) (N.le _ et)⟩
  have m1 : 1 ≤ num (fxW L J) := by have := fx_at htop; omega
  have m6 : num (fxW L J) ≤ 6 := by have := filtTo_len (fxP J) (num L); unfold fxW num at *; omega
  obtain ⟨m, hm⟩ : ∃ m, m = num (fxW L J) := ⟨_, rfl⟩
  have W : ∀ p, 0 ≤ p → p < m → Fx L J (nth (fxW L J) p) ∧ fxI J (nth (fxW L J) p) = p := fun p p0 p1 => fx_is p0 (by rw [← hm]; exact p1)
  have I : ∀ v, Fx L J v → 0 ≤ fxI J v ∧ fxI J v < m ∧ nth (fxW L J) (fxI J v) = v := fun v hv => by rw [hm]; exact fx_at hv
  have hlen : num (fxU L J) = m := by rw [hm]; exact upL_num _ (by omega)
  have G : ∀ p q, 0 ≤ p → p < m → 0 ≤ q → q < m → bl (fxU L J) p q = bl L (nth (fxW L J) p) (nth (fxW L J) q) := fun p q p0 p1 q0 q1 => upL_bl (fxG L J) p0 (by rw [← hm]; exact p1) q0 (by rw [← hm]; exact q1)
  constructor
  · intro ha
    have hl2 := alg_lat ha
    obtain ⟨i0, i1, i2⟩ := I _ (hfj 0 e0)
    have b := bl_low hl2 (x := fxI J (nth J 0)) ⟨i0, by rw [hlen]; exact i1⟩
    rw [G 0 _ (by omega) (by omega) i0 i1, i2] at b
    obtain ⟨f0, _⟩ := W 0 (by omega) (by omega)
    have c := N.mono 0 _ e0 f0.1 (bl_low hl f0.1)
    rw [f0.2] at c
    exact bl_anti hl f0.1 (N.el 0 e0) b c
  · intro h0
    have meetF : ∀ u v, Fx L J u → Fx L J v → Fx L J (mt L u v) := fun u v hu hv => by
      have hm := mt_el hl hu.1 hv.1
      refine ⟨hm, bl_anti hl (N.el _ hm) hm (mt_ge hl hu.1 hv.1 (N.el _ hm) ?_ ?_) (N.le _ hm)⟩
      · have := N.mono _ _ hm hu.1 (mt_lb1 hl hu.1 hv.1); rwa [hu.2] at this
      · have := N.mono _ _ hm hv.1 (mt_lb2 hl hu.1 hv.1); rwa [hv.2] at this
    have joinF : ∀ u v z, Fx L J u → Fx L J v → Fx L J z → bl L u z = true → bl L v z = true → bl L (nth J (jn L u v)) z = true := fun u v z hu hv hz a b => by
      have := N.mono _ _ (jn_el hl hu.1 hv.1) hz.1 (jn_le hl hu.1 hv.1 hz.1 a b)
      rwa [hz.2] at this
    have hlast : nth (fxW L J) (m - 1) = num L - 1 := by
      obtain ⟨i0, i1, i2⟩ := I _ htop
      have : fxI J (num L - 1) = m - 1 := by
        have hs := filtTo_succ (fxP J) (num L - 1) (by omega)
        rw [show num L - 1 + 1 = num L by omega, if_pos (show fxP J (num L - 1) = true by unfold fxP; rw [htop.2]; simp)] at hs
        have hl2 : num (fxW L J) = ((filtTo (fxP J) (num L - 1)).length : Int) + 1 := by unfold fxW num; unfold num at hs; rw [hs]; simp
        unfold fxI; omega
      rw [this] at i2; exact i2
    have hlat : latB (fxU L J) = true := by
      have hg : ∀ p q, fxG L J p q = bl L (nth (fxW L J) p) (nth (fxW L J) q) := fun _ _ => rfl
      unfold fxU
      rw [← hm]
      refine upL_lat (by omega) (by omega) (fun x x0 x1 => ?_) (fun x x0 x1 => ?_) (fun x x0 x1 => ?_) (fun x y x0 x1 y0 y1 a b => ?_) (fun x y z x0 x1 y0 y1 z0 z1 a b => ?_) (fun x y x0 x1 y0 y1 => ?_) (fun x y x0 x1 y0 y1 => ?_)
      · exact bl_refl hl (W x x0 x1).1.1
      · rw [hg, h0]
        have f := (W x x0 x1).1
        have := N.mono 0 _ e0 f.1 (bl_low hl f.1)
        rwa [f.2] at this
      · rw [hg, hlast]; exact bl_top hl (W x x0 x1).1.1
      · have e := bl_anti hl (W x x0 x1).1.1 (W y y0 y1).1.1 a b
        rw [← (W x x0 x1).2, ← (W y y0 y1).2, e]
      · exact bl_trans hl (W x x0 x1).1.1 (W y y0 y1).1.1 (W z z0 z1).1.1 a b
      · have fx := (W x x0 x1).1
        have fy := (W y y0 y1).1
        obtain ⟨i0, i1, i2⟩ := I _ (meetF _ _ fx fy)
        refine ⟨_, i0, i1, by rw [hg, i2]; exact mt_lb1 hl fx.1 fy.1, by rw [hg, i2]; exact mt_lb2 hl fx.1 fy.1, fun w w0 w1 a b => by rw [hg, i2]; exact mt_ge hl fx.1 fy.1 (W w w0 w1).1.1 a b⟩
      · have fx := (W x x0 x1).1
        have fy := (W y y0 y1).1
        have hj := jn_el hl fx.1 fy.1
        obtain ⟨i0, i1, i2⟩ := I _ (hfj _ hj)
        refine ⟨_, i0, i1, by rw [hg, i2]; exact bl_trans hl fx.1 hj (N.el _ hj) (jn_ub1 hl fx.1 fy.1) (N.le _ hj), by rw [hg, i2]; exact bl_trans hl fy.1 hj (N.el _ hj) (jn_ub2 hl fx.1 fy.1) (N.le _ hj), fun w w0 w1 a b => by rw [hg, i2]; exact joinF _ _ _ fx fy (W w w0 w1).1 a b⟩
    have jj : ∀ a b, El L a → El L b → nth J (tv T (nth J a) b) = nth J (tv T a b) := fun a b ha hb => by
      have hja := N.el a ha
      have e1 := tv_el h hja hb
      have e2 := tv_el h ha hb
      refine bl_anti hl (N.el _ e1) (N.el _ e2) ?_ (N.mono _ _ e2 e1 (tv_mono1 h hb ha hja (N.le a ha)))
      have c := bl_trans hl e1 (tv_el h hja (N.el b hb)) (N.el _ e2) (tv_mono h hja hb (N.el b hb) (N.le b hb)) (N.tim a b ha hb)
      have := N.mono _ _ e1 (N.el _ e2) c
      rwa [N.own _ e2] at this
    have jj2 : ∀ a b, El L a → El L b → nth J (tv T a (nth J b)) = nth J (tv T a b) := fun a b ha hb => by
      rw [tv_comm h ha (N.el b hb), jj b a hb ha, tv_comm h hb ha]
    have jjn : ∀ a b, El L a → El L b → nth J (jn L (nth J a) (nth J b)) = nth J (jn L a b) := fun a b ha hb => by
      have hja := N.el a ha
      have hjb := N.el b hb
      have e1 := jn_el hl hja hjb
      have e2 := jn_el hl ha hb
      refine bl_anti hl (N.el _ e1) (N.el _ e2) ?_ (N.mono _ _ e2 e1 (jn_le hl ha hb e1 (bl_trans hl ha hja e1 (N.le a ha) (jn_ub1 hl hja hjb)) (bl_trans hl hb hjb e1 (N.le b hb) (jn_ub2 hl hja hjb))))
      have c := jn_le hl hja hjb (N.el _ e2) (N.mono _ _ ha e2 (jn_ub1 hl ha hb)) (N.mono _ _ hb e2 (jn_ub2 hl ha hb))
      have := N.mono _ _ e1 (N.el _ e2) c
      rwa [N.own _ e2] at this
    have V : ∀ p q, 0 ≤ p → p < m → 0 ≤ q → q < m → tv (fxS L T J) p q = fxI J (nth J (tv T (nth (fxW L J) p) (nth (fxW L J) q))) := fun p q p0 p1 q0 q1 => tabL_tv (fxT L T J) p0 (by rw [← hm]; exact p1) q0 (by rw [← hm]; exact q1)
    have E : ∀ x, El (fxU L J) x → 0 ≤ x ∧ x < m := fun x hx => ⟨hx.1, by rw [← hlen]; exact hx.2⟩
    have F : ∀ p q, 0 ≤ p → p < m → 0 ≤ q → q < m → Fx L J (nth J (tv T (nth (fxW L J) p) (nth (fxW L J) q))) := fun p q p0 p1 q0 q1 => hfj _ (tv_el h (W p p0 p1).1.1 (W q q0 q1).1.1)
    have J2 : ∀ p q, 0 ≤ p → p < m → 0 ≤ q → q < m → jn (fxU L J) p q = fxI J (nth J (jn L (nth (fxW L J) p) (nth (fxW L J) q))) := fun p q p0 p1 q0 q1 => by
      have fx := (W p p0 p1).1
      have fy := (W q q0 q1).1
      have hj := jn_el hl fx.1 fy.1
      obtain ⟨i0, i1, i2⟩ := I _ (hfj _ hj)
      refine jn_eq hlat ⟨p0, by rw [hlen]; exact p1⟩ ⟨q0, by rw [hlen]; exact q1⟩ ⟨i0, by rw [hlen]; exact i1⟩ ?_ ?_ fun w hw a b => ?_
      · rw [G p _ p0 p1 i0 i1, i2]; exact bl_trans hl fx.1 hj (N.el _ hj) (jn_ub1 hl fx.1 fy.1) (N.le _ hj)
      · rw [G q _ q0 q1 i0 i1, i2]; exact bl_trans hl fy.1 hj (N.el _ hj) (jn_ub2 hl fx.1 fy.1) (N.le _ hj)
      · obtain ⟨w0, w1⟩ := E w hw
        rw [G p w p0 p1 w0 w1] at a
        rw [G q w q0 q1 w0 w1] at b
        rw [G _ w i0 i1 w0 w1, i2]
        exact joinF _ _ _ fx fy (W w w0 w1).1 a b
    refine alg_of hlat (by rw [hlen]; unfold fxS; rw [tabL_len, ← hm]; omega) (fun x hx => ?_) (fun x y hx hy => ?_) (fun x hx => ?_) (fun x hx => ?_) (fun x y hx hy => ?_) (fun x y z hx hy hz => ?_) (fun x y z hx hy hz => ?_)
    · obtain ⟨x0, x1⟩ := E x hx
      unfold fxS; rw [tabL_row' _ x0 (by rw [← hm]; exact x1), hlen, ← hm]; exact lstTo_len _ _ (by omega)
    · obtain ⟨x0, x1⟩ := E x hx
      obtain ⟨y0, y1⟩ := E y hy
      rw [V x y x0 x1 y0 y1]
      obtain ⟨i0, i1, _⟩ := I _ (F x y x0 x1 y0 y1)
      exact ⟨i0, by rw [hlen]; exact i1⟩
    · obtain ⟨x0, x1⟩ := E x hx
      rw [hlen, V x (m - 1) x0 x1 (by omega) (by omega), hlast, tv_top h (W x x0 x1).1.1, (W x x0 x1).1.2, (W x x0 x1).2]
    · obtain ⟨x0, x1⟩ := E x hx
      have fx := (W x x0 x1).1
      have f0 := (W 0 (by omega) (by omega)).1
      rw [V x 0 x0 x1 (by omega) (by omega)]
      have e1 := tv_el h fx.1 f0.1
      have : nth J (tv T (nth (fxW L J) x) (nth (fxW L J) 0)) = nth (fxW L J) 0 := by
        refine bl_anti hl (N.el _ e1) f0.1 ?_ ?_
        · have := N.mono _ _ e1 f0.1 (tv_le2 h fx.1 f0.1); rwa [f0.2] at this
        · have := N.mono 0 _ e0 e1 (bl_low hl e1); rwa [← h0] at this
      rw [this]; exact (W 0 (by omega) (by omega)).2
    · obtain ⟨x0, x1⟩ := E x hx
      obtain ⟨y0, y1⟩ := E y hy
      rw [V x y x0 x1 y0 y1, V y x y0 y1 x0 x1, tv_comm h (W x x0 x1).1.1 (W y y0 y1).1.1]
    · obtain ⟨x0, x1⟩ := E x hx
      obtain ⟨y0, y1⟩ := E y hy
      obtain ⟨z0, z1⟩ := E z hz
      have ex := (W x x0 x1).1.1
      have ey := (W y y0 y1).1.1
      have ez := (W z z0 z1).1.1
      obtain ⟨a0, a1, a2⟩ := I _ (F x y x0 x1 y0 y1)
      obtain ⟨b0, b1, b2⟩ := I _ (F y z y0 y1 z0 z1)
      rw [V x y x0 x1 y0 y1, V y z y0 y1 z0 z1, V _ z a0 a1 z0 z1, V x _ x0 x1 b0 b1, a2, b2, jj _ _ (tv_el h ex ey) ez, jj2 _ _ ex (tv_el h ey ez), tv_assoc h ex ey ez]
    · obtain ⟨x0, x1⟩ := E x hx
      obtain ⟨y0, y1⟩ := E y hy
      obtain ⟨z0, z1⟩ := E z hz
      have ex := (W x x0 x1).1.1
      have ey := (W y y0 y1).1.1
      have ez := (W z z0 z1).1.1
      obtain ⟨a0, a1, a2⟩ := I _ (F x y x0 x1 y0 y1)
      obtain ⟨b0, b1, b2⟩ := I _ (F x z x0 x1 z0 z1)
      obtain ⟨c0, c1, c2⟩ := I _ (hfj _ (jn_el hl ey ez))
      rw [J2 y z y0 y1 z0 z1, V x y x0 x1 y0 y1, V x z x0 x1 z0 z1, V x _ x0 x1 c0 c1, J2 _ _ a0 a1 b0 b1, a2, b2, c2, jj2 _ _ ex (jn_el hl ey ez), tv_jn h ex ey ez, jjn _ _ (tv_el h ex ey) (tv_el h ex ez)]
theorem fx_alg {L : List Int} {T : List (List Int)} {J : List Int} (h : algB L T = true) (hJ : snB L T J = true) : algB (fxU L J) (fxS L T J) = (nth (fxW L J) 0 == nth J 0) := by
  rw [Bool.eq_iff_iff, fx_alg_iff h hJ, beq_iff_eq]
end Go.Proofs.Ytjcambkjcagcoaa

namespace Go.Proofs.Ytjcambkjcagcoaa
open Go.RowKit
set_option linter.unusedVariables false

set_option maxRecDepth 100000 in
set_option maxHeartbeats 1000000 in
/-- slices.Index of a number that is there -/
theorem index_any (a : Option Addr) (c : Nat) (L : List Int) (v i : Int) (w : World) (hr : Rd w a L) (i0 : 0 ≤ i) (i1 : i < L.length) (hv : nth L i = v) (hb : ∀ j, 0 ≤ j → j < i → nth L j ≠ v) (hm : L.length ≤ 1048576) :
    Calls Try.prog 56 #[.slice a L.length c, .int .i64 v] w fun e w' => e = .returned (.int .i64 i) ∧ w = w' := by
  obtain ⟨b, off, rfl, hc⟩ := hr (fun e => by rw [e] at i1; simp at i1; omega)
  have HC := Lib.hid hc
  have HB := Lib.hid hb
  have HV := Lib.hid hv
  clear hc hb hv hr
  go_enter Try.func56, Try.ntmps56
  go_wp2
  go_loop [5, 8] (fun _ kv => ∃ k : Int, 0 ≤ k ∧ k ≤ i ∧ kv = .int .i64 k) (fun _ kv => (i - intOf kv).toNat)
  case atStart => exact ⟨0, by omega, by omega, rfl⟩
  case round =>
    obtain ⟨k, k0, k1, rfl⟩ := hrel
    have kl : k < L.length := by omega
    have hck := HC.out k.toNat (by omega)
    rw [Int.toNat_of_nonneg k0] at hck
    by_cases e : k = i
    · subst e
      rw [HV.out] at hck
      have hq : (v == v) = true := by simp
      go_wp2
      go_ret
      exact ⟨rfl, rfl⟩
    · have hne := HB.out k k0 (by omega)
      have q1 : (nth L k == v) = false := by rw [beq_eq_false_iff_ne]; exact hne
      have q2 : (v == nth L k) = false := by rw [beq_eq_false_iff_ne]; exact fun h => hne h.symm
      clear hne
      go_wp2
      go_round
      case rel => exact ⟨k + 1, by omega, by omega, rfl⟩
      case measure => simp [intOf]; omega
theorem rd_at {w : World} {a : Option Addr} {L : List Int} (h : Rd w a L) (hL : L ≠ []) : ∃ b off, a = some ⟨b, off, none⟩ ∧ ∀ k : Int, 0 ≤ k → k < L.length → w.cell? ⟨b, off + k.toNat, none⟩ = some (.int .i64 (nth L k)) := by
  obtain ⟨b, off, e, hc⟩ := h hL
  refine ⟨b, off, e, fun k k0 k1 => ?_⟩
  have := hc k.toNat (by omega)
  rwa [Int.toNat_of_nonneg k0] at this
theorem enters_fx1 : Enters 51 := enters_of Try.func51 (by kernel_rfl) rfl
theorem enters_fx2 : Enters 53 := enters_of Try.func53 (by kernel_rfl) rfl
theorem enters_fx3 : Enters 55 := enters_of Try.func55 (by kernel_rfl) rfl
set_option maxHeartbeats 1000000 in
theorem fxClo1 (J : List Int) (bj : Nat) (aj : Option Addr) (cj : Nat) (x : Int) (w : World) (hb : w.heap[bj]? = some (.cells #[.slice aj J.length cj] 23 (0, 0))) (hj : Rd w aj J) (x0 : 0 ≤ x) (x1 : x < J.length) :
    Calls Try.prog 51 #[.int .i64 x, .pointer (some ⟨bj, 0, none⟩)] w fun e w' => e = .returned (.bool (fxP J x)) ∧ Below w.heap.size w w' := by
  have cb := cell_of_one hb
  obtain ⟨b, off, rfl, hc⟩ := rd_at hj (fun e => by rw [e] at x1; simp at x1; omega)
  have c1 := hc x x0 x1
  have hq := Lib.hid (show fxP J x = (nth J x == x) from rfl)
  clear hc hj hb
  go_enter Try.func51, Try.ntmps51
  go_wp2
  go_ret
  exact ⟨ret_bool (by rw [hq.out]), Below.refl _ _⟩
set_option maxHeartbeats 1000000 in
theorem fxClo2 (L : List Int) (T : List (List Int)) (W : List Int) (ba bo g c : Nat) (p q : Int) (w : World) (hA : AlgAt w ba L T) (hbo : w.heap[bo]? = some (.cells #[.slice (some ⟨g, 0, none⟩) W.length c] 23 (0, 0))) (hW : ∀ k : Int, 0 ≤ k → k < W.length → w.cell? ⟨g, k.toNat, none⟩ = some (.int .i64 (nth W k))) (hE : ∀ k : Int, 0 ≤ k → k < W.length → El L (nth W k)) (l6 : num L ≤ 6) (p0 : 0 ≤ p) (p1 : p < W.length) (q0 : 0 ≤ q) (q1 : q < W.length) :
    Calls Try.prog 53 #[.int .i64 p, .int .i64 q, .pointer (some ⟨ba, 0, none⟩), .pointer (some ⟨bo, 0, none⟩)] w fun e w' => e = .returned (.bool (bl L (nth W p) (nth W q))) ∧ Dr w w' := by
  have cb := cell_of_one hbo
  have c1 := hW p p0 p1
  have c2 := hW q q0 q1
  obtain ⟨u0, u1⟩ := hE p p0 p1
  obtain ⟨v0, v1⟩ := hE q q0 q1
  have u6 : nth W p < 6 := by omega
  have v6 : nth W q < 6 := by omega
  have d0 := hA.g u0 u6 v0 v6
  rw [ordG_in u1 v1] at d0
  clear hW hE hA hbo
  go_enter Try.func53, Try.ntmps53
  go_wp2
  go_quiet (fail)
  go_wp2
  go_ret
  exact ⟨rfl, ⟨_, rfl⟩⟩
theorem fx_before {L J : List Int} {v : Int} (h : Fx L J v) : ∀ j, 0 ≤ j → j < fxI J v → nth (fxW L J) j ≠ v := fun j j0 j1 e => by
  have h1 := (fx_at h).2.1
  have h2 := (fx_is (L := L) (J := J) j0 (by omega)).2
  rw [e] at h2
  omega
set_option maxRecDepth 100000 in
set_option maxHeartbeats 1000000 in
theorem fxClo3 (L : List Int) (T : List (List Int)) (J : List Int) (ba bo bj g c : Nat) (aj : Option Addr) (cj : Nat) (p q : Int) (w : World) (hA : AlgAt w ba L T) (hbo : w.heap[bo]? = some (.cells #[.slice (some ⟨g, 0, none⟩) (fxW L J).length c] 23 (0, 0))) (hW : ∀ k : Int, 0 ≤ k → k < (fxW L J).length → w.cell? ⟨g, k.toNat, none⟩ = some (.int .i64 (nth (fxW L J) k)))
    (hbj : w.heap[bj]? = some (.cells #[.slice aj J.length cj] 23 (0, 0))) (hj : Rd w aj J) (h : algB L T = true) (hn : snB L T J = true) (p0 : 0 ≤ p) (p1 : p < (fxW L J).length) (q0 : 0 ≤ q) (q1 : q < (fxW L J).length) :
    Calls Try.prog 55 #[.int .i64 p, .int .i64 q, .pointer (some ⟨bo, 0, none⟩), .pointer (some ⟨bj, 0, none⟩), .pointer (some ⟨ba, 0, none⟩)] w fun e w' => e = .returned (.int .i64 (fxT L T J p q)) ∧ Below w.heap.size w w' := by
  obtain ⟨nj, hN⟩ := nuc_of hn
  obtain ⟨l1, l6⟩ := lat_len (alg_lat h)
  have cb := cell_of_one hbo
  have cj0 := cell_of_one hbj
  have c1 := hW p p0 p1
  have c2 := hW q q0 q1
  obtain ⟨⟨u0, u1⟩, _⟩ := (fx_is (L := L) (J := J) p0 p1).1
  obtain ⟨⟨v0, v1⟩, _⟩ := (fx_is (L := L) (J := J) q0 q1).1
  obtain ⟨t0, t1⟩ := tv_el h (show El L (nth (fxW L J) p) from ⟨u0, u1⟩) (show El L (nth (fxW L J) q) from ⟨v0, v1⟩)
  have hF : Fx L J (nth J (tv T (nth (fxW L J) p) (nth (fxW L J) q))) := ⟨hN.el _ ⟨t0, t1⟩, hN.own _ ⟨t0, t1⟩⟩
  obtain ⟨i0, i1, i2⟩ := fx_at hF
  have hbf := fx_before hF
  have hnj : num J = J.length := rfl
  have u6 : nth (fxW L J) p < 6 := by omega
  have v6 : nth (fxW L J) q < 6 := by omega
  have d0 := hA.t u0 u6 v0 v6
  rw [timG_in u1 v1] at d0
  have tj : tv T (nth (fxW L J) p) (nth (fxW L J) q) < J.length := by omega
  obtain ⟨b, off, rfl, hc⟩ := rd_at hj (fun e => absurd (show J.length = 0 by rw [e]; rfl) (by omega))
  have d1 := hc _ t0 tj
  have hw6 : (fxW L J).length ≤ 1048576 := by
    have := filtTo_len (fxP J) (num L)
    unfold fxW; omega
  have hI := Lib.hid (show ∀ n, Calls Try.prog 56 #[.slice (some ⟨g, 0, none⟩) (fxW L J).length c, .int .i64 (nth J (tv T (nth (fxW L J) p) (nth (fxW L J) q)))] (w.drewN n) fun e w' => e = .returned (.int .i64 (fxT L T J p q)) ∧ w.drewN n = w' from fun n => index_any (some ⟨g, 0, none⟩) c (fxW L J) _ (fxI J (nth J (tv T (nth (fxW L J) p) (nth (fxW L J) q)))) _ (fun _ => ⟨g, 0, rfl, fun j hj => by
    have := hW (j : Int) (by omega) (by omega)
    rw [Int.toNat_natCast] at this
    rw [Nat.zero_add]; exact this⟩) i0 i1 i2 hbf hw6)
  clear hc hW hA hF hbf hN hn h hbo hbj i0 i1 i2 hj hnj nj
  go_enter Try.func55, Try.ntmps55
  go_wp2
  go_quiet ((go_at_call 56; exact q_same (hI.out _)))
  go_wp2
  go_ret
  exact ⟨rfl, Dr.below ⟨_, rfl⟩ _⟩
end Go.Proofs.Ytjcambkjcagcoaa

namespace Go.Proofs.Ytjcambkjcagcoaa
open Go.RowKit
set_option linter.unusedVariables false

def fbOk (L : List Int) (T : List (List Int)) (J : List Int) : Bool := asnB L T J && (nth (fxW L J) 0 == nth J 0)
def fbL (L : List Int) (T : List (List Int)) (J : List Int) : List Int := if fbOk L T J then fxU L J else []
def fbT (L : List Int) (T : List (List Int)) (J : List Int) : List (List Int) := if fbOk L T J then fxS L T J else []
theorem fb_no {L : List Int} {T : List (List Int)} {J : List Int} (h : fbOk L T J = false) : fbL L T J = [] ∧ fbT L T J = [] := ⟨by unfold fbL; rw [h]; rfl, by unfold fbT; rw [h]; rfl⟩
theorem fb_yes {L : List Int} {T : List (List Int)} {J : List Int} (h : fbOk L T J = true) : fbOk L T J = true ∧ fbL L T J = fxU L J ∧ fbT L T J = fxS L T J := ⟨h, by unfold fbL; rw [h]; rfl, by unfold fbT; rw [h]; rfl⟩
theorem fxW_le {L J : List Int} (h : num L ≤ 6) : (fxW L J).length ≤ 6 := by
  have := filtTo_len (fxP J) (num L)
  unfold fxW; omega
theorem asn_parts {L : List Int} {T : List (List Int)} {J : List Int} (h : asnB L T J = true) : algB L T = true ∧ snB L T J = true := Bool.and_eq_true_iff.1 h
theorem fb_ti (L : List Int) (T : List (List Int)) (J : List Int) : Ti (fbL L T J) (fbT L T J) := by
  cases h : fbOk L T J with
  | false => rw [(fb_no h).1, (fb_no h).2]; exact Ti.zero
  | true =>
    have h1 : asnB L T J = true := (Bool.and_eq_true_iff.1 h).1
    have h6 := fxW_le (J := J) (lat_len (alg_lat (asn_parts h1).1)).2
    rw [(fb_yes h).2.1, (fb_yes h).2.2]
    have hn : num (fxW L J) = (fxW L J).length := rfl
    unfold fxU fxS
    refine ⟨by rw [stU_len]; omega, by rw [tabL_len]; omega, fun j hj => ?_⟩
    rw [tabL_len] at hj
    rw [tabL_rlen _ hj]; omega
/-- a nucleus leaves its own of the least element -/
theorem fx_some {L : List Int} {T : List (List Int)} {J : List Int} (h : algB L T = true) (hn : snB L T J = true) : 0 < (fxW L J).length := by
  obtain ⟨nj, hN⟩ := nuc_of hn
  obtain ⟨l1, l6⟩ := lat_len (alg_lat h)
  have e0 : El L 0 := ⟨by omega, by omega⟩
  have := fx_at (show Fx L J (nth J 0) from ⟨hN.el _ e0, hN.own _ e0⟩)
  have hh : num (fxW L J) = (fxW L J).length := rfl
  omega
theorem elements_fx (L J : List Int) (bj : Nat) (aj : Option Addr) (cj : Nat) (w : World) (hb : w.heap[bj]? = some (.cells #[.slice aj J.length cj] 23 (0, 0))) (hj : Rd w aj J) (hn : num J = num L) (l6 : num L ≤ 6) :
    Calls Try.prog 50 #[.int .i64 (L.length : Int), .func (.func 51) #[] #[.pointer (some ⟨bj, 0, none⟩)]] w (RetSl w.heap.size (fxW L J) w) := by
  have hnl : num L = L.length := rfl
  have hnj : num J = J.length := rfl
  refine (elementsThat_any 51 #[.pointer (some ⟨bj, 0, none⟩)] (L.length : Int) (fxP J) w (by omega) (by omega) enters_fx1 (fun y wr y0 y1 hbl => fxClo1 J bj aj cj y wr ((hbl.block _ (lt_of_block hb)).trans hb) (hj.below hbl) y0 (by omega))).mono fun e w' h => ?_
  exact RetOwn.sl h
theorem own_cells {w : World} {B : Nat} {a : Option Addr} {c : Nat} {W : List Int} (h : Own B w (.slice a W.length c) W) (hp : 0 < W.length) : ∃ g, a = some ⟨g, 0, none⟩ ∧ B ≤ g ∧ g < w.heap.size ∧ ∀ wz, Below w.heap.size w wz → ∀ k : Int, 0 ≤ k → k < W.length → wz.cell? ⟨g, k.toNat, none⟩ = some (.int .i64 (nth W k)) := by
  rcases h.shape with ⟨_, e⟩ | ⟨g, c', e, h1, h2⟩
  · rw [e] at hp; simp at hp
  · injection e with e1 _ e3
    subst e1 e3
    exact ⟨g, rfl, h1, h2, fun wz hb k k0 k1 => (h.below hb).cellAt k0 k1⟩
theorem upOf_fx (L : List Int) (T : List (List Int)) (J : List Int) (ba bo g c : Nat) (w : World) (hA : AlgAt w ba L T) (hbo : w.heap[bo]? = some (.cells #[.slice (some ⟨g, 0, none⟩) (fxW L J).length c] 23 (0, 0))) (hW : ∀ k : Int, 0 ≤ k → k < (fxW L J).length → w.cell? ⟨g, k.toNat, none⟩ = some (.int .i64 (nth (fxW L J) k))) (h : algB L T = true) (hn : snB L T J = true) :
    Calls Try.prog 52 #[.int .i64 ((fxW L J).length : Int), .func (.func 53) #[] #[.pointer (some ⟨ba, 0, none⟩), .pointer (some ⟨bo, 0, none⟩)]] w fun e w' => e = .returned (.slice (some ⟨w.heap.size, 0, none⟩) (upL (fxG L J) (fxW L J).length).length (upL (fxG L J) (fxW L J).length).length) ∧ GS w.heap.size w'.heap.size w' (.slice (some ⟨w.heap.size, 0, none⟩) (upL (fxG L J) (fxW L J).length).length (upL (fxG L J) (fxW L J).length).length) (upL (fxG L J) (fxW L J).length) ∧ Below w.heap.size w w' := by
  have h6 := fxW_le (J := J) (lat_len (alg_lat h)).2
  have hg : g < w.heap.size := block_lt_of_cell (hW 0 (by omega) (by have := fx_some h hn; omega))
  exact upOf_T 53 #[.pointer (some ⟨ba, 0, none⟩), .pointer (some ⟨bo, 0, none⟩)] (fxW L J).length (fxG L J) w (by omega) (by omega) enters_fx2 fun x y wr x0 x1 y0 y1 hb => fxClo2 L T (fxW L J) ba bo g c x y wr (hA.below hb hA.lt) ((hb.block _ (lt_of_block hbo)).trans hbo) (fun k k0 k1 => (hb.cell (by exact hg)).trans (hW k k0 k1)) (fun k k0 k1 => (fx_is (L := L) (J := J) k0 k1).1.1) (lat_len (alg_lat h)).2 x0 x1 y0 y1
theorem rowsOf_fx (L : List Int) (T : List (List Int)) (J : List Int) (ba bo bj g c : Nat) (aj : Option Addr) (cj : Nat) (w : World) (hA : AlgAt w ba L T) (hbo : w.heap[bo]? = some (.cells #[.slice (some ⟨g, 0, none⟩) (fxW L J).length c] 23 (0, 0))) (hW : ∀ k : Int, 0 ≤ k → k < (fxW L J).length → w.cell? ⟨g, k.toNat, none⟩ = some (.int .i64 (nth (fxW L J) k))) (hbj : w.heap[bj]? = some (.cells #[.slice aj J.length cj] 23 (0, 0))) (hj : Rd w aj J) (h : algB L T = true) (hn : snB L T J = true) :
    Calls Try.prog 54 #[.int .i64 ((fxW L J).length : Int), .func (.func 55) #[] #[.pointer (some ⟨bo, 0, none⟩), .pointer (some ⟨bj, 0, none⟩), .pointer (some ⟨ba, 0, none⟩)]] w fun e w' => e = .returned (.slice (some ⟨w.heap.size, 0, none⟩) (tabL (fxT L T J) (fxW L J).length).length (tabL (fxT L T J) (fxW L J).length).length) ∧ GT w.heap.size w'.heap.size w' (.slice (some ⟨w.heap.size, 0, none⟩) (tabL (fxT L T J) (fxW L J).length).length (tabL (fxT L T J) (fxW L J).length).length) (tabL (fxT L T J) (fxW L J).length) ∧ Below w.heap.size w w' := by
  have h6 := fxW_le (J := J) (lat_len (alg_lat h)).2
  have hg : g < w.heap.size := block_lt_of_cell (hW 0 (by omega) (by have := fx_some h hn; omega))
  exact rowsOf_T 55 #[.pointer (some ⟨bo, 0, none⟩), .pointer (some ⟨bj, 0, none⟩), .pointer (some ⟨ba, 0, none⟩)] (fxW L J).length (fxT L T J) w (by omega) (by omega) enters_fx3 fun x y wr x0 x1 y0 y1 hb => fxClo3 L T J ba bo bj g c aj cj x y wr (hA.below hb hA.lt) ((hb.block _ (lt_of_block hbo)).trans hbo) (fun k k0 k1 => (hb.cell (by exact hg)).trans (hW k k0 k1)) ((hb.block _ (lt_of_block hbj)).trans hbj) (hj.below hb) h hn x0 x1 y0 y1
set_option maxRecDepth 100000 in
set_option maxHeartbeats 4000000 in
theorem implFixed_no (a b : Option Addr) (ca cb : Nat) (L : List Int) (T : List (List Int)) (aj : Option Addr) (cj : Nat) (J : List Int) (w : World) (hr : Rd w a L) (hT : RdT w b T) (hj : Rd w aj J) (hJ : J.length ≤ 1048576) (h : asnB L T J = false) : Calls Try.prog 12 #[.agg #[.slice a L.length ca, .slice b T.length cb], .slice aj J.length cj] w (RetGAb (fbL L T J) (fbT L T J) (fbOk L T J) w) := by
  obtain ⟨w1, hw1⟩ : ∃ w1, w1 = ((w.alloc (.cells #[.slice a L.length ca, .slice b T.length cb] 26)).alloc (.cells #[.slice aj J.length cj] 23)).alloc (.cells #[.slice none 0 0, .slice none 0 0] 26) := ⟨_, rfl⟩
  have hB : Below w.heap.size w w1 := by rw [hw1]; exact (((Below.refl _ _).alloc (Nat.le_refl _) _).alloc (by simp) _).alloc (by simp; omega) _
  have hx : w1.heap[w.heap.size]? = some (.cells #[.slice a L.length ca, .slice b T.length cb] 26 (0, 0)) := by
    rw [hw1, Below.heap_alloc _ _ _ (by simp; omega), Below.heap_alloc _ _ _ (by simp)]; exact heap_alloc_new w _
  have hx2 : w1.heap[w.heap.size + 1]? = some (.cells #[.slice aj J.length cj] 23 (0, 0)) := by
    rw [hw1, Below.heap_alloc _ _ _ (by simp)]; exact heap_alloc2_new _ _ _
  have hz : w1.heap[w.heap.size + 1 + 1]? = some (.cells #[.slice none 0 0, .slice none 0 0] 26 (0, 0)) := by
    have := heap_alloc_new ((w.alloc (.cells #[.slice a L.length ca, .slice b T.length cb] 26)).alloc (.cells #[.slice aj J.length cj] 23)) (.cells #[.slice none 0 0, .slice none 0 0] 26)
    rw [hw1]; simpa using this
  have Kx := Lib.hid (show ∀ wz, Below w1.heap.size w1 wz → wz.heap[w.heap.size]? = some (.cells #[.slice a L.length ca, .slice b T.length cb] 26 (0, 0)) from fun wz h => (h.block _ (lt_of_block hx)).trans hx)
  have Kj := Lib.hid (show ∀ wz, Below w1.heap.size w1 wz → wz.heap[w.heap.size + 1]? = some (.cells #[.slice aj J.length cj] 23 (0, 0)) from fun wz h => (h.block _ (lt_of_block hx2)).trans hx2)
  have Kz := Lib.hid (show ∀ wz, Below w1.heap.size w1 wz → wz.heap[w.heap.size + 1 + 1]? = some (.cells #[.slice none 0 0, .slice none 0 0] 26 (0, 0)) from fun wz h => (h.block _ (lt_of_block hz)).trans hz)
  have KR := Lib.hid (show ∀ wz, Below w1.heap.size w1 wz → Rd wz a L from fun wz h => (hr.below hB).below h)
  have KT := Lib.hid (show ∀ wz, Below w1.heap.size w1 wz → RdT wz b T from fun wz h => (hT.below hB).below h)
  have KJ := Lib.hid (show ∀ wz, Below w1.heap.size w1 wz → Rd wz aj J from fun wz h => (hj.below hB).below h)
  have hsz : w.heap.size + 1 + 1 < w1.heap.size := lt_of_block hz
  have z1 : Below w1.heap.size w1 w1 := Below.refl _ _
  have cj1 := cell_of_one hx2
  clear hx hx2 hz hr hT
  have HN := Lib.hid h
  have HV := Lib.hid (show fbOk L T J = false by unfold fbOk; rw [h]; rfl)
  clear h hj
  go_enter Try.func12, Try.ntmps12
  go_wp2_with (first
    | go_skip
    | (rw [← hw1]; clear hw1)
    | (refine wpList_load_row_w rfl 26 _ rfl w.heap.size rfl _ _ _ _ (Kx.out _ (by assumption)) Try.underlying26 rfl (size_Alg _ _) ?_)
    | (go_at_call 49; refine (readNuc_no a b ca cb L T _ cj J _ (KR.out _ z1) (KT.out _ z1) (KJ.out _ z1) hJ HN.out).mono ?_; rintro e w2 ⟨rfl, h2⟩; have z2 : Below w1.heap.size w1 w2 := h2; clear h2)
    | (refine wpList_store_row rfl 69 _ _ rfl w2.heap.size (zeroAlg) rfl rfl _ _ (heap_alloc_new w2 (.cells zeroAlg 69)) size_zeroAlg rfl one_zeroAlg ?_; rw [World.setRow_alloc_new]; obtain ⟨g1, hg1⟩ : ∃ bl, bl = w2.heap.size := ⟨_, rfl⟩; obtain ⟨w3, hw3⟩ : ∃ x : World, x = w2.alloc (.cells (zeroAlg) 69) := ⟨_, rfl⟩; rw [← hw3, ← hg1]; have q3 : Below w2.heap.size w2 w3 := (by rw [hw3]; exact (Below.refl _ _).alloc (Nat.le_refl _) _); have lg1 : w2.heap.size ≤ g1 := Nat.le_of_eq hg1.symm; have z3 : Below w1.heap.size w1 w3 := z2.trans (q3.mono z2.size); have s2 := z2.size; clear hw3 hg1 z2 q3)
    | (refine wpList_store_row rfl 26 _ _ rfl (w.heap.size + 1 + 1) #[.slice none 0 0, .slice none 0 0] rfl rfl _ _ (Kz.out _ z3) (size_Alg _ _) rfl (one_sl2 _ _ _ _ _ _) ?_))
  refine bodyPost_ret (v := .tuple #[.agg #[.slice none 0 0, .slice none 0 0], .bool false]) (results_Alg_tmp rfl _ _ (w.heap.size + 1 + 1) rfl _ _ (setRow_heap _ _ _ _ _ _ (Kz.out _ z3)) rfl) rfl ?_
  rw [HV.out, (fb_no HV.out).1, (fb_no HV.out).2]
  have hbz := below_setRow' (hB.trans (z3.mono hB.size)) (by omega : w.heap.size ≤ w.heap.size + 1 + 1) #[.slice none 0 0, .slice none 0 0]
  exact ⟨_, _, _, _, _, _, rfl, GA.zero _ _ hbz.size _, hbz⟩
set_option maxRecDepth 100000 in
set_option maxHeartbeats 4000000 in
theorem implFixed_low (a b : Option Addr) (ca cb : Nat) (L : List Int) (T : List (List Int)) (aj : Option Addr) (cj : Nat) (J : List Int) (w : World) (hr : Rd w a L) (hT : RdT w b T) (hj : Rd w aj J) (hJ : J.length ≤ 1048576) (h : asnB L T J = true) (h2 : (nth (fxW L J) 0 == nth J 0) = false) : Calls Try.prog 12 #[.agg #[.slice a L.length ca, .slice b T.length cb], .slice aj J.length cj] w (RetGAb (fbL L T J) (fbT L T J) (fbOk L T J) w) := by
  obtain ⟨w1, hw1⟩ : ∃ w1, w1 = ((w.alloc (.cells #[.slice a L.length ca, .slice b T.length cb] 26)).alloc (.cells #[.slice aj J.length cj] 23)).alloc (.cells #[.slice none 0 0, .slice none 0 0] 26) := ⟨_, rfl⟩
  have hB : Below w.heap.size w w1 := by rw [hw1]; exact (((Below.refl _ _).alloc (Nat.le_refl _) _).alloc (by simp) _).alloc (by simp; omega) _
  have hx : w1.heap[w.heap.size]? = some (.cells #[.slice a L.length ca, .slice b T.length cb] 26 (0, 0)) := by
    rw [hw1, Below.heap_alloc _ _ _ (by simp; omega), Below.heap_alloc _ _ _ (by simp)]; exact heap_alloc_new w _
  have hx2 : w1.heap[w.heap.size + 1]? = some (.cells #[.slice aj J.length cj] 23 (0, 0)) := by
    rw [hw1, Below.heap_alloc _ _ _ (by simp)]; exact heap_alloc2_new _ _ _
  have hz : w1.heap[w.heap.size + 1 + 1]? = some (.cells #[.slice none 0 0, .slice none 0 0] 26 (0, 0)) := by
    have := heap_alloc_new ((w.alloc (.cells #[.slice a L.length ca, .slice b T.length cb] 26)).alloc (.cells #[.slice aj J.length cj] 23)) (.cells #[.slice none 0 0, .slice none 0 0] 26)
    rw [hw1]; simpa using this
  have Kx := Lib.hid (show ∀ wz, Below w1.heap.size w1 wz → wz.heap[w.heap.size]? = some (.cells #[.slice a L.length ca, .slice b T.length cb] 26 (0, 0)) from fun wz h => (h.block _ (lt_of_block hx)).trans hx)
  have Kj := Lib.hid (show ∀ wz, Below w1.heap.size w1 wz → wz.heap[w.heap.size + 1]? = some (.cells #[.slice aj J.length cj] 23 (0, 0)) from fun wz h => (h.block _ (lt_of_block hx2)).trans hx2)
  have Kz := Lib.hid (show ∀ wz, Below w1.heap.size w1 wz → wz.heap[w.heap.size + 1 + 1]? = some (.cells #[.slice none 0 0, .slice none 0 0] 26 (0, 0)) from fun wz h => (h.block _ (lt_of_block hz)).trans hz)
  have KR := Lib.hid (show ∀ wz, Below w1.heap.size w1 wz → Rd wz a L from fun wz h => (hr.below hB).below h)
  have KT := Lib.hid (show ∀ wz, Below w1.heap.size w1 wz → RdT wz b T from fun wz h => (hT.below hB).below h)
  have KJ := Lib.hid (show ∀ wz, Below w1.heap.size w1 wz → Rd wz aj J from fun wz h => (hj.below hB).below h)
  have hsz : w.heap.size + 1 + 1 < w1.heap.size := lt_of_block hz
  have z1 : Below w1.heap.size w1 w1 := Below.refl _ _
  have cj1 := cell_of_one hx2
  clear hx hx2 hz hr hT
  have HN := Lib.hid h
  obtain ⟨ha, hs⟩ := asn_parts h
  have HA := Lib.hid ha
  have HS := Lib.hid hs
  have HV := Lib.hid (show fbOk L T J = false by unfold fbOk; rw [h, h2]; rfl)
  obtain ⟨l1, l6⟩ := lat_len (alg_lat ha)
  have hnj := (nuc_of hs).1
  have W6 := fxW_le (J := J) l6
  have W0 := fx_some ha hs
  have NJ := Lib.hid hnj
  have hjp : 0 < J.length := by
    have e1 : num L = L.length := rfl
    have e2 : num J = J.length := rfl
    omega
  obtain ⟨jb, jo, rfl, _⟩ := rd_at hj (fun e => absurd (show J.length = 0 by rw [e]; rfl) (by omega))
  have hne : (nth (fxW L J) 0 != nth J 0) = true := by
    unfold bne; rw [h2]; rfl
  have KJ2 := Lib.hid (show ∀ wz, Below w1.heap.size w1 wz → wz.cell? ⟨jb, jo, none⟩ = some (.int .i64 (nth J 0)) from fun wz hb => by
    obtain ⟨jb', jo', e, hc⟩ := rd_at (KJ.out wz hb) (fun e => absurd (show J.length = 0 by rw [e]; rfl) (by omega))
    simp only [Option.some.injEq, Addr.mk.injEq] at e
    have := hc 0 (by omega) (by omega)
    rw [← e.1, ← e.2.1] at this
    simpa using this)
  clear h h2 ha hs hj hnj l1
  go_enter Try.func12, Try.ntmps12
  go_wp2_with (first
    | go_skip
    | (rw [← hw1]; clear hw1)
    | (refine wpList_load_row_w rfl 26 _ rfl w.heap.size rfl _ _ _ _ (Kx.out _ (by assumption)) Try.underlying26 rfl (size_Alg _ _) ?_)
    | (go_at_call 49; refine (readNuc_good a b ca cb L T _ cj J _ (KR.out _ z1) (KT.out _ z1) (KJ.out _ z1) hJ HN.out).mono ?_; rintro e w2 ⟨rfl, h2⟩; have z2 : Below w1.heap.size w1 w2 := h2; clear h2)
    | (refine wpList_store_row rfl 69 _ _ rfl w2.heap.size (algOf L T) rfl rfl _ _ (heap_alloc_new w2 (.cells zeroAlg 69)) (size_alg _ _ _ _ _ _) rfl (one_alg _ _ _ _ _ _) ?_; rw [World.setRow_alloc_new]; obtain ⟨g1, hg1⟩ : ∃ bl, bl = w2.heap.size := ⟨_, rfl⟩; obtain ⟨w3, hw3⟩ : ∃ x : World, x = w2.alloc (.cells (algOf L T) 69) := ⟨_, rfl⟩; rw [← hw3, ← hg1]; have hA : AlgAt w3 g1 L T := (by rw [hw3, hg1]; exact AlgAt.new w2 L T); have ltg := hA.lt; have a0 := hA.size; have q3 : Below w2.heap.size w2 w3 := (by rw [hw3]; exact (Below.refl _ _).alloc (Nat.le_refl _) _); have lg1 : w2.heap.size ≤ g1 := Nat.le_of_eq hg1.symm; have z3 : Below w1.heap.size w1 w3 := z2.trans (q3.mono z2.size); have s2 := z2.size; clear hw3 hg1 z2 q3)
    | (go_at_call 50; refine (elements_fx L J (w.heap.size + 1) _ cj w3 (Kj.out _ z3) (KJ.out _ z3) NJ.out l6).mono ?_; rintro e w4 ⟨ra, rc, rfl, oW, hb4⟩; have z4 : Below w1.heap.size w1 w4 := z3.trans (hb4.mono z3.size); have hA4 := hA.below hb4 hA.lt; have s3 := z3.size; have s4 := hb4.size; clear hb4 z3 a0; obtain ⟨g, rfl, lg, ltw, hcW⟩ := own_cells oW W0)
    | (obtain ⟨bo, hbo⟩ : ∃ x : Nat, x = w4.heap.size := ⟨_, rfl⟩; obtain ⟨w5, hw5⟩ : ∃ x : World, x = w4.alloc (.cells #[.slice (some ⟨g, 0, none⟩) (fxW L J).length rc] 23) := ⟨_, rfl⟩; rw [← hw5, ← hbo]; have q5 : Below w4.heap.size w4 w5 := (by rw [hw5]; exact (Below.refl _ _).alloc (Nat.le_refl _) _); have hf5 : w5.heap[bo]? = some (.cells #[.slice (some ⟨g, 0, none⟩) (fxW L J).length rc] 23 (0, 0)) := (by rw [hw5, hbo]; exact heap_alloc_new w4 _); have z5 : Below w1.heap.size w1 w5 := z4.trans (q5.mono z4.size); have s5 := q5.size; have c5 := cell_of_one hf5; have c6 : w5.cell? ⟨g, 0, none⟩ = some (.int .i64 (nth (fxW L J) 0)) := hcW _ q5 0 (by omega) (by omega); have c7 := KJ2.out _ z5; have c8 := cell_of_one (Kj.out _ z5); have KO := Lib.hid (show ∀ wz, Below w5.heap.size w5 wz → wz.heap[bo]? = some (.cells #[.slice (some ⟨g, 0, none⟩) (fxW L J).length rc] 23 (0, 0)) from fun wz h => (h.block _ (lt_of_block hf5)).trans hf5); have KW := Lib.hid (show ∀ wz, Below w5.heap.size w5 wz → ∀ k : Int, 0 ≤ k → k < (fxW L J).length → wz.cell? ⟨g, k.toNat, none⟩ = some (.int .i64 (nth (fxW L J) k)) from fun wz h => hcW _ (q5.trans (h.mono q5.size))); have KA := Lib.hid (show ∀ wz, Below w5.heap.size w5 wz → AlgAt wz g1 L T from fun wz h => (hA4.below q5 hA4.lt).below h (by have := hA4.lt; omega)); clear hw5 hbo hf5 z4 hA4 hA oW hcW))
  clear c5 c6 c7 c8
  refine region_in (Below w5.heap.size w5) (by kernel_rfl) (by kernel_rfl) (Dr.below ⟨1, rfl⟩ _) fun hne => ?_
  have r0 : ∀ s : In (Below w5.heap.size w5), s.w.cell? ⟨bo, 0, none⟩ = some (.slice (some ⟨g, 0, none⟩) (fxW L J).length rc) := fun s => cell_of_one (KO.out _ s.h)
  have r1 : ∀ s : In (Below w5.heap.size w5), s.w.cell? ⟨g, 0, none⟩ = some (.int .i64 (nth (fxW L J) 0)) := fun s => KW.out _ s.h 0 (by omega) (by omega)
  have r2 : ∀ s : In (Below w5.heap.size w5), s.w.cell? ⟨w.heap.size + 1, 0, none⟩ = some (.slice (some ⟨jb, jo, none⟩) J.length cj) := fun s => cell_of_one (Kj.out _ (in_trans z5 s))
  have r3 : ∀ s : In (Below w5.heap.size w5), s.w.cell? ⟨jb, jo, none⟩ = some (.int .i64 (nth J 0)) := fun s => KJ2.out _ (in_trans z5 s)
  repeat go_big_quiet_step (fail)
  refine wpQuiet_nil ?_
  intro s
  have y6 := s.h
  obtain ⟨w6, hw6⟩ : ∃ x : World, x = s.w := ⟨_, rfl⟩
  rw [← hw6] at y6 ⊢
  have z6 : Below w1.heap.size w1 w6 := z5.trans (y6.mono z5.size)
  clear hw6 r0 r1 r2 r3 z5
  go_wp2_with (first
    | go_skip
    | (refine wpList_store_row rfl 26 _ _ rfl (w.heap.size + 1 + 1) #[.slice none 0 0, .slice none 0 0] rfl rfl _ _ (Kz.out _ z6) (size_Alg _ _) rfl (one_sl2 _ _ _ _ _ _) ?_))
  refine bodyPost_ret (v := .tuple #[.agg #[.slice none 0 0, .slice none 0 0], .bool false]) (results_Alg_tmp rfl _ _ (w.heap.size + 1 + 1) rfl _ _ (setRow_heap _ _ _ _ _ _ (Kz.out _ z6)) rfl) rfl ?_
  rw [HV.out, (fb_no HV.out).1, (fb_no HV.out).2]
  have hbz := below_setRow' (hB.trans (z6.mono hB.size)) (by omega : w.heap.size ≤ w.heap.size + 1 + 1) #[.slice none 0 0, .slice none 0 0]
  exact ⟨_, _, _, _, _, _, rfl, GA.zero _ _ hbz.size _, hbz⟩
set_option maxRecDepth 100000 in
set_option maxHeartbeats 4000000 in
theorem implFixed_yes (a b : Option Addr) (ca cb : Nat) (L : List Int) (T : List (List Int)) (aj : Option Addr) (cj : Nat) (J : List Int) (w : World) (hr : Rd w a L) (hT : RdT w b T) (hj : Rd w aj J) (hJ : J.length ≤ 1048576) (h : asnB L T J = true) (h2 : (nth (fxW L J) 0 == nth J 0) = true) : Calls Try.prog 12 #[.agg #[.slice a L.length ca, .slice b T.length cb], .slice aj J.length cj] w (RetGAb (fbL L T J) (fbT L T J) (fbOk L T J) w) := by
  obtain ⟨w1, hw1⟩ : ∃ w1, w1 = ((w.alloc (.cells #[.slice a L.length ca, .slice b T.length cb] 26)).alloc (.cells #[.slice aj J.length cj] 23)).alloc (.cells #[.slice none 0 0, .slice none 0 0] 26) := ⟨_, rfl⟩
  have hB : Below w.heap.size w w1 := by rw [hw1]; exact (((Below.refl _ _).alloc (Nat.le_refl _) _).alloc (by simp) _).alloc (by simp; omega) _
  have hx : w1.heap[w.heap.size]? = some (.cells #[.slice a L.length ca, .slice b T.length cb] 26 (0, 0)) := by
    rw [hw1, Below.heap_alloc _ _ _ (by simp; omega), Below.heap_alloc _ _ _ (by simp)]; exact heap_alloc_new w _
  have hx2 : w1.heap[w.heap.size + 1]? = some (.cells #[.slice aj J.length cj] 23 (0, 0)) := by
    rw [hw1, Below.heap_alloc _ _ _ (by simp)]; exact heap_alloc2_new _ _ _
  have hz : w1.heap[w.heap.size + 1 + 1]? = some (.cells #[.slice none 0 0, .slice none 0 0] 26 (0, 0)) := by
    have := heap_alloc_new ((w.alloc (.cells #[.slice a L.length ca, .slice b T.length cb] 26)).alloc (.cells #[.slice aj J.length cj] 23)) (.cells #[.slice none 0 0, .slice none 0 0] 26)
    rw [hw1]; simpa using this
  have Kx := Lib.hid (show ∀ wz, Below w1.heap.size w1 wz → wz.heap[w.heap.size]? = some (.cells #[.slice a L.length ca, .slice b T.length cb] 26 (0, 0)) from fun wz h => (h.block _ (lt_of_block hx)).trans hx)
  have Kj := Lib.hid (show ∀ wz, Below w1.heap.size w1 wz → wz.heap[w.heap.size + 1]? = some (.cells #[.slice aj J.length cj] 23 (0, 0)) from fun wz h => (h.block _ (lt_of_block hx2)).trans hx2)
  have Kz := Lib.hid (show ∀ wz, Below w1.heap.size w1 wz → wz.heap[w.heap.size + 1 + 1]? = some (.cells #[.slice none 0 0, .slice none 0 0] 26 (0, 0)) from fun wz h => (h.block _ (lt_of_block hz)).trans hz)
  have KR := Lib.hid (show ∀ wz, Below w1.heap.size w1 wz → Rd wz a L from fun wz h => (hr.below hB).below h)
  have KT := Lib.hid (show ∀ wz, Below w1.heap.size w1 wz → RdT wz b T from fun wz h => (hT.below hB).below h)
  have KJ := Lib.hid (show ∀ wz, Below w1.heap.size w1 wz → Rd wz aj J from fun wz h => (hj.below hB).below h)
  have hsz : w.heap.size + 1 + 1 < w1.heap.size := lt_of_block hz
  have z1 : Below w1.heap.size w1 w1 := Below.refl _ _
  have cj1 := cell_of_one hx2
  clear hx hx2 hz hr hT
  have HN := Lib.hid h
  obtain ⟨ha, hs⟩ := asn_parts h
  have HA := Lib.hid ha
  have HS := Lib.hid hs
  have HV := Lib.hid (fb_yes (show fbOk L T J = true by unfold fbOk; rw [h, h2]; rfl))
  obtain ⟨l1, l6⟩ := lat_len (alg_lat ha)
  have hnj := (nuc_of hs).1
  have W6 := fxW_le (J := J) l6
  have W0 := fx_some ha hs
  have NJ := Lib.hid hnj
  have hjp : 0 < J.length := by
    have e1 : num L = L.length := rfl
    have e2 : num J = J.length := rfl
    omega
  obtain ⟨jb, jo, rfl, _⟩ := rd_at hj (fun e => absurd (show J.length = 0 by rw [e]; rfl) (by omega))
  have hne : (nth (fxW L J) 0 != nth J 0) = false := by
    unfold bne; rw [h2]; rfl
  have KJ2 := Lib.hid (show ∀ wz, Below w1.heap.size w1 wz → wz.cell? ⟨jb, jo, none⟩ = some (.int .i64 (nth J 0)) from fun wz hb => by
    obtain ⟨jb', jo', e, hc⟩ := rd_at (KJ.out wz hb) (fun e => absurd (show J.length = 0 by rw [e]; rfl) (by omega))
    simp only [Option.some.injEq, Addr.mk.injEq] at e
    have := hc 0 (by omega) (by omega)
    rw [← e.1, ← e.2.1] at this
    simpa using this)
  clear h h2 ha hs hj hnj l1
  go_enter Try.func12, Try.ntmps12
  go_wp2_with (first
    | go_skip
    | (rw [← hw1]; clear hw1)
    | (refine wpList_load_row_w rfl 26 _ rfl w.heap.size rfl _ _ _ _ (Kx.out _ (by assumption)) Try.underlying26 rfl (size_Alg _ _) ?_)
    | (go_at_call 49; refine (readNuc_good a b ca cb L T _ cj J _ (KR.out _ z1) (KT.out _ z1) (KJ.out _ z1) hJ HN.out).mono ?_; rintro e w2 ⟨rfl, h2⟩; have z2 : Below w1.heap.size w1 w2 := h2; clear h2)
    | (refine wpList_store_row rfl 69 _ _ rfl w2.heap.size (algOf L T) rfl rfl _ _ (heap_alloc_new w2 (.cells zeroAlg 69)) (size_alg _ _ _ _ _ _) rfl (one_alg _ _ _ _ _ _) ?_; rw [World.setRow_alloc_new]; obtain ⟨g1, hg1⟩ : ∃ bl, bl = w2.heap.size := ⟨_, rfl⟩; obtain ⟨w3, hw3⟩ : ∃ x : World, x = w2.alloc (.cells (algOf L T) 69) := ⟨_, rfl⟩; rw [← hw3, ← hg1]; have hA : AlgAt w3 g1 L T := (by rw [hw3, hg1]; exact AlgAt.new w2 L T); have ltg := hA.lt; have a0 := hA.size; have q3 : Below w2.heap.size w2 w3 := (by rw [hw3]; exact (Below.refl _ _).alloc (Nat.le_refl _) _); have lg1 : w2.heap.size ≤ g1 := Nat.le_of_eq hg1.symm; have z3 : Below w1.heap.size w1 w3 := z2.trans (q3.mono z2.size); have s2 := z2.size; clear hw3 hg1 z2 q3)
    | (go_at_call 50; refine (elements_fx L J (w.heap.size + 1) _ cj w3 (Kj.out _ z3) (KJ.out _ z3) NJ.out l6).mono ?_; rintro e w4 ⟨ra, rc, rfl, oW, hb4⟩; have z4 : Below w1.heap.size w1 w4 := z3.trans (hb4.mono z3.size); have hA4 := hA.below hb4 hA.lt; have s3 := z3.size; have s4 := hb4.size; clear hb4 z3 a0; obtain ⟨g, rfl, lg, ltw, hcW⟩ := own_cells oW W0)
    | (obtain ⟨bo, hbo⟩ : ∃ x : Nat, x = w4.heap.size := ⟨_, rfl⟩; obtain ⟨w5, hw5⟩ : ∃ x : World, x = w4.alloc (.cells #[.slice (some ⟨g, 0, none⟩) (fxW L J).length rc] 23) := ⟨_, rfl⟩; rw [← hw5, ← hbo]; have q5 : Below w4.heap.size w4 w5 := (by rw [hw5]; exact (Below.refl _ _).alloc (Nat.le_refl _) _); have hf5 : w5.heap[bo]? = some (.cells #[.slice (some ⟨g, 0, none⟩) (fxW L J).length rc] 23 (0, 0)) := (by rw [hw5, hbo]; exact heap_alloc_new w4 _); have z5 : Below w1.heap.size w1 w5 := z4.trans (q5.mono z4.size); have s5 := q5.size; have c5 := cell_of_one hf5; have c6 : w5.cell? ⟨g, 0, none⟩ = some (.int .i64 (nth (fxW L J) 0)) := hcW _ q5 0 (by omega) (by omega); have c7 := KJ2.out _ z5; have c8 := cell_of_one (Kj.out _ z5); have KO := Lib.hid (show ∀ wz, Below w5.heap.size w5 wz → wz.heap[bo]? = some (.cells #[.slice (some ⟨g, 0, none⟩) (fxW L J).length rc] 23 (0, 0)) from fun wz h => (h.block _ (lt_of_block hf5)).trans hf5); have KW := Lib.hid (show ∀ wz, Below w5.heap.size w5 wz → ∀ k : Int, 0 ≤ k → k < (fxW L J).length → wz.cell? ⟨g, k.toNat, none⟩ = some (.int .i64 (nth (fxW L J) k)) from fun wz h => hcW _ (q5.trans (h.mono q5.size))); have KA := Lib.hid (show ∀ wz, Below w5.heap.size w5 wz → AlgAt wz g1 L T from fun wz h => (hA4.below q5 hA4.lt).below h (by have := hA4.lt; omega)); clear hw5 hbo hf5 z4 hA4 hA oW hcW))
  clear c5 c6 c7 c8
  refine region_in (Below w5.heap.size w5) (by kernel_rfl) (by kernel_rfl) (Dr.below ⟨1, rfl⟩ _) fun hne => ?_
  have r0 : ∀ s : In (Below w5.heap.size w5), s.w.cell? ⟨bo, 0, none⟩ = some (.slice (some ⟨g, 0, none⟩) (fxW L J).length rc) := fun s => cell_of_one (KO.out _ s.h)
  have r1 : ∀ s : In (Below w5.heap.size w5), s.w.cell? ⟨g, 0, none⟩ = some (.int .i64 (nth (fxW L J) 0)) := fun s => KW.out _ s.h 0 (by omega) (by omega)
  have r2 : ∀ s : In (Below w5.heap.size w5), s.w.cell? ⟨w.heap.size + 1, 0, none⟩ = some (.slice (some ⟨jb, jo, none⟩) J.length cj) := fun s => cell_of_one (Kj.out _ (in_trans z5 s))
  have r3 : ∀ s : In (Below w5.heap.size w5), s.w.cell? ⟨jb, jo, none⟩ = some (.int .i64 (nth J 0)) := fun s => KJ2.out _ (in_trans z5 s)
  repeat go_big_quiet_step (fail)
  refine wpQuiet_nil ?_
  intro s
  have y6 := s.h
  obtain ⟨w6, hw6⟩ : ∃ x : World, x = s.w := ⟨_, rfl⟩
  rw [← hw6] at y6 ⊢
  have z6 : Below w1.heap.size w1 w6 := z5.trans (y6.mono z5.size)
  clear hw6 r0 r1 r2 r3 z5
  have b6 := cell_of_one (KO.out _ y6)
  go_wp2_with (first
    | go_skip
    | (go_at_call 52; refine (upOf_fx L T J g1 bo g rc w6 (KA.out _ y6) (KO.out _ y6) (KW.out _ y6) HA.out HS.out).mono ?_; rintro e w9 ⟨rfl, gs9, hb9⟩; obtain ⟨bu, hbu⟩ : ∃ x : Nat, x = w6.heap.size := ⟨_, rfl⟩; rw [← hbu] at gs9 ⊢; have lbu : w6.heap.size ≤ bu := Nat.le_of_eq hbu.symm; have y9 : Below w5.heap.size w5 w9 := y6.trans (hb9.mono y6.size); have z9 : Below w1.heap.size w1 w9 := z6.trans (hb9.mono z6.size); have s6 := z6.size; have s9 := hb9.size; have b9 := cell_of_one (KO.out _ y9); clear hbu hb9 z6 y6)
    | (go_at_call 54; refine (rowsOf_fx L T J g1 bo (w.heap.size + 1) g rc _ cj w9 (KA.out _ y9) (KO.out _ y9) (KW.out _ y9) (Kj.out _ z9) (KJ.out _ z9) HA.out HS.out).mono ?_; rintro e w10 ⟨rfl, gt10, hb10⟩; obtain ⟨B, hBB⟩ : ∃ x : Nat, x = w9.heap.size := ⟨_, rfl⟩; rw [← hBB] at gt10 ⊢; have lB : w9.heap.size ≤ B := Nat.le_of_eq hBB.symm; have gs10 := gs9.below hb10; have z10 : Below w1.heap.size w1 w10 := z9.trans (hb10.mono z9.size); have s10 := hb10.size; clear hBB hb10 gs9 z9 y9)
    | (refine wpList_store_row rfl 26 _ _ rfl (w.heap.size + 1 + 1) #[.slice (some ⟨bu, 0, none⟩) (upL (fxG L J) (fxW L J).length).length (upL (fxG L J) (fxW L J).length).length, .slice (some ⟨B, 0, none⟩) (tabL (fxT L T J) (fxW L J).length).length (tabL (fxT L T J) (fxW L J).length).length] rfl rfl _ _ (Kz.out _ z10) (size_Alg _ _) rfl (one_sl2 _ _ _ _ _ _) ?_))
  refine bodyPost_ret (v := .tuple #[.agg #[.slice (some ⟨bu, 0, none⟩) (upL (fxG L J) (fxW L J).length).length (upL (fxG L J) (fxW L J).length).length, .slice (some ⟨B, 0, none⟩) (tabL (fxT L T J) (fxW L J).length).length (tabL (fxT L T J) (fxW L J).length).length], .bool true]) (results_Alg_tmp rfl _ _ (w.heap.size + 1 + 1) rfl _ _ (setRow_heap _ _ _ _ _ _ (Kz.out _ z10)) rfl) rfl ?_
  rw [HV.out.1, HV.out.2.1, HV.out.2.2]
  have hbz := below_setRow' (hB.trans (z10.mono hB.size)) (by omega : w.heap.size ≤ w.heap.size + 1 + 1) #[.slice (some ⟨bu, 0, none⟩) (upL (fxG L J) (fxW L J).length).length (upL (fxG L J) (fxW L J).length).length, .slice (some ⟨B, 0, none⟩) (tabL (fxT L T J) (fxW L J).length).length (tabL (fxT L T J) (fxW L J).length).length]
  have hb11 := below_setRow' (Below.refl (w.heap.size + 1 + 1) w10) (Nat.le_refl _) #[.slice (some ⟨bu, 0, none⟩) (upL (fxG L J) (fxW L J).length).length (upL (fxG L J) (fxW L J).length).length, .slice (some ⟨B, 0, none⟩) (tabL (fxT L T J) (fxW L J).length).length (tabL (fxT L T J) (fxW L J).length).length]
  have s11 := hb11.size
  have s1 := hB.size
  have hk : ∀ lo hi, w.heap.size + 1 + 1 < lo → Keep lo hi w10 (w10.setRow (w.heap.size + 1 + 1) #[.slice (some ⟨bu, 0, none⟩) (upL (fxG L J) (fxW L J).length).length (upL (fxG L J) (fxW L J).length).length, .slice (some ⟨B, 0, none⟩) (tabL (fxT L T J) (fxW L J).length).length (tabL (fxT L T J) (fxW L J).length).length]) := fun lo hi hlo k k1 _ _ => setRow_other w10 _ k _ (by omega)
  exact ⟨_, _, _, _, _, _, rfl, ⟨bu, w9.heap.size, B, w10.heap.size, by omega, by omega, by omega, by omega, .inl lB, gs10.keep (hk _ _ (by omega)), gt10.keep (hk _ _ (by omega))⟩, hbz⟩
/-- impl.FixedBy -/
theorem implFixedBy_any (a b : Option Addr) (ca cb : Nat) (L : List Int) (T : List (List Int)) (aj : Option Addr) (cj : Nat) (J : List Int) (w : World) (hr : Rd w a L) (hT : RdT w b T) (hj : Rd w aj J) (hJ : J.length ≤ 1048576) : Calls Try.prog 12 #[.agg #[.slice a L.length ca, .slice b T.length cb], .slice aj J.length cj] w (RetGAb (fbL L T J) (fbT L T J) (fbOk L T J) w) := by
  cases h : asnB L T J with
  | false => exact implFixed_no a b ca cb L T aj cj J w hr hT hj hJ h
  | true =>
    cases h2 : (nth (fxW L J) 0 == nth J 0) with
    | false => exact implFixed_low a b ca cb L T aj cj J w hr hT hj hJ h h2
    | true => exact implFixed_yes a b ca cb L T aj cj J w hr hT hj hJ h h2
end Go.Proofs.Ytjcambkjcagcoaa

namespace Go.Proofs.Ytjcambkjcagcoaa
open Go.RowKit
set_option linter.unusedVariables false

/-- where each element that is its own stands, up to one -/
def atL (J : List Int) (n x : Int) : List Int := (List.range n.toNat).map fun (i : Nat) => if (i : Int) < x ∧ fxP J i = true then fxI J i else 0
theorem atL_len (J : List Int) (n x : Int) : (atL J n x).length = n.toNat := by simp [atL]
theorem atL_zero (J : List Int) (n : Int) : atL J n 0 = List.replicate n.toNat 0 := by
  unfold atL
  apply List.ext_getElem
  · simp
  · intro i h1 h2
    simp only [List.getElem_map, List.getElem_range, List.getElem_replicate]
    rw [if_neg (by omega)]
theorem atL_nth (J : List Int) {n x v : Int} (v0 : 0 ≤ v) (v1 : v < n) : nth (atL J n x) v = if v < x ∧ fxP J v = true then fxI J v else 0 := by
  unfold nth atL
  rw [List.getD_eq_getElem?_getD, List.getElem?_map, List.getElem?_range (by omega)]
  simp [Int.toNat_of_nonneg v0]
theorem atL_set (J : List Int) {n x : Int} (x0 : 0 ≤ x) (x1 : x < n) (h : fxP J x = true) : (atL J n x).set x.toNat (fxI J x) = atL J n (x + 1) := by
  unfold atL
  apply List.ext_getElem
  · simp
  · intro i h1 h2
    rw [List.getElem_set]
    simp only [List.getElem_map, List.getElem_range]
    by_cases e : x.toNat = i
    · have ei : (i : Int) = x := by omega
      rw [if_pos e, ei, if_pos ⟨by omega, h⟩]
    · rw [if_neg e]
      by_cases h3 : (i : Int) < x ∧ fxP J i = true
      · rw [if_pos h3, if_pos ⟨by omega, h3.2⟩]
      · rw [if_neg h3, if_neg (fun h4 => h3 ⟨by omega, h4.2⟩)]
theorem atL_skip (J : List Int) {n x : Int} (x0 : 0 ≤ x) (h : fxP J x = false) : atL J n x = atL J n (x + 1) := by
  unfold atL
  apply List.map_congr_left
  intro i _
  by_cases e : (i : Int) = x
  · rw [if_neg (by omega), if_neg (fun h4 => by rw [e, h] at h4; simp at h4)]
  · by_cases h3 : (i : Int) < x ∧ fxP J i = true
    · rw [if_pos h3, if_pos ⟨by omega, h3.2⟩]
    · rw [if_neg h3, if_neg (fun h4 => h3 ⟨by omega, h4.2⟩)]
theorem own_setCell {B : Nat} {w : World} {v : Value} {L : List Int} (h : Own B w v L) {p : Addr} (hne : v.ownBlock ≠ some p.block) (u : Value) : Own B (w.setCell p u) v L := by
  obtain ⟨h1, h⟩ := h
  refine ⟨h1, ?_⟩
  rcases h with h | ⟨g, cap, cur, rfl, e2, hg, e3⟩
  · exact .inl h
  · refine .inr ⟨g, cap, cur, rfl, e2, ?_, e3⟩
    rw [heap_setCell_other w p g u (fun e => hne (by rw [← e]; rfl))]; exact hg
theorem fresh_ne {B : Nat} {w : World} {u v v' : Value} {L : List Int} {n : Nat} (h : Own B w u L) (hn : u.ownBlock = none ∨ u.ownBlock ≠ v.ownBlock) (hat : v'.ownBlock = v.ownBlock ∨ v'.ownBlock = some n) (hl : ∀ q, u.ownBlock = some q → q < n) : u.ownBlock = none ∨ u.ownBlock ≠ v'.ownBlock := by
  rcases hat with e | e
  · rw [e]; exact hn
  · rw [e]
    cases hq : u.ownBlock with
    | none => exact .inl rfl
    | some k =>
      right
      intro he
      have := hl k hq
      simp only [Option.some.injEq] at he
      omega
theorem row_grown {w w' : World} {b : Nat} {L : List Int} {row : Option Nat} (h : Row w b L) (hg : w.grownBy w' row) (hne : some b ≠ row) : Row w' b L := (hg.block b h.lt hne).trans h
set_option maxRecDepth 100000 in
set_option maxHeartbeats 8000000 in
/-- spec.fixedBy -/
theorem specFixedS_any (a b : Option Addr) (ca cb : Nat) (L : List Int) (T : List (List Int)) (aj : Option Addr) (cj : Nat) (J : List Int) (w : World) (hr : Rd w a L) (hT : RdT w b T) (hj : Rd w aj J) (hJ : J.length ≤ 1048576) (h : algB L T = true) (hn : snB L T J = true) : Calls Try.prog 59 #[.agg #[.slice a L.length ca, .slice b T.length cb], .slice aj J.length cj] w (RetRd (upL (fxG L J) ((fxW L J).length : Int)) (tabL (fxT L T J) ((fxW L J).length : Int)) w) := by
  obtain ⟨i0, hi, hz0, hz1, hz2⟩ := info_parts info_int
  obtain ⟨i1, hi1, hy0, hy1, hy2⟩ := info_parts info_ints
  obtain ⟨l1, l6, hsA⟩ := latB_parts (alg_lat h)
  obtain ⟨nj, hNu⟩ := nuc_of hn
  have hjl : (J.length : Int) = L.length := nj
  have HJL := Lib.hid hjl
  have n1 : 1 ≤ (L.length : Int) := l1
  have n6 : (L.length : Int) ≤ 6 := l6
  have nl1 : num L ≤ (L.length : Int) := Int.le_refl _
  have nl2 : (L.length : Int) ≤ num L := Int.le_refl _
  have j1 : 1 ≤ (J.length : Int) := by omega
  have j6 : (J.length : Int) ≤ 6 := by omega
  have jl : (J.length : Int) ≤ L.length := by omega
  have lj : (L.length : Int) ≤ J.length := by omega
  have W6 := fxW_le (J := J) l6
  have W0 := fx_some h hn
  obtain ⟨ab, ao, rfl, _⟩ := hr (lat_ne l1)
  obtain ⟨tb, to, rfl, _⟩ := tab_of hT (alg_shape h) l1
  obtain ⟨jb, jo, rfl, hcJ⟩ := rd_at hj (fun e => absurd (show J.length = 0 by rw [e]; rfl) (by omega))
  obtain ⟨w1, hw1⟩ : ∃ w1, w1 = (w.alloc (.cells #[.slice (some ⟨ab, ao, none⟩) L.length ca, .slice (some ⟨tb, to, none⟩) T.length cb] 26)).alloc (.cells #[.slice none 0 0, .slice none 0 0] 26) := ⟨_, rfl⟩
  have hB : Below w.heap.size w w1 := by rw [hw1]; exact ((Below.refl _ _).alloc (Nat.le_refl _) _).alloc (by simp) _
  have hx : w1.heap[w.heap.size]? = some (.cells #[.slice (some ⟨ab, ao, none⟩) L.length ca, .slice (some ⟨tb, to, none⟩) T.length cb] 26 (0, 0)) := by rw [hw1, Below.heap_alloc _ _ _ (by simp)]; exact heap_alloc_new w _
  have hz : w1.heap[w.heap.size + 1]? = some (.cells #[.slice none 0 0, .slice none 0 0] 26 (0, 0)) := by rw [hw1]; exact heap_alloc2_new _ _ _
  have Kx := Lib.hid (show ∀ wz, Below w1.heap.size w1 wz → wz.heap[w.heap.size]? = some (.cells #[.slice (some ⟨ab, ao, none⟩) L.length ca, .slice (some ⟨tb, to, none⟩) T.length cb] 26 (0, 0)) from fun wz h => (h.block _ (lt_of_block hx)).trans hx)
  have Kz := Lib.hid (show ∀ wz, Below w1.heap.size w1 wz → wz.heap[w.heap.size + 1]? = some (.cells #[.slice none 0 0, .slice none 0 0] 26 (0, 0)) from fun wz h => (h.block _ (lt_of_block hz)).trans hz)
  have KC := Lib.hid (show ∀ wz, Below w1.heap.size w1 wz → Cells wz ab ao L from fun wz hb => by
    obtain ⟨b', off', e, hc⟩ := ((hr.below hB).below hb) (lat_ne l1)
    simp only [Option.some.injEq, Addr.mk.injEq] at e
    rw [e.1, e.2.1]; exact hc)
  obtain ⟨tb', to', e1, rb, ro, rc, hTA⟩ := tab_of (hT.below hB) (alg_shape h) l1
  simp only [Option.some.injEq, Addr.mk.injEq] at e1
  obtain ⟨rfl, rfl, _⟩ := e1
  have KA := Lib.hid (show ∀ wz, Below w1.heap.size w1 wz → TabAt wz tb to (num L) L.length rb ro rc T from fun wz hb => hTA.below hb)
  have KJ := Lib.hid (show ∀ wz, Below w1.heap.size w1 wz → ∀ k : Int, 0 ≤ k → k < J.length → wz.cell? ⟨jb, jo + k.toNat, none⟩ = some (.int .i64 (nth J k)) from fun wz hb k k0 k1 => (hb.cell (by have := block_lt_of_cell (hcJ k k0 k1); have := hB.size; simp at *; omega)).trans ((hB.cell (by exact block_lt_of_cell (hcJ k k0 k1))).trans (hcJ k k0 k1)))
  have HA := Lib.hid h
  have HN := Lib.hid hNu
  have hsz : w.heap.size + 1 < w1.heap.size := lt_of_block hz
  have hmk := run_make_ints J.length (by omega)
  clear h hn hr hT hj hx hz hTA hNu nj l1 l6 hcJ hjl
  go_enter Try.func59, Try.ntmps59
  go_wp2_with (rw [← hw1]; clear hw1)
  clear hmk
  go_loopw [5, 7] (fun lv xv wr => ∃ x : Int, 0 ≤ x ∧ x ≤ J.length ∧ xv = .int .i64 x ∧ Own w1.heap.size wr lv (filtTo (fxP J) x) ∧ Row wr (w1.heap.size + 1) (atL J J.length x) ∧ lv.ownBlock ≠ some (w1.heap.size + 1) ∧ Below w1.heap.size w1 wr) (fun _ xv _ => (6 - intOf xv).toNat)
  case atStart =>
    refine ⟨0, by omega, by omega, rfl, ?_, ?_, fun e => ?_, ((Below.refl _ _).alloc (Nat.le_refl _) _).alloc (by simp) _⟩
    · exact (Own.row (L := []) (heap_alloc_new w1 _) (Nat.le_refl _) (Nat.zero_le _)).alloc _
    · rw [atL_zero]; unfold Row; rw [show ((J.length : Int)).toNat = J.length from by omega]; exact heap_alloc2_new _ _ _
    · simp [Value.ownBlock] at e
  case round =>
    obtain ⟨x, x0, x1, rfl, hown, hrow, hne, hbel⟩ := hrel
    obtain ⟨la, lc, rfl, _⟩ := hown.slice
    have cJ := KJ.out _ hbel
    by_cases hx : x < J.length
    · have c0 := cJ x x0 hx
      have hal := atL_len J J.length x
      have c1 := hrow.cell x0 (by rw [hal]; omega)
      have f1 := hrow.free x.toNat
      have hfl := filtTo_len (fxP J) x
      have s1 := hbel.size
      clear cJ hal
      cases hP : fxP J x with
      | false =>
        have hq : (nth J x == x) = false := hP
        have hsk := Lib.hid (atL_skip J (n := J.length) x0 hP)
        have hsu := Lib.hid (show filtTo (fxP J) (x + 1) = filtTo (fxP J) x by rw [filtTo_succ _ _ x0, hP]; rfl)
        clear hP c1 f1
        go_wp2
        go_roundw
        case rel => exact ⟨x + 1, by omega, by omega, rfl, by rw [hsu.out]; exact hown, by rw [← hsk.out]; exact hrow, hne, hbel⟩
        case measure => simp [intOf]; omega
      | true =>
        have hq : (nth J x == x) = true := hP
        have hst := Lib.hid (atL_set J (n := J.length) x0 hx hP)
        have hsu := Lib.hid (show filtTo (fxP J) (x + 1) = filtTo (fxP J) x ++ [x] by rw [filtTo_succ _ _ x0, hP]; rfl)
        clear hP
        obtain ⟨w3, hw3⟩ : ∃ wq : World, wq = wr.setCell ⟨(w1.heap.size + 1), x.toNat, none⟩ (.int .i64 ((filtTo (fxP J) x).length : Int)) := ⟨_, rfl⟩
        have hown3 : Own w1.heap.size w3 (.slice la (filtTo (fxP J) x).length lc) (filtTo (fxP J) x) := by rw [hw3]; exact own_setCell hown hne _
        have hrow3 : Row w3 (w1.heap.size + 1) (atL J J.length (x + 1)) := by
          rw [← hst.out, hw3]
          exact hrow.set _ _
        have hb3 : Below w1.heap.size w1 w3 := by rw [hw3]; exact hbel.setCell (by simp) _
        have s3 := hb3.size
        have hrow4 := hrow3.alloc (Obj.cells #[.int .i64 x] 3)
        clear hown hrow
        go_wp2_with (first
          | (rw [← hw3]; clear hw3 c1 f1)
          | (at_builtin; refine wpList_append_own_at _ rfl _ _ 23 rfl w1.heap.size 3 i0 (.int .i64 0) 1 8 Try.underlying23 hi hz0 hz1 hz2 rfl (by decide) _ _ _ rfl (World.ownsRow.alloc hown3 _) ⟨w3.heap.size, 0, none⟩ 1 1 [.int .i64 x] rfl rfl (cell_one_new _ _ _) (fun x hx => by simp at hx; subst hx; rfl) (by unfold maxLen; omega) (by omega) (by simp; omega) ?_; intro v' w5 hown1 hgrow _ hat))
        refine ⟨⟨x + 1, by omega, by omega, rfl, by unfold Own; rw [hsu.out, List.map_append, List.length_append]; exact hown1, row_grown hrow4 hgrow (fun e => hne e.symm), fun e => ?_, (hb3.alloc s3 _).grown hgrow (by simp; omega) (fun q hq => (World.ownsRow.lt (World.ownsRow.alloc hown3 (Obj.cells #[.int .i64 x] 3)) q hq).1)⟩, by simp [intOf]; omega⟩
        have h4 := hrow4.lt
        rcases hat with h | h
        · exact hne (h.symm.trans e)
        · rw [h] at e
          simp only [Option.some.injEq] at e
          omega
    · have e : x = J.length := by omega
      subst e
      have zL : Below w1.heap.size w1 wr := hbel
      have sL := zL.size
      have hWW : filtTo (fxP J) J.length = (fxW L J) := by unfold fxW; rw [show num L = J.length from HJL.out.symm]
      rw [hWW] at hown ⊢
      obtain ⟨g, rfl, lg, ltg, hcW⟩ := own_cells hown W0
      obtain ⟨wL, hwL⟩ : ∃ x : World, x = wr := ⟨_, rfl⟩
      rw [← hwL] at zL sL hcW hown hrow hbel ltg ⊢
      clear hwL hWW cJ
      have KW := Lib.hid hcW
      have KD := Lib.hid (show ∀ wz, Below wL.heap.size wL wz → ∀ k : Int, 0 ≤ k → k < J.length → wz.cell? ⟨(w1.heap.size + 1), k.toNat, none⟩ = some (.int .i64 (nth (atL J J.length J.length) k)) from fun wz hb k k0 k1 => (hrow.below hb hrow.lt).cell k0 (by rw [atL_len]; omega))
      clear hcW hne hrow hown
      go_wp2_with (refine wpList_store_row rfl 26 _ _ rfl wL.heap.size #[.slice none 0 0, .slice none 0 0] rfl rfl _ _ (heap_alloc_new wL (.cells #[.slice none 0 0, .slice none 0 0] 26)) (size_Alg _ _) rfl (one_sl2 _ _ _ _ _ _) ?_; rw [World.setRow_alloc_new]; obtain ⟨gq, hgq⟩ : ∃ g : Nat, g = wL.heap.size := ⟨_, rfl⟩; obtain ⟨w3, hw3⟩ : ∃ x : World, x = wL.alloc (.cells #[.slice none 0 0, .slice none 0 0] 26) := ⟨_, rfl⟩; rw [← hw3, ← hgq]; have hx3 : w3.heap[gq]? = some (.cells #[.slice none 0 0, .slice none 0 0] 26 (0, 0)) := (by rw [hw3, hgq]; exact heap_alloc_new wL _); have z3 : Below wL.heap.size wL w3 := (by rw [hw3]; exact (Below.refl _ _).alloc (Nat.le_refl _) _); have hgl : wL.heap.size ≤ gq := Nat.le_of_eq hgq.symm; clear hw3 hgq)
      go_loopw [9, 10, 11, 12] (fun xv _ _ _ wr => ∃ x : Int, 0 ≤ x ∧ x ≤ ((fxW L J).length : Int) ∧ xv = .int .i64 x ∧ (∃ u v, wr.heap[gq]? = some (.cells #[u, v] 26 (0, 0)) ∧ Own wL.heap.size wr u (upQ (fxG L J) ((fxW L J).length : Int) x) ∧ RowsX wL.heap.size wr v (tabK (fxT L T J) ((fxW L J).length : Int) x) u.ownBlock) ∧ Below wL.heap.size wL wr) (fun xv _ _ _ _ => (6 - intOf xv).toNat)
      case atStart => exact ⟨0, by omega, by omega, rfl, ⟨_, _, hx3, Own.nothing _ _, RowsX.nothing _ _ _⟩, z3⟩
      case round =>
        clear hbel
        obtain ⟨x, x0, x1, rfl, ⟨uv, v, hxg, hup, hrows⟩, hbel⟩ := hrel
        obtain ⟨tb2, tc2, rfl, _⟩ := hrows.at.rd
        obtain ⟨ua, uc, rfl, _⟩ := hup.slice
        by_cases hx : x < ((fxW L J).length : Int)
        · obtain ⟨wo, rfl⟩ : ∃ wo : World, wo = wr := ⟨_, rfl⟩
          have hlo := hbel.size
          have hFx := fx_is (L := L) (J := J) x0 hx
          obtain ⟨p0, p1⟩ := hFx.1.1
          have p30 : nth (fxW L J) x ≤ 30 := by omega
          go_wp2
          go_loopw [10, 11, 12] (fun pv rv yv wr => ∃ y : Int, 0 ≤ y ∧ y ≤ ((fxW L J).length : Int) ∧ yv = .int .i64 y ∧ pv = .int .i64 (rowTo ((fxG L J) x) y) ∧ Own wo.heap.size wr rv (lstTo ((fxT L T J) x) y) ∧ Below wo.heap.size wo wr) (fun _ _ yv _ => (6 - intOf yv).toNat)
          case atStart => exact ⟨0, by omega, by omega, rfl, rfl, Own.row (L := []) (heap_alloc_new wo _) (Nat.le_refl _) (Nat.zero_le _), (Below.refl _ _).alloc (Nat.le_refl _) _⟩
          case round =>
            obtain ⟨y, y0, y1, rfl, rfl, hown, hbi⟩ := hrel
            by_cases hy : y < ((fxW L J).length : Int)
            · obtain ⟨q0, q1⟩ := (fx_is (L := L) (J := J) y0 hy).1.1
              have q30 : nth (fxW L J) y ≤ 30 := by omega
              obtain ⟨t0, t1⟩ := tv_el HA.out (show El L (nth (fxW L J) x) from ⟨p0, p1⟩) (show El L (nth (fxW L J) y) from ⟨q0, q1⟩)
              obtain ⟨j0, jj1⟩ := HN.out.el _ (show El L (tv T (nth (fxW L J) x) (nth (fxW L J) y)) from ⟨t0, t1⟩)
              have hFv : nth (atL J J.length J.length) (nth J (tv T (nth (fxW L J) x) (nth (fxW L J) y))) = (fxT L T J) x y := by
                rw [atL_nth J j0 (by omega), if_pos ⟨by omega, by unfold fxP; rw [HN.out.own _ ⟨t0, t1⟩]; simp⟩]
                rfl
              have hrl : Below wL.heap.size wL wr := hbel.trans (hbi.mono hlo)
              have hr1 : Below w1.heap.size w1 wr := zL.trans (hrl.mono sL)
              have KWr := Lib.hid (show ∀ wz, Below wr.heap.size wr wz → ∀ k : Int, 0 ≤ k → k < ((fxW L J).length : Int) → wz.cell? ⟨g, k.toNat, none⟩ = some (.int .i64 (nth (fxW L J) k)) from fun wz hb => KW.out _ (hrl.trans (hb.mono hrl.size)))
              have K1 := Lib.hid (show ∀ wz, Below wr.heap.size wr wz → Below w1.heap.size w1 wz from fun wz hb => hr1.trans (hb.mono hr1.size))
              have KDr := Lib.hid (show ∀ wz, Below wr.heap.size wr wz → wz.cell? ⟨(w1.heap.size + 1), (nth J (tv T (nth (fxW L J) x) (nth (fxW L J) y))).toNat, none⟩ = some (.int .i64 ((fxT L T J) x y)) from fun wz hb => by
                have := KD.out _ (hrl.trans (hb.mono hrl.size)) _ j0 (by omega)
                rwa [hFv] at this)
              have hsucc := Lib.hid (lstTo_succ ((fxT L T J) x) y y0)
              have hrs := Lib.hid (rowTo_succ ((fxG L J) x) y y0)
              have hlen := lstTo_len ((fxT L T J) x) y y0
              obtain ⟨rb0, rb1⟩ := rowTo_bound ((fxG L J) x) y0
              have pq := pw_30 y (by omega)
              have pq0 := pw_pos y
              have kadd : IntKind.i64.wrap (rowTo ((fxG L J) x) y + pw y) = rowTo ((fxG L J) x) y + pw y := IntWalk.i64_in _ (by omega)
              have pt : nth (fxW L J) x < (T.length : Int) := by have := shape_len (alg_shape HA.out); have hnn : num L = L.length := rfl; omega
              have vj : tv T (nth (fxW L J) x) (nth (fxW L J) y) < (J.length : Int) := by omega
              have zj : nth J (tv T (nth (fxW L J) x) (nth (fxW L J) y)) < (J.length : Int) := by omega
              have ql : nth (fxW L J) y < (L.length : Int) := q1
              clear hFv
              cases hbl : bl L (nth (fxW L J) x) (nth (fxW L J) y)
              all_goals
                have HBL := Lib.hid hbl
                have hst := Lib.hid (show rowTo ((fxG L J) x) (y + 1) = (if bl L (nth (fxW L J) x) (nth (fxW L J) y) then rowTo ((fxG L J) x) y + pw y else rowTo ((fxG L J) x) y) from hrs.out)
                rw [hbl] at hst
                clear hbl
                go_wp2
                refine region_in (Below wr.heap.size wr) (by kernel_rfl) (by kernel_rfl) (Dr.below ⟨1, rfl⟩ _) fun hne => ?_
                have r0 : ∀ s : In (Below wr.heap.size wr), s.w.cell? ⟨w.heap.size, 0, none⟩ = some (.slice (some ⟨ab, ao, none⟩) L.length ca) := fun s => (bx_cells (Kx.out _ (K1.out _ s.h))).1
                have r1 : ∀ s : In (Below wr.heap.size wr), s.w.cell? ⟨g, x.toNat, none⟩ = some (.int .i64 (nth (fxW L J) x)) := fun s => KWr.out _ s.h x x0 hx
                have r2 : ∀ s : In (Below wr.heap.size wr), s.w.cell? ⟨g, y.toNat, none⟩ = some (.int .i64 (nth (fxW L J) y)) := fun s => KWr.out _ s.h y y0 hy
                repeat (go_big_quiet_step ((go_at_call 108; exact in_same _ (below_is ab ao ca L _ _ _ (KC.out _ (K1.out _ (In.h _))) hsA p0 p1 q0 q30 HBL.out))))
                refine wpQuiet_nil ?_
                intro s
                have hq7 := s.h
                obtain ⟨w7, hw7⟩ : ∃ x : World, x = s.w := ⟨_, rfl⟩
                rw [← hw7] at hq7 ⊢
                clear hw7 r0 r1 r2
                go_wp2_with (go_at_call 86; refine (power_any _ _ (by omega) (by omega)).mono ?_; rintro e w' ⟨rfl, rfl⟩)
                have h7l : Below wL.heap.size wL w7 := hrl.trans (hq7.mono hrl.size)
                have h71 := K1.out _ hq7
                have own7 := hown.below hq7
                have hb7 : Below wo.heap.size wo w7 := hbi.trans (hq7.mono hbi.size)
                have hs7 := hb7.size
                obtain ⟨va, vc, rfl, _⟩ := own7.slice
                have c0 : w7.cell? ⟨w.heap.size, 1, none⟩ = some (.slice (some ⟨tb, to, none⟩) T.length cb) := (bx_cells (Kx.out _ h71)).2
                have c1 : w7.cell? ⟨g, x.toNat, none⟩ = some (.int .i64 (nth (fxW L J) x)) := KW.out _ h7l x x0 hx
                have c2 : w7.cell? ⟨g, y.toNat, none⟩ = some (.int .i64 (nth (fxW L J) y)) := KW.out _ h7l y y0 hy
                have c3 : w7.cell? ⟨tb, to + (nth (fxW L J) x).toNat, none⟩ = some (.slice (some ⟨rb (nth (fxW L J) x), ro (nth (fxW L J) x), none⟩) L.length (rc (nth (fxW L J) x))) := (KA.out _ h71).row p0 p1
                have c4 : w7.cell? ⟨rb (nth (fxW L J) x), ro (nth (fxW L J) x) + (nth (fxW L J) y).toNat, none⟩ = some (.int .i64 (tv T (nth (fxW L J) x) (nth (fxW L J) y))) := (KA.out _ h71).cell p0 p1 q0 q1
                have c5 : w7.cell? ⟨jb, jo + (tv T (nth (fxW L J) x) (nth (fxW L J) y)).toNat, none⟩ = some (.int .i64 (nth J (tv T (nth (fxW L J) x) (nth (fxW L J) y)))) := KJ.out _ h71 _ t0 vj
                have c6 : w7.cell? ⟨(w1.heap.size + 1), (nth J (tv T (nth (fxW L J) x) (nth (fxW L J) y))).toNat, none⟩ = some (.int .i64 ((fxT L T J) x y)) := KDr.out _ hq7
                have b0 : w.heap.size < wo.heap.size := by omega
                have b1 : g < wo.heap.size := by omega
                have b2 : tb < wo.heap.size := by have := block_lt_of_cell ((KA.out _ (Below.refl _ _)).row p0 p1); simp at this; omega
                have b3 : rb (nth (fxW L J) x) < wo.heap.size := by have := block_lt_of_cell ((KA.out _ (Below.refl _ _)).cell p0 p1 q0 q1); simp at this; omega
                have b4 : jb < wo.heap.size := by have := block_lt_of_cell (KJ.out _ (Below.refl _ _) _ t0 vj); simp at this; omega
                have b5 : (w1.heap.size + 1) < wo.heap.size := by have := block_lt_of_cell (KD.out _ (Below.refl _ _) _ j0 (by omega)); simp at this; omega
                have hno : ∀ B, B < wo.heap.size → some B ≠ (Value.slice va (lstTo ((fxT L T J) x) y).length vc).ownBlock := fun B hB e => by
                  have := (World.ownsRow.lt own7 B e.symm).1
                  omega
                have HNO := Lib.hid hno
                have OW := Lib.hid own7
                clear hno own7 hown
                go_region_held3 (fun w' => w'.cell? ⟨w.heap.size, 1, none⟩ = some (.slice (some ⟨tb, to, none⟩) T.length cb) ∧ w'.cell? ⟨g, x.toNat, none⟩ = some (.int .i64 (nth (fxW L J) x)) ∧ w'.cell? ⟨g, y.toNat, none⟩ = some (.int .i64 (nth (fxW L J) y)) ∧ w'.cell? ⟨tb, to + (nth (fxW L J) x).toNat, none⟩ = some (.slice (some ⟨rb (nth (fxW L J) x), ro (nth (fxW L J) x), none⟩) L.length (rc (nth (fxW L J) x))) ∧ w'.cell? ⟨rb (nth (fxW L J) x), ro (nth (fxW L J) x) + (nth (fxW L J) y).toNat, none⟩ = some (.int .i64 (tv T (nth (fxW L J) x) (nth (fxW L J) y))) ∧ w'.cell? ⟨jb, jo + (tv T (nth (fxW L J) x) (nth (fxW L J) y)).toNat, none⟩ = some (.int .i64 (nth J (tv T (nth (fxW L J) x) (nth (fxW L J) y)))) ∧ w'.cell? ⟨(w1.heap.size + 1), (nth J (tv T (nth (fxW L J) x) (nth (fxW L J) y))).toNat, none⟩ = some (.int .i64 ((fxT L T J) x y)))
                  (first
                    | go_keep
                    | (go_split_ands
                       refine ⟨?_, ?_, ?_, ?_, ?_, ?_, ?_⟩
                       · (rw [hgrow.cell_far _ (by simp; omega) (HNO.out _ b0)]; assumption)
                       · (rw [hgrow.cell_far _ (by simp; omega) (HNO.out _ b1)]; assumption)
                       · (rw [hgrow.cell_far _ (by simp; omega) (HNO.out _ b1)]; assumption)
                       · (rw [hgrow.cell_far _ (by simp; omega) (HNO.out _ b2)]; assumption)
                       · (rw [hgrow.cell_far _ (by simp; omega) (HNO.out _ b3)]; assumption)
                       · (rw [hgrow.cell_far _ (by simp; omega) (HNO.out _ b4)]; assumption)
                       · (rw [hgrow.cell_far _ (by simp; omega) (HNO.out _ b5)]; assumption)))
                  ((refine step_append_lies _ (by rfl) _ _ _ (by rfl) wo.heap.size 3 i0 _ 1 8 Try.underlying23 hi hz0 hz1 hz2 rfl (by omega) _ _ _ (by rfl) (World.ownsRow.drew (World.ownsRow.alloc OW.out _))
                      ⟨w7.heap.size, 0, none⟩ 1 1 [.int .i64 ((fxT L T J) x y)] (by rfl) (by rfl) (World.news_of_block (cs := #[.int .i64 ((fxT L T J) x y)]) (t := 3) (fr := (0, 0)) (heap_alloc_new w7 _)) (by simp [Value.oneCell'])
                      (by omega) (by have := lstTo_len ((fxT L T J) x) y y0; unfold maxLen; omega) (by have := lstTo_len ((fxT L T J) x) y y0; omega) (by simp; omega) (w7.heap.size + 1) (by simp) ?_; intro gg cap w9 hown1 hgrow hat hlt))
                have hb9 : Below wo.heap.size wo w9 := ((hb7.alloc hs7 _).drew).grown hgrow (by simp; omega) (fun q hq => (World.ownsRow.lt OW.out q hq).1)
                clear c0 c1 c2 c3 c4 c5 c6 hgrow hat
                go_wp2
                exact ⟨⟨y + 1, by omega, by omega, rfl, by rw [hst.out]; rfl, by unfold Own; rw [hsucc.out, List.map_append, List.length_append]; exact hown1, hb9⟩, by simp [intOf]; omega⟩
            · have e : y = ((fxW L J).length : Int) := by omega
              rw [e] at hown ⊢
              obtain ⟨ra, rc2, rfl, _⟩ := hown.slice
              have hg1 := (hbi.block gq (lt_of_block hxg)).trans hxg
              obtain ⟨d0, d1⟩ := bx_cells hg1
              have hrowsB := hrows.below hbi
              have hupB := hup.below hbi
              have hrx := own_new hown hup (Nat.le_refl _)
              have hra0 := hown.from hlo
              have hsz2 := hbi.size
              have hbl0 : Below wL.heap.size wL wr := hbel.trans (hbi.mono hlo)
              have tl := Lib.hid (tabK_len (fxT L T J) ((fxW L J).length : Int) x)
              have ul := Lib.hid (upQ_len (fxG L J) ((fxW L J).length : Int) x)
              have hsu := Lib.hid (upQ_succ (fxG L J) ((fxW L J).length : Int) x x0)
              have hst := Lib.hid (tabK_succ (fxT L T J) ((fxW L J).length : Int) x x0)
              have hupa := World.ownsRow.alloc hupB (Obj.cells #[.int .i64 (rowTo ((fxG L J) x) ((fxW L J).length : Int))] 3)
              clear hrows hup hown
              go_wp2_with (first
                | (at_builtin; refine wpList_append_own_at _ rfl _ _ 23 rfl wL.heap.size 3 i0 (.int .i64 0) 1 8 Try.underlying23 hi hz0 hz1 hz2 rfl (by decide) _ _ _ rfl hupa ⟨wr.heap.size, 0, none⟩ 1 1 [.int .i64 (rowTo ((fxG L J) x) ((fxW L J).length : Int))] rfl rfl (cell_one_new _ _ _) (fun x hx => by simp at hx; subst hx; rfl) (by have := ul.out; unfold maxLen; omega) (by have := ul.out; omega) (by simp; omega) ?_; intro v2 w8 hown8 hgrow8 _ hat8; have hg7 := (heap_alloc_old wr (Obj.cells #[.int .i64 (rowTo ((fxG L J) x) ((fxW L J).length : Int))] 3) (lt_of_block hg1)).trans hg1; have hg8 := grown_keep hgrow8 hupa hg7 (by decide); obtain ⟨e4, e5⟩ := bx_cells hg8; have f8 := frozen_of_row w8 _ 0 _ _ hg8; obtain ⟨va, vn, vc, rfl⟩ := own_shape hown8; have hr8 := RowsX.grown (hrowsB.below ((Below.refl _ _).alloc (Nat.le_refl _) (Obj.cells #[.int .i64 (rowTo ((fxG L J) x) ((fxW L J).length : Int))] 3))) hgrow8 hupa hat8; have hra8 : Own wL.heap.size w8 _ _ := World.ownsRow.kept (hra0.alloc (Obj.cells #[.int .i64 (rowTo ((fxG L J) x) ((fxW L J).length : Int))] 3)) hgrow8 hrx; have hrx8 := fresh_ne hra8 hrx hat8 (fun q hq => by have := (World.ownsRow.lt hra0 q hq).2; simp; omega); have hb8 : Below wL.heap.size wL w8 := (hbl0.alloc (by omega) _).grown hgrow8 (by simp; omega) (fun q hq => (World.ownsRow.lt hupa q hq).1); clear hgrow8 hupa hg7 hat8 hrowsB hra0 hrx)
                | (obtain ⟨w9, hw9⟩ : ∃ wq : World, wq = w8.setCell ⟨gq, 0, none⟩ (.slice va vn vc) := ⟨_, rfl⟩; rw [← hw9]; have hg9 : w9.heap[gq]? = some (.cells #[.slice va vn vc, .slice tb2 (tabK (fxT L T J) ((fxW L J).length : Int) x).length tc2] 26 (0, 0)) := (by rw [hw9, setCell_eq_setRow w8 _ _ _ _ _ _ hg8, setRow_heap w8 _ _ _ _ _ hg8]; rfl); have ho9 : ∀ k, k ≠ gq → w9.heap[k]? = w8.heap[k]? := (fun k hk => by rw [hw9]; exact heap_setCell_other w8 _ k _ hk); have hr9 := RowsX.other hr8 hg8 (by decide) (by decide) ho9; have hu9 := ownsRow_other hown8 hg8 (by decide) ho9; have hra9 : Own wL.heap.size w9 _ _ := ownsRow_other hra8 hg8 (by decide) ho9; have hb9 : Below wL.heap.size wL w9 := (by rw [hw9]; exact hb8.setCell (by simp; omega) _); have s9 := hb9.size; obtain ⟨e6, e7⟩ := bx_cells hg9; obtain ⟨vs, h1v, h2v⟩ := hr9; have h1a := World.ownsRow.alloc h1v (Obj.cells #[.slice ra (lstTo ((fxT L T J) x) ((fxW L J).length : Int)).length rc2] 23); have h2a := Lib.hid (show ∀ j : Nat, j < (tabK (fxT L T J) ((fxW L J).length : Int) x).length → ∃ u, vs[j]? = some u ∧ Own wL.heap.size (w9.alloc (Obj.cells #[.slice ra (lstTo ((fxT L T J) x) ((fxW L J).length : Int)).length rc2] 23)) u (rowAt (tabK (fxT L T J) ((fxW L J).length : Int) x) j) ∧ (u.ownBlock = none ∨ u.ownBlock ≠ (Value.slice va vn vc).ownBlock) from fun j hj => by obtain ⟨u, hu, ho, hn⟩ := h2v j hj; exact ⟨u, hu, ho.alloc _, hn⟩); have hraa := hra9.alloc (Obj.cells #[.slice ra (lstTo ((fxT L T J) x) ((fxW L J).length : Int)).length rc2] 23); have hu9a := World.ownsRow.alloc hu9 (Obj.cells #[.slice ra (lstTo ((fxT L T J) x) ((fxW L J).length : Int)).length rc2] 23); have hg9a := (heap_alloc_old w9 (Obj.cells #[.slice ra (lstTo ((fxT L T J) x) ((fxW L J).length : Int)).length rc2] 23) (lt_of_block hg9)).trans hg9; have hb9a := hb9.alloc s9 (Obj.cells #[.slice ra (lstTo ((fxT L T J) x) ((fxW L J).length : Int)).length rc2] 23); clear hw9 e4 e5 f8 hown8 hr8 hra8 hb8 h2v)
                | (at_builtin; refine wpList_append_own _ rfl _ _ 24 rfl wL.heap.size 23 i1 (.slice none 0 0) 1 24 Try.underlying24 hi1 hy0 hy1 hy2 rfl (by decide) _ _ _ rfl h1a ⟨w9.heap.size, 0, none⟩ 1 1 [.slice ra (lstTo ((fxT L T J) x) ((fxW L J).length : Int)).length rc2] rfl rfl (cell_one_new _ _ _) (fun x hx => by simp at hx; subst hx; rfl) (by have := tl.out; unfold maxLen; omega) (by have := tl.out; omega) (by simp; omega) ?_; intro v3 w10 hown10 hgrow10 _; have hg10 := grown_keep hgrow10 h1a hg9a (by decide); have hr10 := RowsX.push h1a h2a.out hraa hrx8 hown10 hgrow10; have hu10 := World.ownsRow.kept hu9a hgrow10 (own_types hu9a h1a (by decide)); have hb10 : Below wL.heap.size wL w10 := hb9a.grown hgrow10 (by simp; omega) (fun q hq => (World.ownsRow.lt h1a q hq).1); obtain ⟨k0, k1⟩ := bx_cells hg10; have f10 := frozen_of_row w10 _ 1 _ _ hg10; obtain ⟨za, zn, zc, rfl⟩ := own_shape hown10))
              have ho11 : ∀ k, k ≠ gq → (w10.setCell ⟨gq, 1, none⟩ (.slice za zn zc)).heap[k]? = w10.heap[k]? := fun k hk => heap_setCell_other w10 _ k _ hk
              have hr11 := RowsX.other hr10 hg10 (by decide) (by decide) ho11
              rw [← hst.out] at hr11
              have hu11 : Own wL.heap.size (w10.setCell ⟨gq, 1, none⟩ (.slice za zn zc)) (.slice va vn vc) (upQ (fxG L J) ((fxW L J).length : Int) (x + 1)) := by
                rw [hsu.out]
                refine ownsRow_other ?_ hg10 (by decide) ho11
                rw [List.map_append, List.length_append]; exact hu10
              refine ⟨⟨x + 1, by omega, by omega, rfl, ⟨_, _, ?_, hu11, hr11⟩, hb10.setCell (by simp; omega) _⟩, by simp [intOf]; omega⟩
              rw [setCell_eq_setRow w10 _ _ _ _ _ _ hg10, setRow_heap w10 _ _ _ _ _ hg10]
              rfl
        · have e : x = ((fxW L J).length : Int) := by omega
          rw [e] at hrows hxg hup
          have hz := Kz.out _ (zL.trans (hbel.mono sL))
          have zz := zL.trans (hbel.mono sL)
          have hsB := hB.size
          go_wp2_with (first
            | (refine wpList_load_row_w rfl 26 _ rfl gq rfl _ _ _ _ hxg Try.underlying26 rfl (size_Alg _ _) ?_)
            | (refine wpList_store_row rfl 26 _ _ rfl (w.heap.size + 1) #[.slice ua (upQ (fxG L J) ((fxW L J).length : Int) ((fxW L J).length : Int)).length uc, .slice tb2 (tabK (fxT L T J) ((fxW L J).length : Int) ((fxW L J).length : Int)).length tc2] rfl rfl _ _ hz (size_Alg _ _) rfl (one_sl2 _ _ _ _ _ _) ?_))
          refine bodyPost_ret (results_cell_row rfl _ _ (w.heap.size + 1) _ _ _ _ rfl (setRow_heap _ _ _ _ _ _ hz) Try.underlying26 rfl (size_Alg _ _)) rfl ?_
          have hr6 := RowsAt.other hrows.at hz (by decide) (by decide) (fun k hk => setRow_other wr (w.heap.size + 1) k #[.slice ua (upQ (fxG L J) ((fxW L J).length : Int) ((fxW L J).length : Int)).length uc, .slice tb2 (tabK (fxT L T J) ((fxW L J).length : Int) ((fxW L J).length : Int)).length tc2] hk)
          have hu6 := ownsRow_other hup hz (by decide) (fun k hk => setRow_other wr (w.heap.size + 1) k #[.slice ua (upQ (fxG L J) ((fxW L J).length : Int) ((fxW L J).length : Int)).length uc, .slice tb2 (tabK (fxT L T J) ((fxW L J).length : Int) ((fxW L J).length : Int)).length tc2] hk)
          exact ⟨ua, uc, tb2, tc2, rfl, ownsRow_from hu6 (by omega), RowsAt.from hr6 (by omega), below_setRow' (hB.trans (zz.mono hB.size)) (by omega) _⟩
end Go.Proofs.Ytjcambkjcagcoaa

namespace Go.Proofs.Ytjcambkjcagcoaa
open Go.RowKit
set_option linter.unusedVariables false

theorem rdT_of {B : Nat} {w : World} {b : Option Addr} {cb : Nat} {T : List (List Int)} (h2 : RowsAt B w (.slice b T.length cb) T) : RdT w b T := by
  obtain ⟨b', c', e, h⟩ := h2.rd
  injection e with e1 _ _
  rw [e1]; exact h
set_option maxRecDepth 100000 in
set_option maxHeartbeats 2000000 in
theorem specFixed_alg (a b : Option Addr) (ca cb : Nat) (L : List Int) (T : List (List Int)) (aj : Option Addr) (cj : Nat) (J : List Int) (w : World) (hr : Rd w a L) (hT : RdT w b T) (hj : Rd w aj J) (hJ : J.length ≤ 1048576) (h : algB L T = false) : Calls Try.prog 13 #[.agg #[.slice a L.length ca, .slice b T.length cb], .slice aj J.length cj] w (RetSAb (fbL L T J) (fbT L T J) (fbOk L T J) w) := by
  obtain ⟨w1, hw1⟩ : ∃ w1, w1 = (w.alloc (.cells #[.slice a L.length ca, .slice b T.length cb] 26)).alloc (.cells #[.slice none 0 0, .slice none 0 0] 26) := ⟨_, rfl⟩
  have hB : Below w.heap.size w w1 := by rw [hw1]; exact ((Below.refl _ _).alloc (Nat.le_refl _) _).alloc (by simp) _
  have hx : w1.heap[w.heap.size]? = some (.cells #[.slice a L.length ca, .slice b T.length cb] 26 (0, 0)) := by rw [hw1, Below.heap_alloc _ _ _ (by simp)]; exact heap_alloc_new w _
  have hz : w1.heap[w.heap.size + 1]? = some (.cells #[.slice none 0 0, .slice none 0 0] 26 (0, 0)) := by rw [hw1]; exact heap_alloc2_new _ _ _
  have Kx := Lib.hid (show ∀ wz, Below w1.heap.size w1 wz → wz.heap[w.heap.size]? = some (.cells #[.slice a L.length ca, .slice b T.length cb] 26 (0, 0)) from fun wz h => (h.block _ (lt_of_block hx)).trans hx)
  have Kz := Lib.hid (show ∀ wz, Below w1.heap.size w1 wz → wz.heap[w.heap.size + 1]? = some (.cells #[.slice none 0 0, .slice none 0 0] 26 (0, 0)) from fun wz h => (h.block _ (lt_of_block hz)).trans hz)
  have KR := Lib.hid (show ∀ wz, Below w1.heap.size w1 wz → Rd wz a L from fun wz h => (hr.below hB).below h)
  have KT := Lib.hid (show ∀ wz, Below w1.heap.size w1 wz → RdT wz b T from fun wz h => (hT.below hB).below h)
  have KJ := Lib.hid (show ∀ wz, Below w1.heap.size w1 wz → Rd wz aj J from fun wz h => (hj.below hB).below h)
  have hsz : w.heap.size + 1 < w1.heap.size := lt_of_block hz
  have z1 : Below w1.heap.size w1 w1 := Below.refl _ _
  clear hx hz hr hT hj
  have HA := Lib.hid h
  have HV := Lib.hid (show fbOk L T J = false by unfold fbOk asnB; rw [h]; rfl)
  clear h
  go_enter Try.func13, Try.ntmps13
  go_wp2_with (first
    | go_skip
    | (rw [← hw1]; clear hw1)
    | (refine wpList_load_row_w rfl 26 _ rfl w.heap.size rfl _ _ _ _ (Kx.out _ (by assumption)) Try.underlying26 rfl (size_Alg _ _) ?_)
    | (go_at_call 57; refine (ret_below (validAlgebra_any _ _ _ _ L T _ (KR.out _ z1) (KT.out _ z1)) HA.out).mono ?_; rintro e w2 ⟨rfl, h2⟩; have z2 : Below w1.heap.size w1 w2 := h2; clear h2 z1)
    | (refine wpList_store_row rfl 26 _ _ rfl (w.heap.size + 1) #[.slice none 0 0, .slice none 0 0] rfl rfl _ _ (Kz.out _ z2) (size_Alg _ _) rfl (one_sl2 _ _ _ _ _ _) ?_))
  refine bodyPost_ret (v := .tuple #[.agg #[.slice none 0 0, .slice none 0 0], .bool false]) (results_Alg_tmp rfl _ _ (w.heap.size + 1) rfl _ _ (setRow_heap _ _ _ _ _ _ (Kz.out _ z2)) rfl) rfl ?_
  rw [HV.out, (fb_no HV.out).1, (fb_no HV.out).2]
  exact ⟨_, _, _, _, _, _, rfl, OA.zero _ _, below_setRow' (hB.trans (z2.mono hB.size)) (by omega) _⟩
set_option maxRecDepth 100000 in
set_option maxHeartbeats 2000000 in
theorem specFixed_nuc (a b : Option Addr) (ca cb : Nat) (L : List Int) (T : List (List Int)) (aj : Option Addr) (cj : Nat) (J : List Int) (w : World) (hr : Rd w a L) (hT : RdT w b T) (hj : Rd w aj J) (hJ : J.length ≤ 1048576) (h : algB L T = true) (h2 : snB L T J = false) : Calls Try.prog 13 #[.agg #[.slice a L.length ca, .slice b T.length cb], .slice aj J.length cj] w (RetSAb (fbL L T J) (fbT L T J) (fbOk L T J) w) := by
  obtain ⟨w1, hw1⟩ : ∃ w1, w1 = (w.alloc (.cells #[.slice a L.length ca, .slice b T.length cb] 26)).alloc (.cells #[.slice none 0 0, .slice none 0 0] 26) := ⟨_, rfl⟩
  have hB : Below w.heap.size w w1 := by rw [hw1]; exact ((Below.refl _ _).alloc (Nat.le_refl _) _).alloc (by simp) _
  have hx : w1.heap[w.heap.size]? = some (.cells #[.slice a L.length ca, .slice b T.length cb] 26 (0, 0)) := by rw [hw1, Below.heap_alloc _ _ _ (by simp)]; exact heap_alloc_new w _
  have hz : w1.heap[w.heap.size + 1]? = some (.cells #[.slice none 0 0, .slice none 0 0] 26 (0, 0)) := by rw [hw1]; exact heap_alloc2_new _ _ _
  have Kx := Lib.hid (show ∀ wz, Below w1.heap.size w1 wz → wz.heap[w.heap.size]? = some (.cells #[.slice a L.length ca, .slice b T.length cb] 26 (0, 0)) from fun wz h => (h.block _ (lt_of_block hx)).trans hx)
  have Kz := Lib.hid (show ∀ wz, Below w1.heap.size w1 wz → wz.heap[w.heap.size + 1]? = some (.cells #[.slice none 0 0, .slice none 0 0] 26 (0, 0)) from fun wz h => (h.block _ (lt_of_block hz)).trans hz)
  have KR := Lib.hid (show ∀ wz, Below w1.heap.size w1 wz → Rd wz a L from fun wz h => (hr.below hB).below h)
  have KT := Lib.hid (show ∀ wz, Below w1.heap.size w1 wz → RdT wz b T from fun wz h => (hT.below hB).below h)
  have KJ := Lib.hid (show ∀ wz, Below w1.heap.size w1 wz → Rd wz aj J from fun wz h => (hj.below hB).below h)
  have hsz : w.heap.size + 1 < w1.heap.size := lt_of_block hz
  have z1 : Below w1.heap.size w1 w1 := Below.refl _ _
  clear hx hz hr hT hj
  have HA := Lib.hid h
  have HS := Lib.hid h2
  have HV := Lib.hid (show fbOk L T J = false by unfold fbOk asnB; rw [h, h2]; rfl)
  clear h h2
  go_enter Try.func13, Try.ntmps13
  go_wp2_with (first
    | go_skip
    | (rw [← hw1]; clear hw1)
    | (refine wpList_load_row_w rfl 26 _ rfl w.heap.size rfl _ _ _ _ (Kx.out _ (by assumption)) Try.underlying26 rfl (size_Alg _ _) ?_)
    | (go_at_call 57; refine (ret_below (validAlgebra_any _ _ _ _ L T _ (KR.out _ z1) (KT.out _ z1)) HA.out).mono ?_; rintro e w2 ⟨rfl, h2⟩; have z2 : Below w1.heap.size w1 w2 := h2; clear h2 z1)
    | (go_at_call 58; refine (specIsNuc_any a b ca cb L T aj cj J _ (KR.out _ z2) (KT.out _ z2) (KJ.out _ z2) HA.out).mono ?_; rintro e w3 ⟨he3, h3⟩; rw [HS.out] at he3; subst he3; have z3 : Below w1.heap.size w1 w3 := z2.trans (h3.mono z2.size); clear h3 z2)
    | (refine wpList_store_row rfl 26 _ _ rfl (w.heap.size + 1) #[.slice none 0 0, .slice none 0 0] rfl rfl _ _ (Kz.out _ z3) (size_Alg _ _) rfl (one_sl2 _ _ _ _ _ _) ?_))
  refine bodyPost_ret (v := .tuple #[.agg #[.slice none 0 0, .slice none 0 0], .bool false]) (results_Alg_tmp rfl _ _ (w.heap.size + 1) rfl _ _ (setRow_heap _ _ _ _ _ _ (Kz.out _ z3)) rfl) rfl ?_
  rw [HV.out, (fb_no HV.out).1, (fb_no HV.out).2]
  exact ⟨_, _, _, _, _, _, rfl, OA.zero _ _, below_setRow' (hB.trans (z3.mono hB.size)) (by omega) _⟩
set_option maxRecDepth 100000 in
set_option maxHeartbeats 2000000 in
theorem specFixed_low (a b : Option Addr) (ca cb : Nat) (L : List Int) (T : List (List Int)) (aj : Option Addr) (cj : Nat) (J : List Int) (w : World) (hr : Rd w a L) (hT : RdT w b T) (hj : Rd w aj J) (hJ : J.length ≤ 1048576) (h : algB L T = true) (h2 : snB L T J = true) (h3 : (nth (fxW L J) 0 == nth J 0) = false) : Calls Try.prog 13 #[.agg #[.slice a L.length ca, .slice b T.length cb], .slice aj J.length cj] w (RetSAb (fbL L T J) (fbT L T J) (fbOk L T J) w) := by
  obtain ⟨w1, hw1⟩ : ∃ w1, w1 = (w.alloc (.cells #[.slice a L.length ca, .slice b T.length cb] 26)).alloc (.cells #[.slice none 0 0, .slice none 0 0] 26) := ⟨_, rfl⟩
  have hB : Below w.heap.size w w1 := by rw [hw1]; exact ((Below.refl _ _).alloc (Nat.le_refl _) _).alloc (by simp) _
  have hx : w1.heap[w.heap.size]? = some (.cells #[.slice a L.length ca, .slice b T.length cb] 26 (0, 0)) := by rw [hw1, Below.heap_alloc _ _ _ (by simp)]; exact heap_alloc_new w _
  have hz : w1.heap[w.heap.size + 1]? = some (.cells #[.slice none 0 0, .slice none 0 0] 26 (0, 0)) := by rw [hw1]; exact heap_alloc2_new _ _ _
  have Kx := Lib.hid (show ∀ wz, Below w1.heap.size w1 wz → wz.heap[w.heap.size]? = some (.cells #[.slice a L.length ca, .slice b T.length cb] 26 (0, 0)) from fun wz h => (h.block _ (lt_of_block hx)).trans hx)
  have Kz := Lib.hid (show ∀ wz, Below w1.heap.size w1 wz → wz.heap[w.heap.size + 1]? = some (.cells #[.slice none 0 0, .slice none 0 0] 26 (0, 0)) from fun wz h => (h.block _ (lt_of_block hz)).trans hz)
  have KR := Lib.hid (show ∀ wz, Below w1.heap.size w1 wz → Rd wz a L from fun wz h => (hr.below hB).below h)
  have KT := Lib.hid (show ∀ wz, Below w1.heap.size w1 wz → RdT wz b T from fun wz h => (hT.below hB).below h)
  have KJ := Lib.hid (show ∀ wz, Below w1.heap.size w1 wz → Rd wz aj J from fun wz h => (hj.below hB).below h)
  have hsz : w.heap.size + 1 < w1.heap.size := lt_of_block hz
  have z1 : Below w1.heap.size w1 w1 := Below.refl _ _
  clear hx hz hr hT hj
  have HA := Lib.hid h
  have HS := Lib.hid h2
  have HQ := Lib.hid (show algB (upL (fxG L J) ((fxW L J).length : Int)) (tabL (fxT L T J) ((fxW L J).length : Int)) = (nth (fxW L J) 0 == nth J 0) from fx_alg h h2)
  rw [h3] at HQ
  have HV := Lib.hid (show fbOk L T J = false by unfold fbOk asnB; rw [h, h2, h3]; rfl)
  clear h h2 h3
  go_enter Try.func13, Try.ntmps13
  go_wp2_with (first
    | go_skip
    | (rw [← hw1]; clear hw1)
    | (refine wpList_load_row_w rfl 26 _ rfl w.heap.size rfl _ _ _ _ (Kx.out _ (by assumption)) Try.underlying26 rfl (size_Alg _ _) ?_)
    | (refine wpList_load_row_w rfl 26 _ rfl g rfl _ _ _ _ (K5.out _ (by assumption)) Try.underlying26 rfl (size_Alg _ _) ?_)
    | (go_at_call 57; refine (ret_below (validAlgebra_any _ _ _ _ (upL (fxG L J) ((fxW L J).length : Int)) (tabL (fxT L T J) ((fxW L J).length : Int)) _ ho5.rd (rdT_of hr5)) HQ.out).mono ?_; rintro e w6 ⟨rfl, h6⟩; have z6 : Below w1.heap.size w1 w6 := z5.trans (h6.mono z5.size); have ho6 := ho5.below h6; have hr6 := hr5.below h6; have y6 : Below w5.heap.size w5 w6 := h6; clear h6 z5 ho5 hr5 y5)
    | (go_at_call 57; refine (ret_below (validAlgebra_any _ _ _ _ L T _ (KR.out _ z1) (KT.out _ z1)) HA.out).mono ?_; rintro e w2 ⟨rfl, h2⟩; have z2 : Below w1.heap.size w1 w2 := h2; clear h2 z1)
    | (go_at_call 58; refine (specIsNuc_any a b ca cb L T aj cj J _ (KR.out _ z2) (KT.out _ z2) (KJ.out _ z2) HA.out).mono ?_; rintro e w3 ⟨he3, h3⟩; rw [HS.out] at he3; subst he3; have z3 : Below w1.heap.size w1 w3 := z2.trans (h3.mono z2.size); clear h3 z2)
    | (go_at_call 59; refine (specFixedS_any a b ca cb L T aj cj J _ (KR.out _ z3) (KT.out _ z3) (KJ.out _ z3) hJ HA.out HS.out).mono ?_; rintro e w4 ⟨ra, rc, rb, rd, rfl, ho4, hr4, hb4⟩; have z4 : Below w1.heap.size w1 w4 := z3.trans (hb4.mono z3.size); have s3 := z3.size; have s4 := hb4.size; clear z3 hb4)
    | (refine wpList_store_row rfl 26 _ _ rfl w4.heap.size #[.slice ra (upL (fxG L J) ((fxW L J).length : Int)).length rc, .slice rb (tabL (fxT L T J) ((fxW L J).length : Int)).length rd] rfl rfl _ _ (heap_alloc_new w4 (.cells #[.slice none 0 0, .slice none 0 0] 26)) (size_Alg _ _) rfl (one_sl2 _ _ _ _ _ _) ?_; rw [World.setRow_alloc_new]; obtain ⟨g, hg⟩ : ∃ g : Nat, g = w4.heap.size := ⟨_, rfl⟩; obtain ⟨w5, hw5⟩ : ∃ x : World, x = w4.alloc (.cells #[.slice ra (upL (fxG L J) ((fxW L J).length : Int)).length rc, .slice rb (tabL (fxT L T J) ((fxW L J).length : Int)).length rd] 26) := ⟨_, rfl⟩; rw [← hw5, ← hg]; have q5 : Below w4.heap.size w4 w5 := (by rw [hw5]; exact (Below.refl _ _).alloc (Nat.le_refl _) _); have hx5 : w5.heap[g]? = some (.cells #[.slice ra (upL (fxG L J) ((fxW L J).length : Int)).length rc, .slice rb (tabL (fxT L T J) ((fxW L J).length : Int)).length rd] 26 (0, 0)) := (by rw [hw5, hg]; exact heap_alloc_new w4 _); have K5 := Lib.hid (show ∀ wz, Below w5.heap.size w5 wz → wz.heap[g]? = some (.cells #[.slice ra (upL (fxG L J) ((fxW L J).length : Int)).length rc, .slice rb (tabL (fxT L T J) ((fxW L J).length : Int)).length rd] 26 (0, 0)) from fun wz h => (h.block _ (lt_of_block hx5)).trans hx5); have z5 : Below w1.heap.size w1 w5 := z4.trans (q5.mono z4.size); have ho5 := ho4.below q5; have hr5 := hr4.below q5; have y5 : Below w5.heap.size w5 w5 := Below.refl _ _; clear hw5 hg hx5 q5 z4 ho4 hr4)
    | (refine wpList_store_row rfl 26 _ _ rfl (w.heap.size + 1) #[.slice none 0 0, .slice none 0 0] rfl rfl _ _ (Kz.out _ z6) (size_Alg _ _) rfl (one_sl2 _ _ _ _ _ _) ?_))
  refine bodyPost_ret (v := .tuple #[.agg #[.slice none 0 0, .slice none 0 0], .bool false]) (results_Alg_tmp rfl _ _ (w.heap.size + 1) rfl _ _ (setRow_heap _ _ _ _ _ _ (Kz.out _ z6)) rfl) rfl ?_
  rw [HV.out, (fb_no HV.out).1, (fb_no HV.out).2]
  exact ⟨_, _, _, _, _, _, rfl, OA.zero _ _, below_setRow' (hB.trans (z6.mono hB.size)) (by omega) _⟩
set_option maxRecDepth 100000 in
set_option maxHeartbeats 2000000 in
theorem specFixed_yes (a b : Option Addr) (ca cb : Nat) (L : List Int) (T : List (List Int)) (aj : Option Addr) (cj : Nat) (J : List Int) (w : World) (hr : Rd w a L) (hT : RdT w b T) (hj : Rd w aj J) (hJ : J.length ≤ 1048576) (h : algB L T = true) (h2 : snB L T J = true) (h3 : (nth (fxW L J) 0 == nth J 0) = true) : Calls Try.prog 13 #[.agg #[.slice a L.length ca, .slice b T.length cb], .slice aj J.length cj] w (RetSAb (fbL L T J) (fbT L T J) (fbOk L T J) w) := by
  obtain ⟨w1, hw1⟩ : ∃ w1, w1 = (w.alloc (.cells #[.slice a L.length ca, .slice b T.length cb] 26)).alloc (.cells #[.slice none 0 0, .slice none 0 0] 26) := ⟨_, rfl⟩
  have hB : Below w.heap.size w w1 := by rw [hw1]; exact ((Below.refl _ _).alloc (Nat.le_refl _) _).alloc (by simp) _
  have hx : w1.heap[w.heap.size]? = some (.cells #[.slice a L.length ca, .slice b T.length cb] 26 (0, 0)) := by rw [hw1, Below.heap_alloc _ _ _ (by simp)]; exact heap_alloc_new w _
  have hz : w1.heap[w.heap.size + 1]? = some (.cells #[.slice none 0 0, .slice none 0 0] 26 (0, 0)) := by rw [hw1]; exact heap_alloc2_new _ _ _
  have Kx := Lib.hid (show ∀ wz, Below w1.heap.size w1 wz → wz.heap[w.heap.size]? = some (.cells #[.slice a L.length ca, .slice b T.length cb] 26 (0, 0)) from fun wz h => (h.block _ (lt_of_block hx)).trans hx)
  have Kz := Lib.hid (show ∀ wz, Below w1.heap.size w1 wz → wz.heap[w.heap.size + 1]? = some (.cells #[.slice none 0 0, .slice none 0 0] 26 (0, 0)) from fun wz h => (h.block _ (lt_of_block hz)).trans hz)
  have KR := Lib.hid (show ∀ wz, Below w1.heap.size w1 wz → Rd wz a L from fun wz h => (hr.below hB).below h)
  have KT := Lib.hid (show ∀ wz, Below w1.heap.size w1 wz → RdT wz b T from fun wz h => (hT.below hB).below h)
  have KJ := Lib.hid (show ∀ wz, Below w1.heap.size w1 wz → Rd wz aj J from fun wz h => (hj.below hB).below h)
  have hsz : w.heap.size + 1 < w1.heap.size := lt_of_block hz
  have z1 : Below w1.heap.size w1 w1 := Below.refl _ _
  clear hx hz hr hT hj
  have HA := Lib.hid h
  have HS := Lib.hid h2
  have HQ := Lib.hid (show algB (upL (fxG L J) ((fxW L J).length : Int)) (tabL (fxT L T J) ((fxW L J).length : Int)) = (nth (fxW L J) 0 == nth J 0) from fx_alg h h2)
  rw [h3] at HQ
  have HV := Lib.hid (fb_yes (show fbOk L T J = true by unfold fbOk asnB; rw [h, h2, h3]; rfl))
  clear h h2 h3
  go_enter Try.func13, Try.ntmps13
  go_wp2_with (first
    | go_skip
    | (rw [← hw1]; clear hw1)
    | (refine wpList_load_row_w rfl 26 _ rfl w.heap.size rfl _ _ _ _ (Kx.out _ (by assumption)) Try.underlying26 rfl (size_Alg _ _) ?_)
    | (refine wpList_load_row_w rfl 26 _ rfl g rfl _ _ _ _ (K5.out _ (by assumption)) Try.underlying26 rfl (size_Alg _ _) ?_)
    | (go_at_call 57; refine (ret_below (validAlgebra_any _ _ _ _ (upL (fxG L J) ((fxW L J).length : Int)) (tabL (fxT L T J) ((fxW L J).length : Int)) _ ho5.rd (rdT_of hr5)) HQ.out).mono ?_; rintro e w6 ⟨rfl, h6⟩; have z6 : Below w1.heap.size w1 w6 := z5.trans (h6.mono z5.size); have ho6 := ho5.below h6; have hr6 := hr5.below h6; have y6 : Below w5.heap.size w5 w6 := h6; clear h6 z5 ho5 hr5 y5)
    | (go_at_call 57; refine (ret_below (validAlgebra_any _ _ _ _ L T _ (KR.out _ z1) (KT.out _ z1)) HA.out).mono ?_; rintro e w2 ⟨rfl, h2⟩; have z2 : Below w1.heap.size w1 w2 := h2; clear h2 z1)
    | (go_at_call 58; refine (specIsNuc_any a b ca cb L T aj cj J _ (KR.out _ z2) (KT.out _ z2) (KJ.out _ z2) HA.out).mono ?_; rintro e w3 ⟨he3, h3⟩; rw [HS.out] at he3; subst he3; have z3 : Below w1.heap.size w1 w3 := z2.trans (h3.mono z2.size); clear h3 z2)
    | (go_at_call 59; refine (specFixedS_any a b ca cb L T aj cj J _ (KR.out _ z3) (KT.out _ z3) (KJ.out _ z3) hJ HA.out HS.out).mono ?_; rintro e w4 ⟨ra, rc, rb, rd, rfl, ho4, hr4, hb4⟩; have z4 : Below w1.heap.size w1 w4 := z3.trans (hb4.mono z3.size); have s3 := z3.size; have s4 := hb4.size; clear z3 hb4)
    | (refine wpList_store_row rfl 26 _ _ rfl w4.heap.size #[.slice ra (upL (fxG L J) ((fxW L J).length : Int)).length rc, .slice rb (tabL (fxT L T J) ((fxW L J).length : Int)).length rd] rfl rfl _ _ (heap_alloc_new w4 (.cells #[.slice none 0 0, .slice none 0 0] 26)) (size_Alg _ _) rfl (one_sl2 _ _ _ _ _ _) ?_; rw [World.setRow_alloc_new]; obtain ⟨g, hg⟩ : ∃ g : Nat, g = w4.heap.size := ⟨_, rfl⟩; obtain ⟨w5, hw5⟩ : ∃ x : World, x = w4.alloc (.cells #[.slice ra (upL (fxG L J) ((fxW L J).length : Int)).length rc, .slice rb (tabL (fxT L T J) ((fxW L J).length : Int)).length rd] 26) := ⟨_, rfl⟩; rw [← hw5, ← hg]; have q5 : Below w4.heap.size w4 w5 := (by rw [hw5]; exact (Below.refl _ _).alloc (Nat.le_refl _) _); have hx5 : w5.heap[g]? = some (.cells #[.slice ra (upL (fxG L J) ((fxW L J).length : Int)).length rc, .slice rb (tabL (fxT L T J) ((fxW L J).length : Int)).length rd] 26 (0, 0)) := (by rw [hw5, hg]; exact heap_alloc_new w4 _); have K5 := Lib.hid (show ∀ wz, Below w5.heap.size w5 wz → wz.heap[g]? = some (.cells #[.slice ra (upL (fxG L J) ((fxW L J).length : Int)).length rc, .slice rb (tabL (fxT L T J) ((fxW L J).length : Int)).length rd] 26 (0, 0)) from fun wz h => (h.block _ (lt_of_block hx5)).trans hx5); have z5 : Below w1.heap.size w1 w5 := z4.trans (q5.mono z4.size); have ho5 := ho4.below q5; have hr5 := hr4.below q5; have y5 : Below w5.heap.size w5 w5 := Below.refl _ _; clear hw5 hg hx5 q5 z4 ho4 hr4)
    | (refine wpList_store_row rfl 26 _ _ rfl (w.heap.size + 1) #[.slice ra (upL (fxG L J) ((fxW L J).length : Int)).length rc, .slice rb (tabL (fxT L T J) ((fxW L J).length : Int)).length rd] rfl rfl _ _ (Kz.out _ z6) (size_Alg _ _) rfl (one_sl2 _ _ _ _ _ _) ?_))
  refine bodyPost_ret (v := .tuple #[.agg #[.slice ra (upL (fxG L J) ((fxW L J).length : Int)).length rc, .slice rb (tabL (fxT L T J) ((fxW L J).length : Int)).length rd], .bool true]) (results_Alg_tmp rfl _ _ (w.heap.size + 1) rfl _ _ (setRow_heap _ _ _ _ _ _ (Kz.out _ z6)) rfl) rfl ?_
  rw [HV.out.1, HV.out.2.1, HV.out.2.2]
  have hk : ∀ k, k ≠ w.heap.size + 1 → (w6.setRow (w.heap.size + 1) #[.slice ra (upL (fxG L J) ((fxW L J).length : Int)).length rc, .slice rb (tabL (fxT L T J) ((fxW L J).length : Int)).length rd]).heap[k]? = w6.heap[k]? := fun k hk => setRow_other w6 _ k _ hk
  exact ⟨_, _, _, _, _, _, rfl, oa_of (by have := hB.size; omega) (ownsRow_other ho6 (Kz.out _ z6) (by decide) hk) (RowsAt.other hr6 (Kz.out _ z6) (by decide) (by decide) hk), below_setRow' (hB.trans (z6.mono hB.size)) (by omega) _⟩
/-- spec.FixedBy -/
theorem specFixedBy_any (a b : Option Addr) (ca cb : Nat) (L : List Int) (T : List (List Int)) (aj : Option Addr) (cj : Nat) (J : List Int) (w : World) (hr : Rd w a L) (hT : RdT w b T) (hj : Rd w aj J) (hJ : J.length ≤ 1048576) : Calls Try.prog 13 #[.agg #[.slice a L.length ca, .slice b T.length cb], .slice aj J.length cj] w (RetSAb (fbL L T J) (fbT L T J) (fbOk L T J) w) := by
  cases h : algB L T with
  | false => exact specFixed_alg a b ca cb L T aj cj J w hr hT hj hJ h
  | true =>
    cases h2 : snB L T J with
    | false => exact specFixed_nuc a b ca cb L T aj cj J w hr hT hj hJ h h2
    | true =>
      cases h3 : (nth (fxW L J) 0 == nth J 0) with
      | false => exact specFixed_low a b ca cb L T aj cj J w hr hT hj hJ h h2 h3
      | true => exact specFixed_yes a b ca cb L T aj cj J w hr hT hj hJ h h2 h3
end Go.Proofs.Ytjcambkjcagcoaa
