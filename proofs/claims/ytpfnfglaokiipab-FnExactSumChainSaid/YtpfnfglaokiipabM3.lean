import Derived.Test.YtpfnfglaokiipabM2
/- Plain facts on lattices and algebras; nothing of the program. -/
namespace Go.Proofs.Ytpfnfglaokiipab
/-- x is an element -/
def El (L : List Int) (x : Int) : Prop := 0 ≤ x ∧ x < num L
theorem lat_ord {L : List Int} (h : latB L = true) {x : Int} (hx : El L x) : bl L x x = true ∧ bl L 0 x = true ∧ bl L x (num L - 1) = true ∧ allI (num L) (ordXY L x) = true := by
  unfold latB at h; rw [Bool.and_eq_true] at h
  have h := h.1
  unfold voB at h; simp only [Bool.and_eq_true] at h
  have := (allI_iff _ _).1 h.2 x hx.1 hx.2
  unfold ordX at this; simp only [Bool.and_eq_true] at this
  exact ⟨this.1.1.1, this.1.1.2, this.1.2, this.2⟩
theorem el_0 {L : List Int} (h : latB L = true) : El L 0 := ⟨by omega, by have := lat_len h; omega⟩
theorem el_t {L : List Int} (h : latB L = true) : El L (num L - 1) := ⟨by have := lat_len h; omega, by omega⟩
theorem bl_refl {L : List Int} (h : latB L = true) {x : Int} (hx : El L x) : bl L x x = true := (lat_ord h hx).1
theorem bl_low {L : List Int} (h : latB L = true) {x : Int} (hx : El L x) : bl L 0 x = true := (lat_ord h hx).2.1
theorem bl_top {L : List Int} (h : latB L = true) {x : Int} (hx : El L x) : bl L x (num L - 1) = true := (lat_ord h hx).2.2.1
theorem bl_anti {L : List Int} (h : latB L = true) {x y : Int} (hx : El L x) (hy : El L y) (h1 : bl L x y = true) (h2 : bl L y x = true) : x = y := by
  have := (allI_iff _ _).1 (lat_ord h hx).2.2.2 y hy.1 hy.2
  unfold ordXY at this; rw [Bool.and_eq_true, h1, h2] at this
  simpa using this.1
theorem bl_trans {L : List Int} (h : latB L = true) {x y z : Int} (hx : El L x) (hy : El L y) (hz : El L z) (h1 : bl L x y = true) (h2 : bl L y z = true) : bl L x z = true := by
  have := (allI_iff _ _).1 (lat_ord h hx).2.2.2 y hy.1 hy.2
  unfold ordXY at this; rw [Bool.and_eq_true] at this
  have := (allI_iff _ _).1 this.2 z hz.1 hz.2
  unfold ordXYZ at this; rw [h1, h2] at this
  simpa using this
theorem jn_el {L : List Int} (h : latB L = true) {x y : Int} (hx : El L x) (hy : El L y) : El L (jn L x y) := lat_jn h hx.1 hx.2 hy.1 hy.2
theorem mt_el {L : List Int} (h : latB L = true) {x y : Int} (hx : El L x) (hy : El L y) : El L (mt L x y) := lat_mt h hx.1 hx.2 hy.1 hy.2
theorem jn_is {L : List Int} (h : latB L = true) {x y : Int} (hx : El L x) (hy : El L y) : isJoinB L x y (jn L x y) = true := by
  have hp := (jn_el h hx hy).1
  unfold jn at hp ⊢
  rcases firstI_cases (num L) (isJoinB L x y) with ⟨e, _⟩ | ⟨_, _, h3, _⟩
  · omega
  · exact h3
theorem mt_is {L : List Int} (h : latB L = true) {x y : Int} (hx : El L x) (hy : El L y) : isMeetB L x y (mt L x y) = true := by
  have hp := (mt_el h hx hy).1
  unfold mt at hp ⊢
  rcases firstI_cases (num L) (isMeetB L x y) with ⟨e, _⟩ | ⟨_, _, h3, _⟩
  · omega
  · exact h3
theorem jn_ub1 {L : List Int} (h : latB L = true) {x y : Int} (hx : El L x) (hy : El L y) : bl L x (jn L x y) = true := by
  have := jn_is h hx hy; unfold isJoinB at this; simp only [Bool.and_eq_true] at this; exact this.1.1
theorem jn_ub2 {L : List Int} (h : latB L = true) {x y : Int} (hx : El L x) (hy : El L y) : bl L y (jn L x y) = true := by
  have := jn_is h hx hy; unfold isJoinB at this; simp only [Bool.and_eq_true] at this; exact this.1.2
theorem jn_le {L : List Int} (h : latB L = true) {x y z : Int} (hx : El L x) (hy : El L y) (hz : El L z) (h1 : bl L x z = true) (h2 : bl L y z = true) : bl L (jn L x y) z = true := by
  have := jn_is h hx hy; unfold isJoinB at this; simp only [Bool.and_eq_true] at this
  have := (allI_iff _ _).1 this.2 z hz.1 hz.2
  simp only [h1, h2] at this; simpa using this
theorem mt_lb1 {L : List Int} (h : latB L = true) {x y : Int} (hx : El L x) (hy : El L y) : bl L (mt L x y) x = true := by
  have := mt_is h hx hy; unfold isMeetB at this; simp only [Bool.and_eq_true] at this; exact this.1.1
theorem mt_lb2 {L : List Int} (h : latB L = true) {x y : Int} (hx : El L x) (hy : El L y) : bl L (mt L x y) y = true := by
  have := mt_is h hx hy; unfold isMeetB at this; simp only [Bool.and_eq_true] at this; exact this.1.2
theorem mt_ge {L : List Int} (h : latB L = true) {x y z : Int} (hx : El L x) (hy : El L y) (hz : El L z) (h1 : bl L z x = true) (h2 : bl L z y = true) : bl L z (mt L x y) = true := by
  have := mt_is h hx hy; unfold isMeetB at this; simp only [Bool.and_eq_true] at this
  have := (allI_iff _ _).1 this.2 z hz.1 hz.2
  simp only [h1, h2] at this; simpa using this
theorem jn_of_le {L : List Int} (h : latB L = true) {x y : Int} (hx : El L x) (hy : El L y) (h1 : bl L x y = true) : jn L x y = y :=
  bl_anti h (jn_el h hx hy) hy (jn_le h hx hy hy h1 (bl_refl h hy)) (jn_ub2 h hx hy)
theorem jn_of_ge {L : List Int} (h : latB L = true) {x y : Int} (hx : El L x) (hy : El L y) (h1 : bl L y x = true) : jn L x y = x :=
  bl_anti h (jn_el h hx hy) hx (jn_le h hx hy hx (bl_refl h hx) h1) (jn_ub1 h hx hy)
theorem mt_of_le {L : List Int} (h : latB L = true) {x y : Int} (hx : El L x) (hy : El L y) (h1 : bl L x y = true) : mt L x y = x :=
  bl_anti h (mt_el h hx hy) hx (mt_lb1 h hx hy) (mt_ge h hx hy hx (bl_refl h hx) h1)
theorem mt_of_ge {L : List Int} (h : latB L = true) {x y : Int} (hx : El L x) (hy : El L y) (h1 : bl L y x = true) : mt L x y = y :=
  bl_anti h (mt_el h hx hy) hy (mt_lb2 h hx hy) (mt_ge h hx hy hy h1 (bl_refl h hy))
/-! algebras -/
theorem alg_lat {L : List Int} {T : List (List Int)} (h : algB L T = true) : latB L = true := (algB_parts h).1
theorem alg_shape {L : List Int} {T : List (List Int)} (h : algB L T = true) : shapeB L T = true := (algB_parts h).2.1
theorem tv_el {L : List Int} {T : List (List Int)} (h : algB L T = true) {x y : Int} (hx : El L x) (hy : El L y) : El L (tv T x y) := shape_cell (alg_shape h) hx.1 hx.2 hy.1 hy.2
theorem alg_x {L : List Int} {T : List (List Int)} (h : algB L T = true) {x : Int} (hx : El L x) : tv T x (num L - 1) = x ∧ tv T x 0 = 0 ∧ allI (num L) (lwXY L T x) = true := by
  have := (algB_parts h).2.2 x hx.1 hx.2
  unfold lwX at this; simp only [Bool.and_eq_true, beq_iff_eq] at this
  exact ⟨this.1.1, this.1.2, this.2⟩
theorem tv_top {L : List Int} {T : List (List Int)} (h : algB L T = true) {x : Int} (hx : El L x) : tv T x (num L - 1) = x := (alg_x h hx).1
theorem tv_bot {L : List Int} {T : List (List Int)} (h : algB L T = true) {x : Int} (hx : El L x) : tv T x 0 = 0 := (alg_x h hx).2.1
theorem alg_xy {L : List Int} {T : List (List Int)} (h : algB L T = true) {x y : Int} (hx : El L x) (hy : El L y) : tv T x y = tv T y x ∧ allI (num L) (lwXYZ L T x y) = true := by
  have := (allI_iff _ _).1 (alg_x h hx).2.2 y hy.1 hy.2
  unfold lwXY at this; simp only [Bool.and_eq_true, beq_iff_eq] at this
  exact this
theorem tv_comm {L : List Int} {T : List (List Int)} (h : algB L T = true) {x y : Int} (hx : El L x) (hy : El L y) : tv T x y = tv T y x := (alg_xy h hx hy).1
theorem alg_xyz {L : List Int} {T : List (List Int)} (h : algB L T = true) {x y z : Int} (hx : El L x) (hy : El L y) (hz : El L z) : tv T (tv T x y) z = tv T x (tv T y z) ∧ tv T x (jn L y z) = jn L (tv T x y) (tv T x z) := by
  have := (allI_iff _ _).1 (alg_xy h hx hy).2 z hz.1 hz.2
  unfold lwXYZ asQ goQ at this; simp only [Bool.and_eq_true, beq_iff_eq] at this
  exact this
theorem tv_assoc {L : List Int} {T : List (List Int)} (h : algB L T = true) {x y z : Int} (hx : El L x) (hy : El L y) (hz : El L z) : tv T (tv T x y) z = tv T x (tv T y z) := (alg_xyz h hx hy hz).1
theorem tv_jn {L : List Int} {T : List (List Int)} (h : algB L T = true) {x y z : Int} (hx : El L x) (hy : El L y) (hz : El L z) : tv T x (jn L y z) = jn L (tv T x y) (tv T x z) := (alg_xyz h hx hy hz).2
theorem tv_mono {L : List Int} {T : List (List Int)} (h : algB L T = true) {x y z : Int} (hx : El L x) (hy : El L y) (hz : El L z) (hl : bl L y z = true) : bl L (tv T x y) (tv T x z) = true := by
  have e := tv_jn h hx hy hz
  rw [jn_of_le (alg_lat h) hy hz hl] at e
  rw [e]; exact jn_ub1 (alg_lat h) (tv_el h hx hy) (tv_el h hx hz)
theorem tv_mono1 {L : List Int} {T : List (List Int)} (h : algB L T = true) {x y z : Int} (hx : El L x) (hy : El L y) (hz : El L z) (hl : bl L y z = true) : bl L (tv T y x) (tv T z x) = true := by
  rw [tv_comm h hy hx, tv_comm h hz hx]; exact tv_mono h hx hy hz hl
theorem tv_le1 {L : List Int} {T : List (List Int)} (h : algB L T = true) {x y : Int} (hx : El L x) (hy : El L y) : bl L (tv T x y) x = true := by
  have := tv_mono h hx hy (el_t (alg_lat h)) (bl_top (alg_lat h) hy)
  rwa [tv_top h hx] at this
theorem tv_le2 {L : List Int} {T : List (List Int)} (h : algB L T = true) {x y : Int} (hx : El L x) (hy : El L y) : bl L (tv T x y) y = true := by
  rw [tv_comm h hx hy]; exact tv_le1 h hy hx
theorem imp_el {L : List Int} {T : List (List Int)} (h : algB L T = true) (x y : Int) : El L (imp L T x y) := imp_lt T x y (alg_lat h)
theorem impN_el {L : List Int} {T : List (List Int)} (h : algB L T = true) (x y : Int) {k : Nat} (hk : (k : Int) ≤ num L) : El L (impN L T x y k) := impN_lt T x y (alg_lat h) k hk
theorem impN_ok {L : List Int} {T : List (List Int)} (h : algB L T = true) {x y : Int} (hx : El L x) (hy : El L y) : ∀ k : Nat, (k : Int) ≤ num L → bl L (tv T x (impN L T x y k)) y = true ∧ ∀ z : Int, 0 ≤ z → z < k → bl L (tv T x z) y = true → bl L z (impN L T x y k) = true
  | 0, _ => ⟨by show bl L (tv T x 0) y = true; rw [tv_bot h hx]; exact bl_low (alg_lat h) hy, fun z z0 z1 _ => by omega⟩
  | k + 1, hk => by
    have hl := alg_lat h
    have ih := impN_ok h hx hy k (by omega)
    have ek : El L (k : Int) := ⟨by omega, by omega⟩
    have ei := impN_el h x y (k := k) (by omega)
    show bl L (tv T x (if bl L (tv T x k) y then jn L (impN L T x y k) k else impN L T x y k)) y = true ∧ ∀ z : Int, 0 ≤ z → z < ((k + 1 : Nat) : Int) → bl L (tv T x z) y = true → bl L z (if bl L (tv T x k) y then jn L (impN L T x y k) k else impN L T x y k) = true
    by_cases hb : bl L (tv T x k) y = true
    · rw [if_pos hb]
      refine ⟨?_, fun z z0 z1 hz => ?_⟩
      · rw [tv_jn h hx ei ek]; exact jn_le hl (tv_el h hx ei) (tv_el h hx ek) hy ih.1 hb
      · have ez : El L z := ⟨z0, by omega⟩
        by_cases e : z = k
        · rw [e]; exact jn_ub2 hl ei ek
        · exact bl_trans hl ez ei (jn_el hl ei ek) (ih.2 z z0 (by omega) hz) (jn_ub1 hl ei ek)
    · rw [if_neg hb]
      refine ⟨ih.1, fun z z0 z1 hz => ?_⟩
      by_cases e : z = k
      · rw [e] at hz; exact absurd hz hb
      · exact ih.2 z z0 (by omega) hz
/-- products and implications are neighbours -/
theorem imp_iff {L : List Int} {T : List (List Int)} (h : algB L T = true) {x y z : Int} (hx : El L x) (hy : El L y) (hz : El L z) : bl L (tv T x z) y = true ↔ bl L z (imp L T x y) = true := by
  have hn : (((num L).toNat : Nat) : Int) = num L := Int.toNat_of_nonneg (by have := lat_len (alg_lat h); omega)
  have ok := impN_ok h hx hy (num L).toNat (by omega)
  have ei := imp_el h x y
  constructor
  · intro hb; exact ok.2 z hz.1 (by have := hz.2; omega) hb
  · intro hb; exact bl_trans (alg_lat h) (tv_el h hx hz) (tv_el h hx ei) hy (tv_mono h hx hz ei hb) ok.1
theorem imp_ok {L : List Int} {T : List (List Int)} (h : algB L T = true) {x y : Int} (hx : El L x) (hy : El L y) : bl L (tv T x (imp L T x y)) y = true := (imp_iff h hx hy (imp_el h x y)).2 (bl_refl (alg_lat h) (imp_el h x y))
theorem top_of {L : List Int} (h : latB L = true) {x : Int} (hx : El L x) (hb : bl L (num L - 1) x = true) : x = num L - 1 := bl_anti h hx (el_t h) (bl_top h hx) hb
theorem bot_of {L : List Int} (h : latB L = true) {x : Int} (hx : El L x) (hb : bl L x 0 = true) : x = 0 := bl_anti h hx (el_0 h) hb (bl_low h hx)
theorem imp_top {L : List Int} {T : List (List Int)} (h : algB L T = true) {x y : Int} (hx : El L x) (hy : El L y) : imp L T x y = num L - 1 ↔ bl L x y = true := by
  have ht := el_t (alg_lat h)
  constructor
  · intro e
    have := imp_ok h hx hy
    rwa [e, tv_top h hx] at this
  · intro hb
    refine top_of (alg_lat h) (imp_el h x y) ((imp_iff h hx hy ht).1 ?_)
    rw [tv_top h hx]; exact hb
theorem imp_self {L : List Int} {T : List (List Int)} (h : algB L T = true) {x : Int} (hx : El L x) : imp L T x x = num L - 1 := (imp_top h hx hx).2 (bl_refl (alg_lat h) hx)
end Go.Proofs.Ytpfnfglaokiipab
