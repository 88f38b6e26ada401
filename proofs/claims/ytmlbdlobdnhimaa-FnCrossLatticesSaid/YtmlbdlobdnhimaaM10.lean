import Derived.Test.YtmlbdlobdnhimaaM9
import Derived.Test.YtmlbdlobdnhimaaF2
import Derived.Test.YtmlbdlobdnhimaaE3
import Derived.Test.YtmlbdlobdnhimaaW4
/- Plain facts for the promises of chapter 1: covers, chains, complements; nothing of the program. -/
namespace Go.Proofs.Ytmlbdlobdnhimaa

/-! lists of elements -/
theorem cnt_le {p q : Nat → Bool} : ∀ l : List Nat, (∀ a ∈ l, p a = true → q a = true) → (l.filter p).length ≤ (l.filter q).length
  | [], _ => Nat.le_refl _
  | a :: l, h => by
    have ih := cnt_le l fun b hb => h b (List.mem_cons_of_mem _ hb)
    have ha := h a (List.mem_cons_self ..)
    rw [List.filter_cons, List.filter_cons]
    by_cases hp : p a = true
    · rw [if_pos hp, if_pos (ha hp)]; simpa using ih
    · rw [if_neg hp]
      split
      · rw [List.length_cons]; omega
      · exact ih
theorem cnt_lt {p q : Nat → Bool} : ∀ l : List Nat, (∀ a ∈ l, p a = true → q a = true) → (∃ a ∈ l, q a = true ∧ p a = false) → (l.filter p).length < (l.filter q).length
  | [], _, h => by obtain ⟨a, ha, _⟩ := h; cases ha
  | a :: l, h, ⟨b, hb, hq, hp⟩ => by
    have hr : ∀ c ∈ l, p c = true → q c = true := fun c hc => h c (List.mem_cons_of_mem _ hc)
    have ha := h a (List.mem_cons_self ..)
    have hle := cnt_le l hr
    rw [List.filter_cons, List.filter_cons]
    rcases List.mem_cons.1 hb with e | hb
    · subst e
      rw [if_pos hq, if_neg (by rw [hp]; decide), List.length_cons]; omega
    · have ih := cnt_lt l hr ⟨b, hb, hq, hp⟩
      by_cases hp : p a = true
      · rw [if_pos hp, if_pos (ha hp)]; simpa using ih
      · rw [if_neg hp]
        split
        · rw [List.length_cons]; omega
        · exact ih
/-- one number alone lets by -/
theorem filtTo_one {p : Int → Bool} {y : Int} (y0 : 0 ≤ y) : ∀ k : Nat, (∀ c, 0 ≤ c → c < (k : Int) → (p c = true ↔ c = y)) → (filtTo p k).length = if y < (k : Int) then 1 else 0
  | 0, _ => by rw [if_neg (by omega)]; rfl
  | k + 1, h => by
    have ih := filtTo_one y0 k fun c c0 c1 => h c c0 (by omega)
    have hk := h k (by omega) (by omega)
    rw [show ((k + 1 : Nat) : Int) = (k : Int) + 1 by omega, filtTo_nat]
    by_cases e : (k : Int) = y
    · rw [if_pos (hk.2 e), List.length_append, ih, if_neg (by omega), if_pos (by omega)]; rfl
    · rw [if_neg (fun a => e (hk.1 a)), ih]
      by_cases e2 : y < (k : Int)
      · rw [if_pos e2, if_pos (by omega)]
      · rw [if_neg e2, if_neg (by omega)]
/-- how many numbers of a list are below y -/
def metN (L : List Int) (y : Int) (V : List Int) : Nat := (V.filter fun c => bl L c y).length
theorem metN_snoc (L : List Int) (y : Int) (V : List Int) (c : Int) : metN L y (V ++ [c]) = if bl L c y then metN L y V + 1 else metN L y V := by
  unfold metN
  rw [List.filter_append, List.length_append]
  cases h : bl L c y <;> simp [h]
theorem metN_pos (L : List Int) (y : Int) (V : List Int) : 0 < metN L y V ↔ ∃ c ∈ V, bl L c y = true := by
  unfold metN
  rw [List.length_pos_iff_exists_mem]
  simp [List.mem_filter]

/-! covers -/
theorem cov_iff {L : List Int} {x y : Int} : covQ L x y = true ↔ y ≠ x ∧ bl L x y = true ∧ ∀ z, El L z → bl L x z = true → bl L z y = true → z = x ∨ z = y := by
  unfold covQ
  rw [Bool.and_eq_true, Bool.and_eq_true, bne_iff_ne, allI_iff]
  constructor
  · rintro ⟨⟨a, b⟩, c⟩
    refine ⟨a, b, fun z hz h1 h2 => ?_⟩
    have := c z hz.1 hz.2
    unfold covR at this
    rw [h1, h2] at this
    simpa using this
  · rintro ⟨a, b, c⟩
    refine ⟨⟨a, b⟩, fun z z0 z1 => ?_⟩
    unfold covR
    cases h1 : bl L x z
    · simp
    · cases h2 : bl L z y
      · simp
      · rcases c z ⟨z0, z1⟩ h1 h2 with e | e <;> simp [e]
def btw (L : List Int) (x y : Int) : Nat := ((List.range (num L).toNat).filter fun (z : Nat) => decide ((z : Int) ≠ x) && (decide ((z : Int) ≠ y) && (bl L x z && bl L z y))).length
theorem cov_ex {L : List Int} (h : latB L = true) {x : Int} (_ : El L x) : ∀ (k : Nat) (y : Int), btw L x y ≤ k → El L y → y ≠ x → bl L x y = true → ∃ c, El L c ∧ covQ L x c = true ∧ bl L c y = true := by
  intro k
  induction k with
  | zero =>
    intro y hk hy hne hb
    refine ⟨y, hy, cov_iff.2 ⟨hne, hb, fun z hz h1 h2 => ?_⟩, bl_refl h hy⟩
    by_cases e1 : z = x
    · exact .inl e1
    · by_cases e2 : z = y
      · exact .inr e2
      · exfalso
        have hm : z.toNat ∈ (List.range (num L).toNat).filter fun (z : Nat) => decide ((z : Int) ≠ x) && (decide ((z : Int) ≠ y) && (bl L x z && bl L z y)) := by
          rw [List.mem_filter, List.mem_range, Int.toNat_of_nonneg hz.1]
          exact ⟨by have := hz.1; have := hz.2; omega, by simp [e1, e2, h1, h2]⟩
        have := List.length_pos_of_mem hm
        unfold btw at hk
        omega
  | succ k ih =>
    intro y hk hy hne hb
    by_cases hc : covQ L x y = true
    · exact ⟨y, hy, hc, bl_refl h hy⟩
    · have : ∃ z, El L z ∧ bl L x z = true ∧ bl L z y = true ∧ z ≠ x ∧ z ≠ y := by
        apply Classical.byContradiction
        intro hn
        refine hc (cov_iff.2 ⟨hne, hb, fun z hz h1 h2 => ?_⟩)
        by_cases e1 : z = x
        · exact .inl e1
        · by_cases e2 : z = y
          · exact .inr e2
          · exact absurd ⟨z, hz, h1, h2, e1, e2⟩ hn
      obtain ⟨z, hz, h1, h2, e1, e2⟩ := this
      have hlt : btw L x z < btw L x y := by
        refine cnt_lt _ (fun a ha hp => ?_) ⟨z.toNat, ?_, ?_, ?_⟩
        · have ha := List.mem_range.1 ha
          have hA : El L (a : Int) := ⟨by omega, by omega⟩
          simp only [Bool.and_eq_true, decide_eq_true_eq] at hp ⊢
          obtain ⟨p1, p2, p3, p4⟩ := hp
          refine ⟨p1, fun e => ?_, p3, bl_trans h hA hz hy p4 h2⟩
          rw [e] at p4
          exact e2 (bl_anti h hz hy h2 p4)
        · rw [List.mem_range]; have := hz.1; have := hz.2; omega
        · rw [Int.toNat_of_nonneg hz.1]; simp [e1, e2, h1, h2]
        · rw [Int.toNat_of_nonneg hz.1]; simp
      obtain ⟨c, hc1, hc2, hc3⟩ := ih z (by omega) hz e1 h1
      exact ⟨c, hc1, hc2, bl_trans h hc1 hz hy hc3 h2⟩
theorem cov_is {L : List Int} (h : latB L = true) {x y : Int} (hx : El L x) (hy : El L y) (hne : y ≠ x) (hb : bl L x y = true) : ∃ c, El L c ∧ covQ L x c = true ∧ bl L c y = true := cov_ex h hx _ y (Nat.le_refl _) hy hne hb
theorem cov_el {L : List Int} {x c : Int} : c ∈ filtTo (covQ L x) (num L) ↔ El L c ∧ covQ L x c = true := by
  rw [filtTo_mem]; unfold El; rw [and_assoc]
theorem cov_met {L : List Int} (h : latB L = true) {x y : Int} (hx : El L x) (hy : El L y) : decide (0 < metN L y (filtTo (covQ L x) (num L))) = (y != x && bl L x y) := by
  rw [Bool.eq_iff_iff, decide_eq_true_eq, metN_pos, Bool.and_eq_true, bne_iff_ne]
  constructor
  · rintro ⟨c, hc, hb⟩
    obtain ⟨he, hq⟩ := cov_el.1 hc
    obtain ⟨h1, h2, _⟩ := cov_iff.1 hq
    refine ⟨fun e => ?_, bl_trans h hx he hy h2 hb⟩
    subst e
    exact h1 (bl_anti h he hx hb h2)
  · rintro ⟨h1, h2⟩
    obtain ⟨c, he, hq, hb⟩ := cov_is h hx hy h1 h2
    exact ⟨c, cov_el.2 ⟨he, hq⟩, hb⟩
theorem metN_filt (L : List Int) (y : Int) (p : Int → Bool) (k : Int) : metN L y (filtTo p k) = (filtTo (fun c => p c && bl L c y) k).length := by
  unfold metN
  by_cases h : 0 ≤ k
  · have := filtTo_and p (fun c => bl L c y) k.toNat
    rw [Int.toNat_of_nonneg h] at this
    rw [← this]
  · have e : ∀ q : Int → Bool, filtTo q k = [] := fun q => by
      have := filtTo_len q k
      exact List.eq_nil_of_length_eq_zero (by omega)
    rw [e, e]; rfl
theorem cov_one {L : List Int} (h : latB L = true) {x y : Int} (_ : El L x) (hy : El L y) (hc : covQ L x y = true) : metN L y (filtTo (covQ L x) (num L)) = 1 := by
  rw [metN_filt]
  have n0 : 0 ≤ num L := by unfold num; omega
  have := filtTo_one (p := fun c => covQ L x c && bl L c y) hy.1 (num L).toNat fun c c0 c1 => by
    rw [Int.toNat_of_nonneg n0] at c1
    have hC : El L c := ⟨c0, c1⟩
    rw [Bool.and_eq_true]
    constructor
    · rintro ⟨a, b⟩
      obtain ⟨_, a2, _⟩ := cov_iff.1 a
      obtain ⟨a1, _⟩ := cov_iff.1 a
      rcases (cov_iff.1 hc).2.2 c hC a2 b with e | e
      · exact absurd e a1
      · exact e
    · rintro rfl; exact ⟨hc, bl_refl h hC⟩
  rw [Int.toNat_of_nonneg n0] at this
  rw [this, if_pos hy.2]
/-! chains -/
theorem chain_iff {L : List Int} : chainB L = true ↔ ∀ x y, El L x → El L y → bl L x y = true ∨ bl L y x = true := by
  unfold chainB
  rw [allI_iff]
  constructor
  · intro a x y hx hy
    have := (allI_iff _ _).1 (a x hx.1 hx.2) y hy.1 hy.2
    unfold chainXY at this
    rwa [Bool.or_eq_true] at this
  · intro a x x0 x1
    rw [allI_iff]
    intro y y0 y1
    unfold chainXY
    rw [Bool.or_eq_true]
    exact a x y ⟨x0, x1⟩ ⟨y0, y1⟩
def covLen (L : List Int) (x : Int) : Bool := decide ((filtTo (covQ L x) (num L)).length = 1)
theorem chain_cov {L : List Int} (h : latB L = true) : chainB L = allI (num L - 1) (covLen L) := by
  have n0 : 0 ≤ num L := by unfold num; omega
  rw [Bool.eq_iff_iff, chain_iff, allI_iff]
  constructor
  · intro a x x0 x1
    have hx : El L x := ⟨x0, by omega⟩
    obtain ⟨c, hc, hq, _⟩ := cov_is h hx (el_t h) (by omega) (bl_top h hx)
    have := filtTo_one (p := covQ L x) hc.1 (num L).toNat fun d d0 d1 => by
      rw [Int.toNat_of_nonneg n0] at d1
      have hd : El L d := ⟨d0, d1⟩
      constructor
      · intro q
        obtain ⟨d1, d2, d3⟩ := cov_iff.1 q
        obtain ⟨c1, c2, c3⟩ := cov_iff.1 hq
        rcases a c d hc hd with e | e
        · rcases d3 c hc c2 e with e | e
          · exact absurd e c1
          · exact e.symm
        · rcases c3 d hd d2 e with e | e
          · exact absurd e d1
          · exact e
      · rintro rfl; exact hq
    rw [Int.toNat_of_nonneg n0] at this
    unfold covLen
    rw [this, if_pos hc.2]; rfl
  · intro a x y hx hy
    apply Classical.byContradiction
    intro hn
    have hm := mt_el h hx hy
    have nx : x ≠ mt L x y := fun e => hn (.inl (by rw [bl_mt_iff h hx hy, ← e]; simp))
    have ny : y ≠ mt L x y := fun e => hn (.inr (by have := mt_lb1 h hx hy; rwa [← e] at this))
    obtain ⟨c, c1, c2, c3⟩ := cov_is h hm hx nx (mt_lb1 h hx hy)
    obtain ⟨d, d1, d2, d3⟩ := cov_is h hm hy ny (mt_lb2 h hx hy)
    have nt : mt L x y ≠ num L - 1 := fun e => by
      have t1 := mt_lb1 h hx hy
      rw [e] at t1
      exact nx (by rw [e]; exact top_of h hx t1)
    have hl := a (mt L x y) hm.1 (by have := hm.2; omega)
    unfold covLen at hl
    rw [decide_eq_true_eq] at hl
    have mc := cov_el.2 ⟨c1, c2⟩
    have md := cov_el.2 ⟨d1, d2⟩
    obtain ⟨e, he⟩ := List.length_eq_one_iff.1 hl
    rw [he] at mc md
    have ec := List.mem_singleton.1 mc
    have ed := List.mem_singleton.1 md
    rw [ed, ← ec] at d3
    obtain ⟨q1, q2, _⟩ := cov_iff.1 c2
    exact q1 (bl_anti h c1 hm (mt_ge h hx hy c1 c3 d3) q2)
theorem dist_iff {L : List Int} : distB L = true ↔ ∀ x y z, El L x → El L y → El L z → mt L x (jn L y z) = jn L (mt L x y) (mt L x z) := by
  unfold distB
  rw [allI_iff]
  constructor
  · intro a x y z hx hy hz
    have := (allI_iff _ _).1 ((allI_iff _ _).1 (a x hx.1 hx.2) y hy.1 hy.2) z hz.1 hz.2
    unfold distXYZ at this
    rwa [beq_iff_eq] at this
  · intro a x x0 x1
    refine (allI_iff _ _).2 fun y y0 y1 => (allI_iff _ _).2 fun z z0 z1 => ?_
    unfold distXYZ
    rw [beq_iff_eq]
    exact a x y z ⟨x0, x1⟩ ⟨y0, y1⟩ ⟨z0, z1⟩
theorem mt_mono {L : List Int} (h : latB L = true) {x y z : Int} (hx : El L x) (hy : El L y) (hz : El L z) (a : bl L y z = true) : bl L (mt L x y) (mt L x z) = true :=
  mt_ge h hx hz (mt_el h hx hy) (mt_lb1 h hx hy) (bl_trans h (mt_el h hx hy) hy hz (mt_lb2 h hx hy) a)
theorem jn_mono {L : List Int} (h : latB L = true) {x y z : Int} (hx : El L x) (hy : El L y) (hz : El L z) (a : bl L y z = true) : bl L (jn L x y) (jn L x z) = true :=
  jn_le h hx hy (jn_el h hx hz) (jn_ub1 h hx hz) (bl_trans h hy hz (jn_el h hx hz) a (jn_ub2 h hx hz))
theorem chain_dist {L : List Int} (h : latB L = true) (c : chainB L = true) : distB L = true := by
  refine dist_iff.2 fun x y z hx hy hz => ?_
  have my := mt_el h hx hy
  have mz := mt_el h hx hz
  rcases chain_iff.1 c y z hy hz with a | a
  · rw [jn_of_le h hy hz a, jn_of_le h my mz (mt_mono h hx hy hz a)]
  · rw [jn_of_ge h hy hz a, jn_of_ge h my mz (mt_mono h hx hz hy a)]
/-! what goes over joins goes over meets -/
theorem dist_jn {L : List Int} (h : latB L = true) (d : distB L = true) {x y z : Int} (hx : El L x) (hy : El L y) (hz : El L z) : jn L x (mt L y z) = mt L (jn L x y) (jn L x z) := by
  have D := dist_iff.1 d
  have jy := jn_el h hx hy
  have jz := jn_el h hx hz
  have m := mt_el h hy hz
  have hzx := mt_el h hz hx
  rw [D _ _ _ jy hx hz, mt_comm h hx jy, mt_jn h hx hy, mt_comm h hz jy, D _ _ _ hz hx hy]
  have e1 : jn L x (jn L (mt L z x) (mt L z y)) = jn L x (mt L z y) := by
    have mzy := mt_el h hz hy
    have jj := jn_el h hzx mzy
    refine jn_eq h hx jj (jn_el h hx mzy) (jn_ub1 h hx mzy) (jn_le h hzx mzy (jn_el h hx mzy) ?_ (jn_ub2 h hx mzy)) fun w hw a b => ?_
    · exact bl_trans h hzx hx (jn_el h hx mzy) (mt_lb2 h hz hx) (jn_ub1 h hx mzy)
    · exact jn_le h hx mzy hw a (bl_trans h mzy jj hw (jn_ub2 h hzx mzy) b)
  rw [e1, mt_comm h hy hz]
theorem turn_jn {L : List Int} (h : latB L = true) {x y : Int} (hx : El L x) (hy : El L y) : jn (turnL L) (num L - 1 - x) (num L - 1 - y) = num L - 1 - mt L x y := by
  have em := mt_el h hx hy
  refine jn_eq (turn_lat h) (el_turn.2 (el_rv hx)) (el_turn.2 (el_rv hy)) (el_turn.2 (el_rv em)) ?_ ?_ fun w hw a b => ?_
  · rw [turn_bl (el_rv hx) (el_rv em), rv_rv, rv_rv]; exact mt_lb1 h hx hy
  · rw [turn_bl (el_rv hy) (el_rv em), rv_rv, rv_rv]; exact mt_lb2 h hx hy
  · have hw := el_turn.1 hw
    rw [turn_bl (el_rv hx) hw, rv_rv] at a
    rw [turn_bl (el_rv hy) hw, rv_rv] at b
    rw [turn_bl (el_rv em) hw, rv_rv]
    exact mt_ge h hx hy (el_rv hw) a b
theorem dist_turn1 {L : List Int} (h : latB L = true) (d : distB L = true) : distB (turnL L) = true := by
  refine dist_iff.2 fun x y z hx hy hz => ?_
  have hx := el_rv (el_turn.1 hx); have hy := el_rv (el_turn.1 hy); have hz := el_rv (el_turn.1 hz)
  obtain ⟨x', ex⟩ : ∃ x', x' = num L - 1 - x := ⟨_, rfl⟩
  obtain ⟨y', ey⟩ : ∃ y', y' = num L - 1 - y := ⟨_, rfl⟩
  obtain ⟨z', ez⟩ : ∃ z', z' = num L - 1 - z := ⟨_, rfl⟩
  rw [← ex] at hx; rw [← ey] at hy; rw [← ez] at hz
  have fx : x = num L - 1 - x' := by omega
  have fy : y = num L - 1 - y' := by omega
  have fz : z = num L - 1 - z' := by omega
  rw [fx, fy, fz, turn_jn h hy hz, turn_mt h hx (mt_el h hy hz), turn_mt h hx hy, turn_mt h hx hz, turn_jn h (jn_el h hx hy) (jn_el h hx hz), dist_jn h d hx hy hz]
theorem dist_turn {L : List Int} (h : latB L = true) : distB (turnL L) = distB L := by
  rw [Bool.eq_iff_iff]
  constructor
  · intro d
    have := dist_turn1 (turn_lat h) d
    rwa [turn_turn h] at this
  · exact dist_turn1 h
/-! complements -/
theorem comp_iff {L : List Int} {x y : Int} : compQ L x y = true ↔ mt L x y = 0 ∧ jn L x y = num L - 1 := by
  unfold compQ num
  rw [Bool.and_eq_true, beq_iff_eq, beq_iff_eq]
theorem comp_sym {L : List Int} (h : latB L = true) {x y : Int} (hx : El L x) (hy : El L y) (a : compQ L x y = true) : compQ L y x = true := by
  obtain ⟨a1, a2⟩ := comp_iff.1 a
  exact comp_iff.2 ⟨(mt_comm h hx hy).trans a1, (jn_comm h hx hy).trans a2⟩
theorem comp_uni {L : List Int} (h : latB L = true) (d : distB L = true) {x y z : Int} (hx : El L x) (hy : El L y) (hz : El L z) (a : compQ L x y = true) (b : compQ L x z = true) : y = z := by
  have D := dist_iff.1 d
  obtain ⟨a1, a2⟩ := comp_iff.1 a
  obtain ⟨b1, b2⟩ := comp_iff.1 b
  have key : ∀ y z, El L y → El L z → mt L x y = 0 → jn L x z = num L - 1 → y = mt L y z := fun y z hy hz a1 b2 => by
    have e := D y x z hy hx hz
    rw [b2, mt_of_le h hy (el_t h) (bl_top h hy), mt_comm h hx hy, a1] at e
    rw [jn_of_le h (el_0 h) (mt_el h hy hz) (bl_low h (mt_el h hy hz))] at e
    exact e
  rw [key y z hy hz a1 b2, mt_comm h hz hy]
  exact (key z y hz hy b1 a2).symm
theorem comp_len {L : List Int} (h : latB L = true) (d : distB L = true) {x : Int} (hx : El L x) : (filtTo (compQ L x) (num L)).length ≤ 1 := by
  have n0 : 0 ≤ num L := by unfold num; omega
  by_cases hn : ∃ y, El L y ∧ compQ L x y = true
  · obtain ⟨y, hy, hq⟩ := hn
    have := filtTo_one (p := compQ L x) hy.1 (num L).toNat fun c c0 c1 => by
      rw [Int.toNat_of_nonneg n0] at c1
      exact ⟨fun q => comp_uni h d hx ⟨c0, c1⟩ hy q hq, fun e => by rw [e]; exact hq⟩
    rw [Int.toNat_of_nonneg n0] at this
    rw [this]
    split <;> omega
  · have : filtTo (compQ L x) (num L) = [] := List.eq_nil_iff_forall_not_mem.2 fun c hc => by
      obtain ⟨c0, c1, c2⟩ := (filtTo_mem _ _ _).1 hc
      exact hn ⟨c, ⟨c0, c1⟩, c2⟩
    rw [this]; exact Nat.zero_le _
end Go.Proofs.Ytmlbdlobdnhimaa
