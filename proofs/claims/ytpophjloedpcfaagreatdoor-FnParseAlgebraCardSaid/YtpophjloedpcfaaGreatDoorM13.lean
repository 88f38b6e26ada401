import Derived.Test.YtpophjloedpcfaaGreatDoorM5
namespace Go.Proofs.YtpophjloedpcfaaGreatDoor

theorem imp_trans {L : List Int} {T : List (List Int)} (h : algB L T = true) {x y k : Int} (hx : El L x) (hy : El L y) (hk : El L k) : bl L (tv T (imp L T x y) (imp L T y k)) (imp L T x k) = true := by
  have hl := alg_lat h
  have e1 := imp_el h x y
  have e2 := imp_el h y k
  rw [← imp_iff h hx hk (tv_el h e1 e2), ← tv_assoc h hx e1 e2]
  exact bl_trans hl (tv_el h (tv_el h hx e1) e2) (tv_el h hy e2) hk (tv_mono1 h e2 (tv_el h hx e1) hy (imp_ok h hx hy)) (imp_ok h hy hk)
theorem nearI_comm {L : List Int} {T : List (List Int)} (h : algB L T = true) {x y : Int} : nearI L T y x = nearI L T x y := by
  unfold nearI; exact tv_comm h (imp_el h y x) (imp_el h x y)
theorem tv_mono2 {L : List Int} {T : List (List Int)} (h : algB L T = true) {a b c d : Int} (ha : El L a) (hb : El L b) (hc : El L c) (hd : El L d) (h1 : bl L a c = true) (h2 : bl L b d = true) : bl L (tv T a b) (tv T c d) = true :=
  bl_trans (alg_lat h) (tv_el h ha hb) (tv_el h hc hb) (tv_el h hc hd) (tv_mono1 h hb ha hc h1) (tv_mono h hc hb hd h2)
theorem nearI_trans {L : List Int} {T : List (List Int)} (h : algB L T = true) {x y k : Int} (hx : El L x) (hy : El L y) (hk : El L k) : bl L (tv T (nearI L T x y) (nearI L T y k)) (nearI L T x k) = true := by
  unfold nearI
  have p := imp_el h x y
  have q := imp_el h y x
  have r := imp_el h y k
  have s := imp_el h k y
  have e : tv T (tv T (imp L T x y) (imp L T y x)) (tv T (imp L T y k) (imp L T k y)) = tv T (tv T (imp L T x y) (imp L T y k)) (tv T (imp L T k y) (imp L T y x)) := by
    rw [tv_assoc h p q (tv_el h r s), ← tv_assoc h q r s, tv_comm h q r, tv_assoc h r q s, tv_comm h q s, ← tv_assoc h p r (tv_el h s q)]
  rw [e]
  exact tv_mono2 h (tv_el h p r) (tv_el h s q) (imp_el h x k) (imp_el h k x) (imp_trans h hx hy hk) (imp_trans h hk hy hx)
theorem nearI_top {L : List Int} {T : List (List Int)} (h : algB L T = true) {x y : Int} (hx : El L x) (hy : El L y) : nearI L T x y = (L.length : Int) - 1 ↔ x = y := by
  have hl := alg_lat h
  constructor
  · intro e
    have e : nearI L T x y = num L - 1 := e
    have p := imp_el h x y
    have q := imp_el h y x
    have h1 := tv_le1 h p q
    have h2 := tv_le2 h p q
    unfold nearI at e
    rw [e] at h1 h2
    exact bl_anti hl hx hy ((imp_top h hx hy).1 (top_of hl p h1)) ((imp_top h hy hx).1 (top_of hl q h2))
  · rintro rfl
    exact nearI_self h hx
theorem fil_iff {L : List Int} {T : List (List Int)} {f : Int} : filB L T f = true ↔ ib f (num L - 1) = true ∧ (∀ x y, El L x → El L y → ib f x = true → ib f y = true → ib f (tv T x y) = true) ∧ (∀ x y, El L x → El L y → ib f x = true → bl L x y = true → ib f y = true) := by
  unfold filB
  rw [Bool.and_eq_true, all2_iff]
  refine and_congr_right fun _ => ⟨fun h => ⟨fun x y hx hy a b => ?_, fun x y hx hy a b => ?_⟩, fun ⟨h1, h2⟩ x y x0 x1 y0 y1 => ?_⟩
  · have := h x y hx.1 hx.2 hy.1 hy.2
    unfold filXY at this; rw [a, b] at this; simpa using this
  · have := h x y hx.1 hx.2 hy.1 hy.2
    unfold filXY at this
    rw [a, b] at this
    cases c : ib f y
    · rw [c] at this; simp at this
    · rfl
  · unfold filXY
    cases a : ib f x
    · rfl
    · cases b : ib f y
      · cases c : bl L x y
        · rfl
        · have := h2 x y ⟨x0, x1⟩ ⟨y0, y1⟩ a c
          rw [b] at this; cases this
      · simp [h1 x y ⟨x0, x1⟩ ⟨y0, y1⟩ a b]
theorem an_mem {L : List Int} {T : List (List Int)} (ha : algB L T = true) {f g : Int} (hf : f ∈ fls L T) (hg : g ∈ fls L T) : an f g ∈ fls L T := by
  rw [fls_mem] at *
  obtain ⟨f0, f1, hf⟩ := hf
  obtain ⟨g0, g1, hg⟩ := hg
  have a1 := an_le1 f g f0
  refine ⟨an_0 f g, by omega, ?_⟩
  rw [fil_iff] at *
  have hl := alg_lat ha
  have e : ∀ x, El L x → ib (an f g) x = (ib f x && ib g x) := fun x hx => an_ib f g x f0 g0 hx.1
  refine ⟨?_, fun x y hx hy a b => ?_, fun x y hx hy a b => ?_⟩
  · rw [e _ (el_t hl), hf.1, hg.1]; rfl
  · rw [e _ hx, Bool.and_eq_true] at a
    rw [e _ hy, Bool.and_eq_true] at b
    rw [e _ (tv_el ha hx hy), hf.2.1 x y hx hy a.1 b.1, hg.2.1 x y hx hy a.2 b.2]; rfl
  · rw [e _ hx, Bool.and_eq_true] at a
    rw [e _ hy, hf.2.2 x y hx hy a.1 b, hg.2.2 x y hx hy a.2 b]; rfl
theorem full_mem {L : List Int} {T : List (List Int)} (ha : algB L T = true) : pw (num L) - 1 ∈ fls L T := by
  rw [fls_mem, fil_iff]
  have p := pw_pos (num L)
  have hl := alg_lat ha
  have e : ∀ x, El L x → ib (pw (num L) - 1) x = true := fun x hx => full_ib hx.1 hx.2
  exact ⟨by omega, by omega, e _ (el_t hl), fun x y hx hy _ _ => e _ (tv_el ha hx hy), fun x y _ hy _ _ => e _ hy⟩
theorem ib_pw {m x : Int} (m0 : 0 ≤ m) (x0 : 0 ≤ x) : ib (pw m) x = decide (m = x) := by
  obtain ⟨m, rfl⟩ := Int.eq_ofNat_of_zero_le m0
  obtain ⟨x, rfl⟩ := Int.eq_ofNat_of_zero_le x0
  rw [pw_nat, show ((2 : Int) ^ m) = ((2 ^ m : Nat) : Int) by simp, ib_nat, Nat.testBit_two_pow]
  exact decide_eq_decide.2 (by omega)
theorem top_mem {L : List Int} {T : List (List Int)} (ha : algB L T = true) : pw (num L - 1) ∈ fls L T := by
  rw [fls_mem, fil_iff]
  have hl := alg_lat ha
  have n1 := (lat_len hl).1
  have p := pw_pos (num L - 1)
  have p2 := pw_succ (num L - 1) (by omega)
  rw [show num L - 1 + 1 = num L by omega] at p2
  have e : ∀ x, El L x → ib (pw (num L - 1)) x = decide (num L - 1 = x) := fun x hx => ib_pw (by omega) hx.1
  refine ⟨by omega, by omega, by rw [e _ (el_t hl)]; simp, fun x y hx hy a b => ?_, fun x y hx hy a b => ?_⟩
  · rw [e _ hx, decide_eq_true_iff] at a
    rw [e _ hy, decide_eq_true_iff] at b
    subst a; subst b
    rw [e _ (tv_el ha hx hy), tv_top ha hx]; simp
  · rw [e _ hx, decide_eq_true_iff] at a
    subst a
    rw [e _ hy, top_of hl hy b]; simp
theorem an_full {n g : Int} (g0 : 0 ≤ g) (g1 : g ≤ pw n - 1) : an (pw n - 1) g = g := by
  obtain ⟨g, rfl⟩ := Int.eq_ofNat_of_zero_le g0
  have e : (pw n - 1).toNat = 2 ^ n.toNat - 1 := by
    unfold pw
    have : ((2 : Int) ^ n.toNat) = ((2 ^ n.toNat : Nat) : Int) := by simp
    rw [this]; omega
  have h2 : g < 2 ^ n.toNat := by
    unfold pw at g1
    have : ((2 : Int) ^ n.toNat) = ((2 ^ n.toNat : Nat) : Int) := by simp
    rw [this] at g1; omega
  unfold an
  rw [e, Nat.and_comm, Int.toNat_natCast, Nat.and_two_pow_sub_one_of_lt_two_pow h2]
theorem fold_mem {L : List Int} {T : List (List Int)} (ha : algB L T = true) : ∀ (sets : List Int) (a : Int), a ∈ fls L T → (∀ s ∈ sets, s ∈ fls L T) → sets.foldl an a ∈ fls L T
  | [], _, h, _ => h
  | s :: sets, a, h, hs => fold_mem ha sets (an a s) (an_mem ha h (hs s (by simp))) fun t ht => hs t (by simp [ht])
theorem gen_mem {L : List Int} {T : List (List Int)} (ha : algB L T = true) (s : Int) : genI L T s ∈ fls L T :=
  fold_mem ha _ _ (full_mem ha) fun _ h => (List.mem_filter.1 h).1
theorem fold_has (g : Int) : ∀ (sets : List Int) (a : Int), an a g = g → (∀ s ∈ sets, hasA s g = true) → an (sets.foldl an a) g = g
  | [], _, h, _ => h
  | s :: sets, a, h, hs => fold_has g sets (an a s) (by
      have h1 := hs s (by simp)
      unfold hasA at h1
      rw [an_assoc, beq_iff_eq.1 h1, h]) fun t ht => hs t (by simp [ht])
theorem fold_sub (x : Int) : ∀ (sets : List Int) (a : Int), an x a = a → an x (sets.foldl an a) = sets.foldl an a
  | [], _, h => h
  | s :: sets, a, h => fold_sub x sets (an a s) (by rw [← an_assoc, h])
theorem fold_in {x : Int} (x0 : 0 ≤ x) : ∀ (sets : List Int) (a : Int), x ∈ sets → an x (sets.foldl an a) = sets.foldl an a
  | s :: sets, a, h => by
    rw [List.mem_cons] at h
    rcases h with rfl | h
    · exact fold_sub x sets (an a x) (by rw [an_comm a x, ← an_assoc, an_self x x0])
    · exact fold_in x0 sets (an a s) h
theorem gen_has {L : List Int} {T : List (List Int)} {s : Int} (hs : setB L s = true) : an (genI L T s) s = s := by
  unfold setB at hs
  rw [Bool.and_eq_true, decide_eq_true_iff, decide_eq_true_iff] at hs
  exact fold_has s _ _ (an_full hs.1 hs.2) fun t h => by simpa using (List.mem_filter.1 h).2
theorem near_topE {L : List Int} {T : List (List Int)} (ha : algB L T = true) {x : Int} (hx : El L x) : nearI L T x (num L - 1) = x := by
  have hl := alg_lat ha
  have ht := el_t hl
  have e1 : imp L T x (num L - 1) = num L - 1 := (imp_top ha hx ht).2 (bl_top hl hx)
  have e2 : imp L T (num L - 1) x = x := by
    have ei := imp_el ha (num L - 1) x
    refine bl_anti hl ei hx ?_ ?_
    · have := imp_ok ha ht hx
      rwa [tv_comm ha ht ei, tv_top ha ei] at this
    · rw [← imp_iff ha ht hx hx, tv_comm ha ht hx, tv_top ha hx]; exact bl_refl hl hx
  unfold nearI
  rw [e1, e2, tv_comm ha ht hx, tv_top ha hx]
theorem cls_rel {L : List Int} {T : List (List Int)} (ha : algB L T = true) {f : Int} (hf : filB L T f = true) {x y z : Int} (hx : El L x) (hy : El L y) (hz : El L z) (h1 : clsQ L T f x y = true) (h2 : clsQ L T f y z = true) : clsQ L T f x z = true := by
  unfold clsQ at *
  obtain ⟨_, c2, c3⟩ := fil_iff.1 hf
  exact c3 _ _ (tv_el ha (nearI_el ha x y) (nearI_el ha y z)) (nearI_el ha x z) (c2 _ _ (nearI_el ha x y) (nearI_el ha y z) h1 h2) (nearI_trans ha hx hy hz)
theorem cls_sym {L : List Int} {T : List (List Int)} (ha : algB L T = true) {f x y : Int} (h : clsQ L T f x y = true) : clsQ L T f y x = true := by
  unfold clsQ at *
  rw [nearI_comm ha]; exact h
theorem fI_congr {n : Int} {p q : Int → Bool} (h : ∀ j, 0 ≤ j → j < n → p j = q j) : firstI n p = firstI n q := by
  rcases firstI_cases n q with ⟨e, hq⟩ | ⟨h0, h1, hq, hb⟩
  · rw [e]; exact firstI_none fun j j0 j1 => by rw [h j j0 j1]; exact hq j j0 j1
  · exact firstI_some h0 h1 (fun j j0 j1 => by rw [h j j0 (by omega)]; exact hb j j0 j1) (by rw [h _ h0 h1]; exact hq)
theorem cls_eq {L : List Int} {T : List (List Int)} (ha : algB L T = true) {f : Int} (hf : filB L T f = true) {x y : Int} (hx : El L x) (hy : El L y) : (clsI L T f x == clsI L T f y) = clsQ L T f x y := by
  obtain ⟨x0, x1, x2, x3⟩ := cls_ok ha hf hx
  obtain ⟨y0, y1, y2, y3⟩ := cls_ok ha hf hy
  have ex : El L (clsI L T f x) := ⟨x0, by have := hx.2; omega⟩
  have ey : El L (clsI L T f y) := ⟨y0, by have := hy.2; omega⟩
  rw [Bool.eq_iff_iff, beq_iff_eq]
  constructor
  · intro e
    rw [e] at x2
    exact cls_rel ha hf hx ey hy x2 (cls_sym ha y2)
  · intro h
    unfold clsI
    apply fI_congr
    intro j j0 j1
    have ej : El L j := ⟨j0, j1⟩
    rw [Bool.eq_iff_iff]
    exact ⟨fun h2 => cls_rel ha hf hy hx ej (cls_sym ha h) h2, fun h2 => cls_rel ha hf hx hy ej h h2⟩
end Go.Proofs.YtpophjloedpcfaaGreatDoor
