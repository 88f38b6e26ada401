import Derived.Test.YtaflhjjnkejcoaaSL0
import Derived.Test.YtaflhjjnkejcoaaN7
import Derived.Test.YtaflhjjnkejcoaaG10
namespace Go.Proofs.Ytaflhjjnkejcoaa
open Go.RowKit

theorem pwN_el {L : List Int} {T : List (List Int)} (h : algB L T = true) {x : Int} (hx : El L x) (k : Nat) : El L (pwN L T x k) := pwN_lt (alg_lat h) (alg_shape h) hx.1 hx.2 k
theorem pwN_add {L : List Int} {T : List (List Int)} (h : algB L T = true) {x : Int} (hx : El L x) (i : Nat) : ∀ j : Nat, tv T (pwN L T x i) (pwN L T x j) = pwN L T x (i + j)
  | 0 => tv_top h (pwN_el h hx i)
  | j + 1 => by
    show tv T (pwN L T x i) (tv T (pwN L T x j) x) = tv T (pwN L T x (i + j)) x
    rw [← pwN_add h hx i j, tv_assoc h (pwN_el h hx i) (pwN_el h hx j) hx]
theorem pwN_down {L : List Int} {T : List (List Int)} (h : algB L T = true) {x : Int} (hx : El L x) (i : Nat) : ∀ j : Nat, bl L (pwN L T x (i + j)) (pwN L T x i) = true := fun j => by
  rw [← pwN_add h hx i j]; exact tv_le1 h (pwN_el h hx i) (pwN_el h hx j)
theorem pwN_still {L : List Int} {T : List (List Int)} (h : algB L T = true) {x : Int} (hx : El L x) : ∀ t : Nat, pwN L T x ((num L).toNat + t) = pwN L T x (num L).toNat := by
  have hl := alg_lat h
  obtain ⟨i, j, hij, hj, e⟩ := pigeons (num L).toNat (fun i => (pwN L T x i).toNat) (fun i _ => by
    have := pwN_el h hx i
    unfold El at this
    show (pwN L T x i).toNat < (num L).toNat
    omega)
  have ei := pwN_el h hx i
  have ej := pwN_el h hx j
  have e1 : pwN L T x i = pwN L T x j := by
    have e' : (pwN L T x i).toNat = (pwN L T x j).toNat := e
    unfold El at ei ej
    omega
  have e2 : pwN L T x i = pwN L T x (i + 1) := by
    refine bl_anti hl ei (pwN_el h hx _) ?_ (pwN_down h hx i 1)
    rw [e1, show j = (i + 1) + (j - (i + 1)) by omega]
    exact pwN_down h hx (i + 1) _
  have e3 : ∀ t : Nat, pwN L T x (i + t) = pwN L T x i := by
    intro t
    induction t with
    | zero => rfl
    | succ t ih =>
      have := pwN_same e2 t
      rw [show i + 1 + t = i + (t + 1) by omega] at this
      rw [← this, ih]
  intro t
  rw [show (num L).toNat + t = i + ((num L).toNat - i + t) by omega, e3, ← e3 ((num L).toNat - i), show i + ((num L).toNat - i) = (num L).toNat by omega]
theorem pwN_in {L : List Int} {T : List (List Int)} (h : algB L T = true) {x F : Int} (hx : El L x) (hF : filB L T F = true) (hi : ib F x = true) : ∀ k : Nat, ib F (pwN L T x k) = true
  | 0 => (fil_iff.1 hF).1
  | k + 1 => (fil_iff.1 hF).2.1 _ _ (pwN_el h hx k) hx (pwN_in h hx hF hi k) hi
theorem ib_rowTo (p : Int → Bool) {k : Nat} {y : Int} (y0 : 0 ≤ y) (y1 : y < k) : ib (rowTo p k) y = p y := by
  obtain ⟨y, rfl⟩ := Int.eq_ofNat_of_zero_le y0
  exact rowTo_bt p k y (by omega)
/-- the filter of one element: what is at least a power -/
theorem gen_pow {L : List Int} {T : List (List Int)} (h : algB L T = true) {x y : Int} (hx : El L x) (hy : El L y) : ib (genI L T (pw x)) y = bl L (pwN L T x (num L).toNat) y := by
  have hl := alg_lat h
  have n1 := (lat_len hl).1
  have hm := gen_mem h (pw x)
  have hF := fls_mem.1 hm
  have hxp : 0 ≤ pw x ∧ pw x ≤ pw (num L) - 1 := by
    have a := pw_pos x
    have b := pw_mono (x + 1) (num L) (by have := hx.2; omega)
    have c := pw_succ x hx.1
    omega
  have hs : setB L (pw x) = true := by unfold setB; rw [decide_eq_true hxp.1, decide_eq_true hxp.2]; rfl
  have hg := gen_has (T := T) hs
  have hFx : ib (genI L T (pw x)) x = true := by
    have e : ib (an (genI L T (pw x)) (pw x)) x = true := by rw [hg, ib_pw hx.1 hx.1]; simp
    rw [an_ib _ _ x hF.1 hxp.1 hx.1, Bool.and_eq_true] at e
    exact e.1
  obtain ⟨m, hmm⟩ : ∃ m, m = (num L).toNat := ⟨_, rfl⟩
  have hnm : num L = (m : Int) := by omega
  have em := pwN_el h hx m
  have hid : tv T (pwN L T x m) (pwN L T x m) = pwN L T x m := by rw [pwN_add h hx m m, hmm]; exact pwN_still h hx _
  rw [← hmm, Bool.eq_iff_iff]
  constructor
  · intro hy2
    obtain ⟨G, hG⟩ : ∃ G, G = rowTo (fun y => bl L (pwN L T x m) y) (num L) := ⟨_, rfl⟩
    have gr : 0 ≤ G ∧ G < pw (num L) := by rw [hG]; exact rowTo_bound _ (by omega)
    have gi : ∀ z, El L z → ib G z = bl L (pwN L T x m) z := fun z hz => by rw [hG, hnm]; exact ib_rowTo _ hz.1 (by rw [← hnm]; exact hz.2)
    have gf : filB L T G = true := by
      rw [fil_iff]
      refine ⟨by rw [gi _ (el_t hl)]; exact bl_top hl em, fun a b ha hb h1 h2 => ?_, fun a b ha hb h1 h2 => ?_⟩
      · rw [gi _ ha] at h1
        rw [gi _ hb] at h2
        rw [gi _ (tv_el h ha hb)]
        have := tv_mono2 h em em ha hb h1 h2
        rwa [hid] at this
      · rw [gi _ ha] at h1
        rw [gi _ hb]
        exact bl_trans hl em ha hb h1 h2
    have gx : an G (pw x) = pw x := by
      have hgx : ib G x = true := by
        rw [gi _ hx, hmm, show (num L).toNat = ((num L).toNat - 1) + 1 by omega]
        exact tv_le2 h (pwN_el h hx _) hx
      obtain ⟨g, hgg⟩ := Int.eq_ofNat_of_zero_le gr.1
      obtain ⟨u, hu⟩ := Int.eq_ofNat_of_zero_le hx.1
      rw [hgg, hu] at hgx ⊢
      rw [ib_nat] at hgx
      have e : pw (u : Int) = ((2 ^ u : Nat) : Int) := by rw [pw_nat]; simp
      rw [e]
      unfold an
      rw [Int.toNat_natCast, Int.toNat_natCast]
      congr 1
      apply Nat.eq_of_testBit_eq
      intro i
      rw [Nat.testBit_and, Nat.testBit_two_pow]
      by_cases hi : u = i
      · subst hi; rw [hgx]; rfl
      · simp [hi]
    have hsub : an G (genI L T (pw x)) = genI L T (pw x) := fold_in gr.1 _ _ (List.mem_filter.2 ⟨fls_mem.2 ⟨gr.1, gr.2, gf⟩, by unfold hasA; rw [gx]; simp⟩)
    have e : ib (an G (genI L T (pw x))) y = true := by rw [hsub]; exact hy2
    rw [an_ib _ _ y gr.1 hF.1 hy.1, Bool.and_eq_true, gi _ hy] at e
    exact e.1
  · intro hb
    exact (fil_iff.1 hF.2.2).2.2 _ _ em hy (pwN_in h hx hF.2.2 hFx m) hb
/-- the least element is a power exactly if it is in the filter -/
theorem gen_dep {L : List Int} {T : List (List Int)} {x : Int} (h : algIn L T x x = true) : ib (filByI L T (pw x)) 0 = depB L T x := by
  obtain ⟨ha, x0, x1, _, _⟩ := algIn_parts h
  have hl := alg_lat ha
  have hx : El L x := ⟨x0, x1⟩
  have n1 := (lat_len hl).1
  have hxp : 0 ≤ pw x ∧ pw x ≤ pw (num L) - 1 := by
    have a := pw_pos x
    have b := pw_mono (x + 1) (num L) (by omega)
    have c := pw_succ x x0
    omega
  have hs : setB L (pw x) = true := by unfold setB; rw [decide_eq_true hxp.1, decide_eq_true hxp.2]; rfl
  have e1 : filByI L T (pw x) = genI L T (pw x) := by unfold filByI; rw [ha, hs]; rfl
  rw [e1, gen_pow ha hx (el_0 hl)]
  unfold depB
  rw [h, Bool.true_and, Bool.eq_iff_iff, decide_eq_true_iff]
  rcases firstI_cases (num L + 1) (depQ L T x) with ⟨e, hn⟩ | ⟨k0, k1, hk, hb⟩
  · rw [e]
    refine ⟨fun hb => ?_, fun hc => absurd hc (by decide)⟩
    have := hn (num L) (by omega) (by omega)
    unfold depQ powr at this
    rw [bot_of hl (pwN_el ha hx _) hb] at this
    cases this
  · refine ⟨fun _ => k0, fun _ => ?_⟩
    have hz : pwN L T x (firstI (num L + 1) (depQ L T x)).toNat = 0 := beq_iff_eq.1 hk
    have := pwN_down ha hx (firstI (num L + 1) (depQ L T x)).toNat ((num L).toNat - (firstI (num L + 1) (depQ L T x)).toNat)
    rw [hz, show (firstI (num L + 1) (depQ L T x)).toNat + ((num L).toNat - (firstI (num L + 1) (depQ L T x)).toNat) = (num L).toNat by omega] at this
    exact this
end Go.Proofs.Ytaflhjjnkejcoaa
