import Derived.Test.YtbellklaoecpbaaA4
import Derived.Test.YtbellklaoecpbaaI11
import Derived.Test.YtbellklaoecpbaaI12
namespace Go.Proofs.Ytbellklaoecpbaa
open Go.RowKit

theorem firstI_congr {n : Int} {p q : Int → Bool} (h : ∀ j, 0 ≤ j → j < n → p j = q j) : firstI n p = firstI n q := by
  rcases firstI_cases n q with ⟨e, hq⟩ | ⟨h0, h1, hq, hb⟩
  · rw [e]; exact firstI_none fun j j0 j1 => by rw [h j j0 j1]; exact hq j j0 j1
  · exact firstI_some h0 h1 (fun j j0 j1 => by rw [h j j0 (by omega)]; exact hb j j0 j1) (by rw [h _ h0 h1]; exact hq)
theorem ordG_in {L : List Int} {a b : Int} (ha : a < num L) (hb : b < num L) : ordG L a b = bl L a b := by
  unfold ordG; rw [decide_eq_true ha, decide_eq_true hb]; rfl
theorem ordG_out {L : List Int} {a b : Int} (h : ¬ (a < num L ∧ b < num L)) : ordG L a b = false := by
  unfold ordG
  by_cases ha : a < num L
  · rw [decide_eq_false (show ¬ b < num L by omega)]; simp
  · rw [decide_eq_false ha]; rfl
theorem fmQ_meet {L : List Int} {x y z : Int} (hx : x < num L) (hy : y < num L) (hz : z < num L) : fmQ (ordG L) (num L) x y z = isMeetB L x y z := by
  unfold fmQ isMeetB
  rw [ordG_in hz hx, ordG_in hz hy]
  congr 1
  refine allI_congr fun o o0 o1 => ?_
  unfold fmR
  rw [ordG_in o1 hx, ordG_in o1 hy, ordG_in o1 hz]
  cases bl L o x <;> cases bl L o y <;> cases bl L o z <;> rfl
theorem fmQ_join {L : List Int} {x y z : Int} (hx : x < num L) (hy : y < num L) (hz : z < num L) : fmQ (revG (ordG L)) (num L) x y z = isJoinB L x y z := by
  unfold fmQ isJoinB revG
  rw [ordG_in hx hz, ordG_in hy hz]
  congr 1
  refine allI_congr fun o o0 o1 => ?_
  show (!(ordG L x o && ordG L y o && !ordG L z o)) = _
  rw [ordG_in hx o1, ordG_in hy o1, ordG_in hz o1]
  cases bl L x o <;> cases bl L y o <;> cases bl L z o <;> rfl
theorem first_meet {L : List Int} {x y : Int} (hx : x < num L) (hy : y < num L) : firstI (num L) (fmQ (ordG L) (num L) x y) = mt L x y :=
  firstI_congr fun _ _ h1 => fmQ_meet hx hy h1
theorem first_join {L : List Int} {x y : Int} (hx : x < num L) (hy : y < num L) : firstI (num L) (fmQ (revG (ordG L)) (num L) x y) = jn L x y :=
  firstI_congr fun _ _ h1 => fmQ_join hx hy h1
theorem tab_latXY (L : List Int) : (tabOk (ordG L) (num L) && tabOk (revG (ordG L)) (num L)) = allI (num L) fun x => allI (num L) (latXY L x) := by
  rw [Bool.eq_iff_iff, Bool.and_eq_true]
  unfold tabOk
  constructor
  · rintro ⟨h1, h2⟩
    refine (allI_iff _ _).2 fun x x0 x1 => (allI_iff _ _).2 fun y y0 y1 => ?_
    have a := (allI_iff _ _).1 ((allI_iff _ _).1 h1 x x0 x1) y y0 y1
    have b := (allI_iff _ _).1 ((allI_iff _ _).1 h2 x x0 x1) y y0 y1
    unfold fmB at a b
    rw [first_meet x1 y1, decide_eq_true_eq] at a
    rw [first_join x1 y1, decide_eq_true_eq] at b
    unfold latXY
    rw [decide_eq_false (by omega), decide_eq_false (by omega)]; rfl
  · intro h
    have key : ∀ x y, 0 ≤ x → x < num L → 0 ≤ y → y < num L → 0 ≤ mt L x y ∧ 0 ≤ jn L x y := fun x y x0 x1 y0 y1 => by
      have := (allI_iff _ _).1 ((allI_iff _ _).1 h x x0 x1) y y0 y1
      unfold latXY at this
      simp only [Bool.not_eq_true', Bool.or_eq_false_iff, decide_eq_false_iff_not] at this
      omega
    exact ⟨(allI_iff _ _).2 fun x x0 x1 => (allI_iff _ _).2 fun y y0 y1 => by unfold fmB; rw [first_meet x1 y1]; exact decide_eq_true (key x y x0 x1 y0 y1).1,
      (allI_iff _ _).2 fun x x0 x1 => (allI_iff _ _).2 fun y y0 y1 => by unfold fmB; rw [first_join x1 y1]; exact decide_eq_true (key x y x0 x1 y0 y1).2⟩
theorem order_ordX {L : List Int} (h1 : 1 ≤ num L) (h6 : num L ≤ 6) : (isOrderB (ordG L) (num L) && allI (num L) (bndQ (ordG L) (num L))) = allI (num L) (ordX L) := by
  rw [Bool.eq_iff_iff, Bool.and_eq_true]
  unfold isOrderB
  rw [Bool.and_eq_true, sameG_iff, sameG_iff, allI_iff, allI_iff]
  constructor
  · rintro ⟨⟨hE, hT⟩, hB⟩ x x0 x1
    have refl : ∀ a, 0 ≤ a → a < num L → bl L a a = true := fun a a0 a1 => by
      have := hE a a a0 (by omega) a0 (by omega)
      unfold bothG eqG at this
      rw [ordG_in a1 a1, decide_eq_true a1, decide_eq_true rfl] at this
      simpa using this
    have bnd : ∀ a, 0 ≤ a → a < num L → bl L 0 a = true ∧ bl L a (num L - 1) = true := fun a a0 a1 => by
      have := hB a a0 a1
      unfold bndQ at this
      rw [ordG_in (by omega) a1, ordG_in a1 (by omega), Bool.and_eq_true] at this
      exact this
    refine ordX_t (m := num L) (by rw [refl x x0 x1, (bnd x x0 x1).1, (bnd x x0 x1).2]; rfl) (Int.le_refl _) fun y y0 y1 => ?_
    refine ordXY_t (m := num L) ?_ (Int.le_refl _) fun z z0 z1 => ?_
    · rw [Bool.eq_false_iff]
      intro hh
      simp only [Bool.and_eq_true, bne_iff_ne] at hh
      have := hE x y x0 (by omega) y0 (by omega)
      unfold bothG eqG at this
      rw [ordG_in y1 x1, ordG_in x1 y1, hh.1.2, hh.2, decide_eq_true x1, decide_eq_false hh.1.1] at this
      cases this
    · unfold ordXYZ
      rw [Bool.not_eq_true', Bool.eq_false_iff]
      intro hh
      simp only [Bool.and_eq_true, Bool.not_eq_true'] at hh
      have := hT x z x0 (by omega) z0 (by omega)
      rw [ordG_in x1 z1, hh.2] at this
      have h2 : twoG (ordG L) x z = true := (anyI_iff _ _).2 ⟨y, y0, by omega, by unfold twoQ; rw [ordG_in x1 y1, ordG_in y1 z1, hh.1.1, hh.1.2]; rfl⟩
      rw [h2] at this; cases this
  · intro h
    have parts : ∀ x, 0 ≤ x → x < num L → (bl L x x = true ∧ bl L 0 x = true ∧ bl L x (num L - 1) = true) ∧ ∀ y, 0 ≤ y → y < num L → (x = y ∨ bl L x y = false ∨ bl L y x = false) ∧ ∀ z, 0 ≤ z → z < num L → bl L x y = true → bl L y z = true → bl L x z = true := fun x x0 x1 => by
      have hx := h x x0 x1
      unfold ordX at hx
      rw [Bool.and_eq_true, allI_iff, Bool.and_eq_true, Bool.and_eq_true] at hx
      refine ⟨⟨hx.1.1.1, hx.1.1.2, hx.1.2⟩, fun y y0 y1 => ?_⟩
      have hy := hx.2 y y0 y1
      unfold ordXY at hy
      rw [Bool.and_eq_true, allI_iff] at hy
      refine ⟨?_, fun z z0 z1 a b => ?_⟩
      · by_cases e : x = y
        · exact .inl e
        · right
          have := hy.1
          cases ha : bl L x y <;> cases hb : bl L y x <;> simp_all
      · have hz := hy.2 z z0 z1
        unfold ordXYZ at hz
        rw [a, b] at hz
        simpa using hz
    refine ⟨⟨fun x y x0 x6 y0 y6 => ?_, fun x y x0 x6 y0 y6 => ?_⟩, fun x x0 x1 => ?_⟩
    · unfold bothG eqG
      by_cases hi : x < num L ∧ y < num L
      · rw [ordG_in hi.2 hi.1, ordG_in hi.1 hi.2, decide_eq_true hi.1]
        by_cases e : x = y
        · subst e; rw [(parts x x0 hi.1).1.1, decide_eq_true rfl]
        · rw [decide_eq_false e]
          rcases ((parts x x0 hi.1).2 y y0 hi.2).1 with e2 | e2 | e2
          · exact absurd e2 e
          · rw [e2]; simp
          · rw [e2]; simp
      · rw [ordG_out (by omega), ordG_out hi]
        by_cases hx : x < num L
        · rw [decide_eq_false (show ¬ x = y by omega)]; simp
        · rw [decide_eq_false hx]; rfl
    · rw [Bool.eq_iff_iff]
      unfold twoG
      rw [anyI_iff]
      constructor
      · rintro ⟨m, m0, m6, hm⟩
        unfold twoQ at hm
        rw [Bool.and_eq_true] at hm
        have i1 : x < num L ∧ m < num L := by
          refine Classical.byContradiction fun hn => ?_
          rw [ordG_out hn] at hm; exact absurd hm.1 (by decide)
        have i2 : m < num L ∧ y < num L := by
          refine Classical.byContradiction fun hn => ?_
          rw [ordG_out hn] at hm; exact absurd hm.2 (by decide)
        rw [ordG_in i1.1 i1.2, ordG_in i2.1 i2.2] at hm
        rw [ordG_in i1.1 i2.2]
        exact ((parts x x0 i1.1).2 m m0 i1.2).2 y y0 i2.2 hm.1 hm.2
      · intro hg
        have i1 : x < num L ∧ y < num L := by
          refine Classical.byContradiction fun hn => ?_
          rw [ordG_out hn] at hg; cases hg
        refine ⟨x, x0, x6, ?_⟩
        unfold twoQ
        rw [hg, ordG_in i1.1 i1.1, (parts x x0 i1.1).1.1]; rfl
    · unfold bndQ
      rw [ordG_in (by omega) x1, ordG_in x1 (by omega), (parts x x0 x1).1.2.1, (parts x x0 x1).1.2.2]; rfl
theorem latB_impl {L : List Int} (h1 : 1 ≤ num L) (h6 : num L ≤ 6) : latB L = (allI (num L) (inR L) && (isOrderB (ordG L) (num L) && allI (num L) (bndQ (ordG L) (num L))) && (tabOk (ordG L) (num L) && tabOk (revG (ordG L)) (num L))) := by
  rw [tab_latXY, order_ordX h1 h6]
  unfold latB voB
  rw [decide_eq_true h1, decide_eq_true h6]
  rfl
/-- the lattice that the numbers are read as -/
def latOf (L : List Int) : Array Value := latA L.length (ordG L) (tabT (ordG L) L.length) (tabT (revG (ordG L)) L.length)

/-- impl.readLattice -/
theorem readLattice_no (a : Option Addr) (cap : Nat) (L : List Int) (w : World) (hr : Rd w a L) (h : latB L = false) :
    Calls Try.prog 69 #[.slice a L.length cap] w fun e w' => e = .returned (.tuple #[.agg zeroLat, .bool false]) ∧ Below w.heap.size w w' := by
  rcases hr.cases with hl | ⟨h1, h6, b, off, rfl, hc⟩
  · exact readLattice_len a cap L w hl
  · rw [latB_impl h1 h6] at h
    cases q0 : allI (num L) (inR L) with
    | false => exact readLattice_c0 b off cap L w hc h1 h6 q0
    | true =>
      cases q1 : isOrderB (ordG L) (num L) with
      | false => exact readLattice_c1 b off cap L w hc h1 h6 q0 q1
      | true =>
        cases q2 : allI (num L) (bndQ (ordG L) (num L)) with
        | false => exact readLattice_c2 b off cap L w hc h1 h6 q0 q1 q2
        | true =>
          rw [q0, q1, q2] at h
          cases q3 : tabOk (ordG L) (num L) <;> cases q4 : tabOk (revG (ordG L)) (num L)
          · exact readLattice_c3 b off cap L w hc h1 h6 q0 q1 q2 q3 q4
          · exact readLattice_c4 b off cap L w hc h1 h6 q0 q1 q2 q3 q4
          · exact readLattice_c5 b off cap L w hc h1 h6 q0 q1 q2 q3 q4
          · rw [q3, q4] at h; cases h
theorem readLattice_yes (a : Option Addr) (cap : Nat) (L : List Int) (w : World) (hr : Rd w a L) (h : latB L = true) :
    Calls Try.prog 69 #[.slice a L.length cap] w fun e w' => e = .returned (.tuple #[.agg (latOf L), .bool true]) ∧ Below w.heap.size w w' := by
  obtain ⟨h1, h6, _⟩ := latB_parts h
  obtain ⟨b, off, rfl, hc⟩ := hr.pos h1
  rw [latB_impl h1 h6] at h
  simp only [Bool.and_eq_true] at h
  obtain ⟨⟨q0, q1, q2⟩, q3, q4⟩ := h
  exact readLattice_good b off cap L w hc h1 h6 q0 q1 q2 q3 q4
end Go.Proofs.Ytbellklaoecpbaa
