import Derived.Test.YtpophjloedpcfaaGreatDoorM5
import Derived.Test.YtpophjloedpcfaaGreatDoorC3
import Derived.Test.YtpophjloedpcfaaGreatDoorY1
import Derived.Test.YtpophjloedpcfaaGreatDoorA5
import Derived.Test.YtpophjloedpcfaaGreatDoorU3
import Derived.Test.YtpophjloedpcfaaGreatDoorW4
/- When numbers are a lattice, and products make an algebra; numbers and rows made by functions. -/
namespace Go.Proofs.YtpophjloedpcfaaGreatDoor

theorem firstI_ex {n : Int} {p : Int → Bool} {z : Int} (z0 : 0 ≤ z) (z1 : z < n) (h : p z = true) : 0 ≤ firstI n p ∧ firstI n p < n ∧ p (firstI n p) = true := by
  rcases firstI_cases n p with ⟨_, hn⟩ | ⟨a, b, c, _⟩
  · rw [hn z z0 z1] at h; cases h
  · exact ⟨a, b, c⟩
theorem isMeet_iff {L : List Int} {x y z : Int} : isMeetB L x y z = true ↔ bl L z x = true ∧ bl L z y = true ∧ ∀ w, El L w → bl L w x = true → bl L w y = true → bl L w z = true := by
  unfold isMeetB
  rw [Bool.and_eq_true, Bool.and_eq_true, allI_iff]
  constructor
  · rintro ⟨⟨a, b⟩, c⟩
    refine ⟨a, b, fun w hw h1 h2 => ?_⟩
    have := c w hw.1 hw.2
    rw [h1, h2] at this
    simpa using this
  · rintro ⟨a, b, c⟩
    refine ⟨⟨a, b⟩, fun w w0 w1 => ?_⟩
    cases h1 : bl L w x
    · rfl
    · cases h2 : bl L w y
      · rfl
      · rw [c w ⟨w0, w1⟩ h1 h2]; rfl
theorem isJoin_iff {L : List Int} {x y z : Int} : isJoinB L x y z = true ↔ bl L x z = true ∧ bl L y z = true ∧ ∀ w, El L w → bl L x w = true → bl L y w = true → bl L z w = true := by
  unfold isJoinB
  rw [Bool.and_eq_true, Bool.and_eq_true, allI_iff]
  constructor
  · rintro ⟨⟨a, b⟩, c⟩
    refine ⟨a, b, fun w hw h1 h2 => ?_⟩
    have := c w hw.1 hw.2
    rw [h1, h2] at this
    simpa using this
  · rintro ⟨a, b, c⟩
    refine ⟨⟨a, b⟩, fun w w0 w1 => ?_⟩
    cases h1 : bl L x w
    · rfl
    · cases h2 : bl L y w
      · rfl
      · rw [c w ⟨w0, w1⟩ h1 h2]; rfl
/-- numbers are a lattice if they are an order with meets and joins -/
theorem lat_of {L : List Int} (n1 : 1 ≤ num L) (n6 : num L ≤ 6) (hr : ∀ x, El L x → 0 ≤ nth L x ∧ nth L x ≤ pw (num L) - 1) (h1 : ∀ x, El L x → bl L x x = true) (h2 : ∀ x, El L x → bl L 0 x = true) (h3 : ∀ x, El L x → bl L x (num L - 1) = true)
    (h4 : ∀ x y, El L x → El L y → bl L x y = true → bl L y x = true → x = y) (h5 : ∀ x y z, El L x → El L y → El L z → bl L x y = true → bl L y z = true → bl L x z = true)
    (hm : ∀ x y, El L x → El L y → ∃ z, El L z ∧ bl L z x = true ∧ bl L z y = true ∧ ∀ w, El L w → bl L w x = true → bl L w y = true → bl L w z = true)
    (hj : ∀ x y, El L x → El L y → ∃ z, El L z ∧ bl L x z = true ∧ bl L y z = true ∧ ∀ w, El L w → bl L x w = true → bl L y w = true → bl L z w = true) : latB L = true := by
  unfold latB
  rw [Bool.and_eq_true]
  constructor
  · refine voB_t (m := num L) n1 n6 (fun x x0 x1 => ?_) (Int.le_refl _) fun x x0 x1 => ?_
    · unfold inR; rw [Bool.and_eq_true, decide_eq_true_eq, decide_eq_true_eq]; exact hr x ⟨x0, x1⟩
    · have hx : El L x := ⟨x0, x1⟩
      refine ordX_t (m := num L) (by rw [h1 x hx, h2 x hx, h3 x hx]; rfl) (Int.le_refl _) fun y y0 y1 => ?_
      have hy : El L y := ⟨y0, y1⟩
      refine ordXY_t (m := num L) ?_ (Int.le_refl _) fun z z0 z1 => ?_
      · by_cases e : x = y
        · simp [e]
        · cases a : bl L x y
          · simp
          · cases b : bl L y x
            · simp
            · exact absurd (h4 x y hx hy a b) e
      · unfold ordXYZ
        cases a : bl L x y
        · rfl
        · cases b : bl L y z
          · rfl
          · rw [h5 x y z hx hy ⟨z0, z1⟩ a b]; rfl
  · rw [allI_iff]
    intro x x0 x1
    rw [allI_iff]
    intro y y0 y1
    obtain ⟨z, hz, a, b, c⟩ := hm x y ⟨x0, x1⟩ ⟨y0, y1⟩
    obtain ⟨z', hz', a', b', c'⟩ := hj x y ⟨x0, x1⟩ ⟨y0, y1⟩
    have e1 : 0 ≤ mt L x y := (firstI_ex (p := isMeetB L x y) hz.1 hz.2 (isMeet_iff.2 ⟨a, b, c⟩)).1
    have e2 : 0 ≤ jn L x y := (firstI_ex (p := isJoinB L x y) hz'.1 hz'.2 (isJoin_iff.2 ⟨a', b', c'⟩)).1
    unfold latXY
    rw [decide_eq_false (by omega), decide_eq_false (by omega)]; rfl
theorem mt_eq {L : List Int} (h : latB L = true) {x y z : Int} (hx : El L x) (hy : El L y) (hz : El L z) (a : bl L z x = true) (b : bl L z y = true) (c : ∀ w, El L w → bl L w x = true → bl L w y = true → bl L w z = true) : mt L x y = z :=
  bl_anti h (mt_el h hx hy) hz (c _ (mt_el h hx hy) (mt_lb1 h hx hy) (mt_lb2 h hx hy)) (mt_ge h hx hy hz a b)
theorem jn_eq {L : List Int} (h : latB L = true) {x y z : Int} (hx : El L x) (hy : El L y) (hz : El L z) (a : bl L x z = true) (b : bl L y z = true) (c : ∀ w, El L w → bl L x w = true → bl L y w = true → bl L z w = true) : jn L x y = z :=
  bl_anti h (jn_el h hx hy) hz (jn_le h hx hy hz a b) (c _ (jn_el h hx hy) (jn_ub1 h hx hy) (jn_ub2 h hx hy))
/-- products make an algebra of a lattice -/
theorem alg_of {L : List Int} {T : List (List Int)} (h : latB L = true) (hl : (T.length : Int) = num L) (hrow : ∀ x, El L x → ((rowAt T x).length : Int) = num L) (hc : ∀ x y, El L x → El L y → El L (tv T x y))
    (ht : ∀ x, El L x → tv T x (num L - 1) = x) (hb : ∀ x, El L x → tv T x 0 = 0) (hco : ∀ x y, El L x → El L y → tv T x y = tv T y x) (ha : ∀ x y z, El L x → El L y → El L z → tv T (tv T x y) z = tv T x (tv T y z))
    (hj : ∀ x y z, El L x → El L y → El L z → tv T x (jn L y z) = jn L (tv T x y) (tv T x z)) : algB L T = true := by
  refine algB_t (m := num L) h (shape_t (m := num L) hl (Int.le_refl _) fun x x0 x1 => rowOk_t (m := num L) (hrow x ⟨x0, x1⟩) (Int.le_refl _) fun y y0 y1 => ?_) (Int.le_refl _) fun x x0 x1 => ?_
  · have := hc x y ⟨x0, x1⟩ ⟨y0, y1⟩
    unfold cellOk
    rw [decide_eq_true this.1, decide_eq_true (show tv T x y ≤ num L - 1 by have := this.2; omega)]; rfl
  · have hx : El L x := ⟨x0, x1⟩
    refine lwX_t (m := num L) (by rw [ht x hx, hb x hx]; simp) (Int.le_refl _) fun y y0 y1 => ?_
    have hy : El L y := ⟨y0, y1⟩
    refine lwXY_t (m := num L) (by rw [hco x y hx hy]; simp) (Int.le_refl _) fun z z0 z1 => ?_
    have hz : El L z := ⟨z0, z1⟩
    unfold lwXYZ asQ goQ
    rw [ha x y z hx hy hz, hj x y z hx hy hz]; simp
/-! numbers made by a function -/
theorem upL_num (g : Int → Int → Bool) {n : Int} (h : 0 ≤ n) : num (upL g n) = n := by unfold num upL; simp; omega
theorem upL_nth (g : Int → Int → Bool) {n x : Int} (x0 : 0 ≤ x) (x1 : x < n) : nth (upL g n) x = rowTo (g x) n := by
  unfold nth upL
  have : x.toNat < n.toNat := by omega
  rw [List.getD_eq_getElem?_getD, List.getElem?_map, List.getElem?_range this]
  simp [Int.toNat_of_nonneg x0]
theorem rowTo_bt (p : Int → Bool) : ∀ (k : Nat) (y : Nat), y < k → ib (rowTo p k) y = p y
  | 0, y, h => absurd h (by omega)
  | k + 1, y, h => by
    have e : rowTo p ((k + 1 : Nat) : Int) = if p k then rowTo p k + pw k else rowTo p k := by
      rw [show ((k + 1 : Nat) : Int) = (k : Int) + 1 by omega, rowTo_succ p k (by omega)]
    have hr := rowTo_range p k
    have hp : pw (k : Int) = ((2 ^ k : Nat) : Int) := by rw [pw_nat]; simp
    obtain ⟨v, hv⟩ : ∃ v : Nat, rowTo p k = v := ⟨(rowTo p k).toNat, by omega⟩
    have hvk : v < 2 ^ k := by rw [hv, hp] at hr; omega
    have tb : (2 ^ k + v).testBit y = if y = k then true else v.testBit y := by
      by_cases ey : y = k
      · subst ey; simp [Nat.testBit_two_pow_add_eq, Nat.testBit_lt_two_pow hvk]
      · rw [if_neg ey, Nat.testBit_two_pow_add_gt (by omega)]
    by_cases ey : y = k
    · subst ey
      rw [e]
      by_cases hpk : p y = true
      · rw [if_pos hpk, hv, hp, hpk, show ((v : Nat) : Int) + ((2 ^ y : Nat) : Int) = ((2 ^ y + v : Nat) : Int) by omega, ib_nat, tb, if_pos rfl]
      · rw [if_neg hpk, hv, ib_nat, Nat.testBit_lt_two_pow hvk]
        cases h2 : p y
        · rfl
        · exact absurd h2 hpk
    · have ih := rowTo_bt p k y (by omega)
      rw [hv, ib_nat] at ih
      rw [e]
      by_cases hpk : p k = true
      · rw [if_pos hpk, hv, hp, show ((v : Nat) : Int) + ((2 ^ k : Nat) : Int) = ((2 ^ k + v : Nat) : Int) by omega, ib_nat, tb, if_neg ey, ih]
      · rw [if_neg hpk, hv, ib_nat, ih]
theorem upL_bl (g : Int → Int → Bool) {n x y : Int} (x0 : 0 ≤ x) (x1 : x < n) (y0 : 0 ≤ y) (y1 : y < n) : bl (upL g n) x y = g x y := by
  have := rowTo_bt (g x) n.toNat y.toNat (by omega)
  rw [Int.toNat_of_nonneg (show 0 ≤ n by omega), Int.toNat_of_nonneg y0] at this
  show ib (nth (upL g n) x) y = g x y
  rw [upL_nth g x0 x1, this]
theorem upL_rng (g : Int → Int → Bool) {n x : Int} (x0 : 0 ≤ x) (x1 : x < n) : 0 ≤ nth (upL g n) x ∧ nth (upL g n) x ≤ pw n - 1 := by
  rw [upL_nth g x0 x1]
  have := rowTo_bound (g x) (show 0 ≤ n by omega)
  omega
/-- numbers made by an order with meets and joins are a lattice -/
theorem upL_lat {g : Int → Int → Bool} {n : Int} (n1 : 1 ≤ n) (n6 : n ≤ 6) (h1 : ∀ x, 0 ≤ x → x < n → g x x = true) (h2 : ∀ x, 0 ≤ x → x < n → g 0 x = true) (h3 : ∀ x, 0 ≤ x → x < n → g x (n - 1) = true)
    (h4 : ∀ x y, 0 ≤ x → x < n → 0 ≤ y → y < n → g x y = true → g y x = true → x = y) (h5 : ∀ x y z, 0 ≤ x → x < n → 0 ≤ y → y < n → 0 ≤ z → z < n → g x y = true → g y z = true → g x z = true)
    (hm : ∀ x y, 0 ≤ x → x < n → 0 ≤ y → y < n → ∃ z, 0 ≤ z ∧ z < n ∧ g z x = true ∧ g z y = true ∧ ∀ w, 0 ≤ w → w < n → g w x = true → g w y = true → g w z = true)
    (hj : ∀ x y, 0 ≤ x → x < n → 0 ≤ y → y < n → ∃ z, 0 ≤ z ∧ z < n ∧ g x z = true ∧ g y z = true ∧ ∀ w, 0 ≤ w → w < n → g x w = true → g y w = true → g z w = true) : latB (upL g n) = true := by
  have hn := upL_num g (show 0 ≤ n by omega)
  have E : ∀ x, El (upL g n) x → 0 ≤ x ∧ x < n := fun x hx => ⟨hx.1, by rw [← hn]; exact hx.2⟩
  have B : ∀ x y, 0 ≤ x ∧ x < n → 0 ≤ y ∧ y < n → bl (upL g n) x y = g x y := fun x y hx hy => upL_bl g hx.1 hx.2 hy.1 hy.2
  refine lat_of (by rw [hn]; exact n1) (by rw [hn]; exact n6) (fun x hx => by rw [hn]; exact upL_rng g (E x hx).1 (E x hx).2) (fun x hx => ?_) (fun x hx => ?_) (fun x hx => ?_) (fun x y hx hy a b => ?_) (fun x y z hx hy hz a b => ?_) (fun x y hx hy => ?_) (fun x y hx hy => ?_)
  · rw [B x x (E x hx) (E x hx)]; exact h1 x (E x hx).1 (E x hx).2
  · rw [B 0 x ⟨by omega, by omega⟩ (E x hx)]; exact h2 x (E x hx).1 (E x hx).2
  · rw [hn, B x (n - 1) (E x hx) ⟨by omega, by omega⟩]; exact h3 x (E x hx).1 (E x hx).2
  · rw [B x y (E x hx) (E y hy)] at a; rw [B y x (E y hy) (E x hx)] at b
    exact h4 x y (E x hx).1 (E x hx).2 (E y hy).1 (E y hy).2 a b
  · rw [B x y (E x hx) (E y hy)] at a; rw [B y z (E y hy) (E z hz)] at b; rw [B x z (E x hx) (E z hz)]
    exact h5 x y z (E x hx).1 (E x hx).2 (E y hy).1 (E y hy).2 (E z hz).1 (E z hz).2 a b
  · obtain ⟨z, z0, z1, a, b, c⟩ := hm x y (E x hx).1 (E x hx).2 (E y hy).1 (E y hy).2
    refine ⟨z, ⟨z0, by rw [hn]; exact z1⟩, by rw [B z x ⟨z0, z1⟩ (E x hx)]; exact a, by rw [B z y ⟨z0, z1⟩ (E y hy)]; exact b, fun w hw h1 h2 => ?_⟩
    rw [B w x (E w hw) (E x hx)] at h1; rw [B w y (E w hw) (E y hy)] at h2; rw [B w z (E w hw) ⟨z0, z1⟩]
    exact c w (E w hw).1 (E w hw).2 h1 h2
  · obtain ⟨z, z0, z1, a, b, c⟩ := hj x y (E x hx).1 (E x hx).2 (E y hy).1 (E y hy).2
    refine ⟨z, ⟨z0, by rw [hn]; exact z1⟩, by rw [B x z (E x hx) ⟨z0, z1⟩]; exact a, by rw [B y z (E y hy) ⟨z0, z1⟩]; exact b, fun w hw h1 h2 => ?_⟩
    rw [B x w (E x hx) (E w hw)] at h1; rw [B y w (E y hy) (E w hw)] at h2; rw [B z w ⟨z0, z1⟩ (E w hw)]
    exact c w (E w hw).1 (E w hw).2 h1 h2
theorem tabL_row' (p : Int → Int → Int) {n x : Int} (x0 : 0 ≤ x) (x1 : x < n) : rowAt (tabL p n) x = lstTo (p x) n := by
  have := tabL_row p (n := n) (j := x.toNat) (by omega)
  rwa [Int.toNat_of_nonneg x0] at this
end Go.Proofs.YtpophjloedpcfaaGreatDoor

/- Plain facts for the promises of chapter 1; nothing of the program. -/
namespace Go.Proofs.YtpophjloedpcfaaGreatDoor

/-! a lattice upside down -/
theorem turn_num (L : List Int) : num (turnL L) = num L := upL_num _ (by unfold num; omega)
theorem turn_bl {L : List Int} {x y : Int} (hx : El L x) (hy : El L y) : bl (turnL L) x y = bl L (num L - 1 - y) (num L - 1 - x) := upL_bl _ hx.1 hx.2 hy.1 hy.2
theorem el_rv {L : List Int} {x : Int} (hx : El L x) : El L (num L - 1 - x) := ⟨by have := hx.2; omega, by have := hx.1; omega⟩
theorem el_turn {L : List Int} {x : Int} : El (turnL L) x ↔ El L x := by unfold El; rw [turn_num]
theorem rv_rv (L : List Int) (x : Int) : num L - 1 - (num L - 1 - x) = x := by omega
theorem turn_lat {L : List Int} (h : latB L = true) : latB (turnL L) = true := by
  obtain ⟨n1, n6⟩ := lat_len h
  have R : ∀ x, 0 ≤ x → x < num L → El L (num L - 1 - x) := fun x x0 x1 => el_rv ⟨x0, x1⟩
  refine upL_lat n1 n6 (fun x x0 x1 => bl_refl h (R x x0 x1)) (fun x x0 x1 => ?_) (fun x x0 x1 => ?_) (fun x y x0 x1 y0 y1 a b => ?_) (fun x y z x0 x1 y0 y1 z0 z1 a b => ?_) (fun x y x0 x1 y0 y1 => ?_) (fun x y x0 x1 y0 y1 => ?_)
  · unfold turnG; rw [Int.sub_zero]; exact bl_top h (R x x0 x1)
  · unfold turnG; rw [Int.sub_self]; exact bl_low h (R x x0 x1)
  · unfold turnG at a b
    have := bl_anti h (R y y0 y1) (R x x0 x1) a b
    omega
  · unfold turnG at a b ⊢
    exact bl_trans h (R z z0 z1) (R y y0 y1) (R x x0 x1) b a
  · have e := jn_el h (R x x0 x1) (R y y0 y1)
    have e' := el_rv e
    refine ⟨num L - 1 - jn L (num L - 1 - x) (num L - 1 - y), e'.1, e'.2, ?_, ?_, fun w w0 w1 a b => ?_⟩
    · unfold turnG; rw [rv_rv]; exact jn_ub1 h (R x x0 x1) (R y y0 y1)
    · unfold turnG; rw [rv_rv]; exact jn_ub2 h (R x x0 x1) (R y y0 y1)
    · unfold turnG at a b ⊢; rw [rv_rv]; exact jn_le h (R x x0 x1) (R y y0 y1) (R w w0 w1) a b
  · have e := mt_el h (R x x0 x1) (R y y0 y1)
    have e' := el_rv e
    refine ⟨num L - 1 - mt L (num L - 1 - x) (num L - 1 - y), e'.1, e'.2, ?_, ?_, fun w w0 w1 a b => ?_⟩
    · unfold turnG; rw [rv_rv]; exact mt_lb1 h (R x x0 x1) (R y y0 y1)
    · unfold turnG; rw [rv_rv]; exact mt_lb2 h (R x x0 x1) (R y y0 y1)
    · unfold turnG at a b ⊢; rw [rv_rv]; exact mt_ge h (R x x0 x1) (R y y0 y1) (R w w0 w1) a b
theorem turn_mt {L : List Int} (h : latB L = true) {x y : Int} (hx : El L x) (hy : El L y) : mt (turnL L) (num L - 1 - x) (num L - 1 - y) = num L - 1 - jn L x y := by
  have ej := jn_el h hx hy
  refine mt_eq (turn_lat h) (el_turn.2 (el_rv hx)) (el_turn.2 (el_rv hy)) (el_turn.2 (el_rv ej)) ?_ ?_ fun w hw a b => ?_
  · rw [turn_bl (el_rv ej) (el_rv hx), rv_rv, rv_rv]; exact jn_ub1 h hx hy
  · rw [turn_bl (el_rv ej) (el_rv hy), rv_rv, rv_rv]; exact jn_ub2 h hx hy
  · have hw := el_turn.1 hw
    rw [turn_bl hw (el_rv hx), rv_rv] at a
    rw [turn_bl hw (el_rv hy), rv_rv] at b
    rw [turn_bl hw (el_rv ej), rv_rv]
    exact jn_le h hx hy (el_rv hw) a b
/-- a number within the bits is told by them -/
theorem rowTo_ib {v : Int} {k : Int} (k0 : 0 ≤ k) (h0 : 0 ≤ v) (h1 : v < pw k) : rowTo (fun y => ib v y) k = v := by
  obtain ⟨a, rfl⟩ := Int.eq_ofNat_of_zero_le h0
  have hb := rowTo_bound (fun y => ib (a : Int) y) k0
  obtain ⟨c, hc⟩ : ∃ c : Nat, rowTo (fun y => ib (a : Int) y) k = c := ⟨(rowTo (fun y => ib (a : Int) y) k).toNat, by omega⟩
  have hk : pw k = ((2 ^ k.toNat : Nat) : Int) := by unfold pw; simp
  rw [hk] at h1 hb
  rw [hc] at hb
  have hac : a < 2 ^ k.toNat := by omega
  have hcc : c < 2 ^ k.toNat := by omega
  rw [hc]
  congr 1
  refine Nat.eq_of_testBit_eq fun i => ?_
  by_cases hi : i < k.toNat
  · have := rowTo_bt (fun y => ib (a : Int) y) k.toNat i hi
    rw [Int.toNat_of_nonneg k0, hc, ib_nat] at this
    rw [this, ib_nat]
  · have hle : 2 ^ k.toNat ≤ 2 ^ i := Nat.pow_le_pow_right (by decide) (by omega)
    rw [Nat.testBit_lt_two_pow (by omega), Nat.testBit_lt_two_pow (by omega)]
theorem lat_rng {L : List Int} (h : latB L = true) {x : Int} (hx : El L x) : 0 ≤ nth L x ∧ nth L x < pw (num L) := by
  unfold latB at h; rw [Bool.and_eq_true] at h
  have h := h.1
  unfold voB at h; simp only [Bool.and_eq_true] at h
  have := (allI_iff _ _).1 h.1.2 x hx.1 hx.2
  unfold inR at this
  rw [Bool.and_eq_true, decide_eq_true_eq, decide_eq_true_eq] at this
  omega
theorem turn_turn {L : List Int} (h : latB L = true) : turnL (turnL L) = L := by
  have hn := turn_num L
  have hl : (turnL (turnL L)).length = L.length := by
    have a := turn_num (turnL L); rw [hn] at a; unfold num at a; omega
  refine nth_ext hl fun j j0 j1 => ?_
  have hj : El L j := ⟨j0, by unfold num; omega⟩
  have e : nth (turnL (turnL L)) j = rowTo (turnG (turnL L) j) (num (turnL L)) := upL_nth _ j0 (by rw [hn]; exact hj.2)
  rw [e, hn]
  obtain ⟨r0, r1⟩ := lat_rng h hj
  have n0 : 0 ≤ num L := by unfold num; omega
  rw [← rowTo_ib n0 r0 r1]
  refine rowTo_congr fun y y0 y1 => ?_
  have hy : El L y := ⟨y0, y1⟩
  show bl (turnL L) (num (turnL L) - 1 - y) (num (turnL L) - 1 - j) = _
  rw [hn, turn_bl (el_rv hy) (el_rv hj), rv_rv, rv_rv]
  rfl
/-! orders, meets and joins -/
theorem good_el {L : List Int} {x y : Int} : goodB L x y = true ↔ latB L = true ∧ El L x ∧ El L y := by
  unfold goodB El
  simp only [Bool.and_eq_true, decide_eq_true_eq]
  constructor
  · rintro ⟨⟨a, b, c⟩, d, e⟩; exact ⟨a, ⟨b, by omega⟩, d, by omega⟩
  · rintro ⟨a, ⟨b, c⟩, d, e⟩; exact ⟨⟨a, b, by omega⟩, d, by omega⟩
theorem mt_comm {L : List Int} (h : latB L = true) {x y : Int} (hx : El L x) (hy : El L y) : mt L y x = mt L x y :=
  mt_eq h hy hx (mt_el h hx hy) (mt_lb2 h hx hy) (mt_lb1 h hx hy) fun _ hw a b => mt_ge h hx hy hw b a
theorem jn_comm {L : List Int} (h : latB L = true) {x y : Int} (hx : El L x) (hy : El L y) : jn L y x = jn L x y :=
  jn_eq h hy hx (jn_el h hx hy) (jn_ub2 h hx hy) (jn_ub1 h hx hy) fun _ hw a b => jn_le h hx hy hw b a
theorem jn_mt {L : List Int} (h : latB L = true) {x y : Int} (hx : El L x) (hy : El L y) : jn L x (mt L x y) = x := jn_of_ge h hx (mt_el h hx hy) (mt_lb1 h hx hy)
theorem mt_jn {L : List Int} (h : latB L = true) {x y : Int} (hx : El L x) (hy : El L y) : mt L x (jn L x y) = x := mt_of_le h hx (jn_el h hx hy) (jn_ub1 h hx hy)
theorem bl_mt {L : List Int} (h : latB L = true) {x y z : Int} (hx : El L x) (hy : El L y) (hz : El L z) : (bl L z x && bl L z y) = bl L z (mt L x y) := by
  rw [Bool.eq_iff_iff, Bool.and_eq_true]
  constructor
  · rintro ⟨a, b⟩; exact mt_ge h hx hy hz a b
  · intro a; exact ⟨bl_trans h hz (mt_el h hx hy) hx a (mt_lb1 h hx hy), bl_trans h hz (mt_el h hx hy) hy a (mt_lb2 h hx hy)⟩
theorem bl_mt_iff {L : List Int} (h : latB L = true) {x y : Int} (hx : El L x) (hy : El L y) : bl L x y = (mt L x y == x) := by
  rw [Bool.eq_iff_iff, beq_iff_eq]
  constructor
  · intro a; exact mt_of_le h hx hy a
  · intro a; rw [← a]; exact mt_lb2 h hx hy
theorem bl_jn_iff {L : List Int} (h : latB L = true) {x y : Int} (hx : El L x) (hy : El L y) : bl L x y = (jn L x y == y) := by
  rw [Bool.eq_iff_iff, beq_iff_eq]
  constructor
  · intro a; exact jn_of_le h hx hy a
  · intro a; have := jn_ub1 h hx hy; rwa [a] at this
end Go.Proofs.YtpophjloedpcfaaGreatDoor

namespace Go.Proofs.YtpophjloedpcfaaGreatDoor
open Go.RowKit

end Go.Proofs.YtpophjloedpcfaaGreatDoor

namespace Go.Proofs.YtpophjloedpcfaaGreatDoor
open Go.RowKit

def compQ (L : List Int) (x y : Int) : Bool := mt L x y == 0 && jn L x y == L.length - 1
def compI (L : List Int) (x : Int) : List Int := if goodB L x x then filtTo (compQ L x) (num L) else []
theorem compI_t {L : List Int} {x : Int} (h : goodB L x x = true) : compI L x = filtTo (compQ L x) (num L) := if_pos h
theorem compI_f {L : List Int} {x : Int} (h : goodB L x x = false) : compI L x = [] := if_neg (by rw [h]; decide)
theorem compI_len (L : List Int) (x : Int) : (compI L x).length ≤ 6 := by
  cases h : goodB L x x with
  | false => rw [compI_f h]; simp
  | true => rw [compI_t h]; have := filtTo_len (compQ L x) (num L); have := (goodB_parts h).2.2.1; omega

end Go.Proofs.YtpophjloedpcfaaGreatDoor

namespace Go.Proofs.YtpophjloedpcfaaGreatDoor
open Go.RowKit

end Go.Proofs.YtpophjloedpcfaaGreatDoor

namespace Go.Proofs.YtpophjloedpcfaaGreatDoor
open Go.RowKit

def covR (L : List Int) (x y z : Int) : Bool := z == x || z == y || !bl L x z || !bl L z y
def covQ (L : List Int) (x y : Int) : Bool := (y != x && bl L x y) && allI (num L) (covR L x y)
def covI (L : List Int) (x : Int) : List Int := if goodB L x x then filtTo (covQ L x) (num L) else []
theorem covI_t {L : List Int} {x : Int} (h : goodB L x x = true) : covI L x = filtTo (covQ L x) (num L) := if_pos h
theorem covI_f {L : List Int} {x : Int} (h : goodB L x x = false) : covI L x = [] := if_neg (by rw [h]; decide)
theorem covI_len (L : List Int) (x : Int) : (covI L x).length ≤ 6 := by
  cases h : goodB L x x with
  | false => rw [covI_f h]; simp
  | true => rw [covI_t h]; have := filtTo_len (covQ L x) (num L); have := (goodB_parts h).2.2.1; omega

end Go.Proofs.YtpophjloedpcfaaGreatDoor

namespace Go.Proofs.YtpophjloedpcfaaGreatDoor
open Go.RowKit

def abQ (L : List Int) (x y : Int) : Bool := x != y && bl L x y
def covS (L : List Int) (x y z : Int) : Bool := !(abQ L x z && abQ L z y)
theorem covQ_eq (L : List Int) (x y : Int) : covQ L x y = (allI (num L) (covS L x y) && abQ L x y) := by
  unfold covQ abQ
  rw [Bool.and_comm]
  have e : (y != x) = (x != y) := by rw [Bool.eq_iff_iff, bne_iff_ne, bne_iff_ne]; exact ⟨Ne.symm, Ne.symm⟩
  rw [e]
  congr 1
  refine allI_congr fun z _ _ => ?_
  unfold covR covS abQ
  have e1 : (x != z) = !(z == x) := by rw [bne, Bool.not_inj_iff, Bool.eq_iff_iff, beq_iff_eq, beq_iff_eq]; exact ⟨Eq.symm, Eq.symm⟩
  rw [e1, bne]
  cases z == x <;> cases z == y <;> cases bl L x z <;> cases bl L z y <;> rfl

end Go.Proofs.YtpophjloedpcfaaGreatDoor

/- Plain facts for the promises of chapter 1: covers, chains, complements; nothing of the program. -/
namespace Go.Proofs.YtpophjloedpcfaaGreatDoor

/-! lists of elements -/
theorem cnt_le {p q : Nat → Bool} : ∀ l : List Nat, (∀ a ∈ l, p a = true → q a = true) → (l.filter p).length ≤ (l.filter q).length
  | [], _ => Nat.le_refl _
  | a :: l, h => by
    have ih := cnt_le l fun b hb => h b (List.mem_cons_of_mem _ hb)
    have ha := h a (List.mem_cons_self ..)
    rw [List.filter_cons, List.filter_cons]
    by_cases hp : p a = true
    · rw [if_pos hp, if_pos (ha hp)]; simpa using ih
    · rw [if_neg hp]
      split
      · rw [List.length_cons]; omega
      · exact ih
theorem cnt_lt {p q : Nat → Bool} : ∀ l : List Nat, (∀ a ∈ l, p a = true → q a = true) → (∃ a ∈ l, q a = true ∧ p a = false) → (l.filter p).length < (l.filter q).length
  | [], _, h => by obtain ⟨a, ha, _⟩ := h; cases ha
  | a :: l, h, ⟨b, hb, hq, hp⟩ => by
    have hr : ∀ c ∈ l, p c = true → q c = true := fun c hc => h c (List.mem_cons_of_mem _ hc)
    have ha := h a (List.mem_cons_self ..)
    have hle := cnt_le l hr
    rw [List.filter_cons, List.filter_cons]
    rcases List.mem_cons.1 hb with e | hb
    · subst e
      rw [if_pos hq, if_neg (by rw [hp]; decide), List.length_cons]; omega
    · have ih := cnt_lt l hr ⟨b, hb, hq, hp⟩
      by_cases hp : p a = true
      · rw [if_pos hp, if_pos (ha hp)]; simpa using ih
      · rw [if_neg hp]
        split
        · rw [List.length_cons]; omega
        · exact ih
/-- one number alone lets by -/
theorem filtTo_one {p : Int → Bool} {y : Int} (y0 : 0 ≤ y) : ∀ k : Nat, (∀ c, 0 ≤ c → c < (k : Int) → (p c = true ↔ c = y)) → (filtTo p k).length = if y < (k : Int) then 1 else 0
  | 0, _ => by rw [if_neg (by omega)]; rfl
  | k + 1, h => by
    have ih := filtTo_one y0 k fun c c0 c1 => h c c0 (by omega)
    have hk := h k (by omega) (by omega)
    rw [show ((k + 1 : Nat) : Int) = (k : Int) + 1 by omega, filtTo_nat]
    by_cases e : (k : Int) = y
    · rw [if_pos (hk.2 e), List.length_append, ih, if_neg (by omega), if_pos (by omega)]; rfl
    · rw [if_neg (fun a => e (hk.1 a)), ih]
      by_cases e2 : y < (k : Int)
      · rw [if_pos e2, if_pos (by omega)]
      · rw [if_neg e2, if_neg (by omega)]
/-- how many numbers of a list are below y -/
def metN (L : List Int) (y : Int) (V : List Int) : Nat := (V.filter fun c => bl L c y).length
theorem metN_snoc (L : List Int) (y : Int) (V : List Int) (c : Int) : metN L y (V ++ [c]) = if bl L c y then metN L y V + 1 else metN L y V := by
  unfold metN
  rw [List.filter_append, List.length_append]
  cases h : bl L c y <;> simp [h]
theorem metN_pos (L : List Int) (y : Int) (V : List Int) : 0 < metN L y V ↔ ∃ c ∈ V, bl L c y = true := by
  unfold metN
  rw [List.length_pos_iff_exists_mem]
  simp [List.mem_filter]

/-! covers -/
theorem cov_iff {L : List Int} {x y : Int} : covQ L x y = true ↔ y ≠ x ∧ bl L x y = true ∧ ∀ z, El L z → bl L x z = true → bl L z y = true → z = x ∨ z = y := by
  unfold covQ
  rw [Bool.and_eq_true, Bool.and_eq_true, bne_iff_ne, allI_iff]
  constructor
  · rintro ⟨⟨a, b⟩, c⟩
    refine ⟨a, b, fun z hz h1 h2 => ?_⟩
    have := c z hz.1 hz.2
    unfold covR at this
    rw [h1, h2] at this
    simpa using this
  · rintro ⟨a, b, c⟩
    refine ⟨⟨a, b⟩, fun z z0 z1 => ?_⟩
    unfold covR
    cases h1 : bl L x z
    · simp
    · cases h2 : bl L z y
      · simp
      · rcases c z ⟨z0, z1⟩ h1 h2 with e | e <;> simp [e]
def btw (L : List Int) (x y : Int) : Nat := ((List.range (num L).toNat).filter fun (z : Nat) => decide ((z : Int) ≠ x) && (decide ((z : Int) ≠ y) && (bl L x z && bl L z y))).length
theorem cov_ex {L : List Int} (h : latB L = true) {x : Int} (_ : El L x) : ∀ (k : Nat) (y : Int), btw L x y ≤ k → El L y → y ≠ x → bl L x y = true → ∃ c, El L c ∧ covQ L x c = true ∧ bl L c y = true := by
  intro k
  induction k with
  | zero =>
    intro y hk hy hne hb
    refine ⟨y, hy, cov_iff.2 ⟨hne, hb, fun z hz h1 h2 => ?_⟩, bl_refl h hy⟩
    by_cases e1 : z = x
    · exact .inl e1
    · by_cases e2 : z = y
      · exact .inr e2
      · exfalso
        have hm : z.toNat ∈ (List.range (num L).toNat).filter fun (z : Nat) => decide ((z : Int) ≠ x) && (decide ((z : Int) ≠ y) && (bl L x z && bl L z y)) := by
          rw [List.mem_filter, List.mem_range, Int.toNat_of_nonneg hz.1]
          exact ⟨by have := hz.1; have := hz.2; omega, by simp [e1, e2, h1, h2]⟩
        have := List.length_pos_of_mem hm
        unfold btw at hk
        omega
  | succ k ih =>
    intro y hk hy hne hb
    by_cases hc : covQ L x y = true
    · exact ⟨y, hy, hc, bl_refl h hy⟩
    · have : ∃ z, El L z ∧ bl L x z = true ∧ bl L z y = true ∧ z ≠ x ∧ z ≠ y := by
        apply Classical.byContradiction
        intro hn
        refine hc (cov_iff.2 ⟨hne, hb, fun z hz h1 h2 => ?_⟩)
        by_cases e1 : z = x
        · exact .inl e1
        · by_cases e2 : z = y
          · exact .inr e2
          · exact absurd ⟨z, hz, h1, h2, e1, e2⟩ hn
      obtain ⟨z, hz, h1, h2, e1, e2⟩ := this
      have hlt : btw L x z < btw L x y := by
        refine cnt_lt _ (fun a ha hp => ?_) ⟨z.toNat, ?_, ?_, ?_⟩
        · have ha := List.mem_range.1 ha
          have hA : El L (a : Int) := ⟨by omega, by omega⟩
          simp only [Bool.and_eq_true, decide_eq_true_eq] at hp ⊢
          obtain ⟨p1, p2, p3, p4⟩ := hp
          refine ⟨p1, fun e => ?_, p3, bl_trans h hA hz hy p4 h2⟩
          rw [e] at p4
          exact e2 (bl_anti h hz hy h2 p4)
        · rw [List.mem_range]; have := hz.1; have := hz.2; omega
        · rw [Int.toNat_of_nonneg hz.1]; simp [e1, e2, h1, h2]
        · rw [Int.toNat_of_nonneg hz.1]; simp
      obtain ⟨c, hc1, hc2, hc3⟩ := ih z (by omega) hz e1 h1
      exact ⟨c, hc1, hc2, bl_trans h hc1 hz hy hc3 h2⟩
theorem cov_is {L : List Int} (h : latB L = true) {x y : Int} (hx : El L x) (hy : El L y) (hne : y ≠ x) (hb : bl L x y = true) : ∃ c, El L c ∧ covQ L x c = true ∧ bl L c y = true := cov_ex h hx _ y (Nat.le_refl _) hy hne hb
theorem cov_el {L : List Int} {x c : Int} : c ∈ filtTo (covQ L x) (num L) ↔ El L c ∧ covQ L x c = true := by
  rw [filtTo_mem]; unfold El; rw [and_assoc]
theorem cov_met {L : List Int} (h : latB L = true) {x y : Int} (hx : El L x) (hy : El L y) : decide (0 < metN L y (filtTo (covQ L x) (num L))) = (y != x && bl L x y) := by
  rw [Bool.eq_iff_iff, decide_eq_true_eq, metN_pos, Bool.and_eq_true, bne_iff_ne]
  constructor
  · rintro ⟨c, hc, hb⟩
    obtain ⟨he, hq⟩ := cov_el.1 hc
    obtain ⟨h1, h2, _⟩ := cov_iff.1 hq
    refine ⟨fun e => ?_, bl_trans h hx he hy h2 hb⟩
    subst e
    exact h1 (bl_anti h he hx hb h2)
  · rintro ⟨h1, h2⟩
    obtain ⟨c, he, hq, hb⟩ := cov_is h hx hy h1 h2
    exact ⟨c, cov_el.2 ⟨he, hq⟩, hb⟩
theorem metN_filt (L : List Int) (y : Int) (p : Int → Bool) (k : Int) : metN L y (filtTo p k) = (filtTo (fun c => p c && bl L c y) k).length := by
  unfold metN
  by_cases h : 0 ≤ k
  · have := filtTo_and p (fun c => bl L c y) k.toNat
    rw [Int.toNat_of_nonneg h] at this
    rw [← this]
  · have e : ∀ q : Int → Bool, filtTo q k = [] := fun q => by
      have := filtTo_len q k
      exact List.eq_nil_of_length_eq_zero (by omega)
    rw [e, e]; rfl
theorem cov_one {L : List Int} (h : latB L = true) {x y : Int} (_ : El L x) (hy : El L y) (hc : covQ L x y = true) : metN L y (filtTo (covQ L x) (num L)) = 1 := by
  rw [metN_filt]
  have n0 : 0 ≤ num L := by unfold num; omega
  have := filtTo_one (p := fun c => covQ L x c && bl L c y) hy.1 (num L).toNat fun c c0 c1 => by
    rw [Int.toNat_of_nonneg n0] at c1
    have hC : El L c := ⟨c0, c1⟩
    rw [Bool.and_eq_true]
    constructor
    · rintro ⟨a, b⟩
      obtain ⟨_, a2, _⟩ := cov_iff.1 a
      obtain ⟨a1, _⟩ := cov_iff.1 a
      rcases (cov_iff.1 hc).2.2 c hC a2 b with e | e
      · exact absurd e a1
      · exact e
    · rintro rfl; exact ⟨hc, bl_refl h hC⟩
  rw [Int.toNat_of_nonneg n0] at this
  rw [this, if_pos hy.2]
/-! chains -/
theorem chain_iff {L : List Int} : chainB L = true ↔ ∀ x y, El L x → El L y → bl L x y = true ∨ bl L y x = true := by
  unfold chainB
  rw [allI_iff]
  constructor
  · intro a x y hx hy
    have := (allI_iff _ _).1 (a x hx.1 hx.2) y hy.1 hy.2
    unfold chainXY at this
    rwa [Bool.or_eq_true] at this
  · intro a x x0 x1
    rw [allI_iff]
    intro y y0 y1
    unfold chainXY
    rw [Bool.or_eq_true]
    exact a x y ⟨x0, x1⟩ ⟨y0, y1⟩
def covLen (L : List Int) (x : Int) : Bool := decide ((filtTo (covQ L x) (num L)).length = 1)
theorem chain_cov {L : List Int} (h : latB L = true) : chainB L = allI (num L - 1) (covLen L) := by
  have n0 : 0 ≤ num L := by unfold num; omega
  rw [Bool.eq_iff_iff, chain_iff, allI_iff]
  constructor
  · intro a x x0 x1
    have hx : El L x := ⟨x0, by omega⟩
    obtain ⟨c, hc, hq, _⟩ := cov_is h hx (el_t h) (by omega) (bl_top h hx)
    have := filtTo_one (p := covQ L x) hc.1 (num L).toNat fun d d0 d1 => by
      rw [Int.toNat_of_nonneg n0] at d1
      have hd : El L d := ⟨d0, d1⟩
      constructor
      · intro q
        obtain ⟨d1, d2, d3⟩ := cov_iff.1 q
        obtain ⟨c1, c2, c3⟩ := cov_iff.1 hq
        rcases a c d hc hd with e | e
        · rcases d3 c hc c2 e with e | e
          · exact absurd e c1
          · exact e.symm
        · rcases c3 d hd d2 e with e | e
          · exact absurd e d1
          · exact e
      · rintro rfl; exact hq
    rw [Int.toNat_of_nonneg n0] at this
    unfold covLen
    rw [this, if_pos hc.2]; rfl
  · intro a x y hx hy
    apply Classical.byContradiction
    intro hn
    have hm := mt_el h hx hy
    have nx : x ≠ mt L x y := fun e => hn (.inl (by rw [bl_mt_iff h hx hy, ← e]; simp))
    have ny : y ≠ mt L x y := fun e => hn (.inr (by have := mt_lb1 h hx hy; rwa [← e] at this))
    obtain ⟨c, c1, c2, c3⟩ := cov_is h hm hx nx (mt_lb1 h hx hy)
    obtain ⟨d, d1, d2, d3⟩ := cov_is h hm hy ny (mt_lb2 h hx hy)
    have nt : mt L x y ≠ num L - 1 := fun e => by
      have t1 := mt_lb1 h hx hy
      rw [e] at t1
      exact nx (by rw [e]; exact top_of h hx t1)
    have hl := a (mt L x y) hm.1 (by have := hm.2; omega)
    unfold covLen at hl
    rw [decide_eq_true_eq] at hl
    have mc := cov_el.2 ⟨c1, c2⟩
    have md := cov_el.2 ⟨d1, d2⟩
    obtain ⟨e, he⟩ := List.length_eq_one_iff.1 hl
    rw [he] at mc md
    have ec := List.mem_singleton.1 mc
    have ed := List.mem_singleton.1 md
    rw [ed, ← ec] at d3
    obtain ⟨q1, q2, _⟩ := cov_iff.1 c2
    exact q1 (bl_anti h c1 hm (mt_ge h hx hy c1 c3 d3) q2)
theorem dist_iff {L : List Int} : distB L = true ↔ ∀ x y z, El L x → El L y → El L z → mt L x (jn L y z) = jn L (mt L x y) (mt L x z) := by
  unfold distB
  rw [allI_iff]
  constructor
  · intro a x y z hx hy hz
    have := (allI_iff _ _).1 ((allI_iff _ _).1 (a x hx.1 hx.2) y hy.1 hy.2) z hz.1 hz.2
    unfold distXYZ at this
    rwa [beq_iff_eq] at this
  · intro a x x0 x1
    refine (allI_iff _ _).2 fun y y0 y1 => (allI_iff _ _).2 fun z z0 z1 => ?_
    unfold distXYZ
    rw [beq_iff_eq]
    exact a x y z ⟨x0, x1⟩ ⟨y0, y1⟩ ⟨z0, z1⟩
theorem mt_mono {L : List Int} (h : latB L = true) {x y z : Int} (hx : El L x) (hy : El L y) (hz : El L z) (a : bl L y z = true) : bl L (mt L x y) (mt L x z) = true :=
  mt_ge h hx hz (mt_el h hx hy) (mt_lb1 h hx hy) (bl_trans h (mt_el h hx hy) hy hz (mt_lb2 h hx hy) a)
theorem jn_mono {L : List Int} (h : latB L = true) {x y z : Int} (hx : El L x) (hy : El L y) (hz : El L z) (a : bl L y z = true) : bl L (jn L x y) (jn L x z) = true :=
  jn_le h hx hy (jn_el h hx hz) (jn_ub1 h hx hz) (bl_trans h hy hz (jn_el h hx hz) a (jn_ub2 h hx hz))
theorem chain_dist {L : List Int} (h : latB L = true) (c : chainB L = true) : distB L = true := by
  refine dist_iff.2 fun x y z hx hy hz => ?_
  have my := mt_el h hx hy
  have mz := mt_el h hx hz
  rcases chain_iff.1 c y z hy hz with a | a
  · rw [jn_of_le h hy hz a, jn_of_le h my mz (mt_mono h hx hy hz a)]
  · rw [jn_of_ge h hy hz a, jn_of_ge h my mz (mt_mono h hx hz hy a)]
/-! what goes over joins goes over meets -/
theorem dist_jn {L : List Int} (h : latB L = true) (d : distB L = true) {x y z : Int} (hx : El L x) (hy : El L y) (hz : El L z) : jn L x (mt L y z) = mt L (jn L x y) (jn L x z) := by
  have D := dist_iff.1 d
  have jy := jn_el h hx hy
  have jz := jn_el h hx hz
  have m := mt_el h hy hz
  have hzx := mt_el h hz hx
  rw [D _ _ _ jy hx hz, mt_comm h hx jy, mt_jn h hx hy, mt_comm h hz jy, D _ _ _ hz hx hy]
  have e1 : jn L x (jn L (mt L z x) (mt L z y)) = jn L x (mt L z y) := by
    have mzy := mt_el h hz hy
    have jj := jn_el h hzx mzy
    refine jn_eq h hx jj (jn_el h hx mzy) (jn_ub1 h hx mzy) (jn_le h hzx mzy (jn_el h hx mzy) ?_ (jn_ub2 h hx mzy)) fun w hw a b => ?_
    · exact bl_trans h hzx hx (jn_el h hx mzy) (mt_lb2 h hz hx) (jn_ub1 h hx mzy)
    · exact jn_le h hx mzy hw a (bl_trans h mzy jj hw (jn_ub2 h hzx mzy) b)
  rw [e1, mt_comm h hy hz]
theorem turn_jn {L : List Int} (h : latB L = true) {x y : Int} (hx : El L x) (hy : El L y) : jn (turnL L) (num L - 1 - x) (num L - 1 - y) = num L - 1 - mt L x y := by
  have em := mt_el h hx hy
  refine jn_eq (turn_lat h) (el_turn.2 (el_rv hx)) (el_turn.2 (el_rv hy)) (el_turn.2 (el_rv em)) ?_ ?_ fun w hw a b => ?_
  · rw [turn_bl (el_rv hx) (el_rv em), rv_rv, rv_rv]; exact mt_lb1 h hx hy
  · rw [turn_bl (el_rv hy) (el_rv em), rv_rv, rv_rv]; exact mt_lb2 h hx hy
  · have hw := el_turn.1 hw
    rw [turn_bl (el_rv hx) hw, rv_rv] at a
    rw [turn_bl (el_rv hy) hw, rv_rv] at b
    rw [turn_bl (el_rv em) hw, rv_rv]
    exact mt_ge h hx hy (el_rv hw) a b
theorem dist_turn1 {L : List Int} (h : latB L = true) (d : distB L = true) : distB (turnL L) = true := by
  refine dist_iff.2 fun x y z hx hy hz => ?_
  have hx := el_rv (el_turn.1 hx); have hy := el_rv (el_turn.1 hy); have hz := el_rv (el_turn.1 hz)
  obtain ⟨x', ex⟩ : ∃ x', x' = num L - 1 - x := ⟨_, rfl⟩
  obtain ⟨y', ey⟩ : ∃ y', y' = num L - 1 - y := ⟨_, rfl⟩
  obtain ⟨z', ez⟩ : ∃ z', z' = num L - 1 - z := ⟨_, rfl⟩
  rw [← ex] at hx; rw [← ey] at hy; rw [← ez] at hz
  have fx : x = num L - 1 - x' := by omega
  have fy : y = num L - 1 - y' := by omega
  have fz : z = num L - 1 - z' := by omega
  rw [fx, fy, fz, turn_jn h hy hz, turn_mt h hx (mt_el h hy hz), turn_mt h hx hy, turn_mt h hx hz, turn_jn h (jn_el h hx hy) (jn_el h hx hz), dist_jn h d hx hy hz]
theorem dist_turn {L : List Int} (h : latB L = true) : distB (turnL L) = distB L := by
  rw [Bool.eq_iff_iff]
  constructor
  · intro d
    have := dist_turn1 (turn_lat h) d
    rwa [turn_turn h] at this
  · exact dist_turn1 h
/-! complements -/
theorem comp_iff {L : List Int} {x y : Int} : compQ L x y = true ↔ mt L x y = 0 ∧ jn L x y = num L - 1 := by
  unfold compQ num
  rw [Bool.and_eq_true, beq_iff_eq, beq_iff_eq]
theorem comp_sym {L : List Int} (h : latB L = true) {x y : Int} (hx : El L x) (hy : El L y) (a : compQ L x y = true) : compQ L y x = true := by
  obtain ⟨a1, a2⟩ := comp_iff.1 a
  exact comp_iff.2 ⟨(mt_comm h hx hy).trans a1, (jn_comm h hx hy).trans a2⟩
theorem comp_uni {L : List Int} (h : latB L = true) (d : distB L = true) {x y z : Int} (hx : El L x) (hy : El L y) (hz : El L z) (a : compQ L x y = true) (b : compQ L x z = true) : y = z := by
  have D := dist_iff.1 d
  obtain ⟨a1, a2⟩ := comp_iff.1 a
  obtain ⟨b1, b2⟩ := comp_iff.1 b
  have key : ∀ y z, El L y → El L z → mt L x y = 0 → jn L x z = num L - 1 → y = mt L y z := fun y z hy hz a1 b2 => by
    have e := D y x z hy hx hz
    rw [b2, mt_of_le h hy (el_t h) (bl_top h hy), mt_comm h hx hy, a1] at e
    rw [jn_of_le h (el_0 h) (mt_el h hy hz) (bl_low h (mt_el h hy hz))] at e
    exact e
  rw [key y z hy hz a1 b2, mt_comm h hz hy]
  exact (key z y hz hy b1 a2).symm
theorem comp_len {L : List Int} (h : latB L = true) (d : distB L = true) {x : Int} (hx : El L x) : (filtTo (compQ L x) (num L)).length ≤ 1 := by
  have n0 : 0 ≤ num L := by unfold num; omega
  by_cases hn : ∃ y, El L y ∧ compQ L x y = true
  · obtain ⟨y, hy, hq⟩ := hn
    have := filtTo_one (p := compQ L x) hy.1 (num L).toNat fun c c0 c1 => by
      rw [Int.toNat_of_nonneg n0] at c1
      exact ⟨fun q => comp_uni h d hx ⟨c0, c1⟩ hy q hq, fun e => by rw [e]; exact hq⟩
    rw [Int.toNat_of_nonneg n0] at this
    rw [this]
    split <;> omega
  · have : filtTo (compQ L x) (num L) = [] := List.eq_nil_iff_forall_not_mem.2 fun c hc => by
      obtain ⟨c0, c1, c2⟩ := (filtTo_mem _ _ _).1 hc
      exact hn ⟨c, ⟨c0, c1⟩, c2⟩
    rw [this]; exact Nat.zero_le _
end Go.Proofs.YtpophjloedpcfaaGreatDoor
