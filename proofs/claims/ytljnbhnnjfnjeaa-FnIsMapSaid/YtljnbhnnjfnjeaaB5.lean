import Derived.Test.YtljnbhnnjfnjeaaM5
import Derived.Test.YtljnbhnnjfnjeaaH4
import Derived.Test.YtljnbhnnjfnjeaaN12
import Derived.Test.YtljnbhnnjfnjeaaN7
import Derived.Test.YtljnbhnnjfnjeaaH10
/- Plain facts on maps, parts and nuclei; nothing of the program. -/
namespace Go.Proofs.Ytljnbhnnjfnjeaa
/-- opposites of opposites -/
def twiI (L : List Int) (T : List (List Int)) (x : Int) : Int := imp L T (imp L T x 0) 0
theorem twi_el {L : List Int} {T : List (List Int)} (h : algB L T = true) (x : Int) : El L (twiI L T x) := imp_el h _ _
/-- a list keeps an operation, as far as it tells -/
def keptQ (t u : Int → Int → Int) (F : List Int) (x y : Int) : Bool := decide (num F ≤ t x y) || nth F (t x y) == u (nth F x) (nth F y)
def keptB (t u : Int → Int → Int) (F : List Int) : Bool := all2 (num F) (keptQ t u F)
def msX (L M F : List Int) (x : Int) : Bool := !((x == 0 && nth F x != 0) || (x == num L - 1 && nth F x != num M - 1))
def msB (L : List Int) (T : List (List Int)) (M : List Int) (U : List (List Int)) (F : List Int) : Bool :=
  allI (num F) (msX L M F) && (keptB (mt L) (mt M) F && (keptB (jn L) (jn M) F && (keptB (tv T) (tv U) F && keptB (imp L T) (imp M U) F)))
/-- as the document says it -/
def mpQ (L : List Int) (T : List (List Int)) (M : List Int) (U : List (List Int)) (F : List Int) (x y : Int) : Bool :=
  nth F (tv T x y) == tv U (nth F x) (nth F y) && (nth F (imp L T x y) == imp M U (nth F x) (nth F y) && (nth F (mt L x y) == mt M (nth F x) (nth F y) && nth F (jn L x y) == jn M (nth F x) (nth F y)))
def mpR (M F : List Int) (x : Int) : Bool := decide (0 ≤ nth F x) && decide (nth F x ≤ num M - 1)
def mpB (L : List Int) (T : List (List Int)) (M : List Int) (U : List (List Int)) (F : List Int) : Bool :=
  decide (num F = num L) && (allI (num L) (mpR M F) && ((nth F 0 == 0 && nth F (num L - 1) == num M - 1) && all2 (num L) (mpQ L T M U F)))
theorem withB_all {M F : List Int} : withB M F = true ↔ ∀ x, 0 ≤ x → x < num F → 0 ≤ nth F x ∧ nth F x < num M := by
  unfold withB
  rw [allI_iff]
  refine ⟨fun h x x0 x1 => ?_, fun h x x0 x1 => ?_⟩
  · have := h x x0 x1
    unfold inE at this; rw [Bool.and_eq_true, decide_eq_true_eq, decide_eq_true_eq] at this; exact this
  · unfold inE; rw [Bool.and_eq_true, decide_eq_true_eq, decide_eq_true_eq]; exact h x x0 x1
theorem mpR_all {M F : List Int} {n : Int} : allI n (mpR M F) = true ↔ ∀ x, 0 ≤ x → x < n → 0 ≤ nth F x ∧ nth F x < num M := by
  rw [allI_iff]
  refine ⟨fun h x x0 x1 => ?_, fun h x x0 x1 => ?_⟩
  · have := h x x0 x1
    unfold mpR at this; rw [Bool.and_eq_true, decide_eq_true_eq, decide_eq_true_eq] at this; omega
  · unfold mpR; rw [Bool.and_eq_true, decide_eq_true_eq, decide_eq_true_eq]; have := h x x0 x1; omega
theorem kept_full {t u : Int → Int → Int} {L F : List Int} (hF : num F = num L) (ht : ∀ x y, El L x → El L y → El L (t x y)) :
    keptB t u F = true ↔ ∀ x y, El L x → El L y → nth F (t x y) = u (nth F x) (nth F y) := by
  unfold keptB
  rw [all2_iff, hF]
  refine ⟨fun h x y hx hy => ?_, fun h x y x0 x1 y0 y1 => ?_⟩
  · have := h x y hx.1 hx.2 hy.1 hy.2
    unfold keptQ at this
    have e := (ht x y hx hy).2
    rw [hF, decide_eq_false (by omega), Bool.false_or, beq_iff_eq] at this
    exact this
  · unfold keptQ
    rw [Bool.or_eq_true, beq_iff_eq]
    exact .inr (h x y ⟨x0, x1⟩ ⟨y0, y1⟩)
theorem ms_ends {L M F : List Int} (hF : num F = num L) (h1 : 1 ≤ num L) : allI (num F) (msX L M F) = true ↔ nth F 0 = 0 ∧ nth F (num L - 1) = num M - 1 := by
  rw [allI_iff, hF]
  have key : ∀ x, msX L M F x = true ↔ (x = 0 → nth F x = 0) ∧ (x = num L - 1 → nth F x = num M - 1) := fun x => by
    unfold msX
    simp only [Bool.not_eq_true', Bool.or_eq_false_iff, Bool.and_eq_false_iff, beq_eq_false_iff_ne, bne_eq_false_iff_eq, ne_eq]
    constructor
    · rintro ⟨a, b⟩
      exact ⟨fun e => a.resolve_left (fun h => h e), fun e => b.resolve_left (fun h => h e)⟩
    · rintro ⟨a, b⟩
      refine ⟨?_, ?_⟩
      · by_cases e : x = 0
        · exact .inr (a e)
        · exact .inl e
      · by_cases e : x = num L - 1
        · exact .inr (b e)
        · exact .inl e
  refine ⟨fun h => ⟨((key 0).1 (h 0 (by omega) (by omega))).1 rfl, ((key (num L - 1)).1 (h (num L - 1) (by omega) (by omega))).2 rfl⟩, fun ⟨a, b⟩ x _ _ => (key x).2 ⟨fun e => by rw [e]; exact a, fun e => by rw [e]; exact b⟩⟩
theorem mp_all {L : List Int} {T : List (List Int)} {M : List Int} {U : List (List Int)} {F : List Int} : all2 (num L) (mpQ L T M U F) = true ↔ ∀ x y, El L x → El L y → nth F (tv T x y) = tv U (nth F x) (nth F y) ∧ nth F (imp L T x y) = imp M U (nth F x) (nth F y) ∧ nth F (mt L x y) = mt M (nth F x) (nth F y) ∧ nth F (jn L x y) = jn M (nth F x) (nth F y) := by
  rw [all2_iff]
  refine ⟨fun h x y hx hy => ?_, fun h x y x0 x1 y0 y1 => ?_⟩
  · have := h x y hx.1 hx.2 hy.1 hy.2
    unfold mpQ at this
    simpa only [Bool.and_eq_true, beq_iff_eq] using this
  · unfold mpQ
    simpa only [Bool.and_eq_true, beq_iff_eq] using h x y ⟨x0, x1⟩ ⟨y0, y1⟩
theorem mp_eq {L : List Int} {T : List (List Int)} (h : algB L T = true) (M : List Int) (U : List (List Int)) (F : List Int) : mpB L T M U F = (decide (num F = num L) && (withB M F && msB L T M U F)) := by
  have hl := alg_lat h
  have n1 := (lat_len hl).1
  unfold mpB
  by_cases hF : num F = num L
  · rw [decide_eq_true hF, Bool.true_and, Bool.true_and, Bool.eq_iff_iff]
    unfold msB
    simp only [Bool.and_eq_true]
    rw [mpR_all, withB_all, ms_ends hF n1, mp_all, kept_full hF (fun x y hx hy => mt_el hl hx hy), kept_full hF (fun x y hx hy => jn_el hl hx hy), kept_full hF (fun x y hx hy => tv_el h hx hy), kept_full hF (fun x y _ _ => imp_el h x y), hF, beq_iff_eq, beq_iff_eq]
    constructor
    · rintro ⟨a, b, c⟩
      exact ⟨a, b, fun x y hx hy => (c x y hx hy).2.2.1, fun x y hx hy => (c x y hx hy).2.2.2, fun x y hx hy => (c x y hx hy).1, fun x y hx hy => (c x y hx hy).2.1⟩
    · rintro ⟨a, b, c, d, e, f⟩
      exact ⟨a, b, fun x y hx hy => ⟨e x y hx hy, f x y hx hy, c x y hx hy, d x y hx hy⟩⟩
  · rw [decide_eq_false hF, Bool.false_and, Bool.false_and]
/-- a set has with two elements what t makes of them -/
def opQ (t : Int → Int → Int) (f x y : Int) : Bool := !ib f x || !ib f y || ib f (t x y)
def opB (n : Int) (t : Int → Int → Int) (f : Int) : Bool := all2 n (opQ t f)
def prtB (L : List Int) (T : List (List Int)) (f : Int) : Bool := (ib f 0 && ib f (num L - 1)) && (opB (num L) (mt L) f && (opB (num L) (jn L) f && (opB (num L) (tv T) f && opB (num L) (imp L T) f)))
/-- as the document says it -/
def ptQ (L : List Int) (T : List (List Int)) (f x y : Int) : Bool := !((ib f x && ib f y) && (!ib f (tv T x y) || (!ib f (imp L T x y) || (!ib f (mt L x y) || !ib f (jn L x y)))))
def prB (L : List Int) (T : List (List Int)) (f : Int) : Bool := (ib f 0 && ib f (num L - 1)) && all2 (num L) (ptQ L T f)
theorem pr_eq (L : List Int) (T : List (List Int)) (f : Int) : prB L T f = prtB L T f := by
  unfold prB prtB opB
  congr 1
  rw [Bool.eq_iff_iff]
  simp only [Bool.and_eq_true]
  rw [all2_iff, all2_iff, all2_iff, all2_iff, all2_iff]
  have key : ∀ x y, ptQ L T f x y = (opQ (mt L) f x y && (opQ (jn L) f x y && (opQ (tv T) f x y && opQ (imp L T) f x y))) := fun x y => by
    unfold ptQ opQ
    cases ib f x <;> cases ib f y <;> cases ib f (tv T x y) <;> cases ib f (imp L T x y) <;> cases ib f (mt L x y) <;> cases ib f (jn L x y) <;> rfl
  constructor
  · intro h
    have h2 : ∀ x y, 0 ≤ x → x < num L → 0 ≤ y → y < num L → opQ (mt L) f x y = true ∧ opQ (jn L) f x y = true ∧ opQ (tv T) f x y = true ∧ opQ (imp L T) f x y = true := fun x y x0 x1 y0 y1 => by
      have := h x y x0 x1 y0 y1
      rw [key] at this
      simpa only [Bool.and_eq_true] using this
    exact ⟨fun x y x0 x1 y0 y1 => (h2 x y x0 x1 y0 y1).1, fun x y x0 x1 y0 y1 => (h2 x y x0 x1 y0 y1).2.1, fun x y x0 x1 y0 y1 => (h2 x y x0 x1 y0 y1).2.2.1, fun x y x0 x1 y0 y1 => (h2 x y x0 x1 y0 y1).2.2.2⟩
  · rintro ⟨a, b, c, d⟩ x y x0 x1 y0 y1
    rw [key]
    simp only [Bool.and_eq_true]
    exact ⟨a x y x0 x1 y0 y1, b x y x0 x1 y0 y1, c x y x0 x1 y0 y1, d x y x0 x1 y0 y1⟩
/-- all parts -/
def prts (L : List Int) (T : List (List Int)) : List Int := filtTo (prtB L T) (pw (num L))
theorem prts_len (L : List Int) (T : List (List Int)) (h : num L ≤ 6) : (prts L T).length ≤ 64 := by
  have := filtTo_len (prtB L T) (pw (num L))
  have := pw_6 h
  unfold prts; omega
/-- a list breaks no law of nuclei, as far as it tells -/
def nuX (L J : List Int) (x : Int) : Bool := bl L x (nth J x) && (decide (num J ≤ nth J x) || nth J (nth J x) == nth J x)
def nuQ (L : List Int) (T : List (List Int)) (J : List Int) (x y : Int) : Bool := !(bl L x y && !bl L (nth J x) (nth J y)) && (decide (num J ≤ tv T x y) || bl L (tv T (nth J x) (nth J y)) (nth J (tv T x y)))
def nuB (L : List Int) (T : List (List Int)) (J : List Int) : Bool := allI (num J) (nuX L J) && all2 (num J) (nuQ L T J)
/-- as the document says it -/
def snQ (L : List Int) (T : List (List Int)) (J : List Int) (x y : Int) : Bool := !((bl L x y && !bl L (nth J x) (nth J y)) || !bl L (tv T (nth J x) (nth J y)) (nth J (tv T x y)))
def snX (L : List Int) (T : List (List Int)) (J : List Int) (x : Int) : Bool := !(!bl L x (nth J x) || nth J (nth J x) != nth J x) && allI (num L) (snQ L T J x)
def snB (L : List Int) (T : List (List Int)) (J : List Int) : Bool := decide (num J = num L) && (allI (num L) (mpR L J) && allI (num L) (snX L T J))
theorem sn_eq {L : List Int} {T : List (List Int)} (h : algB L T = true) (J : List Int) : snB L T J = (decide (num J = num L) && (withB L J && nuB L T J)) := by
  unfold snB
  by_cases hJ : num J = num L
  · rw [decide_eq_true hJ, Bool.true_and, Bool.true_and, Bool.eq_iff_iff]
    unfold nuB
    simp only [Bool.and_eq_true]
    rw [mpR_all, withB_all, allI_iff, allI_iff, all2_iff, hJ]
    have e1 : (∀ x, 0 ≤ x → x < num L → 0 ≤ nth J x ∧ nth J x < num L) → ∀ x, El L x → nuX L J x = !(!bl L x (nth J x) || nth J (nth J x) != nth J x) := fun r x hx => by
      have := (r x hx.1 hx.2).2
      unfold nuX
      rw [decide_eq_false (by omega)]
      cases bl L x (nth J x) <;> simp [bne]
    have e2 : ∀ x y, El L x → El L y → nuQ L T J x y = snQ L T J x y := fun x y hx hy => by
      have := (tv_el h hx hy).2
      unfold nuQ snQ
      rw [decide_eq_false (by omega), Bool.false_or]
      cases (bl L x y && !bl L (nth J x) (nth J y)) <;> simp
    constructor
    · rintro ⟨r, a⟩
      have a2 : ∀ x, El L x → _ := fun x hx => by
        have := a x hx.1 hx.2
        unfold snX at this; rw [Bool.and_eq_true] at this; exact this
      exact ⟨r, fun x x0 x1 => by rw [e1 r x ⟨x0, x1⟩]; exact (a2 x ⟨x0, x1⟩).1, fun x y x0 x1 y0 y1 => by rw [e2 x y ⟨x0, x1⟩ ⟨y0, y1⟩]; exact (allI_iff _ _).1 (a2 x ⟨x0, x1⟩).2 y y0 y1⟩
    · rintro ⟨r, a, b⟩
      refine ⟨r, fun x x0 x1 => ?_⟩
      unfold snX
      rw [Bool.and_eq_true]
      exact ⟨by rw [← e1 r x ⟨x0, x1⟩]; exact a x x0 x1, (allI_iff _ _).2 fun y y0 y1 => by rw [← e2 x y ⟨x0, x1⟩ ⟨y0, y1⟩]; exact b x y x0 x1 y0 y1⟩
  · rw [decide_eq_false hJ, Bool.false_and, Bool.false_and]
end Go.Proofs.Ytljnbhnnjfnjeaa

namespace Go.Proofs.Ytljnbhnnjfnjeaa
open Go.RowKit

theorem enters_imply : Enters 62 := enters_of Try.func62 (by kernel_rfl) rfl
/-- what a function says so far, noughts behind it -/
def mixF (p : Int → Int) (N : Nat) (x : Int) : List Int := lstTo p x ++ List.replicate (N - x.toNat) 0
theorem mixF_len (p : Int → Int) {N : Nat} {x : Int} (x0 : 0 ≤ x) (x1 : x ≤ N) : (mixF p N x).length = N := by
  have h := lstTo_len p x x0
  unfold mixF; rw [List.length_append, List.length_replicate]; omega
theorem mixF_zero (p : Int → Int) (N : Nat) : mixF p N 0 = List.replicate N 0 := by unfold mixF; rw [show lstTo p 0 = [] from rfl]; simp
theorem mixF_set (p : Int → Int) {N : Nat} {x : Int} (x0 : 0 ≤ x) (x1 : x < N) : (mixF p N x).set x.toNat (p x) = mixF p N (x + 1) := by
  have h := lstTo_len p x x0
  unfold mixF
  rw [List.set_append_right (h := by omega), lstTo_succ _ _ x0, List.append_assoc]
  congr 1
  have e1 : x.toNat - (lstTo p x).length = 0 := by omega
  have e2 : N - x.toNat = (N - (x + 1).toNat) + 1 := by omega
  rw [e1, e2, List.replicate_succ]
  rfl
theorem mixF_all (p : Int → Int) (N : Nat) : mixF p N N = lstTo p N := by unfold mixF; simp
end Go.Proofs.Ytljnbhnnjfnjeaa

namespace Go.Proofs.Ytljnbhnnjfnjeaa
open Go.RowKit

theorem sn_len {L : List Int} {T : List (List Int)} {J : List Int} (h : num J ≠ num L) : snB L T J = false := by unfold snB; rw [decide_eq_false h]; rfl
theorem sn_r {L : List Int} {T : List (List Int)} {J : List Int} {x : Int} (x0 : 0 ≤ x) (x1 : x < num L) (h : mpR L J x = false) : snB L T J = false := by unfold snB; rw [allI_false x x0 x1 h]; simp
theorem sn_f {L : List Int} {T : List (List Int)} {J : List Int} {x : Int} (_ : num J = num L) (h : snX L T J x = false) (x0 : 0 ≤ x) (x1 : x < num L) : snB L T J = false := by unfold snB; rw [allI_false x x0 x1 h]; simp
theorem snX_f1 {L : List Int} {T : List (List Int)} {J : List Int} {x : Int} (h : (!bl L x (nth J x) || nth J (nth J x) != nth J x) = true) : snX L T J x = false := by unfold snX; rw [h]; rfl
theorem snX_f2 {L : List Int} {T : List (List Int)} {J : List Int} {x y : Int} (y0 : 0 ≤ y) (y1 : y < num L) (h : snQ L T J x y = false) : snX L T J x = false := by unfold snX; rw [allI_false y y0 y1 h, Bool.and_false]
theorem snX_t {L : List Int} {T : List (List Int)} {J : List Int} {x m : Int} (h : (!bl L x (nth J x) || nth J (nth J x) != nth J x) = false) (hm : num L ≤ m) (ha : AllTo m (snQ L T J x)) : snX L T J x = true := by unfold snX; rw [h, ha.all hm]; rfl
theorem sn_t {L : List Int} {T : List (List Int)} {J : List Int} {m : Int} (h1 : num J = num L) (h2 : AllTo (num L) (mpR L J)) (hm : num L ≤ m) (ha : AllTo m (snX L T J)) : snB L T J = true := by unfold snB; rw [decide_eq_true h1, h2.all (Int.le_refl _), ha.all hm]; rfl
end Go.Proofs.Ytljnbhnnjfnjeaa

namespace Go.Proofs.Ytljnbhnnjfnjeaa
open Go.RowKit

theorem append2p (a b c d : Value) : (#[a, b] ++ #[c, d] : Array Value) = #[a, b, c, d] := rfl
theorem nuB_f1 {L : List Int} {T : List (List Int)} {J : List Int} {x : Int} (x0 : 0 ≤ x) (x1 : x < num J) (h : nuX L J x = false) : nuB L T J = false := by unfold nuB; rw [allI_false x x0 x1 h]; rfl
end Go.Proofs.Ytljnbhnnjfnjeaa

namespace Go.Proofs.Ytljnbhnnjfnjeaa
open Go.RowKit

theorem nuc_aw {L : List Int} {T : List (List Int)} {J : List Int} : (algB L T && snB L T J) = (awB L T J && (decide (num J = num L) && nuB L T J)) := by
  unfold awB
  cases h : algB L T with
  | false => rfl
  | true => rw [sn_eq h, Bool.true_and, Bool.true_and]; cases decide (num J = num L) <;> cases withB L J <;> rfl
def asnB (L : List Int) (T : List (List Int)) (J : List Int) : Bool := algB L T && snB L T J
end Go.Proofs.Ytljnbhnnjfnjeaa
