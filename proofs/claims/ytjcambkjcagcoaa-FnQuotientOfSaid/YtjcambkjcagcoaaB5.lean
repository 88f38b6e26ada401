import Derived.Test.YtjcambkjcagcoaaM5
import Derived.Test.YtjcambkjcagcoaaH4
import Derived.Test.YtjcambkjcagcoaaN12
import Derived.Test.YtjcambkjcagcoaaN7
import Derived.Test.YtjcambkjcagcoaaH10
/- Plain facts on maps, parts and nuclei; nothing of the program. -/
namespace Go.Proofs.Ytjcambkjcagcoaa
/-- opposites of opposites -/
def twiI (L : List Int) (T : List (List Int)) (x : Int) : Int := imp L T (imp L T x 0) 0
theorem twi_el {L : List Int} {T : List (List Int)} (h : algB L T = true) (x : Int) : El L (twiI L T x) := imp_el h _ _
/-- a list keeps an operation, as far as it tells -/
def keptQ (t u : Int → Int → Int) (F : List Int) (x y : Int) : Bool := decide (num F ≤ t x y) || nth F (t x y) == u (nth F x) (nth F y)
def keptB (t u : Int → Int → Int) (F : List Int) : Bool := all2 (num F) (keptQ t u F)
def msX (L M F : List Int) (x : Int) : Bool := !((x == 0 && nth F x != 0) || (x == num L - 1 && nth F x != num M - 1))
def msB (L : List Int) (T : List (List Int)) (M : List Int) (U : List (List Int)) (F : List Int) : Bool :=
  allI (num F) (msX L M F) && (keptB (mt L) (mt M) F && (keptB (jn L) (jn M) F && (keptB (tv T) (tv U) F && keptB (imp L T) (imp M U) F)))
/-- as the document says it -/
def mpQ (L : List Int) (T : List (List Int)) (M : List Int) (U : List (List Int)) (F : List Int) (x y : Int) : Bool :=
  nth F (tv T x y) == tv U (nth F x) (nth F y) && (nth F (imp L T x y) == imp M U (nth F x) (nth F y) && (nth F (mt L x y) == mt M (nth F x) (nth F y) && nth F (jn L x y) == jn M (nth F x) (nth F y)))
def mpR (M F : List Int) (x : Int) : Bool := decide (0 ≤ nth F x) && decide (nth F x ≤ num M - 1)
def mpB (L : List Int) (T : List (List Int)) (M : List Int) (U : List (List Int)) (F : List Int) : Bool :=
  decide (num F = num L) && (allI (num L) (mpR M F) && ((nth F 0 == 0 && nth F (num L - 1) == num M - 1) && all2 (num L) (mpQ L T M U F)))
theorem withB_all {M F : List Int} : withB M F = true ↔ ∀ x, 0 ≤ x → x < num F → 0 ≤ nth F x ∧ nth F x < num M := by
  unfold withB
  rw [allI_iff]
  refine ⟨fun h x x0 x1 => ?_, fun h x x0 x1 => ?_⟩
  · have := h x x0 x1
    unfold inE at this; rw [Bool.and_eq_true, decide_eq_true_eq, decide_eq_true_eq] at this; exact this
  · unfold inE; rw [Bool.and_eq_true, decide_eq_true_eq, decide_eq_true_eq]; exact h x x0 x1
theorem mpR_all {M F : List Int} {n : Int} : allI n (mpR M F) = true ↔ ∀ x, 0 ≤ x → x < n → 0 ≤ nth F x ∧ nth F x < num M := by
  rw [allI_iff]
  refine ⟨fun h x x0 x1 => ?_, fun h x x0 x1 => ?_⟩
  · have := h x x0 x1
    unfold mpR at this; rw [Bool.and_eq_true, decide_eq_true_eq, decide_eq_true_eq] at this; omega
  · unfold mpR; rw [Bool.and_eq_true, decide_eq_true_eq, decide_eq_true_eq]; have := h x x0 x1; omega
theorem kept_full {t u : Int → Int → Int} {L F : List Int} (hF : num F = num L) (ht : ∀ x y, El L x → El L y → El L (t x y)) :
    keptB t u F = true ↔ ∀ x y, El L x → El L y → nth F (t x y) = u (nth F x) (nth F y) := by
  unfold keptB
  rw [all2_iff, hF]
  refine ⟨fun h x y hx hy => ?_, fun h x y x0 x1 y0 y1 => ?_⟩
  · have := h x y hx.1 hx.2 hy.1 hy.2
    unfold keptQ at this
    have e := (ht x y hx hy).2
    rw [hF, decide_eq_false (by omega), Bool.false_or, beq_iff_eq] at this
    exact this
  · unfold keptQ
    rw [Bool.or_eq_true, beq_iff_eq]
    exact .inr (h x y ⟨x0, x1⟩ ⟨y0, y1⟩)
theorem ms_ends {L M F : List Int} (hF : num F = num L) (h1 : 1 ≤ num L) : allI (num F) (msX L M F) = true ↔ nth F 0 = 0 ∧ nth F (num L - 1) = num M - 1 := by
  rw [allI_iff, hF]
  have key : ∀ x, msX L M F x = true ↔ (x = 0 → nth F x = 0) ∧ (x = num L - 1 → nth F x = num M - 1) := fun x => by
    unfold msX
    simp only [Bool.not_eq_true', Bool.or_eq_false_iff, Bool.and_eq_false_iff, beq_eq_false_iff_ne, bne_eq_false_iff_eq, ne_eq]
    constructor
    · rintro ⟨a, b⟩
      exact ⟨fun e => a.resolve_left (fun h => h e), fun e => b.resolve_left (fun h => h e)⟩
    · rintro ⟨a, b⟩
      refine ⟨?_, ?_⟩
      · by_cases e : x = 0
        · exact .inr (a e)
        · exact .inl e
      · by_cases e : x = num L - 1
        · exact .inr (b e)
        · exact .inl e
  refine ⟨fun h => ⟨((key 0).1 (h 0 (by omega) (by omega))).1 rfl, ((key (num L - 1)).1 (h (num L - 1) (by omega) (by omega))).2 rfl⟩, fun ⟨a, b⟩ x _ _ => (key x).2 ⟨fun e => by rw [e]; exact a, fun e => by rw [e]; exact b⟩⟩
theorem mp_all {L : List Int} {T : List (List Int)} {M : List Int} {U : List (List Int)} {F : List Int} : all2 (num L) (mpQ L T M U F) = true ↔ ∀ x y, El L x → El L y → nth F (tv T x y) = tv U (nth F x) (nth F y) ∧ nth F (imp L T x y) = imp M U (nth F x) (nth F y) ∧ nth F (mt L x y) = mt M (nth F x) (nth F y) ∧ nth F (jn L x y) = jn M (nth F x) (nth F y) := by
  rw [all2_iff]
  refine ⟨fun h x y hx hy => ?_, fun h x y x0 x1 y0 y1 => ?_⟩
  · have := h x y hx.1 hx.2 hy.1 hy.2
    unfold mpQ at this
    simpa only [Bool.and_eq_true, beq_iff_eq] using this
  · unfold mpQ
    simpa only [Bool.and_eq_true, beq_iff_eq] using h x y ⟨x0, x1⟩ ⟨y0, y1⟩
theorem mp_eq {L : List Int} {T : List (List Int)} (h : algB L T = true) (M : List Int) (U : List (List Int)) (F : List Int) : mpB L T M U F = (decide (num F = num L) && (withB M F && msB L T M U F)) := by
  have hl := alg_lat h
  have n1 := (lat_len hl).1
  unfold mpB
  by_cases hF : num F = num L
  · rw [decide_eq_true hF, Bool.true_and, Bool.true_and, Bool.eq_iff_iff]
    unfold msB
    simp only [Bool.and_eq_true]
    rw [mpR_all, withB_all, ms_ends hF n1, mp_all, kept_full hF (fun x y hx hy => mt_el hl hx hy), kept_full hF (fun x y hx hy => jn_el hl hx hy), kept_full hF (fun x y hx hy => tv_el h hx hy), kept_full hF (fun x y _ _ => imp_el h x y), hF, beq_iff_eq, beq_iff_eq]
    constructor
    · rintro ⟨a, b, c⟩
      exact ⟨a, b, fun x y hx hy => (c x y hx hy).2.2.1, fun x y hx hy => (c x y hx hy).2.2.2, fun x y hx hy => (c x y hx hy).1, fun x y hx hy => (c x y hx hy).2.1⟩
    · rintro ⟨a, b, c, d, e, f⟩
      exact ⟨a, b, fun x y hx hy => ⟨e x y hx hy, f x y hx hy, c x y hx hy, d x y hx hy⟩⟩
  · rw [decide_eq_false hF, Bool.false_and, Bool.false_and]
/-- a set has with two elements what t makes of them -/
def opQ (t : Int → Int → Int) (f x y : Int) : Bool := !ib f x || !ib f y || ib f (t x y)
def opB (n : Int) (t : Int → Int → Int) (f : Int) : Bool := all2 n (opQ t f)
def prtB (L : List Int) (T : List (List Int)) (f : Int) : Bool := (ib f 0 && ib f (num L - 1)) && (opB (num L) (mt L) f && (opB (num L) (jn L) f && (opB (num L) (tv T) f && opB (num L) (imp L T) f)))
/-- as the document says it -/
def ptQ (L : List Int) (T : List (List Int)) (f x y : Int) : Bool := !((ib f x && ib f y) && (!ib f (tv T x y) || (!ib f (imp L T x y) || (!ib f (mt L x y) || !ib f (jn L x y)))))
def prB (L : List Int) (T : List (List Int)) (f : Int) : Bool := (ib f 0 && ib f (num L - 1)) && all2 (num L) (ptQ L T f)
theorem pr_eq (L : List Int) (T : List (List Int)) (f : Int) : prB L T f = prtB L T f := by
  unfold prB prtB opB
  congr 1
  rw [Bool.eq_iff_iff]
  simp only [Bool.and_eq_true]
  rw [all2_iff, all2_iff, all2_iff, all2_iff, all2_iff]
  have key : ∀ x y, ptQ L T f x y = (opQ (mt L) f x y && (opQ (jn L) f x y && (opQ (tv T) f x y && opQ (imp L T) f x y))) := fun x y => by
    unfold ptQ opQ
    cases ib f x <;> cases ib f y <;> cases ib f (tv T x y) <;> cases ib f (imp L T x y) <;> cases ib f (mt L x y) <;> cases ib f (jn L x y) <;> rfl
  constructor
  · intro h
    have h2 : ∀ x y, 0 ≤ x → x < num L → 0 ≤ y → y < num L → opQ (mt L) f x y = true ∧ opQ (jn L) f x y = true ∧ opQ (tv T) f x y = true ∧ opQ (imp L T) f x y = true := fun x y x0 x1 y0 y1 => by
      have := h x y x0 x1 y0 y1
      rw [key] at this
      simpa only [Bool.and_eq_true] using this
    exact ⟨fun x y x0 x1 y0 y1 => (h2 x y x0 x1 y0 y1).1, fun x y x0 x1 y0 y1 => (h2 x y x0 x1 y0 y1).2.1, fun x y x0 x1 y0 y1 => (h2 x y x0 x1 y0 y1).2.2.1, fun x y x0 x1 y0 y1 => (h2 x y x0 x1 y0 y1).2.2.2⟩
  · rintro ⟨a, b, c, d⟩ x y x0 x1 y0 y1
    rw [key]
    simp only [Bool.and_eq_true]
    exact ⟨a x y x0 x1 y0 y1, b x y x0 x1 y0 y1, c x y x0 x1 y0 y1, d x y x0 x1 y0 y1⟩
/-- all parts -/
def prts (L : List Int) (T : List (List Int)) : List Int := filtTo (prtB L T) (pw (num L))
theorem prts_len (L : List Int) (T : List (List Int)) (h : num L ≤ 6) : (prts L T).length ≤ 64 := by
  have := filtTo_len (prtB L T) (pw (num L))
  have := pw_6 h
  unfold prts; omega
/-- a list breaks no law of nuclei, as far as it tells -/
def nuX (L J : List Int) (x : Int) : Bool := bl L x (nth J x) && (decide (num J ≤ nth J x) || nth J (nth J x) == nth J x)
def nuQ (L : List Int) (T : List (List Int)) (J : List Int) (x y : Int) : Bool := !(bl L x y && !bl L (nth J x) (nth J y)) && (decide (num J ≤ tv T x y) || bl L (tv T (nth J x) (nth J y)) (nth J (tv T x y)))
def nuB (L : List Int) (T : List (List Int)) (J : List Int) : Bool := allI (num J) (nuX L J) && all2 (num J) (nuQ L T J)
/-- as the document says it -/
def snQ (L : List Int) (T : List (List Int)) (J : List Int) (x y : Int) : Bool := !((bl L x y && !bl L (nth J x) (nth J y)) || !bl L (tv T (nth J x) (nth J y)) (nth J (tv T x y)))
def snX (L : List Int) (T : List (List Int)) (J : List Int) (x : Int) : Bool := !(!bl L x (nth J x) || nth J (nth J x) != nth J x) && allI (num L) (snQ L T J x)
def snB (L : List Int) (T : List (List Int)) (J : List Int) : Bool := decide (num J = num L) && (allI (num L) (mpR L J) && allI (num L) (snX L T J))
theorem sn_eq {L : List Int} {T : List (List Int)} (h : algB L T = true) (J : List Int) : snB L T J = (decide (num J = num L) && (withB L J && nuB L T J)) := by
  unfold snB
  by_cases hJ : num J = num L
  · rw [decide_eq_true hJ, Bool.true_and, Bool.true_and, Bool.eq_iff_iff]
    unfold nuB
    simp only [Bool.and_eq_true]
    rw [mpR_all, withB_all, allI_iff, allI_iff, all2_iff, hJ]
    have e1 : (∀ x, 0 ≤ x → x < num L → 0 ≤ nth J x ∧ nth J x < num L) → ∀ x, El L x → nuX L J x = !(!bl L x (nth J x) || nth J (nth J x) != nth J x) := fun r x hx => by
      have := (r x hx.1 hx.2).2
      unfold nuX
      rw [decide_eq_false (by omega)]
      cases bl L x (nth J x) <;> simp [bne]
    have e2 : ∀ x y, El L x → El L y → nuQ L T J x y = snQ L T J x y := fun x y hx hy => by
      have := (tv_el h hx hy).2
      unfold nuQ snQ
      rw [decide_eq_false (by omega), Bool.false_or]
      cases (bl L x y && !bl L (nth J x) (nth J y)) <;> simp
    constructor
    · rintro ⟨r, a⟩
      have a2 : ∀ x, El L x → _ := fun x hx => by
        have := a x hx.1 hx.2
        unfold snX at this; rw [Bool.and_eq_true] at this; exact this
      exact ⟨r, fun x x0 x1 => by rw [e1 r x ⟨x0, x1⟩]; exact (a2 x ⟨x0, x1⟩).1, fun x y x0 x1 y0 y1 => by rw [e2 x y ⟨x0, x1⟩ ⟨y0, y1⟩]; exact (allI_iff _ _).1 (a2 x ⟨x0, x1⟩).2 y y0 y1⟩
    · rintro ⟨r, a, b⟩
      refine ⟨r, fun x x0 x1 => ?_⟩
      unfold snX
      rw [Bool.and_eq_true]
      exact ⟨by rw [← e1 r x ⟨x0, x1⟩]; exact a x x0 x1, (allI_iff _ _).2 fun y y0 y1 => by rw [← e2 x y ⟨x0, x1⟩ ⟨y0, y1⟩]; exact b x y x0 x1 y0 y1⟩
  · rw [decide_eq_false hJ, Bool.false_and, Bool.false_and]
end Go.Proofs.Ytjcambkjcagcoaa

namespace Go.Proofs.Ytjcambkjcagcoaa
open Go.RowKit

theorem enters_imply : Enters 114 := enters_of Try.func114 (by kernel_rfl) rfl
/-- what a function says so far, noughts behind it -/
def mixF (p : Int → Int) (N : Nat) (x : Int) : List Int := lstTo p x ++ List.replicate (N - x.toNat) 0
theorem mixF_len (p : Int → Int) {N : Nat} {x : Int} (x0 : 0 ≤ x) (x1 : x ≤ N) : (mixF p N x).length = N := by
  have h := lstTo_len p x x0
  unfold mixF; rw [List.length_append, List.length_replicate]; omega
theorem mixF_zero (p : Int → Int) (N : Nat) : mixF p N 0 = List.replicate N 0 := by unfold mixF; rw [show lstTo p 0 = [] from rfl]; simp
theorem mixF_set (p : Int → Int) {N : Nat} {x : Int} (x0 : 0 ≤ x) (x1 : x < N) : (mixF p N x).set x.toNat (p x) = mixF p N (x + 1) := by
  have h := lstTo_len p x x0
  unfold mixF
  rw [List.set_append_right (h := by omega), lstTo_succ _ _ x0, List.append_assoc]
  congr 1
  have e1 : x.toNat - (lstTo p x).length = 0 := by omega
  have e2 : N - x.toNat = (N - (x + 1).toNat) + 1 := by omega
  rw [e1, e2, List.replicate_succ]
  rfl
theorem mixF_all (p : Int → Int) (N : Nat) : mixF p N N = lstTo p N := by unfold mixF; simp
end Go.Proofs.Ytjcambkjcagcoaa

namespace Go.Proofs.Ytjcambkjcagcoaa
open Go.RowKit

theorem sn_len {L : List Int} {T : List (List Int)} {J : List Int} (h : num J ≠ num L) : snB L T J = false := by unfold snB; rw [decide_eq_false h]; rfl
theorem sn_r {L : List Int} {T : List (List Int)} {J : List Int} {x : Int} (x0 : 0 ≤ x) (x1 : x < num L) (h : mpR L J x = false) : snB L T J = false := by unfold snB; rw [allI_false x x0 x1 h]; simp
theorem sn_f {L : List Int} {T : List (List Int)} {J : List Int} {x : Int} (_ : num J = num L) (h : snX L T J x = false) (x0 : 0 ≤ x) (x1 : x < num L) : snB L T J = false := by unfold snB; rw [allI_false x x0 x1 h]; simp
theorem snX_f1 {L : List Int} {T : List (List Int)} {J : List Int} {x : Int} (h : (!bl L x (nth J x) || nth J (nth J x) != nth J x) = true) : snX L T J x = false := by unfold snX; rw [h]; rfl
theorem snX_f2 {L : List Int} {T : List (List Int)} {J : List Int} {x y : Int} (y0 : 0 ≤ y) (y1 : y < num L) (h : snQ L T J x y = false) : snX L T J x = false := by unfold snX; rw [allI_false y y0 y1 h, Bool.and_false]
theorem snX_t {L : List Int} {T : List (List Int)} {J : List Int} {x m : Int} (h : (!bl L x (nth J x) || nth J (nth J x) != nth J x) = false) (hm : num L ≤ m) (ha : AllTo m (snQ L T J x)) : snX L T J x = true := by unfold snX; rw [h, ha.all hm]; rfl
theorem sn_t {L : List Int} {T : List (List Int)} {J : List Int} {m : Int} (h1 : num J = num L) (h2 : AllTo (num L) (mpR L J)) (hm : num L ≤ m) (ha : AllTo m (snX L T J)) : snB L T J = true := by unfold snB; rw [decide_eq_true h1, h2.all (Int.le_refl _), ha.all hm]; rfl
set_option maxRecDepth 100000 in
set_option maxHeartbeats 4000000 in
/-- spec.isNucleus -/
theorem specIsNuc_any (a b : Option Addr) (ca cb : Nat) (L : List Int) (T : List (List Int)) (aj : Option Addr) (cj : Nat) (J : List Int) (w : World) (hr : Rd w a L) (hT : RdT w b T) (hj : Rd w aj J) (h : algB L T = true) :
    Calls Try.prog 58 #[.agg #[.slice a L.length ca, .slice b T.length cb], .slice aj J.length cj] w fun e w' => e = .returned (.bool (snB L T J)) ∧ Below w.heap.size w w' := by
  obtain ⟨hlat, hsh, _⟩ := algB_parts h
  obtain ⟨n1, n6, hs⟩ := latB_parts hlat
  have hn : num L = L.length := rfl
  have hlt := shape_len hsh
  obtain ⟨w1, hw1⟩ : ∃ w1, w1 = w.alloc (.cells #[.slice a L.length ca, .slice b T.length cb] 26) := ⟨_, rfl⟩
  have hB : Below w.heap.size w w1 := by rw [hw1]; exact (Below.refl _ _).alloc (Nat.le_refl _) _
  have hx : w1.heap[w.heap.size]? = some (.cells #[.slice a L.length ca, .slice b T.length cb] 26 (0, 0)) := by rw [hw1]; exact heap_alloc_new w _
  obtain ⟨c0, c1⟩ := bx_cells hx
  have Kx := Lib.hid (show ∀ wz, Below w1.heap.size w1 wz → wz.heap[w.heap.size]? = some (.cells #[.slice a L.length ca, .slice b T.length cb] 26 (0, 0)) from fun wz h => (h.block _ (lt_of_block hx)).trans hx)
  have KR := Lib.hid (show ∀ wz, Below w1.heap.size w1 wz → Rd wz a L from fun wz h => (hr.below hB).below h)
  have KT := Lib.hid (show ∀ wz, Below w1.heap.size w1 wz → RdT wz b T from fun wz h => (hT.below hB).below h)
  have z1 : Below w1.heap.size w1 w1 := Below.refl _ _
  have KJ := Lib.hid (hj.below hB)
  clear hr hT hx hj
  obtain ⟨B, off, rfl, rb, ro, rc, htab⟩ := tab_of (KT.out _ z1) hsh n1
  obtain ⟨ab, ao, rfl, hcl⟩ := (KR.out _ z1).pos n1
  have HCL := Lib.hid hcl
  have HTAB := Lib.hid htab
  have HSH := Lib.hid hsh
  have HN := Lib.hid hn
  have hn1 : num L ≤ L.length := by omega
  have hn2 : (L.length : Int) ≤ num L := by omega
  have hn3 : num L ≤ T.length := by omega
  have l1 : (1 : Int) ≤ L.length := by omega
  have l6 : (L.length : Int) ≤ 6 := by omega
  have k2 : IntKind.i64.wrap ((L.length : Int) - 1) = (L.length : Int) - 1 := IntWalk.i64_in _ (by omega)
  have HC0 := Lib.hid c0
  have HC1 := Lib.hid c1
  clear hcl htab hsh hlat hn hlt h KR KT Kx z1
  by_cases hlen : num J = num L
  · have hjl : (J.length : Int) = L.length := hlen
    have hne : ((J.length : Int) != (L.length : Int)) = false := by rw [hjl]; simp
    obtain ⟨jb, jo, rfl, hcj⟩ := KJ.out.pos (show 1 ≤ num J by omega)
    have HCJ := Lib.hid hcj
    clear hcj KJ
    go_enter Try.func58, Try.ntmps58
    go_wp2_with (first
      | go_skip
      | (rw [← hw1]; clear hw1))
    go_loopw [6] (fun c wr => ∃ x : Int, 0 ≤ x ∧ x ≤ num L ∧ c = .int .i64 x ∧ AllTo x (mpR L J) ∧ w1 = wr) (fun c _ => (6 - intOf c).toNat)
    case atStart => exact ⟨0, by omega, by omega, rfl, AllTo.zero _, rfl⟩
    case round =>
      obtain ⟨x, x0, x1, rfl, hx, rfl⟩ := hrel
      by_cases hxn : x < num L
      · have hxl : x < L.length := by omega
        have hxj : x < J.length := by omega
        have dj := HCJ.out.at x x0 (by omega)
        have hq := Lib.hid (show mpR L J x = (decide (0 ≤ nth J x) && decide (nth J x ≤ (L.length : Int) - 1)) from rfl)
        cases hC : (decide (0 ≤ nth J x) && decide (nth J x ≤ (L.length : Int) - 1)) with
        | false =>
          rw [hC] at hq
          have hf := Lib.hid (sn_r (T := T) x0 hxn hq.out)
          have HQ := Lib.hid hC
          clear hC
          go_wp2_with (go_at_call 106; refine (inRange_is _ 0 _ _ HQ.out).mono ?_; rintro e w3 ⟨rfl, rfl⟩)
          go_ret
          exact ⟨ret_bool (by rw [hf.out]), hB⟩
        | true =>
          rw [hC] at hq
          have HQ := Lib.hid hC
          clear hC
          go_wp2_with (go_at_call 106; refine (inRange_is _ 0 _ _ HQ.out).mono ?_; rintro e w3 ⟨rfl, rfl⟩)
          go_roundw
          case rel => exact ⟨x + 1, by omega, by omega, rfl, hx.succ hq.out, trivial⟩
          case measure => simp [intOf]; omega
      · have e : x = num L := by omega
        have HR := Lib.hid (e ▸ hx : AllTo (num L) (mpR L J))
        clear hx e
        go_wp2
        obtain ⟨w0, hw0⟩ : ∃ w0 : World, w0 = w1 := ⟨_, rfl⟩
        go_loopw [7, 8] (fun c _ wr => ∃ x : Int, 0 ≤ x ∧ x ≤ num L ∧ c = .int .i64 x ∧ AllTo x (snX L T J) ∧ Dr w1 wr) (fun c _ _ => (6 - intOf c).toNat)
        case atStart => exact ⟨0, by omega, by omega, rfl, AllTo.zero _, Dr.refl _⟩
        case round =>
          clear hw0 x0 x1
          obtain ⟨x, x0, x1, rfl, hax, hd⟩ := hrel
          by_cases hxn : x < num L
          · have hxl : x < L.length := by omega
            have hxj : x < J.length := by omega
            obtain ⟨jx0, jx1⟩ : 0 ≤ nth J x ∧ nth J x < num L := mpR_all.1 (HR.out.all (Int.le_refl _)) x x0 hxn
            have jxl : nth J x < J.length := by omega
            have jxl2 : nth J x < L.length := by omega
            have cy0 := hd.cell HC0.out
            have dj0 := hd.cell (HCJ.out.at x x0 (by omega))
            have dj1 := hd.cell (HCJ.out.at (nth J x) jx0 (by omega))
            have hcl := hd.cells HCL.out
            have hq1 := Lib.hid (show (!bl L x (nth J x) || nth J (nth J x) != nth J x) = (!bl L x (nth J x) || nth J (nth J x) != nth J x) from rfl)
            cases h1 : bl L x (nth J x) with
            | false =>
              have P1 := Lib.hid h1
              have hf := Lib.hid (sn_f (T := T) hlen (snX_f1 (by rw [h1]; rfl)) x0 hxn)
              clear h1 hq1
              go_wp2
              go_quiet (first | (go_at_call 108; exact q_same (below_is _ _ _ L _ _ _ (Cells.drewN hcl _) hs x0 hxn jx0 (by omega) P1.out)))
              go_wp2
              go_ret
              exact ⟨ret_bool (by rw [hf.out]), hB.trans ((hd.more _).below _)⟩
            | true =>
              have P1 := Lib.hid h1
              cases h2 : nth J (nth J x) != nth J x with
              | true =>
                have hf := Lib.hid (sn_f (T := T) hlen (snX_f1 (by rw [h1, h2]; rfl)) x0 hxn)
                clear h1 hq1
                go_wp2
                go_quiet (first | (go_at_call 108; exact q_same (below_is _ _ _ L _ _ _ (Cells.drewN hcl _) hs x0 hxn jx0 (by omega) P1.out)))
                go_wp2
                go_ret
                exact ⟨ret_bool (by rw [hf.out]), hB.trans ((hd.more _).below _)⟩
              | false =>
                have HX := Lib.hid (show (!bl L x (nth J x) || nth J (nth J x) != nth J x) = false by rw [h1, h2]; rfl)
                clear h1 hq1
                go_wp2
                go_quiet (first | (go_at_call 108; exact q_same (below_is _ _ _ L _ _ _ (Cells.drewN hcl _) hs x0 hxn jx0 (by omega) P1.out)))
                go_wp2
                obtain ⟨w5, hw5⟩ : ∃ w5 : World, w5 = wr.drewN 1 := ⟨_, rfl⟩
                go_loopw [8] (fun c wr => ∃ y : Int, 0 ≤ y ∧ y ≤ num L ∧ c = .int .i64 y ∧ AllTo y (snQ L T J x) ∧ Dr w1 wr) (fun c _ => (6 - intOf c).toNat)
                case atStart => exact ⟨0, by omega, by omega, rfl, AllTo.zero _, hd.more _⟩
                case round =>
                  clear cy0 dj0 dj1 hcl hd h2 P1 hw5
                  obtain ⟨y, y0, y1, rfl, hay, hd⟩ := hrel
                  by_cases hyn : y < num L
                  · have hyl : y < L.length := by omega
                    have hyj : y < J.length := by omega
                    have y30 : y ≤ 30 := by omega
                    obtain ⟨jy0, jy1⟩ : 0 ≤ nth J y ∧ nth J y < num L := mpR_all.1 (HR.out.all (Int.le_refl _)) y y0 hyn
                    obtain ⟨t0, t1⟩ := shape_cell HSH.out x0 hxn y0 hyn
                    obtain ⟨r0, r1⟩ := shape_cell HSH.out jx0 jx1 jy0 jy1
                    obtain ⟨k0, k1⟩ : 0 ≤ nth J (tv T x y) ∧ nth J (tv T x y) < num L := mpR_all.1 (HR.out.all (Int.le_refl _)) _ t0 t1
                    have tj : tv T x y < J.length := by omega
                    have jyl : nth J y < L.length := by omega
                    have jxt : nth J x < T.length := by omega
                    have hxt : x < T.length := by omega
                    have cy0 := hd.cell HC0.out
                    have cy1 := hd.cell HC1.out
                    have dx := hd.cell (HTAB.out.row x0 hxn)
                    have djx := hd.cell (HTAB.out.row jx0 jx1)
                    have exy := hd.cell (HTAB.out.cell x0 hxn y0 hyn)
                    have ejj := hd.cell (HTAB.out.cell jx0 jx1 jy0 jy1)
                    have dj0 := hd.cell (HCJ.out.at x x0 (by omega))
                    have dj1 := hd.cell (HCJ.out.at y y0 (by omega))
                    have dj2 := hd.cell (HCJ.out.at (tv T x y) t0 (by omega))
                    have hcl := hd.cells HCL.out
                    have hq := Lib.hid (show snQ L T J x y = !((bl L x y && !bl L (nth J x) (nth J y)) || !bl L (tv T (nth J x) (nth J y)) (nth J (tv T x y))) from rfl)
                    cases h1 : bl L x y with
                    | false =>
                      rw [h1] at hq
                      have P1 := Lib.hid h1
                      clear h1
                      cases h3 : bl L (tv T (nth J x) (nth J y)) (nth J (tv T x y)) with
                      | false =>
                        rw [h3] at hq
                        have P3 := Lib.hid h3
                        have hf := Lib.hid (sn_f hlen (snX_f2 y0 hyn (by rw [hq.out]; simp)) x0 hxn)
                        clear h3
                        go_wp2
                        go_quiet (first | (go_at_call_of 108 (Value.int .i64 y); exact q_same (below_is _ _ _ L _ _ _ (Cells.drewN hcl _) hs x0 hxn y0 y30 P1.out)) | (go_at_call 108; exact q_same (below_is _ _ _ L _ _ _ (Cells.drewN hcl _) hs r0 r1 k0 (by omega) P3.out)))
                        go_wp2
                        go_ret
                        exact ⟨ret_bool (by rw [hf.out]), hB.trans ((hd.more _).below _)⟩
                      | true =>
                        rw [h3] at hq
                        have P3 := Lib.hid h3
                        replace hq := Lib.hid (show snQ L T J x y = true by rw [hq.out]; simp)
                        clear h3
                        go_wp2
                        go_quiet (first | (go_at_call_of 108 (Value.int .i64 y); exact q_same (below_is _ _ _ L _ _ _ (Cells.drewN hcl _) hs x0 hxn y0 y30 P1.out)) | (go_at_call 108; exact q_same (below_is _ _ _ L _ _ _ (Cells.drewN hcl _) hs r0 r1 k0 (by omega) P3.out)))
                        go_wp2
                        go_roundw
                        case rel => exact ⟨y + 1, by omega, by omega, rfl, hay.succ hq.out, hd.more _⟩
                        case measure => simp [intOf]; omega
                    | true =>
                      rw [h1] at hq
                      have P1 := Lib.hid h1
                      clear h1
                      cases h2 : bl L (nth J x) (nth J y) with
                      | false =>
                        rw [h2] at hq
                        have P2 := Lib.hid h2
                        have hf := Lib.hid (sn_f hlen (snX_f2 y0 hyn (by rw [hq.out]; simp)) x0 hxn)
                        clear h2
                        go_wp2
                        go_quiet (first | (go_at_call_of 108 (Value.int .i64 y); exact q_same (below_is _ _ _ L _ _ _ (Cells.drewN hcl _) hs x0 hxn y0 y30 P1.out)) | (go_at_call_of 108 (Value.int .i64 (nth J y)); exact q_same (below_is _ _ _ L _ _ _ (Cells.drewN hcl _) hs jx0 jx1 jy0 (by omega) P2.out)))
                        go_wp2
                        go_ret
                        exact ⟨ret_bool (by rw [hf.out]), hB.trans ((hd.more _).below _)⟩
                      | true =>
                        rw [h2] at hq
                        have P2 := Lib.hid h2
                        clear h2
                        cases h3 : bl L (tv T (nth J x) (nth J y)) (nth J (tv T x y)) with
                        | false =>
                          rw [h3] at hq
                          have P3 := Lib.hid h3
                          have hf := Lib.hid (sn_f hlen (snX_f2 y0 hyn (by rw [hq.out]; simp)) x0 hxn)
                          clear h3
                          go_wp2
                          go_quiet (first | (go_at_call_of 108 (Value.int .i64 y); exact q_same (below_is _ _ _ L _ _ _ (Cells.drewN hcl _) hs x0 hxn y0 y30 P1.out)) | (go_at_call_of 108 (Value.int .i64 (nth J y)); exact q_same (below_is _ _ _ L _ _ _ (Cells.drewN hcl _) hs jx0 jx1 jy0 (by omega) P2.out)) | (go_at_call 108; exact q_same (below_is _ _ _ L _ _ _ (Cells.drewN hcl _) hs r0 r1 k0 (by omega) P3.out)))
                          go_wp2
                          go_ret
                          exact ⟨ret_bool (by rw [hf.out]), hB.trans ((hd.more _).below _)⟩
                        | true =>
                          rw [h3] at hq
                          have P3 := Lib.hid h3
                          replace hq := Lib.hid (show snQ L T J x y = true by rw [hq.out]; simp)
                          clear h3
                          go_wp2
                          go_quiet (first | (go_at_call_of 108 (Value.int .i64 y); exact q_same (below_is _ _ _ L _ _ _ (Cells.drewN hcl _) hs x0 hxn y0 y30 P1.out)) | (go_at_call_of 108 (Value.int .i64 (nth J y)); exact q_same (below_is _ _ _ L _ _ _ (Cells.drewN hcl _) hs jx0 jx1 jy0 (by omega) P2.out)) | (go_at_call 108; exact q_same (below_is _ _ _ L _ _ _ (Cells.drewN hcl _) hs r0 r1 k0 (by omega) P3.out)))
                          go_wp2
                          go_roundw
                          case rel => exact ⟨y + 1, by omega, by omega, rfl, hay.succ hq.out, hd.more _⟩
                          case measure => simp [intOf]; omega
                  · have ht := Lib.hid (snX_t HX.out (by omega : num L ≤ y) hay)
                    go_wp2
                    go_roundw
                    case rel => exact ⟨x + 1, by omega, by omega, rfl, hax.succ ht.out, hd⟩
                    case measure => simp [intOf]; omega
          · have hf := Lib.hid (sn_t hlen HR.out (by omega : num L ≤ x) hax)
            go_wp2
            go_ret
            exact ⟨ret_bool (by rw [hf.out]), hB.trans (hd.below _)⟩
  · have hf := Lib.hid (sn_len (T := T) hlen)
    have hne : ((J.length : Int) != (L.length : Int)) = true := by simp only [bne_iff_ne, ne_eq]; exact hlen
    go_enter Try.func58, Try.ntmps58
    go_wp2_with (first
      | go_skip
      | (rw [← hw1]; clear hw1))
    go_ret
    exact ⟨ret_bool (by rw [hf.out]), hB⟩
end Go.Proofs.Ytjcambkjcagcoaa

namespace Go.Proofs.Ytjcambkjcagcoaa
open Go.RowKit

theorem enters_nuc : Enters 158 := enters_of Try.func158 (by kernel_rfl) rfl
theorem append2p (a b c d : Value) : (#[a, b] ++ #[c, d] : Array Value) = #[a, b, c, d] := rfl
set_option maxRecDepth 100000 in
set_option maxHeartbeats 4000000 in
theorem nucClo_any (L : List Int) (T : List (List Int)) (J : List Int) (ba bj : Nat) (aj : Option Addr) (cj : Nat) (x y : Int) (w : World) (hA : AlgAt w ba L T) (hs : w.heap[bj]? = some (.cells #[.slice aj J.length cj] 23 (0, 0))) (hj : Rd w aj J) (h : algB L T = true) (hJ : num J ≤ num L) (hR : ∀ k, 0 ≤ k → k < num J → 0 ≤ nth J k ∧ nth J k < num L) (x0 : 0 ≤ x) (x1 : x < num J) (y0 : 0 ≤ y) (y1 : y < num J) :
    Calls Try.prog 158 #[.int .i64 x, .int .i64 y, .pointer (some ⟨ba, 0, none⟩), .pointer (some ⟨bj, 0, none⟩)] w fun e w' => e = .returned (.bool (nuQ L T J x y)) ∧ Dr w w' := by
  have n6 := (lat_len (alg_lat h)).2
  have x6 : x < 6 := by omega
  have y6 : y < 6 := by omega
  have xl : x < num L := by omega
  have yl : y < num L := by omega
  obtain ⟨jx0, jx1⟩ := hR x x0 x1
  obtain ⟨jy0, jy1⟩ := hR y y0 y1
  have jx6 : nth J x < 6 := by omega
  have jy6 : nth J y < 6 := by omega
  obtain ⟨t0, t1⟩ := shape_cell (alg_shape h) x0 xl y0 yl
  obtain ⟨r0, r1⟩ := shape_cell (alg_shape h) jx0 jx1 jy0 jy1
  have r6 : tv T (nth J x) (nth J y) < 6 := by omega
  have cs := cell_of_one hs
  have hjn : num J = J.length := rfl
  have xj : x < J.length := by omega
  have yj : y < J.length := by omega
  obtain ⟨jb, jo, rfl, hcj⟩ := hj.pos (show 1 ≤ num J by omega)
  have dj0 := hcj.at x x0 x1
  have dj1 := hcj.at y y0 y1
  have d0 := hA.g x0 x6 y0 y6
  rw [ordG_in xl yl] at d0
  have d1 := hA.g jx0 jx6 jy0 jy6
  rw [ordG_in jx1 jy1] at d1
  have d2 := hA.t x0 x6 y0 y6
  rw [timG_in xl yl] at d2
  have d3 := hA.t jx0 jx6 jy0 jy6
  rw [timG_in jx1 jy1] at d3
  have hq := Lib.hid (show nuQ L T J x y = (!(bl L x y && !bl L (nth J x) (nth J y)) && (decide ((J.length : Int) ≤ tv T x y) || bl L (tv T (nth J x) (nth J y)) (nth J (tv T x y)))) from rfl)
  by_cases hz : (J.length : Int) ≤ tv T x y
  · rw [decide_eq_true hz] at hq
    clear h hcj hR hA
    cases h1 : bl L x y <;> cases h2 : bl L (nth J x) (nth J y)
    all_goals
      rw [h1, h2] at hq
      rw [h1] at d0
      rw [h2] at d1
      clear h1 h2
      go_enter Try.func158, Try.ntmps158
      go_wp2
      go_quiet (fail)
      go_wp2
      try go_quiet (fail)
      try go_wp2
      go_ret
      exact ⟨ret_bool (by rw [hq.out]; first | rfl | simp [hz]), by first | exact ⟨_, rfl⟩ | exact Dr.more ⟨_, rfl⟩ _⟩
  · rw [decide_eq_false hz] at hq
    have tj : tv T x y < J.length := by omega
    obtain ⟨k0, k1⟩ := hR (tv T x y) t0 (by omega)
    have k6 : nth J (tv T x y) < 6 := by omega
    have dj2 := hcj.at (tv T x y) t0 (by omega)
    have d4 := hA.g r0 r6 k0 k6
    rw [ordG_in r1 k1] at d4
    clear h hcj hR hA
    cases h1 : bl L x y <;> cases h2 : bl L (nth J x) (nth J y) <;> cases h3 : bl L (tv T (nth J x) (nth J y)) (nth J (tv T x y))
    all_goals
      rw [h1, h2, h3] at hq
      rw [h1] at d0
      rw [h2] at d1
      rw [h3] at d4
      clear h1 h2 h3
      go_enter Try.func158, Try.ntmps158
      go_wp2
      go_quiet (fail)
      go_wp2
      try go_quiet (fail)
      try go_wp2
      go_ret
      exact ⟨ret_bool (by rw [hq.out]; first | rfl | simp [hz]), by first | exact ⟨_, rfl⟩ | exact Dr.more ⟨_, rfl⟩ _⟩
theorem nuB_f1 {L : List Int} {T : List (List Int)} {J : List Int} {x : Int} (x0 : 0 ≤ x) (x1 : x < num J) (h : nuX L J x = false) : nuB L T J = false := by unfold nuB; rw [allI_false x x0 x1 h]; rfl
set_option maxRecDepth 100000 in
set_option maxHeartbeats 4000000 in
/-- impl.algebra.isNucleusStart -/
theorem isNucStart_any (L : List Int) (T : List (List Int)) (J : List Int) (aj : Option Addr) (cj : Nat) (w : World) (hj : Rd w aj J) (h : algB L T = true) (hJ : num J ≤ num L) (hR : ∀ k, 0 ≤ k → k < num J → 0 ≤ nth J k ∧ nth J k < num L) :
    Calls Try.prog 104 #[.agg (algOf L T), .slice aj J.length cj] w fun e w' => e = .returned (.bool (nuB L T J)) ∧ Below w.heap.size w w' := by
  obtain ⟨n1, n6⟩ := lat_len (alg_lat h)
  have n6' : (L.length : Int) ≤ 6 := n6
  have hnl : num L = L.length := rfl
  have hnj : num J = J.length := rfl
  obtain ⟨w1, hw1⟩ : ∃ w1, w1 = (w.alloc (.cells (algOf L T) 69)).alloc (.cells #[.slice aj J.length cj] 23) := ⟨_, rfl⟩
  have hB : Below w.heap.size w w1 := by rw [hw1]; exact ((Below.refl _ _).alloc (Nat.le_refl _) _).alloc (by simp) _
  have hA : AlgAt w1 w.heap.size L T := by rw [hw1]; exact (AlgAt.new w L T).alloc _
  have hs : w1.heap[w.heap.size + 1]? = some (.cells #[.slice aj J.length cj] 23 (0, 0)) := by rw [hw1]; exact heap_alloc2_new _ _ _
  have Q := Lib.hid (show ∀ wz, Below w1.heap.size w1 wz → AlgAt wz w.heap.size L T from fun wz hz => hA.below hz hA.lt)
  have S := Lib.hid (show ∀ wz, Below w1.heap.size w1 wz → wz.heap[w.heap.size + 1]? = some (.cells #[.slice aj J.length cj] 23 (0, 0)) from fun wz hz => (hz.block _ (lt_of_block hs)).trans hs)
  have KJ := Lib.hid (show ∀ wz, Below w1.heap.size w1 wz → Rd wz aj J from fun wz hz => (hj.below hB).below hz)
  have HQ := Lib.hid hA
  have cs := cell_of_one hs
  have HALG := Lib.hid h
  have HR := Lib.hid hR
  have hv := Lib.hid (show nuB L T J = (allI (num J) (nuX L J) && all2 (J.length : Int) (nuQ L T J)) from rfl)
  clear hA hs h hj hR
  go_enter Try.func104, Try.ntmps104
  go_wp2_with (rw [← hw1]; clear hw1)
  go_loopw [5, 6, 9] (fun _ _ c wr => ∃ x : Int, 0 ≤ x ∧ x ≤ num J ∧ c = .int .i64 x ∧ AllTo x (nuX L J) ∧ w1 = wr) (fun _ _ c _ => (6 - intOf c).toNat)
  case atStart => exact ⟨0, by omega, by omega, rfl, AllTo.zero _, rfl⟩
  case round =>
    obtain ⟨x, x0, x1, rfl, hax, rfl⟩ := hrel
    by_cases hx : x < num J
    · have hxj : x < J.length := by omega
      have x6 : x < 6 := by omega
      obtain ⟨jx0, jx1⟩ := HR.out x x0 hx
      have jx6 : nth J x < 6 := by omega
      obtain ⟨jb, jo, rfl, hcj⟩ := (KJ.out _ (Below.refl _ _)).pos (show 1 ≤ num J by omega)
      have dj0 := hcj.at x x0 hx
      have d0 := HQ.out.g x0 x6 jx0 jx6
      rw [ordG_in (by omega) jx1] at d0
      have hq := Lib.hid (show nuX L J x = (bl L x (nth J x) && (decide ((J.length : Int) ≤ nth J x) || nth J (nth J x) == nth J x)) from rfl)
      cases h1 : bl L x (nth J x) with
      | false =>
        rw [h1] at hq d0
        have hf := Lib.hid (nuB_f1 (T := T) x0 hx hq.out)
        clear h1 hcj
        go_wp2_with go_skip
        go_ret
        exact ⟨ret_bool (by rw [hf.out]), hB⟩
      | true =>
        rw [h1] at hq d0
        clear h1
        by_cases hz : (J.length : Int) ≤ nth J x
        · rw [decide_eq_true hz] at hq
          have ht := Lib.hid (show nuX L J x = true from hq.out)
          clear hcj hq
          go_wp2_with go_skip
          go_roundw
          case rel => exact ⟨x + 1, by omega, by omega, rfl, hax.succ ht.out, trivial⟩
          case measure => simp [intOf]; omega
        · rw [decide_eq_false hz] at hq
          have hzj : nth J x < J.length := by omega
          have dj1 := hcj.at (nth J x) jx0 (by omega)
          clear hcj
          cases h2 : nth J (nth J x) != nth J x with
          | true =>
            have hf := Lib.hid (nuB_f1 (T := T) x0 hx (by rw [hq.out, show (nth J (nth J x) == nth J x) = false by rw [← Bool.not_eq_true']; exact h2]; rfl))
            clear hq
            go_wp2_with go_skip
            go_ret
            exact ⟨ret_bool (by rw [hf.out]), hB⟩
          | false =>
            have ht := Lib.hid (show nuX L J x = true by rw [hq.out, show (nth J (nth J x) == nth J x) = true by rw [bne_eq_false_iff_eq] at h2; rw [h2]; simp]; rfl)
            clear hq
            go_wp2_with go_skip
            go_roundw
            case rel => exact ⟨x + 1, by omega, by omega, rfl, hax.succ ht.out, trivial⟩
            case measure => simp [intOf]; omega
    · have ht := Lib.hid (show allI (num J) (nuX L J) = true from hax.all (by omega))
      go_wp2_with (go_at_call 147; refine (allTwo_any 158 #[.pointer (some ⟨w.heap.size, 0, none⟩), .pointer (some ⟨w.heap.size + 1, 0, none⟩)] (J.length : Int) (nuQ L T J) _ (by omega) (by omega) enters_nuc fun x y wr x0 x1 y0 y1 hb => (by rw [append2p]; exact (nucClo_any L T J _ _ aj cj x y wr (Q.out _ hb) (S.out _ hb) (KJ.out _ hb) HALG.out hJ HR.out x0 x1 y0 y1).mono fun _ _ h => ⟨h.1, h.2.below _⟩)).mono ?_; rintro e w3 ⟨rfl, h3⟩)
      go_ret
      exact ⟨ret_bool (by rw [hv.out, ht.out]; rfl), hB.trans (h3.mono hB.size)⟩
end Go.Proofs.Ytjcambkjcagcoaa

namespace Go.Proofs.Ytjcambkjcagcoaa
open Go.RowKit

set_option maxRecDepth 100000 in
set_option maxHeartbeats 2000000 in
theorem readNuc_aw (a b : Option Addr) (ca cb : Nat) (L : List Int) (T : List (List Int)) (aj : Option Addr) (cj : Nat) (J : List Int) (w : World) (hr : Rd w a L) (hT : RdT w b T) (hj : Rd w aj J) (hJ : J.length ≤ 1048576) (hs : awB L T J = false) :
    Calls Try.prog 49 #[.agg #[.slice a L.length ca, .slice b T.length cb], .slice aj J.length cj] w fun e w' => e = .returned (.tuple #[.agg zeroAlg, .bool false]) ∧ Below w.heap.size w w' := by
  have hB1 : Below w.heap.size w ((w.alloc (.cells #[.slice a L.length ca, .slice b T.length cb] 26)).alloc (.cells zeroAlg 69)) := ((Below.refl _ _).alloc (Nat.le_refl _) _).alloc (by simp) _
  have hr1 := hr.below hB1
  have hT1 := hT.below hB1
  have hj1 := hj.below hB1
  have hz1 : ((w.alloc (.cells #[.slice a L.length ca, .slice b T.length cb] 26)).alloc (.cells zeroAlg 69)).heap[w.heap.size + 1]? = some (.cells zeroAlg 69 (0, 0)) := heap_alloc2_new _ _ _
  have hx1 : ((w.alloc (.cells #[.slice a L.length ca, .slice b T.length cb] 26)).alloc (.cells zeroAlg 69)).heap[w.heap.size]? = some (.cells #[.slice a L.length ca, .slice b T.length cb] 26 (0, 0)) := by rw [Below.heap_alloc _ _ _ (by simp)]; exact heap_alloc_new w _
  have HA := Lib.hid hs
  clear hs
  clear hr hT hj
  go_enter Try.func49, Try.ntmps49
  go_wp2_with (first
    | go_skip
    | (refine wpList_load_row_w rfl 26 _ rfl w.heap.size rfl _ _ _ _ hx1 Try.underlying26 rfl (size_Alg _ _) ?_)
    | (go_at_call 62; refine (readAW_no a b aj ca cb cj L T J _ hr1 hT1 hj1 hJ HA.out).mono ?_; rintro e w2 ⟨rfl, h2⟩; have hz := (h2.block _ (lt_of_block hz1)).trans hz1; have hB := hB1.trans (h2.mono hB1.size); clear h2)
    | (refine wpList_store_row rfl 69 _ _ rfl w2.heap.size zeroAlg rfl rfl _ _ (heap_alloc_new w2 (.cells zeroAlg 69)) size_zeroAlg rfl one_zeroAlg ?_; rw [World.setRow_alloc_new]; obtain ⟨bl, hbl⟩ : ∃ bl, bl = w2.heap.size := ⟨_, rfl⟩; obtain ⟨w3, hw3⟩ : ∃ w3, w3 = w2.alloc (.cells zeroAlg 69) := ⟨_, rfl⟩; rw [← hw3, ← hbl]; have q3 : Below w2.heap.size w2 w3 := (by rw [hw3]; exact (Below.refl _ _).alloc (Nat.le_refl _) _); replace hz := (q3.block _ (lt_of_block hz)).trans hz; replace hB := hB.trans (q3.mono hB.size); clear hw3 hbl q3)
    | (refine wpList_store_row rfl 69 _ _ rfl (w.heap.size + 1) zeroAlg rfl rfl _ _ hz size_zeroAlg rfl one_zeroAlg ?_))
  exact bodyPost_ret (v := .tuple #[.agg zeroAlg, .bool false]) (results_alg_tmp rfl _ _ (w.heap.size + 1) rfl _ (algA_size _ _ _ _ _ _) (setRow_heap _ _ _ _ _ _ hz) rfl) rfl ⟨rfl, below_setRow' hB (by omega) _⟩

set_option maxRecDepth 100000 in
set_option maxHeartbeats 2000000 in
theorem readNuc_nu (a b : Option Addr) (ca cb : Nat) (L : List Int) (T : List (List Int)) (aj : Option Addr) (cj : Nat) (J : List Int) (w : World) (hr : Rd w a L) (hT : RdT w b T) (hj : Rd w aj J) (hJ : J.length ≤ 1048576) (hs : awB L T J = true) (hlen : num J = num L) (hw : nuB L T J = false) :
    Calls Try.prog 49 #[.agg #[.slice a L.length ca, .slice b T.length cb], .slice aj J.length cj] w fun e w' => e = .returned (.tuple #[.agg zeroAlg, .bool false]) ∧ Below w.heap.size w w' := by
  have hB1 : Below w.heap.size w ((w.alloc (.cells #[.slice a L.length ca, .slice b T.length cb] 26)).alloc (.cells zeroAlg 69)) := ((Below.refl _ _).alloc (Nat.le_refl _) _).alloc (by simp) _
  have hr1 := hr.below hB1
  have hT1 := hT.below hB1
  have hj1 := hj.below hB1
  have hz1 : ((w.alloc (.cells #[.slice a L.length ca, .slice b T.length cb] 26)).alloc (.cells zeroAlg 69)).heap[w.heap.size + 1]? = some (.cells zeroAlg 69 (0, 0)) := heap_alloc2_new _ _ _
  have hx1 : ((w.alloc (.cells #[.slice a L.length ca, .slice b T.length cb] 26)).alloc (.cells zeroAlg 69)).heap[w.heap.size]? = some (.cells #[.slice a L.length ca, .slice b T.length cb] 26 (0, 0)) := by rw [Below.heap_alloc _ _ _ (by simp)]; exact heap_alloc_new w _
  have hs2 := hs
  unfold awB at hs2
  rw [Bool.and_eq_true] at hs2
  have ha := hs2.1
  have HR := Lib.hid (withB_all.1 hs2.2)
  have hne : ((J.length : Int) != (L.length : Int)) = false := by have e : (J.length : Int) = L.length := hlen; rw [e]; simp
  clear hs2
  have HW := Lib.hid hw
  clear hw
  have HA := Lib.hid hs
  clear hs
  have HALG := Lib.hid ha
  clear ha
  clear hr hT hj
  go_enter Try.func49, Try.ntmps49
  go_wp2_with (first
    | go_skip
    | (refine wpList_load_row_w rfl 26 _ rfl w.heap.size rfl _ _ _ _ hx1 Try.underlying26 rfl (size_Alg _ _) ?_)
    | (go_at_call 62; refine (readAW_good a b aj ca cb cj L T J _ hr1 hT1 hj1 hJ HA.out).mono ?_; rintro e w2 ⟨rfl, h2⟩; have hz := (h2.block _ (lt_of_block hz1)).trans hz1; have hB := hB1.trans (h2.mono hB1.size); replace hj1 := hj1.below h2; clear h2)
    | (refine wpList_store_row rfl 69 _ _ rfl w2.heap.size (algOf L T) rfl rfl _ _ (heap_alloc_new w2 (.cells zeroAlg 69)) (size_alg _ _ _ _ _ _) rfl (one_alg _ _ _ _ _ _) ?_; rw [World.setRow_alloc_new]; obtain ⟨bl, hbl⟩ : ∃ bl, bl = w2.heap.size := ⟨_, rfl⟩; obtain ⟨w3, hw3⟩ : ∃ w3, w3 = w2.alloc (.cells (algOf L T) 69) := ⟨_, rfl⟩; rw [← hw3, ← hbl]; have hA : AlgAt w3 bl L T := (by rw [hw3, hbl]; exact AlgAt.new w2 L T); have q3 : Below w2.heap.size w2 w3 := (by rw [hw3]; exact (Below.refl _ _).alloc (Nat.le_refl _) _); replace hz := (q3.block _ (lt_of_block hz)).trans hz; replace hB := hB.trans (q3.mono hB.size); replace hj1 := hj1.below q3; clear hw3 hbl q3; have hsz := hA.size)
    | (refine wpList_load_row_w rfl 69 _ rfl bl rfl _ _ _ _ hA Try.underlying69 rfl (size_alg _ _ _ _ _ _) ?_)
    | (go_at_call 104; refine (ret_below (isNucStart_any L T J aj cj _ hj1 HALG.out (by omega) HR.out) HW.out).mono ?_; rintro e w4 ⟨rfl, h4⟩; replace hA := hA.below h4 hA.lt; replace hz := (h4.block _ (lt_of_block hz)).trans hz; replace hB := hB.trans (h4.mono hB.size); clear h4)
    | (refine wpList_store_row rfl 69 _ _ rfl (w.heap.size + 1) zeroAlg rfl rfl _ _ hz size_zeroAlg rfl one_zeroAlg ?_))
  exact bodyPost_ret (v := .tuple #[.agg zeroAlg, .bool false]) (results_alg_tmp rfl _ _ (w.heap.size + 1) rfl _ (algA_size _ _ _ _ _ _) (setRow_heap _ _ _ _ _ _ hz) rfl) rfl ⟨rfl, below_setRow' hB (by omega) _⟩

set_option maxRecDepth 100000 in
set_option maxHeartbeats 2000000 in
theorem readNuc_yes (a b : Option Addr) (ca cb : Nat) (L : List Int) (T : List (List Int)) (aj : Option Addr) (cj : Nat) (J : List Int) (w : World) (hr : Rd w a L) (hT : RdT w b T) (hj : Rd w aj J) (hJ : J.length ≤ 1048576) (hs : awB L T J = true) (hlen : num J = num L) (hw : nuB L T J = true) :
    Calls Try.prog 49 #[.agg #[.slice a L.length ca, .slice b T.length cb], .slice aj J.length cj] w fun e w' => e = .returned (.tuple #[.agg (algOf L T), .bool true]) ∧ Below w.heap.size w w' := by
  have hB1 : Below w.heap.size w ((w.alloc (.cells #[.slice a L.length ca, .slice b T.length cb] 26)).alloc (.cells zeroAlg 69)) := ((Below.refl _ _).alloc (Nat.le_refl _) _).alloc (by simp) _
  have hr1 := hr.below hB1
  have hT1 := hT.below hB1
  have hj1 := hj.below hB1
  have hz1 : ((w.alloc (.cells #[.slice a L.length ca, .slice b T.length cb] 26)).alloc (.cells zeroAlg 69)).heap[w.heap.size + 1]? = some (.cells zeroAlg 69 (0, 0)) := heap_alloc2_new _ _ _
  have hx1 : ((w.alloc (.cells #[.slice a L.length ca, .slice b T.length cb] 26)).alloc (.cells zeroAlg 69)).heap[w.heap.size]? = some (.cells #[.slice a L.length ca, .slice b T.length cb] 26 (0, 0)) := by rw [Below.heap_alloc _ _ _ (by simp)]; exact heap_alloc_new w _
  have hs2 := hs
  unfold awB at hs2
  rw [Bool.and_eq_true] at hs2
  have ha := hs2.1
  have HR := Lib.hid (withB_all.1 hs2.2)
  have hne : ((J.length : Int) != (L.length : Int)) = false := by have e : (J.length : Int) = L.length := hlen; rw [e]; simp
  clear hs2
  have HW := Lib.hid hw
  clear hw
  have HA := Lib.hid hs
  clear hs
  have HALG := Lib.hid ha
  clear ha
  clear hr hT hj
  go_enter Try.func49, Try.ntmps49
  go_wp2_with (first
    | go_skip
    | (refine wpList_load_row_w rfl 26 _ rfl w.heap.size rfl _ _ _ _ hx1 Try.underlying26 rfl (size_Alg _ _) ?_)
    | (go_at_call 62; refine (readAW_good a b aj ca cb cj L T J _ hr1 hT1 hj1 hJ HA.out).mono ?_; rintro e w2 ⟨rfl, h2⟩; have hz := (h2.block _ (lt_of_block hz1)).trans hz1; have hB := hB1.trans (h2.mono hB1.size); replace hj1 := hj1.below h2; clear h2)
    | (refine wpList_store_row rfl 69 _ _ rfl w2.heap.size (algOf L T) rfl rfl _ _ (heap_alloc_new w2 (.cells zeroAlg 69)) (size_alg _ _ _ _ _ _) rfl (one_alg _ _ _ _ _ _) ?_; rw [World.setRow_alloc_new]; obtain ⟨bl, hbl⟩ : ∃ bl, bl = w2.heap.size := ⟨_, rfl⟩; obtain ⟨w3, hw3⟩ : ∃ w3, w3 = w2.alloc (.cells (algOf L T) 69) := ⟨_, rfl⟩; rw [← hw3, ← hbl]; have hA : AlgAt w3 bl L T := (by rw [hw3, hbl]; exact AlgAt.new w2 L T); have q3 : Below w2.heap.size w2 w3 := (by rw [hw3]; exact (Below.refl _ _).alloc (Nat.le_refl _) _); replace hz := (q3.block _ (lt_of_block hz)).trans hz; replace hB := hB.trans (q3.mono hB.size); replace hj1 := hj1.below q3; clear hw3 hbl q3; have hsz := hA.size)
    | (refine wpList_load_row_w rfl 69 _ rfl bl rfl _ _ _ _ hA Try.underlying69 rfl (size_alg _ _ _ _ _ _) ?_)
    | (go_at_call 104; refine (ret_below (isNucStart_any L T J aj cj _ hj1 HALG.out (by omega) HR.out) HW.out).mono ?_; rintro e w4 ⟨rfl, h4⟩; replace hA := hA.below h4 hA.lt; replace hz := (h4.block _ (lt_of_block hz)).trans hz; replace hB := hB.trans (h4.mono hB.size); clear h4)
    | (refine wpList_store_row rfl 69 _ _ rfl (w.heap.size + 1) (algOf L T) rfl rfl _ _ hz (size_alg _ _ _ _ _ _) rfl (one_alg _ _ _ _ _ _) ?_))
  exact bodyPost_ret (v := .tuple #[.agg (algOf L T), .bool true]) (results_alg_tmp rfl _ _ (w.heap.size + 1) rfl _ (algA_size _ _ _ _ _ _) (setRow_heap _ _ _ _ _ _ hz) rfl) rfl ⟨rfl, below_setRow' hB (by omega) _⟩

set_option maxRecDepth 100000 in
set_option maxHeartbeats 2000000 in
theorem readNuc_len (a b : Option Addr) (ca cb : Nat) (L : List Int) (T : List (List Int)) (aj : Option Addr) (cj : Nat) (J : List Int) (w : World) (hr : Rd w a L) (hT : RdT w b T) (hj : Rd w aj J) (hJ : J.length ≤ 1048576) (hs : awB L T J = true) (hlen : num J ≠ num L) :
    Calls Try.prog 49 #[.agg #[.slice a L.length ca, .slice b T.length cb], .slice aj J.length cj] w fun e w' => e = .returned (.tuple #[.agg zeroAlg, .bool false]) ∧ Below w.heap.size w w' := by
  have hB1 : Below w.heap.size w ((w.alloc (.cells #[.slice a L.length ca, .slice b T.length cb] 26)).alloc (.cells zeroAlg 69)) := ((Below.refl _ _).alloc (Nat.le_refl _) _).alloc (by simp) _
  have hr1 := hr.below hB1
  have hT1 := hT.below hB1
  have hj1 := hj.below hB1
  have hz1 : ((w.alloc (.cells #[.slice a L.length ca, .slice b T.length cb] 26)).alloc (.cells zeroAlg 69)).heap[w.heap.size + 1]? = some (.cells zeroAlg 69 (0, 0)) := heap_alloc2_new _ _ _
  have hx1 : ((w.alloc (.cells #[.slice a L.length ca, .slice b T.length cb] 26)).alloc (.cells zeroAlg 69)).heap[w.heap.size]? = some (.cells #[.slice a L.length ca, .slice b T.length cb] 26 (0, 0)) := by rw [Below.heap_alloc _ _ _ (by simp)]; exact heap_alloc_new w _
  have hs2 := hs
  unfold awB at hs2
  rw [Bool.and_eq_true] at hs2
  have ha := hs2.1
  have hne : ((J.length : Int) != (L.length : Int)) = true := by simp only [bne_iff_ne, ne_eq]; exact hlen
  clear hs2
  have HA := Lib.hid hs
  clear hs
  have HALG := Lib.hid ha
  clear ha
  clear hr hT hj
  go_enter Try.func49, Try.ntmps49
  go_wp2_with (first
    | go_skip
    | (refine wpList_load_row_w rfl 26 _ rfl w.heap.size rfl _ _ _ _ hx1 Try.underlying26 rfl (size_Alg _ _) ?_)
    | (go_at_call 62; refine (readAW_good a b aj ca cb cj L T J _ hr1 hT1 hj1 hJ HA.out).mono ?_; rintro e w2 ⟨rfl, h2⟩; have hz := (h2.block _ (lt_of_block hz1)).trans hz1; have hB := hB1.trans (h2.mono hB1.size); clear h2)
    | (refine wpList_store_row rfl 69 _ _ rfl w2.heap.size (algOf L T) rfl rfl _ _ (heap_alloc_new w2 (.cells zeroAlg 69)) (size_alg _ _ _ _ _ _) rfl (one_alg _ _ _ _ _ _) ?_; rw [World.setRow_alloc_new]; obtain ⟨bl, hbl⟩ : ∃ bl, bl = w2.heap.size := ⟨_, rfl⟩; obtain ⟨w3, hw3⟩ : ∃ w3, w3 = w2.alloc (.cells (algOf L T) 69) := ⟨_, rfl⟩; rw [← hw3, ← hbl]; have hA : AlgAt w3 bl L T := (by rw [hw3, hbl]; exact AlgAt.new w2 L T); have q3 : Below w2.heap.size w2 w3 := (by rw [hw3]; exact (Below.refl _ _).alloc (Nat.le_refl _) _); replace hz := (q3.block _ (lt_of_block hz)).trans hz; replace hB := hB.trans (q3.mono hB.size); clear hw3 hbl q3; have hsz := hA.size)
    | (refine wpList_load_row_w rfl 69 _ rfl bl rfl _ _ _ _ hA Try.underlying69 rfl (size_alg _ _ _ _ _ _) ?_)
    | (refine wpList_store_row rfl 69 _ _ rfl (w.heap.size + 1) zeroAlg rfl rfl _ _ hz size_zeroAlg rfl one_zeroAlg ?_))
  exact bodyPost_ret (v := .tuple #[.agg zeroAlg, .bool false]) (results_alg_tmp rfl _ _ (w.heap.size + 1) rfl _ (algA_size _ _ _ _ _ _) (setRow_heap _ _ _ _ _ _ hz) rfl) rfl ⟨rfl, below_setRow' hB (by omega) _⟩

theorem nuc_aw {L : List Int} {T : List (List Int)} {J : List Int} : (algB L T && snB L T J) = (awB L T J && (decide (num J = num L) && nuB L T J)) := by
  unfold awB
  cases h : algB L T with
  | false => rfl
  | true => rw [sn_eq h, Bool.true_and, Bool.true_and]; cases decide (num J = num L) <;> cases withB L J <;> rfl
def asnB (L : List Int) (T : List (List Int)) (J : List Int) : Bool := algB L T && snB L T J
theorem readNuc_no (a b : Option Addr) (ca cb : Nat) (L : List Int) (T : List (List Int)) (aj : Option Addr) (cj : Nat) (J : List Int) (w : World) (hr : Rd w a L) (hT : RdT w b T) (hj : Rd w aj J) (hJ : J.length ≤ 1048576) (h : asnB L T J = false) :
    Calls Try.prog 49 #[.agg #[.slice a L.length ca, .slice b T.length cb], .slice aj J.length cj] w fun e w' => e = .returned (.tuple #[.agg zeroAlg, .bool false]) ∧ Below w.heap.size w w' := by
  unfold asnB at h
  rw [nuc_aw] at h
  cases ha : awB L T J with
  | false => exact readNuc_aw a b ca cb L T aj cj J w hr hT hj hJ ha
  | true =>
    rw [ha, Bool.true_and] at h
    by_cases hl : num J = num L
    · rw [decide_eq_true hl, Bool.true_and] at h
      exact readNuc_nu a b ca cb L T aj cj J w hr hT hj hJ ha hl h
    · exact readNuc_len a b ca cb L T aj cj J w hr hT hj hJ ha hl
theorem readNuc_good (a b : Option Addr) (ca cb : Nat) (L : List Int) (T : List (List Int)) (aj : Option Addr) (cj : Nat) (J : List Int) (w : World) (hr : Rd w a L) (hT : RdT w b T) (hj : Rd w aj J) (hJ : J.length ≤ 1048576) (h : asnB L T J = true) :
    Calls Try.prog 49 #[.agg #[.slice a L.length ca, .slice b T.length cb], .slice aj J.length cj] w fun e w' => e = .returned (.tuple #[.agg (algOf L T), .bool true]) ∧ Below w.heap.size w w' := by
  unfold asnB at h
  rw [nuc_aw, Bool.and_eq_true, Bool.and_eq_true, decide_eq_true_eq] at h
  exact readNuc_yes a b ca cb L T aj cj J w hr hT hj hJ h.1 h.2.1 h.2.2
end Go.Proofs.Ytjcambkjcagcoaa
