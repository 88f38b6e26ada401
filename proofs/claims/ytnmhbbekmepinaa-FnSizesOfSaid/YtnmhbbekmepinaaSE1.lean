import Derived.Test.YtnmhbbekmepinaaD3
import Derived.Test.YtnmhbbekmepinaaSZ2
import Derived.Test.YtnmhbbekmepinaaM10
/- Two algebras as the program keeps them are the same exactly if the numbers are. -/
namespace Go.Proofs.Ytnmhbbekmepinaa
open Go.RowKit
set_option linter.unusedVariables false

theorem fit_impE {L : List Int} (T : List (List Int)) (h : latB L = true) : FitG L.length (impG L T) := fun x y x0 x1 y0 y1 => by
  rw [impG_in (show x < num L from x1) (show y < num L from y1)]; exact imp_lt T x y h
def chkI (n : Int) : Option (List Lit) := if IntKind.i64 = IntKind.i64 ∧ (Lit.int .i64 n).wf = true then some [.int .i64 n] else none
theorem chkI_is {n : Int} (h : (Lit.int .i64 n).wf = true) : chkI n = some [.int .i64 n] := if_pos ⟨rfl, h⟩
theorem mapM_some' {α β : Type} (f : α → Option β) (g : α → β) : ∀ l : List α, (∀ a ∈ l, f a = some (g a)) → l.mapM f = some (l.map g)
  | [], _ => rfl
  | a :: l, h => by
    rw [List.mapM_cons, h a List.mem_cons_self, mapM_some' f g l fun b hb => h b (List.mem_cons_of_mem _ hb)]
    rfl
def intsOf (f : Int → Int → Int) : List Lit := (List.range 36).map fun (i : Nat) => Lit.int .i64 (f ((i / 6 : Nat) : Int) ((i % 6 : Nat) : Int))
theorem intsOf_len (f : Int → Int → Int) : (intsOf f).length = 36 := by simp [intsOf]
theorem litsOf_len (g : Int → Int → Bool) : (litsOf g).length = 36 := by simp [litsOf]
theorem intsOf_inj {f g : Int → Int → Int} (h : intsOf f = intsOf g) {x y : Int} (x0 : 0 ≤ x) (x1 : x < 6) (y0 : 0 ≤ y) (y1 : y < 6) : f x y = g x y := by
  have hi : x.toNat * 6 + y.toNat < 36 := by omega
  have := congrArg (fun l : List Lit => l[x.toNat * 6 + y.toNat]?) h
  unfold intsOf at this
  simp only [List.getElem?_map, List.getElem?_range hi, Option.map_some, Option.some.injEq, Lit.int.injEq, true_and] at this
  have h1 : (((x.toNat * 6 + y.toNat) / 6 : Nat) : Int) = x := by omega
  have h2 : (((x.toNat * 6 + y.toNat) % 6 : Nat) : Int) = y := by omega
  rwa [h1, h2] at this
set_option maxRecDepth 100000 in
theorem kl_tab (d : Nat) (f : Int → Int → Int) (hf : ∀ x y : Nat, x < 6 → y < 6 → (Lit.int .i64 (f x y)).wf = true) : Try.prog.keyLits (d + 3) 83 (tab2 (iv f)).toList = some (intsOf f) := by
  have e : Try.prog.keyLits (d + 3) 83 (tab2 (iv f)).toList = ((List.range 6).mapM fun (i : Nat) => ((List.range 6).mapM fun (j : Nat) => chkI (f i j)).map List.flatten).map List.flatten := by kernel_rfl
  rw [e]
  rw [mapM_some' _ (fun (i : Nat) => (((List.range 6).map fun (j : Nat) => [Lit.int .i64 (f i j)]).flatten)) (List.range 6) fun i hi => by
    rw [mapM_some' _ (fun (j : Nat) => [Lit.int .i64 (f i j)]) (List.range 6) fun j hj => chkI_is (hf i j (List.mem_range.1 hi) (List.mem_range.1 hj))]
    rfl]
  rfl
set_option maxRecDepth 100000 in
theorem kl_lat (n : Int) (g : Int → Int → Bool) (m j : Int → Int → Int) (hn : (Lit.int .i64 n).wf = true) (hm : ∀ x y : Nat, x < 6 → y < 6 → (Lit.int .i64 (m x y)).wf = true) (hj : ∀ x y : Nat, x < 6 → y < 6 → (Lit.int .i64 (j x y)).wf = true) :
    Try.prog.keyLits 5 85 (latA n g m j).toList = some ([.int .i64 n] ++ (litsOf g ++ (intsOf m ++ intsOf j))) := by
  have e : Try.prog.keyLits 5 85 (latA n g m j).toList = (([chkI n, Try.prog.keyLits 4 80 (tab2 (bv g)).toList, Try.prog.keyLits 4 83 (tab2 (iv m)).toList, Try.prog.keyLits 4 83 (tab2 (iv j)).toList].mapM id).map List.flatten) := by kernel_rfl
  rw [e, chkI_is hn, keyLits_order, kl_tab 1 m hm, kl_tab 1 j hj]
  simp
set_option maxRecDepth 100000 in
theorem kl_alg (n : Int) (g : Int → Int → Bool) (m j f i : Int → Int → Int) (hn : (Lit.int .i64 n).wf = true) (hm : ∀ x y : Nat, x < 6 → y < 6 → (Lit.int .i64 (m x y)).wf = true) (hj : ∀ x y : Nat, x < 6 → y < 6 → (Lit.int .i64 (j x y)).wf = true) (hf : ∀ x y : Nat, x < 6 → y < 6 → (Lit.int .i64 (f x y)).wf = true) (hi : ∀ x y : Nat, x < 6 → y < 6 → (Lit.int .i64 (i x y)).wf = true) :
    Try.prog.keyLits 6 87 (algA n g m j f i).toList = some (([.int .i64 n] ++ (litsOf g ++ (intsOf m ++ intsOf j))) ++ (intsOf f ++ intsOf i)) := by
  have e : Try.prog.keyLits 6 87 (algA n g m j f i).toList = (([Try.prog.keyLits 5 85 (latA n g m j).toList, Try.prog.keyLits 5 83 (tab2 (iv f)).toList, Try.prog.keyLits 5 83 (tab2 (iv i)).toList].mapM id).map List.flatten) := by kernel_rfl
  rw [e, kl_lat n g m j hn hm hj, kl_tab 2 f hf, kl_tab 2 i hi]
  simp
theorem wf_small {n : Int} (h1 : -1 ≤ n) (h2 : n ≤ 6) : (Lit.int .i64 n).wf = true := by
  unfold Lit.wf
  simp only [Bool.and_eq_true, decide_eq_true_eq]
  constructor
  · exact Int.le_trans (by decide) h1
  · exact Int.le_trans h2 (by decide)
/-- the numbers that stand in an algebra -/
def litsA (L : List Int) (T : List (List Int)) : List Lit := ([.int .i64 L.length] ++ (litsOf (ordG L) ++ (intsOf (tabM L) ++ intsOf (tabJ L)))) ++ (intsOf (timG L T) ++ intsOf (impG L T))
theorem fit_small {n : Int} {f : Int → Int → Int} (hf : FitG n f) (n6 : n ≤ 6) (hz : ∀ x y : Nat, ¬ ((x : Int) < n ∧ (y : Int) < n) → f x y = 0) (x y : Nat) : (Lit.int .i64 (f x y)).wf = true := by
  by_cases h : (x : Int) < n ∧ (y : Int) < n
  · have := hf x y (by omega) h.1 (by omega) h.2
    exact wf_small (by omega) (by omega)
  · rw [hz x y h]; exact wf_small (by omega) (by omega)
theorem lat_num {L M : List Int} (h : latB L = true) (h2 : latB M = true) (hl : M.length = L.length) {x : Int} (hx : El L x) (hb : ∀ y, El L y → bl M x y = bl L x y) : nth M x = nth L x := by
  have n1 := lat_len h
  have hn : num L = (L.length : Int) := rfl
  have hm : num M = (M.length : Int) := rfl
  have r1 := lat_rng h hx
  have r2 := lat_rng h2 (x := x) ⟨hx.1, by have := hx.2; omega⟩
  have e1 := rowTo_ib (k := num L) (by omega) r1.1 r1.2
  have e2 := rowTo_ib (k := num L) (by omega) r2.1 (by rw [show num M = num L by omega] at r2; exact r2.2)
  rw [← e1, ← e2]
  exact rowTo_congr fun y y0 y1 => hb y ⟨y0, y1⟩
theorem kl_algOf {L : List Int} {T : List (List Int)} (h : algB L T = true) : Try.prog.keyLits 6 87 (algOf L T).toList = some (litsA L T) := by
  obtain ⟨l1, l6⟩ := lat_len (alg_lat h)
  have e : num L = (L.length : Int) := rfl
  exact kl_alg _ _ _ _ _ _ (wf_small (by omega) (by omega)) (fun x y _ _ => fit_small (fit_meet (alg_lat h)) (by omega) (fun x y hc => if_neg hc) x y) (fun x y _ _ => fit_small (fit_join (alg_lat h)) (by omega) (fun x y hc => if_neg hc) x y) (fun x y _ _ => fit_small (fit_tim (alg_shape h)) (by omega) (fun x y hc => if_neg hc) x y) (fun x y _ _ => fit_small (fit_impE T (alg_lat h)) (by omega) (fun x y hc => if_neg hc) x y)
theorem litsA_inj {L M : List Int} {T U : List (List Int)} (h : algB L T = true) (h2 : algB M U = true) : litsA M U = litsA L T ↔ (M, U) = (L, T) := by
  constructor
  · intro e
    unfold litsA at e
    obtain ⟨e1, e2⟩ := List.append_inj e (by simp [litsOf_len, intsOf_len])
    obtain ⟨e3, e4⟩ := List.append_inj e1 (by simp)
    obtain ⟨e5, _⟩ := List.append_inj e4 (by simp [litsOf_len])
    obtain ⟨e6, _⟩ := List.append_inj e2 (by simp [intsOf_len])
    simp only [List.cons.injEq, Lit.int.injEq, true_and, and_true] at e3
    have hl : M.length = L.length := by omega
    have l6 := (lat_len (alg_lat h)).2
    have hn : num L = (L.length : Int) := rfl
    have hm : num M = (M.length : Int) := rfl
    have hs := (sameG_iff _ _).1 ((litsOf_inj _ _).1 e5)
    refine alg_ext h h2 hl (fun x hx => ?_) (fun x y hx hy => ?_)
    · have x1 := hx.2
      refine lat_num (alg_lat h) (alg_lat h2) hl hx fun y hy => ?_
      have := hs x y hx.1 (by omega) hy.1 (by have := hy.2; omega)
      rwa [ordG_in (by omega) (by have := hy.2; omega), ordG_in (by omega) (by have := hy.2; omega)] at this
    · have x1 := hx.2
      have y1 := hy.2
      have := intsOf_inj e6 hx.1 (by omega) hy.1 (by omega)
      rwa [timG_in (by omega) (by omega), timG_in (by omega) (by omega)] at this
  · intro e
    injection e with e1 e2
    rw [e1, e2]
theorem guard_algebra : Try.prog.eqGuardType Try.prog.depth 87 = false := by kernel_rfl
theorem formed_algebra (L : List Int) (T : List (List Int)) : (Value.agg (algOf L T)).formed Try.prog 87 = true := by
  have e : (Value.agg (algOf L T)).formed Try.prog 87 = ((algOf L T).size == 181) := by kernel_rfl
  rw [e, show (algOf L T).size = 181 from algA_size _ _ _ _ _ _]
  rfl
/-- '!=' on two such algebras -/
theorem run_neq_algebra {L M : List Int} {T U : List (List Int)} (h : algB L T = true) (h2 : algB M U = true) (w : World) {v : Bool} (hv : decide ((M, U) = (L, T)) = v) :
    (binOp .neq 87 (.agg (algOf M U)) (.agg (algOf L T))).run Try.prog w = .ok (.bool (!v)) w := by
  obtain ⟨r, hr, hiff⟩ := run_equalIn_deep (P := Try.prog) 9995 5 87 (by kernel_rfl) w 6 6 (.agg (algOf M U)) (.agg (algOf L T)) (litsA M U) (litsA L T) (formed_algebra M U) (formed_algebra L T) (kl_algOf h2) (kl_algOf h)
  rw [show (9995 : Nat) + 5 = 10000 from rfl] at hr
  rw [run_neq_struct, hr]
  have : r = v := by
    rw [← hv, Bool.eq_iff_iff, hiff, litsA_inj h h2, decide_eq_true_iff]
  rw [this]
  rfl
end Go.Proofs.Ytnmhbbekmepinaa
