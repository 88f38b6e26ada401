import Derived.Test.YtnmhbbekmepinaaP7
import Derived.Test.YtnmhbbekmepinaaM14
import Derived.Test.YtnmhbbekmepinaaPR3
import Derived.Test.YtnmhbbekmepinaaG9
/- Sizes of chains, stacks of chains of sums, and what is left of the list of all of them: by the kernel. -/
namespace Go.Proofs.Ytnmhbbekmepinaa
set_option linter.unusedVariables false

/-- sizes of at least 1, of at most a number together -/
def szB : Int → List Int → Bool
  | _, [] => true
  | k, s :: r => decide (1 ≤ s) && (decide (s ≤ k) && szB (k - s) r)
/-- the chain of sums of 1 more than a size -/
def suL (s : Int) : List Int := chainTo (s + 1) (s + 1)
def suT (s : Int) : List (List Int) := tabL (sumP (s + 1)) (s + 1)
/-- the stack of sums -/
def skA : List Int → List Int × List (List Int)
  | [] => (chainTo 1 1, tabL (sumP 1) 1)
  | s :: r => (stL (suL s) (suT s) (skA r).1 (skA r).2, stT (suL s) (suT s) (skA r).1 (skA r).2)
def skL (S : List Int) : List Int := if szB 5 S then (skA S).1 else []
def skT (S : List Int) : List (List Int) := if szB 5 S then (skA S).2 else []
def totL (S : List Int) : Int := S.foldr (fun s t => s + t) 0
/-- by how much each number is more than the one ahead of it -/
def gapsL (F : List Int) : List Int := lstTo (fun i => nth F (i + 1) - nth F i) ((F.length : Int) - 1)
/-- the sizes that an algebra's squares tell -/
def szI (L : List Int) (T : List (List Int)) : List Int := gapsL (filtTo (fixQ T) (num L))
theorem szB_cons {k s : Int} {r : List Int} (h : szB k (s :: r) = true) : 1 ≤ s ∧ s ≤ k ∧ szB (k - s) r = true := by
  unfold szB at h
  rw [Bool.and_eq_true, Bool.and_eq_true, decide_eq_true_eq, decide_eq_true_eq] at h
  exact h
theorem szB_mono : ∀ (S : List Int) {k k' : Int}, k ≤ k' → szB k S = true → szB k' S = true
  | [], _, _, _, _ => rfl
  | s :: r, k, k', hk, h => by
    obtain ⟨h1, h2, h3⟩ := szB_cons h
    unfold szB
    rw [decide_eq_true h1, decide_eq_true (show s ≤ k' by omega), szB_mono r (by omega) h3]
    rfl
theorem szB_tot : ∀ (S : List Int) {k : Int}, 0 ≤ k → szB k S = true → 0 ≤ totL S ∧ totL S ≤ k ∧ (S.length : Int) ≤ totL S
  | [], _, hk, _ => ⟨by decide, hk, by decide⟩
  | s :: r, k, hk, h => by
    obtain ⟨h1, h2, h3⟩ := szB_cons h
    obtain ⟨a, b, c⟩ := szB_tot r (by omega) h3
    have e : totL (s :: r) = s + totL r := rfl
    rw [e, List.length_cons]
    omega
theorem lstTo_cons (g : Int → Int) (k : Nat) : lstTo g ((k : Int) + 1) = g 0 :: lstTo (fun i => g (i + 1)) k := by
  unfold lstTo
  rw [show ((k : Int) + 1).toNat = k + 1 by omega, Int.toNat_natCast, List.range_succ_eq_map, List.map_cons, List.map_map]
  rfl
theorem szB_gaps : ∀ (k : Nat) (g : Int → Int), (∀ i : Int, 0 ≤ i → i < k → g i < g (i + 1)) → (∀ i : Int, 0 ≤ i → i ≤ k → g i ≤ 5) → szB (5 - g 0) (lstTo (fun i => g (i + 1) - g i) k) = true
  | 0, g, _, _ => rfl
  | k + 1, g, h1, h2 => by
    rw [show ((k + 1 : Nat) : Int) = (k : Int) + 1 from rfl, lstTo_cons]
    have a := h1 0 (by omega) (by omega)
    have b := h2 1 (by omega) (by omega)
    have ih := szB_gaps k (fun i => g (i + 1)) (fun i i0 i1 => h1 (i + 1) (by omega) (by omega)) (fun i i0 i1 => h2 (i + 1) (by omega) (by omega))
    simp only [Int.zero_add] at ih a ⊢
    unfold szB
    rw [decide_eq_true (show 1 ≤ g 1 - g 0 by omega), decide_eq_true (show g 1 - g 0 ≤ 5 - g 0 by omega), show 5 - g 0 - (g 1 - g 0) = 5 - g 1 by omega, ih]
    rfl
/-- all stacks of sums -/
def skTab : List (List Int × List Int × List (List Int)) := [
  ([], [1], [[0]]),
  ([1], [3,2], [[0,0],[0,1]]),
  ([2], [7,6,4], [[0,0,0],[0,0,1],[0,1,2]]),
  ([3], [15,14,12,8], [[0,0,0,0],[0,0,0,1],[0,0,1,2],[0,1,2,3]]),
  ([4], [31,30,28,24,16], [[0,0,0,0,0],[0,0,0,0,1],[0,0,0,1,2],[0,0,1,2,3],[0,1,2,3,4]]),
  ([5], [63,62,60,56,48,32], [[0,0,0,0,0,0],[0,0,0,0,0,1],[0,0,0,0,1,2],[0,0,0,1,2,3],[0,0,1,2,3,4],[0,1,2,3,4,5]]),
  ([1,1], [7,6,4], [[0,0,0],[0,1,1],[0,1,2]]),
  ([1,2], [15,14,12,8], [[0,0,0,0],[0,1,1,1],[0,1,1,2],[0,1,2,3]]),
  ([1,3], [31,30,28,24,16], [[0,0,0,0,0],[0,1,1,1,1],[0,1,1,1,2],[0,1,1,2,3],[0,1,2,3,4]]),
  ([1,4], [63,62,60,56,48,32], [[0,0,0,0,0,0],[0,1,1,1,1,1],[0,1,1,1,1,2],[0,1,1,1,2,3],[0,1,1,2,3,4],[0,1,2,3,4,5]]),
  ([2,1], [15,14,12,8], [[0,0,0,0],[0,0,1,1],[0,1,2,2],[0,1,2,3]]),
  ([2,2], [31,30,28,24,16], [[0,0,0,0,0],[0,0,1,1,1],[0,1,2,2,2],[0,1,2,2,3],[0,1,2,3,4]]),
  ([2,3], [63,62,60,56,48,32], [[0,0,0,0,0,0],[0,0,1,1,1,1],[0,1,2,2,2,2],[0,1,2,2,2,3],[0,1,2,2,3,4],[0,1,2,3,4,5]]),
  ([3,1], [31,30,28,24,16], [[0,0,0,0,0],[0,0,0,1,1],[0,0,1,2,2],[0,1,2,3,3],[0,1,2,3,4]]),
  ([3,2], [63,62,60,56,48,32], [[0,0,0,0,0,0],[0,0,0,1,1,1],[0,0,1,2,2,2],[0,1,2,3,3,3],[0,1,2,3,3,4],[0,1,2,3,4,5]]),
  ([4,1], [63,62,60,56,48,32], [[0,0,0,0,0,0],[0,0,0,0,1,1],[0,0,0,1,2,2],[0,0,1,2,3,3],[0,1,2,3,4,4],[0,1,2,3,4,5]]),
  ([1,1,1], [15,14,12,8], [[0,0,0,0],[0,1,1,1],[0,1,2,2],[0,1,2,3]]),
  ([1,1,2], [31,30,28,24,16], [[0,0,0,0,0],[0,1,1,1,1],[0,1,2,2,2],[0,1,2,2,3],[0,1,2,3,4]]),
  ([1,1,3], [63,62,60,56,48,32], [[0,0,0,0,0,0],[0,1,1,1,1,1],[0,1,2,2,2,2],[0,1,2,2,2,3],[0,1,2,2,3,4],[0,1,2,3,4,5]]),
  ([1,2,1], [31,30,28,24,16], [[0,0,0,0,0],[0,1,1,1,1],[0,1,1,2,2],[0,1,2,3,3],[0,1,2,3,4]]),
  ([1,2,2], [63,62,60,56,48,32], [[0,0,0,0,0,0],[0,1,1,1,1,1],[0,1,1,2,2,2],[0,1,2,3,3,3],[0,1,2,3,3,4],[0,1,2,3,4,5]]),
  ([1,3,1], [63,62,60,56,48,32], [[0,0,0,0,0,0],[0,1,1,1,1,1],[0,1,1,1,2,2],[0,1,1,2,3,3],[0,1,2,3,4,4],[0,1,2,3,4,5]]),
  ([2,1,1], [31,30,28,24,16], [[0,0,0,0,0],[0,0,1,1,1],[0,1,2,2,2],[0,1,2,3,3],[0,1,2,3,4]]),
  ([2,1,2], [63,62,60,56,48,32], [[0,0,0,0,0,0],[0,0,1,1,1,1],[0,1,2,2,2,2],[0,1,2,3,3,3],[0,1,2,3,3,4],[0,1,2,3,4,5]]),
  ([2,2,1], [63,62,60,56,48,32], [[0,0,0,0,0,0],[0,0,1,1,1,1],[0,1,2,2,2,2],[0,1,2,2,3,3],[0,1,2,3,4,4],[0,1,2,3,4,5]]),
  ([3,1,1], [63,62,60,56,48,32], [[0,0,0,0,0,0],[0,0,0,1,1,1],[0,0,1,2,2,2],[0,1,2,3,3,3],[0,1,2,3,4,4],[0,1,2,3,4,5]]),
  ([1,1,1,1], [31,30,28,24,16], [[0,0,0,0,0],[0,1,1,1,1],[0,1,2,2,2],[0,1,2,3,3],[0,1,2,3,4]]),
  ([1,1,1,2], [63,62,60,56,48,32], [[0,0,0,0,0,0],[0,1,1,1,1,1],[0,1,2,2,2,2],[0,1,2,3,3,3],[0,1,2,3,3,4],[0,1,2,3,4,5]]),
  ([1,1,2,1], [63,62,60,56,48,32], [[0,0,0,0,0,0],[0,1,1,1,1,1],[0,1,2,2,2,2],[0,1,2,2,3,3],[0,1,2,3,4,4],[0,1,2,3,4,5]]),
  ([1,2,1,1], [63,62,60,56,48,32], [[0,0,0,0,0,0],[0,1,1,1,1,1],[0,1,1,2,2,2],[0,1,2,3,3,3],[0,1,2,3,4,4],[0,1,2,3,4,5]]),
  ([2,1,1,1], [63,62,60,56,48,32], [[0,0,0,0,0,0],[0,0,1,1,1,1],[0,1,2,2,2,2],[0,1,2,3,3,3],[0,1,2,3,4,4],[0,1,2,3,4,5]]),
  ([1,1,1,1,1], [63,62,60,56,48,32], [[0,0,0,0,0,0],[0,1,1,1,1,1],[0,1,2,2,2,2],[0,1,2,3,3,3],[0,1,2,3,4,4],[0,1,2,3,4,5]])]
def skStep (e : List Int × List Int × List (List Int)) : Bool := [1, 2, 3, 4, 5].all fun s => decide (¬ s + totL e.1 ≤ 5) || (stOk (suL s) (suT s) e.2.1 e.2.2 && decide ((s :: e.1, stL (suL s) (suT s) e.2.1 e.2.2, stT (suL s) (suT s) e.2.1 e.2.2) ∈ skTab))
set_option maxRecDepth 100000 in
theorem sk_step : skTab.all skStep = true := by decide +kernel
set_option maxRecDepth 100000 in
theorem sk_zero : (([], chainTo 1 1, tabL (sumP 1) 1) : List Int × List Int × List (List Int)) ∈ skTab := by decide +kernel
theorem one_five {s : Int} (h1 : 1 ≤ s) (h2 : s ≤ 5) : s ∈ [(1 : Int), 2, 3, 4, 5] := by
  simp only [List.mem_cons, List.not_mem_nil, or_false]
  omega
theorem sk_ok {s : Int} {r : List Int} (h : szB 5 (s :: r) = true) (hr : (r, skA r) ∈ skTab) : stOk (suL s) (suT s) (skA r).1 (skA r).2 = true ∧ (s :: r, skA (s :: r)) ∈ skTab := by
  obtain ⟨h1, h2, h3⟩ := szB_cons h
  have ht := szB_tot r (by omega) h3
  have h4 := List.all_eq_true.1 (List.all_eq_true.1 sk_step _ hr) s (one_five h1 h2)
  rw [Bool.or_eq_true, Bool.and_eq_true, decide_eq_true_eq, decide_eq_true_eq] at h4
  rcases h4 with h4 | h4
  · exact absurd (show s + totL r ≤ 5 by omega) h4
  · exact h4
theorem sk_mem : ∀ (S : List Int), szB 5 S = true → (S, skA S) ∈ skTab
  | [], _ => sk_zero
  | s :: r, h => (sk_ok h (sk_mem r (szB_mono r (by have := szB_cons h; omega) (szB_cons h).2.2))).2
/-- what holds of each of them -/
def skGood (e : List Int × List Int × List (List Int)) : Bool := algB e.2.1 e.2.2 && (decide ((e.2.1.length : Int) = totL e.1 + 1) && (decide (e.2.1 = chainTo (totL e.1 + 1) (totL e.1 + 1)) && (hasB 1 e.2.1 e.2.2 && (decide (szI e.2.1 e.2.2 = e.1) && (chainB e.2.1 && decide ((filtTo (fixQ e.2.2) (num e.2.1)).length = e.1.length + 1))))))
set_option maxRecDepth 100000 in
theorem sk_good : skTab.all skGood = true := by decide +kernel
structure SkF (S : List Int) (L : List Int) (T : List (List Int)) : Prop where
  alg : algB L T = true
  len : (L.length : Int) = totL S + 1
  up : L = chainTo (totL S + 1) (totL S + 1)
  div : hasB 1 L T = true
  back : szI L T = S
  chn : chainB L = true
  fix : (filtTo (fixQ T) (num L)).length = S.length + 1
theorem skF_of {S : List Int} {L : List Int} {T : List (List Int)} (h : (S, L, T) ∈ skTab) : SkF S L T := by
  have h := List.all_eq_true.1 sk_good _ h
  unfold skGood at h
  simp only [Bool.and_eq_true, decide_eq_true_eq] at h
  exact ⟨h.1, h.2.1, h.2.2.1, h.2.2.2.1, h.2.2.2.2.1, h.2.2.2.2.2.1, h.2.2.2.2.2.2⟩
theorem skF (S : List Int) (h : szB 5 S = true) : SkF S (skA S).1 (skA S).2 := skF_of (sk_mem S h)
theorem sk_yes {S : List Int} (h : szB 5 S = true) : skL S = (skA S).1 ∧ skT S = (skA S).2 := ⟨by unfold skL; rw [h]; rfl, by unfold skT; rw [h]; rfl⟩
theorem sk_no {S : List Int} (h : szB 5 S = false) : skL S = [] ∧ skT S = [] := ⟨by unfold skL; rw [h]; rfl, by unfold skT; rw [h]; rfl⟩
theorem sk_cons {s : Int} {r : List Int} (h : szB 5 (s :: r) = true) : szB 5 r = true ∧ stOk (suL s) (suT s) (skL r) (skT r) = true ∧ skL (s :: r) = stL (suL s) (suT s) (skL r) (skT r) ∧ skT (s :: r) = stT (suL s) (suT s) (skL r) (skT r) := by
  have hr := szB_mono r (show 5 - s ≤ 5 by have := szB_cons h; omega) (szB_cons h).2.2
  rw [(sk_yes h).1, (sk_yes h).2, (sk_yes hr).1, (sk_yes hr).2]
  exact ⟨hr, (sk_ok h (sk_mem r hr)).1, rfl, rfl⟩
theorem sk_ti (S : List Int) : Ti (skL S) (skT S) := by
  cases h : szB 5 S with
  | false => rw [(sk_no h).1, (sk_no h).2]; exact Ti.zero
  | true =>
    cases S with
    | nil =>
      rw [(sk_yes h).1, (sk_yes h).2]
      refine ⟨by decide, by decide, fun j hj => ?_⟩
      have : j = 0 := by have e : (skA []).2.length = 1 := by decide +kernel
                         omega
      subst this
      decide +kernel
    | cons s r =>
      obtain ⟨_, _, e1, e2⟩ := sk_cons h
      rw [e1, e2]
      exact st_ti _ _ _ _
end Go.Proofs.Ytnmhbbekmepinaa
