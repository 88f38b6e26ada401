import Derived.Test.YtjcambkjcagcoaaB5
import Derived.Test.YtjcambkjcagcoaaZ8
namespace Go.Proofs.Ytjcambkjcagcoaa
open Go.RowKit

/-- the laws of nuclei -/
structure NucT (L : List Int) (T : List (List Int)) (J : List Int) : Prop where
  el : ∀ x, El L x → El L (nth J x)
  le : ∀ x, El L x → bl L x (nth J x) = true
  own : ∀ x, El L x → nth J (nth J x) = nth J x
  mono : ∀ x y, El L x → El L y → bl L x y = true → bl L (nth J x) (nth J y) = true
  tim : ∀ x y, El L x → El L y → bl L (tv T (nth J x) (nth J y)) (nth J (tv T x y)) = true
theorem nucT_of {L : List Int} {T : List (List Int)} {J : List Int} (h : snB L T J = true) : num J = num L ∧ NucT L T J := by
  unfold snB at h
  simp only [Bool.and_eq_true, decide_eq_true_eq] at h
  obtain ⟨h1, h2, h3⟩ := h
  rw [mpR_all] at h2
  have e : ∀ x, El L x → (bl L x (nth J x) = true ∧ nth J (nth J x) = nth J x) ∧ ∀ y, El L y → ((bl L x y && !bl L (nth J x) (nth J y)) = false ∧ bl L (tv T (nth J x) (nth J y)) (nth J (tv T x y)) = true) := fun x hx => by
    have := (allI_iff _ _).1 h3 x hx.1 hx.2
    unfold snX at this
    rw [Bool.and_eq_true, Bool.not_eq_true', Bool.or_eq_false_iff, Bool.not_eq_false', bne_eq_false_iff_eq] at this
    refine ⟨this.1, fun y hy => ?_⟩
    have := (allI_iff _ _).1 this.2 y hy.1 hy.2
    unfold snQ at this
    rw [Bool.not_eq_true', Bool.or_eq_false_iff, Bool.not_eq_false'] at this
    exact this
  refine ⟨h1, fun x hx => h2 x hx.1 hx.2, fun x hx => (e x hx).1.1, fun x hx => (e x hx).1.2, fun x y hx hy hb => ?_, fun x y hx hy => ((e x hx).2 y hy).2⟩
  have := ((e x hx).2 y hy).1
  rw [hb] at this
  simpa using this
/-- does the element y at x keep what a nucleus must -/
def nfZ (L H : List Int) (x y z : Int) : Bool := !(bl L z x) || bl L (nth H z) y
def nfQ (L H : List Int) (y : Int) : Bool := bl L (H.length : Int) y && allI (H.length : Int) (nfZ L H (H.length : Int) y)
/-- all nuclei whose first elements are the head, k elements on -/
def nucF (L : List Int) (T : List (List Int)) : Nat → List Int → List (List Int)
  | 0, H => if snB L T H then [H] else []
  | k + 1, H => catTo (fun y => if nfQ L H y then nucF L T k (H ++ [y]) else []) 0 L.length
theorem nucF_bound {L : List Int} {T : List (List Int)} (n6 : L.length ≤ 6) : ∀ (k : Nat) (H : List Int), (nucF L T k H).length ≤ 6 ^ k
  | 0, H => by
    show (if snB L T H then [H] else []).length ≤ _
    split <;> simp
  | k + 1, H => by
    have h1 := catTo_len (f := fun y => if nfQ L H y then nucF L T k (H ++ [y]) else []) (a := 0) (B := 6 ^ k) (fun i => by
      split
      · exact nucF_bound n6 k _
      · exact Nat.zero_le _) L.length
    refine Nat.le_trans h1 ?_
    rw [Nat.pow_succ, Nat.mul_comm]
    exact Nat.mul_le_mul_left _ n6
theorem nucF_len {L : List Int} {T : List (List Int)} {J : List Int} : ∀ {k : Nat} {H : List Int}, J ∈ nucF L T k H → J.length = H.length + k
  | 0, H, h => by
    change J ∈ (if snB L T H then [H] else []) at h
    split at h
    · rw [List.mem_singleton.1 h]; rfl
    · cases h
  | k + 1, H, h => by
    change J ∈ catTo _ _ _ at h
    rw [catTo_mem] at h
    obtain ⟨i, _, h⟩ := h
    split at h
    · rw [nucF_len h]; simp; omega
    · cases h
/-- the elements in order -/
def idL (n : Nat) : List Int := (List.range n).map fun (x : Nat) => (x : Int)
theorem idL_len (n : Nat) : (idL n).length = n := by simp [idL]
theorem idL_succ (n : Nat) : idL (n + 1) = idL n ++ [(n : Int)] := by simp [idL, List.range_succ]
theorem idL_nth {n : Nat} {x : Int} (x0 : 0 ≤ x) (x1 : x < n) : nth (idL n) x = x := by
  obtain ⟨i, rfl⟩ : ∃ i : Nat, x = i := ⟨x.toNat, by omega⟩
  have hi : i < n := by omega
  unfold nth idL
  rw [Int.toNat_natCast, List.getD_eq_getElem?_getD, List.getElem?_map, List.getElem?_range hi]
  rfl
theorem sn_id {L : List Int} {T : List (List Int)} (h : algB L T = true) : snB L T (idL L.length) = true := by
  have hl := alg_lat h
  have hn : num (idL L.length) = num L := by unfold num; rw [idL_len]
  have hid : ∀ {x : Int}, El L x → nth (idL L.length) x = x := fun hx => idL_nth hx.1 hx.2
  unfold snB
  rw [decide_eq_true hn, Bool.true_and, Bool.and_eq_true, allI_iff, allI_iff]
  refine ⟨fun x x0 x1 => ?_, fun x x0 x1 => ?_⟩
  · have hx : El L x := ⟨x0, x1⟩
    unfold mpR
    rw [hid hx]
    rw [decide_eq_true x0, decide_eq_true (show x ≤ num L - 1 by omega)]; rfl
  · have hx : El L x := ⟨x0, x1⟩
    unfold snX
    rw [hid hx, hid hx, bl_refl hl hx, Bool.and_eq_true, allI_iff]
    refine ⟨by simp, fun y y0 y1 => ?_⟩
    have hy : El L y := ⟨y0, y1⟩
    unfold snQ
    rw [hid hx, hid hy, hid (tv_el h hx hy), bl_refl hl (tv_el h hx hy)]
    cases bl L x y <;> rfl
theorem nucF_id {L : List Int} {T : List (List Int)} (h : algB L T = true) : ∀ (k m : Nat), m + k = L.length → idL L.length ∈ nucF L T k (idL m)
  | 0, m, hm => by
    have e : m = L.length := by omega
    subst e
    show _ ∈ (if snB L T (idL L.length) then [idL L.length] else [])
    rw [if_pos (sn_id h)]
    exact List.mem_singleton.2 rfl
  | k + 1, m, hm => by
    show _ ∈ catTo _ _ _
    rw [catTo_mem]
    refine ⟨m, by omega, ?_⟩
    have hl := alg_lat h
    have e : (0 : Int) + (m : Int) = (m : Int) := by omega
    have hx : El L (m : Int) := ⟨by omega, by have : num L = L.length := rfl; omega⟩
    have hq : nfQ L (idL m) (0 + (m : Int)) = true := by
      unfold nfQ
      rw [idL_len, e, bl_refl hl hx, Bool.true_and, allI_iff]
      intro z z0 z1
      unfold nfZ
      rw [idL_nth z0 z1]
      cases bl L z m <;> rfl
    rw [if_pos hq, e, ← idL_succ]
    exact nucF_id h k (m + 1) (by omega)
theorem nucF_ne {L : List Int} {T : List (List Int)} (h : algB L T = true) : 1 ≤ (nucF L T L.length []).length := by
  have := nucF_id h L.length 0 (by omega)
  exact List.length_pos_of_mem this
/-- what an element implies of one that is its own is its own -/
theorem nu_imp {L : List Int} {T : List (List Int)} {J : List Int} (h : algB L T = true) (hJ : snB L T J = true) {x y : Int} (hx : El L x) (hy : El L y) (e : nth J y = y) : nth J (imp L T x y) = imp L T x y := by
  obtain ⟨_, hN⟩ := nucT_of hJ
  have hl := alg_lat h
  have hi := imp_el h x y
  have hji := hN.el _ hi
  refine bl_anti hl hji hi ?_ (hN.le _ hi)
  refine (imp_iff h hx hy hji).1 ?_
  have hp := tv_el h hx hi
  refine bl_trans hl (tv_el h hx hji) (tv_el h (hN.el x hx) hji) hy (tv_mono1 h hji hx (hN.el x hx) (hN.le x hx)) ?_
  refine bl_trans hl (tv_el h (hN.el x hx) hji) (hN.el _ hp) hy (hN.tim x _ hx hi) ?_
  have := hN.mono _ _ hp hy (imp_ok h hx hy)
  rwa [e] at this
end Go.Proofs.Ytjcambkjcagcoaa
