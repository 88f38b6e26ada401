import Derived.Test.YtpfnfglaokiipabM4
/- Plain facts on sets as numbers: what two of them have, how many they have, the greatest ones; nothing of the program. -/
namespace Go.Proofs.Ytpfnfglaokiipab
/-- what both sets have -/
def an (a b : Int) : Int := ((a.toNat &&& b.toNat : Nat) : Int)
theorem an_0 (a b : Int) : 0 ≤ an a b := by unfold an; omega
theorem an_le1 (a b : Int) (h : 0 ≤ a) : an a b ≤ a := by
  unfold an; have := Nat.and_le_left (n := a.toNat) (m := b.toNat); omega
theorem an_le2 (a b : Int) (h : 0 ≤ b) : an a b ≤ b := by
  unfold an; have := Nat.and_le_right (n := a.toNat) (m := b.toNat); omega
theorem an_comm (a b : Int) : an a b = an b a := by unfold an; rw [Nat.and_comm]
theorem an_assoc (a b c : Int) : an (an a b) c = an a (an b c) := by
  unfold an; rw [Int.toNat_natCast, Int.toNat_natCast, Nat.and_assoc]
theorem an_self (a : Int) (h : 0 ≤ a) : an a a = a := by unfold an; rw [Nat.and_self]; omega
theorem ib_nat (a x : Nat) : ib (a : Int) (x : Int) = a.testBit x := by
  unfold ib bt
  rw [Nat.testBit_eq_decide_div_mod_eq, pw_nat]
  have e : ((a : Int) / 2 ^ x % 2) = ((a / 2 ^ x % 2 : Nat) : Int) := by simp
  rw [e, Bool.eq_iff_iff, beq_iff_eq, decide_eq_true_eq]
  omega
theorem an_ib (a b x : Int) (ha : 0 ≤ a) (hb : 0 ≤ b) (hx : 0 ≤ x) : ib (an a b) x = (ib a x && ib b x) := by
  obtain ⟨a, rfl⟩ := Int.eq_ofNat_of_zero_le ha
  obtain ⟨b, rfl⟩ := Int.eq_ofNat_of_zero_le hb
  obtain ⟨x, rfl⟩ := Int.eq_ofNat_of_zero_le hx
  unfold an
  rw [ib_nat, ib_nat, ib_nat, Int.toNat_natCast, Int.toNat_natCast, Nat.testBit_and]
/-- f has all of g -/
def hasA (f g : Int) : Bool := an f g == g
theorem hasA_refl (f : Int) (h : 0 ≤ f) : hasA f f = true := by unfold hasA; rw [an_self f h]; simp
theorem hasA_anti {f g : Int} (h1 : hasA f g = true) (h2 : hasA g f = true) : f = g := by
  unfold hasA at h1 h2; rw [beq_iff_eq] at h1 h2
  rw [an_comm] at h2; rw [← h1]; exact h2.symm
theorem hasA_trans {f g k : Int} (h1 : hasA f g = true) (h2 : hasA g k = true) : hasA f k = true := by
  unfold hasA at *; rw [beq_iff_eq] at *
  rw [← h2, ← an_assoc, h1]
/-- what all have -/
def com (n : Int) (sets : List Int) : Int := sets.foldl an (pw n - 1)
theorem foldl_an : ∀ (sets : List Int) (a m : Int), 0 ≤ a → a ≤ m → 0 ≤ sets.foldl an a ∧ sets.foldl an a ≤ m
  | [], _, _, h0, h1 => ⟨h0, h1⟩
  | s :: l, a, m, h0, h1 => foldl_an l (an a s) m (an_0 _ _) (Int.le_trans (an_le1 a s h0) h1)
theorem com_range (n : Int) (sets : List Int) : 0 ≤ com n sets ∧ com n sets ≤ pw n - 1 := by
  have := pw_pos n
  exact foldl_an sets _ _ (by omega) (Int.le_refl _)
theorem com_succ (n : Int) (sets : List Int) (s : Int) : com n (sets ++ [s]) = an (com n sets) s := by unfold com; rw [List.foldl_append]; rfl
theorem foldl_ib (x : Int) (hx : 0 ≤ x) : ∀ (sets : List Int) (a : Int), 0 ≤ a → ib a x = true → (∀ s ∈ sets, 0 ≤ s ∧ ib s x = true) → ib (sets.foldl an a) x = true
  | [], _, _, h, _ => h
  | s :: l, a, h0, h, hs => by
    have := hs s (List.mem_cons_self ..)
    exact foldl_ib x hx l (an a s) (an_0 _ _) (by rw [an_ib a s x h0 this.1 hx, h, this.2]; rfl) fun t ht => hs t (List.mem_cons_of_mem _ ht)
theorem full_ib {n x : Int} (hx : 0 ≤ x) (h : x < n) : ib (pw n - 1) x = true := by
  obtain ⟨m, rfl⟩ := Int.eq_ofNat_of_zero_le (show 0 ≤ n by omega)
  obtain ⟨y, rfl⟩ := Int.eq_ofNat_of_zero_le hx
  have e : pw (m : Int) - 1 = ((2 ^ m - 1 : Nat) : Int) := by
    rw [pw_nat]
    have : 1 ≤ 2 ^ m := Nat.one_le_two_pow
    rw [Int.natCast_sub this]; simp
  rw [e, ib_nat, Nat.testBit_two_pow_sub_one]
  simpa using h
theorem com_ib {n x : Int} {sets : List Int} (hx : 0 ≤ x) (h : x < n) (hs : ∀ s ∈ sets, 0 ≤ s ∧ ib s x = true) : ib (com n sets) x = true :=
  foldl_ib x hx sets _ (by have := pw_pos n; omega) (full_ib hx h) hs
/-- the filter that a set makes -/
def genI (L : List Int) (T : List (List Int)) (set : Int) : Int := com (num L) ((fls L T).filter fun f => hasA f set)
def filByI (L : List Int) (T : List (List Int)) (set : Int) : Int := if algB L T && setB L set then genI L T set else -1
/-- the greatest filters -/
def grQ (L : List Int) (T : List (List Int)) (f : Int) : Bool := !ib f 0 && (fls L T).all fun g => ib g 0 || g == f || !hasA g f
def grs (L : List Int) (T : List (List Int)) : List Int := (fls L T).filter (grQ L T)
/-- how many elements a set has -/
def wtN : Nat → Int → Int
  | 0, _ => 0
  | k + 1, x => x % 2 + wtN k (x / 2)
def wt (x : Int) : Int := wtN 6 x
theorem wtN_zero : ∀ k, wtN k 0 = 0
  | 0 => rfl
  | k + 1 => by show (0 : Int) % 2 + wtN k (0 / 2) = 0; rw [Int.zero_ediv, wtN_zero k]; rfl
theorem wt_fin : ∀ n : Fin 6, ∀ f : Fin 64, f.val < 2 ^ (n.val + 1) → f.val.testBit n.val = true → (decide (wtN 6 (f.val : Int) > 1) = decide (f.val ≠ 2 ^ n.val)) := by decide +kernel
theorem wt_alone {n f : Int} (n1 : 1 ≤ n) (n6 : n ≤ 6) (f0 : 0 ≤ f) (f1 : f < pw n) (h : ib f (n - 1) = true) : (1 < wt f ↔ f ≠ pw (n - 1)) := by
  obtain ⟨m, hm⟩ := Int.eq_ofNat_of_zero_le (show 0 ≤ n - 1 by omega)
  obtain ⟨g, rfl⟩ := Int.eq_ofNat_of_zero_le f0
  rw [hm] at h ⊢
  rw [ib_nat] at h
  have e : pw n = ((2 ^ (m + 1) : Nat) : Int) := by rw [show n = ((m + 1 : Nat) : Int) by omega, pw_nat]; simp
  rw [e] at f1
  have f1' : g < 2 ^ (m + 1) := by exact_mod_cast f1
  have h64 : g < 64 := Nat.lt_of_lt_of_le f1' (Nat.pow_le_pow_right (n := 2) (by decide) (show m + 1 ≤ 6 by omega))
  have := wt_fin ⟨m, by omega⟩ ⟨g, h64⟩ f1' h
  rw [decide_eq_decide] at this
  rw [pw_nat]
  unfold wt
  have e2 : ((2 : Int) ^ m) = ((2 ^ m : Nat) : Int) := by simp
  rw [e2]
  exact ⟨fun h1 h2 => this.1 h1 (by exact_mod_cast h2), fun h1 => this.2 fun h2 => h1 (by exact_mod_cast h2)⟩
/-- the heart -/
def hrtC (L : List Int) (T : List (List Int)) : Int := com (num L) ((fls L T).filter fun f => f != pw (num L - 1))
def hrtS (L : List Int) (T : List (List Int)) : Int := com (num L) ((fls L T).filter fun f => decide (1 < wt f))
theorem fls_parts {L : List Int} {T : List (List Int)} {f : Int} (h : f ∈ fls L T) : 0 ≤ f ∧ f < pw (num L) ∧ ib f (num L - 1) = true := by
  have := fls_mem.1 h
  have h2 := this.2.2
  unfold filB at h2; rw [Bool.and_eq_true] at h2
  exact ⟨this.1, this.2.1, h2.1⟩
theorem hrt_eq {L : List Int} {T : List (List Int)} (h : latB L = true) : hrtS L T = hrtC L T := by
  have hl := lat_len h
  unfold hrtS hrtC
  congr 1
  refine List.filter_congr fun f hf => ?_
  obtain ⟨f0, f1, fi⟩ := fls_parts hf
  have := wt_alone hl.1 hl.2 f0 f1 fi
  rw [Bool.eq_iff_iff, decide_eq_true_eq, bne_iff_ne]; exact this
def hrtB (L : List Int) (T : List (List Int)) : Bool := algB L T && (hrtC L T != pw (num L - 1))
def hrtI (L : List Int) (T : List (List Int)) : Int := if hrtB L T then hrtC L T else 0
theorem hrt_wt {L : List Int} {T : List (List Int)} (h : latB L = true) : wt (hrtC L T) < 2 ↔ hrtC L T = pw (num L - 1) := by
  have hl := lat_len h
  have hr := com_range (num L) ((fls L T).filter fun f => f != pw (num L - 1))
  have hi : ib (hrtC L T) (num L - 1) = true := com_ib (by omega) (by omega) fun s hs => by
    have := fls_parts (List.mem_filter.1 hs).1
    exact ⟨this.1, this.2.2⟩
  have := wt_alone hl.1 hl.2 hr.1 (by omega) hi
  unfold hrtC at *
  constructor
  · intro h1; exact Classical.byContradiction fun h2 => by have := this.2 h2; omega
  · intro h1
    refine Classical.byContradiction fun h2 => ?_
    exact this.1 (by omega) h1
/-- the elements that all greatest filters have -/
def radC (L : List Int) (T : List (List Int)) : Int := com (num L) (grs L T)
def radI (L : List Int) (T : List (List Int)) : Int := if algB L T then radC L T else -1
end Go.Proofs.Ytpfnfglaokiipab
