import Derived.Test.YtmlbdlobdnhimaaZ8
import Derived.Test.YtmlbdlobdnhimaaM10
import Derived.Test.YtmlbdlobdnhimaaS1
import Derived.Test.YtmlbdlobdnhimaaC2
import Derived.Test.YtmlbdlobdnhimaaMK
import Derived.RegionTactic
import Derived.BigRegion
import Derived.Deep.AppendLies
import Derived.Great.BuildSlice
/- What latticesFrom lists, by the numbers that the program tries; nothing of the program. -/
namespace Go.Proofs.Ytmlbdlobdnhimaa

theorem pw_add (a b : Int) (ha : 0 ≤ a) (hb : 0 ≤ b) : pw (a + b) = pw a * pw b := by
  unfold pw; rw [show (a + b).toNat = a.toNat + b.toNat by omega, Int.pow_add]
/-- the numbers with the bit of the greatest element, t of the steps -/
def chL (n x : Int) (t : Nat) : List Int := ((List.range t).map fun (i : Nat) => pw x + (i : Int) * (2 * pw x)).filter fun s => ib s (n - 1)
theorem chL_succ (n x : Int) {t : Int} (h : 0 ≤ t) : chL n x (t + 1).toNat = if ib (pw x + t * (2 * pw x)) (n - 1) then chL n x t.toNat ++ [pw x + t * (2 * pw x)] else chL n x t.toNat := by
  unfold chL
  rw [show (t + 1).toNat = t.toNat + 1 by omega, List.range_succ, List.map_append, List.filter_append]
  simp only [List.map_cons, List.map_nil, Int.toNat_of_nonneg h, List.filter_cons, List.filter_nil]
  split <;> simp
theorem chL_len (n x : Int) (t : Nat) : (chL n x t).length ≤ t := by
  unfold chL
  refine Nat.le_trans (List.length_filter_le _ _) ?_
  simp
def upC (n x : Int) : List Int := if x = 0 then [pw n - 1] else chL n x (pw (n - 1 - x)).toNat
def upGood (n x r : Int) : Bool := if x = 0 then r == pw n - 1 else ib r (n - 1)
def upR (n x : Int) : List Int := ((List.range (pw n - pw x).toNat).map fun (i : Nat) => pw x + (i : Int)).filter (lfQ x)
theorem upC_fin : ∀ n : Fin 6, ∀ x : Fin 6, x.val < n.val → (upR (n.val : Int) (x.val : Int)).filter (upGood (n.val : Int) (x.val : Int)) = upC (n.val : Int) (x.val : Int) := by decide +kernel
theorem upC_eq {n x : Int} (n5 : n ≤ 5) (x0 : 0 ≤ x) (x1 : x < n) : (upR n x).filter (upGood n x) = upC n x := by
  have := upC_fin ⟨n.toNat, by omega⟩ ⟨x.toNat, by omega⟩ (by show x.toNat < n.toNat; omega)
  simpa only [Int.toNat_of_nonneg x0, Int.toNat_of_nonneg (show 0 ≤ n by omega)] using this
theorem upC_rng_fin : ∀ n : Fin 6, ∀ x : Fin 6, x.val < n.val → (upC (n.val : Int) (x.val : Int)).length ≤ 16 := by decide +kernel
theorem upC_len {n x : Int} (n5 : n ≤ 5) (x0 : 0 ≤ x) (x1 : x < n) : (upC n x).length ≤ 16 := by
  have := upC_rng_fin ⟨n.toNat, by omega⟩ ⟨x.toNat, by omega⟩ (by show x.toNat < n.toNat; omega)
  simpa only [Int.toNat_of_nonneg x0, Int.toNat_of_nonneg (show 0 ≤ n by omega)] using this
theorem catTo_flat (q : Int → Bool) (g : Int → List (List Int)) (a : Int) : ∀ j : Nat, catTo (fun row => if q row then g row else []) a j = (((List.range j).map fun (i : Nat) => a + (i : Int)).filter q).flatMap g
  | 0 => rfl
  | j + 1 => by
    show catTo _ a j ++ _ = _
    rw [catTo_flat q g a j, List.range_succ, List.map_append, List.filter_append, List.flatMap_append]
    congr 1
    simp only [List.map_cons, List.map_nil, List.filter_cons, List.filter_nil]
    split <;> simp
theorem flat_filter (g : Int → List (List Int)) (p : Int → Bool) : ∀ R : List Int, (∀ r ∈ R, p r = false → g r = []) → R.flatMap g = (R.filter p).flatMap g
  | [], _ => rfl
  | r :: R, h => by
    rw [List.flatMap_cons, flat_filter g p R fun s hs => h s (List.mem_cons_of_mem _ hs), List.filter_cons]
    cases hp : p r with
    | false => rw [h r (List.mem_cons_self ..) hp]; rfl
    | true => rfl
theorem nth_app {A B : List Int} {i : Int} (i0 : 0 ≤ i) (h : i < A.length) : nth (A ++ B) i = nth A i := by
  unfold nth
  have : i.toNat < A.length := by omega
  rw [List.getD_eq_getElem?_getD, List.getD_eq_getElem?_getD, List.getElem?_append_left this]
theorem latF_pre {n : Int} {L : List Int} : ∀ {k : Nat} {H : List Int}, L ∈ latF n k H → ∀ i : Int, 0 ≤ i → i < H.length → nth L i = nth H i
  | 0, H, h, i, _, _ => by
    change L ∈ (if latB H then [H] else []) at h
    split at h
    · rw [List.mem_singleton.1 h]
    · cases h
  | k + 1, H, h, i, i0, i1 => by
    obtain ⟨j, hj, h⟩ := catTo_mem.1 h
    split at h
    · have := latF_pre h i i0 (by rw [List.length_append]; omega)
      rw [this, nth_app i0 i1]
    · cases h
theorem rowTo_full (k : Nat) : rowTo (fun _ => true) k = pw k - 1 := by
  induction k with
  | zero => rfl
  | succ k ih =>
    rw [show ((k + 1 : Nat) : Int) = (k : Int) + 1 by omega, rowTo_succ _ _ (by omega), ih, pw_succ _ (by omega), if_pos rfl]
    omega
theorem latF_dead {n : Int} {k : Nat} {H : List Int} {r : Int} (hl : (H.length : Int) + 1 + k = n) (hg : upGood n H.length r = false) : latF n k (H ++ [r]) = [] := by
  refine List.eq_nil_iff_forall_not_mem.2 fun L hL => ?_
  obtain ⟨a, b⟩ := latF_lat hL
  rw [List.length_append, List.length_singleton] at b
  have hn : num L = n := by unfold num; omega
  have hr := latF_pre hL (H.length : Int) (by omega) (by rw [List.length_append, List.length_singleton]; omega)
  have e : nth (H ++ [r]) H.length = r := by unfold nth; simp [List.getD_eq_getElem?_getD]
  rw [e] at hr
  have hx : El L H.length := ⟨by omega, by omega⟩
  unfold upGood at hg
  by_cases h0 : (H.length : Int) = 0
  · rw [if_pos h0, beq_eq_false_iff_ne] at hg
    rw [h0] at hr
    refine hg ?_
    rw [← hr]
    obtain ⟨r0, r1⟩ := lat_rng a (el_0 a)
    have n0 : 0 ≤ num L := by unfold num; omega
    rw [← hn, ← rowTo_ib n0 r0 r1]
    have e2 : rowTo (fun y => ib (nth L 0) y) (num L) = rowTo (fun _ => true) (num L) := rowTo_congr fun y y0 y1 => by
      have := bl_low a (x := y) ⟨y0, y1⟩
      exact this
    rw [e2]
    have := rowTo_full (num L).toNat
    rwa [Int.toNat_of_nonneg n0] at this
  · rw [if_neg h0] at hg
    have := bl_top a hx
    have h2 : ib (nth L H.length) (num L - 1) = true := this
    rw [hr, hn, hg] at h2
    cases h2
theorem latF_step {n : Int} {k : Nat} {H : List Int} (n5 : n ≤ 5) (hl : (H.length : Int) + ((k + 1 : Nat) : Int) = n) : latF n (k + 1) H = (upC n H.length).flatMap fun r => latF n k (H ++ [r]) := by
  show catTo (fun row => if lfQ H.length row then latF n k (H ++ [row]) else []) (pw H.length) (pw n - pw H.length).toNat = _
  rw [catTo_flat, ← upC_eq n5 (by omega) (by omega)]
  exact flat_filter _ _ _ fun r _ hg => latF_dead (by omega) hg
end Go.Proofs.Ytmlbdlobdnhimaa

namespace Go.Proofs.Ytmlbdlobdnhimaa
open Go.RowKit

set_option maxRecDepth 100000 in
set_option maxHeartbeats 2000000 in
/-- impl.upChoices -/
theorem upChoices_any (n x : Int) (w : World) (n5 : n ≤ 5) (x0 : 0 ≤ x) (x1 : x < n) :
    Calls Try.prog 88 #[.int .i64 n, .int .i64 x] w (RetSl w.heap.size (upC n x) w) := by
  obtain ⟨i0, hi, hz0, hz1, hz2⟩ := info_parts info_int
  have wn := wrap_pwI n (by omega)
  have wx := wrap_pwI x (by omega)
  have p1 := pw_pos n
  have p2 := pw_mono n 5 n5
  have e5 : pw 5 = 32 := by decide
  have p3 := pw_pos x
  have p4 := pw_mono x n (by omega)
  have p5 := pw_pos (n - 1 - x)
  have p6 := pw_mono (n - 1 - x) 5 (by omega)
  have hm : pw n = 2 * (pw x * pw (n - 1 - x)) := by
    rw [← pw_add x (n - 1 - x) x0 (by omega), ← pw_succ _ (by omega)]; congr 1; omega
  have HM := Lib.hid hm
  clear hm
  by_cases h0 : x = 0
  · subst h0
    have hv : upC n 0 = [pw n - 1] := rfl
    have HV := Lib.hid hv
    clear hv
    go_enter Try.func88, Try.ntmps88
    go_wp2
    go_ret
    rw [HV.out]
    exact ⟨_, _, rfl, Own.row (L := [pw n - 1]) (heap_alloc_new w _) (Nat.le_refl _) (by unfold maxLen; simp), (Below.refl _ _).alloc (Nat.le_refl _) _⟩
  · have hv : upC n x = chL n x (pw (n - 1 - x)).toNat := by unfold upC; rw [if_neg h0]
    have HV := Lib.hid hv
    have hx0 : (x == 0) = false := by rw [beq_eq_false_iff_ne]; exact h0
    have w2 : wrap64 (2 * 2 ^ x.toNat) = 2 * pw x := by
      show wrap64 (2 * pw x) = _
      exact IntWalk.wrap64_in _ ⟨by omega, by omega⟩
    clear hv h0
    go_enter Try.func88, Try.ntmps88
    go_wp2
    have WX := Lib.hid wx
    clear wn wx
    go_loopw [6, 7] (fun v s wr => ∃ t : Int, 0 ≤ t ∧ t ≤ pw (n - 1 - x) ∧ s = .int .i64 (pw x + t * (2 * pw x)) ∧ Own w.heap.size wr v (chL n x t.toNat) ∧ Below w.heap.size w wr) (fun _ s _ => (64 - intOf s).toNat)
    case atStart => exact ⟨0, by omega, by omega, by simp; exact WX.out, Own.nothing _ _, Below.refl _ _⟩
    case round =>
      obtain ⟨t, t0, t1, rfl, ho, hb⟩ := hrel
      obtain ⟨s, hs⟩ : ∃ s, s = pw x + t * (2 * pw x) := ⟨_, rfl⟩
      have hsn : s + 2 * pw x = pw x + (t + 1) * (2 * pw x) := by rw [hs, Int.add_mul, Int.one_mul]; omega
      have HSN := Lib.hid hsn
      have hsu := chL_succ n x t0
      have hlen := chL_len n x t.toNat
      rw [← hs] at hsu ⊢
      have s0 : 0 ≤ t * (2 * pw x) := Int.mul_nonneg t0 (by omega)
      have HS := Lib.hid hsu
      clear hsu hsn
      by_cases ht : t < pw (n - 1 - x)
      · have hle : s ≤ pw n - 1 := by
          have h1 : pw x * (t + 1) ≤ pw x * pw (n - 1 - x) := Int.mul_le_mul_of_nonneg_left (by omega) (by omega)
          rw [Int.mul_add, Int.mul_one] at h1
          have h2 : t * (2 * pw x) = 2 * (pw x * t) := by rw [Int.mul_comm, Int.mul_assoc]
          rw [hs, h2, HM.out]
          omega
        have hs0 : 0 ≤ s := by omega
        have hs6 : s ≤ 64 := by omega
        clear hs s0
        cases hq : ib s (n - 1) with
        | false =>
          have HC := Lib.hid (show chL n x (t + 1).toNat = chL n x t.toNat by rw [HS.out, hq]; rfl)
          go_wp2_with (go_at_call 109; refine (isIn_any (n - 1) s _ (by omega) (by omega) hs0 hs6).mono ?_; rintro e w' ⟨rfl, rfl⟩)
          go_roundw
          case rel => exact ⟨t + 1, by omega, by omega, by rw [HSN.out], by rw [HC.out]; exact ho, hb⟩
          case measure => simp [intOf]; omega
        | true =>
          have HC := Lib.hid (show chL n x (t + 1).toNat = chL n x t.toNat ++ [s] by rw [HS.out, hq]; rfl)
          go_wp2_with (first
            | (go_at_call 109; refine (isIn_any (n - 1) s _ (by omega) (by omega) hs0 hs6).mono ?_; rintro e w' ⟨rfl, rfl⟩)
            | (at_builtin; refine wpList_append_own _ rfl _ _ 23 rfl w.heap.size 3 i0 (.int .i64 0) 1 8 Try.underlying23 hi hz0 hz1 hz2 rfl (by decide) _ _ _ rfl (World.ownsRow.alloc ho _) ⟨wr.heap.size, 0, none⟩ 1 1 [.int .i64 s] rfl rfl (cell_one_new _ _ _) (fun x hx => by simp at hx; subst hx; rfl) (by unfold maxLen; omega) (by omega) (by have := hb.size; simp; omega) ?_; intro v' w1 hown1 hgrow _))
          go_roundw
          case rel => exact ⟨t + 1, by omega, by omega, by rw [HSN.out], by unfold Own; rw [HC.out, List.map_append, List.length_append]; exact hown1, (hb.alloc hb.size _).grown hgrow (by have := hb.size; simp; omega) (fun q hq => (World.ownsRow.lt ho q hq).1)⟩
          case measure => simp [intOf]; omega
      · have e : t = pw (n - 1 - x) := by omega
        have hgt : ¬ s ≤ pw n - 1 := by
          rw [hs, e, HM.out]
          have h2 : pw (n - 1 - x) * (2 * pw x) = 2 * (pw x * pw (n - 1 - x)) := by rw [Int.mul_comm, Int.mul_assoc]
          rw [h2]; omega
        rw [e, ← HV.out] at ho
        obtain ⟨a, c, rfl, _⟩ := ho.slice
        clear hs s0
        go_wp2
        go_ret
        exact ⟨a, c, rfl, ho, hb⟩
end Go.Proofs.Ytmlbdlobdnhimaa

namespace Go.Proofs.Ytmlbdlobdnhimaa
open Go.RowKit

set_option maxRecDepth 100000 in
set_option maxHeartbeats 1000000 in
/-- slices.Clone of a list of a block -/
theorem cloneZ_any (g ca : Nat) (L : List Int) (w : World) (hr : Row w g L) (hm : L.length ≤ 1048576) :
    Calls Try.prog 87 #[.slice (some ⟨g, 0, none⟩) L.length ca] w (RetSl w.heap.size L w) := by
  obtain ⟨i0, hi, hz0, hz1, hz2⟩ := info_parts info_int
  have HN := Lib.hid (rd_cells hr.rd)
  have hnil := nil_is
  clear hr
  go_enter Try.func87, Try.ntmps87
  go_wp2_with (at_builtin; refine wpList_append_own _ rfl _ _ 23 rfl w.heap.size 3 i0 (.int .i64 0) 1 8 Try.underlying23 hi hz0 hz1 hz2 rfl (by decide) _ _ _ rfl (Own.row (L := []) (heap_alloc_new w _) (Nat.le_refl _) (Nat.zero_le _)) ⟨g, 0, none⟩ L.length ca (L.map fun x => Value.int .i64 x) rfl (by simp) (old_newsZ _ HN.out) (fun x hx => by simp at hx; obtain ⟨y, _, rfl⟩ := hx; rfl) (by unfold maxLen; simp; omega) (by simp; omega) (by simp) ?_; intro v w2 hown hgrow _; have ho : Own w.heap.size w2 v L := (by unfold Own; simpa using hown); have hb : Below w.heap.size w w2 := ((Below.refl _ _).alloc (Nat.le_refl _) _).grown hgrow (by simp) (fun q hq => (by have hq' : some w.heap.size = some q := hq; injection hq' with hq'; omega)); clear hown hgrow; obtain ⟨va, vc, rfl, _⟩ := ho.slice)
  go_ret
  exact ⟨va, vc, rfl, ho, hb⟩

/-- where AllLattices stands: the boxes of its variables, its list of numbers, what it has listed -/
structure FillSt (w : World) (lo : Nat) (n : Int) (bn bu ba bf gu : Nat) (U : List Int) (T : List (List Int)) : Prop where
  hn : w.heap[bn]? = some (.cells #[.int .i64 n] 3 (0, 0))
  hu : w.heap[bu]? = some (.cells #[.slice (some ⟨gu, 0, none⟩) U.length U.length] 23 (0, 0))
  row : Row w gu U
  ha : ∃ v, w.heap[ba]? = some (.cells #[v] 42 (0, 0)) ∧ RowsD lo w v T
  hf : w.heap[bf]? = some (.cells #[.func (.func 86) #[] #[.pointer (some ⟨bn, 0, none⟩), .pointer (some ⟨bu, 0, none⟩), .pointer (some ⟨ba, 0, none⟩), .pointer (some ⟨bf, 0, none⟩)]] 72 (0, 0))
  lt : bn < lo ∧ bu < lo ∧ ba < lo ∧ bf < lo ∧ gu < lo
  ne : bn ≠ gu
/-- blocks of numbers stay, but for one -/
def KeepI (g : Nat) (w w' : World) : Prop := ∀ k c fr, w.heap[k]? = some (.cells c 3 fr) → k ≠ g → w'.heap[k]? = w.heap[k]?
theorem KeepI.refl (g : Nat) (w : World) : KeepI g w w := fun _ _ _ _ _ => rfl
theorem KeepI.trans {g : Nat} {a b c : World} (h : KeepI g a b) (k : KeepI g b c) : KeepI g a c := fun i x fr hi hne => (k i x fr ((h i x fr hi hne).trans hi) hne).trans (h i x fr hi hne)
theorem KeepI.below {g : Nat} {w w' : World} (h : Below w.heap.size w w') : KeepI g w w' := fun k _ _ hk _ => h.block k (lt_of_block hk)
theorem KeepI.own {g B : Nat} {w w' : World} {v : Value} {L : List Int} (h : KeepI g w w') (ho : Own B w v L) (hg : g < B) : Own B w' v L := by
  obtain ⟨h1, h2⟩ := ho
  refine ⟨h1, ?_⟩
  rcases h2 with h2 | ⟨b, cap, cur, e1, e2, hb, e3⟩
  · exact .inl h2
  · exact .inr ⟨b, cap, cur, e1, e2, (h b _ _ hb (by omega)).trans hb, e3⟩
section
variable {w w' : World} {lo : Nat} {n : Int} {bn bu ba bf gu : Nat} {U : List Int} {T : List (List Int)}
theorem FillSt.below (h : FillSt w lo n bn bu ba bf gu U T) (hb : Below w.heap.size w w') : FillSt w' lo n bn bu ba bf gu U T := by
  obtain ⟨v, hv, hr⟩ := h.ha
  exact ⟨(hb.block _ (lt_of_block h.hn)).trans h.hn, (hb.block _ (lt_of_block h.hu)).trans h.hu, (hb.block _ h.row.lt).trans h.row, ⟨v, (hb.block _ (lt_of_block hv)).trans hv, hr.below hb⟩, (hb.block _ (lt_of_block h.hf)).trans h.hf, h.lt, h.ne⟩
theorem FillSt.set (h : FillSt w lo n bn bu ba bf gu U T) (j : Nat) (x : Int) : FillSt (w.setCell ⟨gu, j, none⟩ (.int .i64 x)) lo n bn bu ba bf gu (U.set j x) T := by
  obtain ⟨v, hv, hr⟩ := h.ha
  have hl := h.lt
  have hnb : ∀ {k : Nat} {c : Array Value} {t : TypeId}, t ≠ 3 → w.heap[k]? = some (.cells c t (0, 0)) → k ≠ gu := fun {k c t} ht hk e => by
    have hg := h.row
    unfold Row at hg
    rw [← e, hk] at hg
    injection hg with hg
    injection hg with _ hg
    exact ht hg
  refine ⟨?_, ?_, h.row.set j x, ⟨v, ?_, hr.setBelow (by exact hl.2.2.2.2) _⟩, ?_, hl, h.ne⟩
  · rw [heap_setCell_other w _ bn _ h.ne]; exact h.hn
  · rw [heap_setCell_other w _ bu _ (hnb (by decide) h.hu), List.length_set]; exact h.hu
  · rw [heap_setCell_other w _ ba _ (hnb (by decide) hv)]; exact hv
  · rw [heap_setCell_other w _ bf _ (hnb (by decide) h.hf)]; exact h.hf
end
/-- what a call of fill leaves -/
def RetFill (C lo : Nat) (n : Int) (bn bu ba bf gu : Nat) (U : List Int) (x : Nat) (T : List (List Int)) (w : World) (e : Ending) (w' : World) : Prop :=
  ∃ U', e = .returned (.tuple #[]) ∧ FillSt w' lo n bn bu ba bf gu U' T ∧ U'.length = U.length ∧ U'.take x = U.take x ∧ Below C w w' ∧ KeepI gu w w'
theorem fill_keep {w w1 w2 : World} {b : Nat} {v : Value} {c : Array Value} {t : TypeId} (hb : Below w.heap.size w w1) (hg : w1.grownBy w2 v.ownBlock) (h : w.heap[b]? = some (.cells c t (0, 0))) (hne : v.ownBlock ≠ some b ∨ v.ownBlock = none) : w2.heap[b]? = some (.cells c t (0, 0)) := by
  have hlt := lt_of_block h
  have hs := hb.size
  refine (hg.block b (by omega) fun e => ?_).trans ((hb.block b hlt).trans h)
  rcases hne with hn | hn
  · exact hn e.symm
  · rw [hn] at e; cases e
theorem own_typed {w : World} {B : Nat} {e t : TypeId} {s n k : Nat} {v : Value} {xs : List Value} {c : Array Value} {fr : Nat × Nat} (h : w.ownsRow B e s v n xs) (hk : w.heap[k]? = some (.cells c t fr)) (ne : e ≠ t) : some k ≠ v.ownBlock := fun e' => by
  rcases h.2 with ⟨rfl, _⟩ | ⟨g, cap, cur, rfl, _, hg, _⟩
  · cases e'
  · simp only [Value.ownBlock, Option.some.injEq] at e'
    rw [← e', hk] at hg
    injection hg with hg
    injection hg with _ hg
    exact ne hg.symm
theorem own_low {w : World} {B : Nat} {e : TypeId} {s n k : Nat} {v : Value} {xs : List Value} (h : w.ownsRow B e s v n xs) (hk : k < B) : some k ≠ v.ownBlock := fun e' => by
  rcases h.2 with ⟨rfl, _⟩ | ⟨g, cap, cur, rfl, hg, _⟩
  · cases e'
  · simp only [Value.ownBlock, Option.some.injEq] at e'
    omega
theorem fill_push {C lo : Nat} {n : Int} {bn bu ba bf gu : Nat} {U r : List Int} {T : List (List Int)} {wA w5 : World} {v v' u : Value} {vs : List Value} (h : FillSt wA lo n bn bu ba bf gu U T) (hv : wA.heap[ba]? = some (.cells #[v] 42 (0, 0)))
    (r1 : wA.ownsRow lo 23 1 v T.length vs) (r2 : ∀ j : Nat, j < T.length → ∃ u, vs[j]? = some u ∧ Own lo wA u (rowAt T j)) (hu : Own lo wA u r) (h3 : w5.ownsRow lo 23 1 v' (T.length + 1) (vs ++ [u])) (hg : wA.grownBy w5 v.ownBlock)
    (hs : lo ≤ wA.heap.size) (hC : C ≤ ba) (hCl : C ≤ lo)
    (r3 : ∀ (i j : Nat) (a x : Value), i < j → j < T.length → vs[i]? = some a → vs[j]? = some x → a.ownBlock = none ∨ a.ownBlock ≠ x.ownBlock) (rn : ∀ (i : Nat) (a : Value), i < T.length → vs[i]? = some a → a.ownBlock = none ∨ a.ownBlock ≠ u.ownBlock) : FillSt (w5.setCell ⟨ba, 0, none⟩ v') lo n bn bu ba bf gu U (T ++ [r]) ∧ KeepI gu wA (w5.setCell ⟨ba, 0, none⟩ v') ∧ Below C wA (w5.setCell ⟨ba, 0, none⟩ v') := by
  have hl := h.lt
  have K : ∀ {b : Nat} {c : Array Value} {t : TypeId}, b < lo → wA.heap[b]? = some (.cells c t (0, 0)) → w5.heap[b]? = some (.cells c t (0, 0)) := fun {b c t} hb hc => (hg.block b (lt_of_block hc) (own_low r1 hb)).trans hc
  have hp : RowsD lo w5 v' (T ++ [r]) := by
    obtain ⟨xs, x1, x2⟩ := RowsAt.push r1 r2 hu h3 hg
    have hvl : vs.length = T.length := by have := r1.1; omega
    refine ⟨vs ++ [u], by rw [List.length_append]; exact h3, fun j hj => ?_, ?_⟩
    · rw [List.length_append, List.length_singleton] at hj
      by_cases e : j < T.length
      · obtain ⟨a, ha, ho⟩ := r2 j e
        refine ⟨a, by rw [List.getElem?_append_left (by omega)]; exact ha, ?_⟩
        rw [rowAt_old e]
        exact World.ownsRow.kept ho hg (own_types ho r1 (by decide))
      · have e2 : j = T.length := by omega
        subst e2
        refine ⟨u, by rw [List.getElem?_append_right (by omega), hvl, Nat.sub_self]; rfl, ?_⟩
        rw [rowAt_new]
        exact World.ownsRow.kept hu hg (own_types hu r1 (by decide))
    · rw [List.length_append, List.length_singleton]
      exact rows_apart hvl r3 rn
  have hba := K hl.2.2.1 hv
  have D : ∀ {b : Nat} {c : Array Value} {t : TypeId}, t ≠ 42 → b < lo → wA.heap[b]? = some (.cells c t (0, 0)) → (w5.setCell ⟨ba, 0, none⟩ v').heap[b]? = some (.cells c t (0, 0)) := fun {b c t} ht hb hc => by
    rw [heap_setCell_other w5 _ b _ (fun e => by
      have e : b = ba := e
      rw [e, hv] at hc
      injection hc with hc
      injection hc with _ hc
      exact ht hc.symm)]
    exact K hb hc
  refine ⟨⟨D (by decide) hl.1 h.hn, D (by decide) hl.2.1 h.hu, D (by decide) hl.2.2.2.2 h.row, ⟨v', ?_, hp.setBelow hl.2.2.1 _⟩, D (by decide) hl.2.2.2.1 h.hf, hl, h.ne⟩, fun k c fr hk hne => ?_, ?_⟩
  · rw [heap_setCell_same w5 ba 0 _ _ _ hba]; rfl
  · have hkb : k ≠ ba := fun e => by
      rw [e, hv] at hk
      injection hk with hk
      injection hk with _ hk
      exact absurd hk (by decide)
    rw [heap_setCell_other w5 _ k _ hkb]
    exact hg.block k (lt_of_block hk) (own_typed r1 hk (by decide))
  · exact ((Below.refl C wA).grown hg (by omega) (fun q hq => Nat.le_trans hCl (World.ownsRow.lt r1 q hq).1)).setCell hC _
set_option maxRecDepth 100000 in
set_option maxHeartbeats 4000000 in
/-- fill at a whole list -/
theorem fill_end (C lo : Nat) (n : Int) (bn bu ba bf gu : Nat) (U : List Int) (T : List (List Int)) (w : World) (hC : C ≤ bn ∧ C ≤ bu ∧ C ≤ ba ∧ C ≤ bf ∧ C ≤ gu) (n1 : 1 ≤ n) (n5 : n ≤ 5) (hU : (U.length : Int) = n) (hT : T.length ≤ 1073741824) (hsz : lo ≤ w.heap.size) (h : FillSt w lo n bn bu ba bf gu U T) :
    Calls Try.prog 86 #[.int .i64 n, .pointer (some ⟨bn, 0, none⟩), .pointer (some ⟨bu, 0, none⟩), .pointer (some ⟨ba, 0, none⟩), .pointer (some ⟨bf, 0, none⟩)] w (RetFill C lo n bn bu ba bf gu U U.length (T ++ latF n 0 U) w) := by
  obtain ⟨i1, hi1, hy0, hy1, hy2⟩ := info_parts info_ints
  have cn := cell_of_one h.hn
  have cu := cell_of_one h.hu
  have hlt := h.lt
  cases hB : latB U with
  | false =>
    have hv := Lib.hid (show T ++ latF n 0 U = T by show T ++ (if latB U then [U] else []) = T; rw [hB]; simp)
    go_enter Try.func86, Try.ntmps86
    go_wp2_with (go_at_call 16; refine (implValidLattice_any _ _ U _ h.row.rd).mono ?_; rw [hB]; rintro e w1 ⟨rfl, hb1⟩)
    refine bodyPost_ret (results_none rfl _ _ _) rfl ?_
    rw [hv.out]
    exact ⟨U, rfl, h.below hb1, rfl, rfl, hb1.mono (by omega), KeepI.below hb1⟩
  | true =>
    have hv := Lib.hid (show T ++ latF n 0 U = T ++ [U] by show T ++ (if latB U then [U] else []) = T ++ [U]; rw [hB]; rfl)
    have hmU : U.length ≤ 1048576 := by omega
    go_enter Try.func86, Try.ntmps86
    go_wp2_with fail
    refine (implValidLattice_any _ _ U _ h.row.rd).mono ?_
    rw [hB]
    rintro e w1 ⟨rfl, hb1⟩
    have h1 := h.below hb1
    have s1 := hb1.size
    clear cn cu
    have cu := cell_of_one h1.hu
    obtain ⟨v, hv1, hr1⟩ := h1.ha
    have ca := cell_of_one hv1
    have HV1 := Lib.hid (show ∀ wz, Below w1.heap.size w1 wz → wz.cell? ⟨ba, 0, none⟩ = some v from fun wz hz => cell_of_one ((hz.block _ (lt_of_block hv1)).trans hv1))
    obtain ⟨vs, r1, r2, r3⟩ := hr1
    have R3 := Lib.hid r3
    clear r3
    have R2 := Lib.hid r2
    clear r2
    have hne : v.ownBlock ≠ some ba ∨ v.ownBlock = none := by
      rcases r1.2 with ⟨rfl, _⟩ | ⟨g, cap, cur, rfl, hg, _⟩
      · exact .inr rfl
      · refine .inl fun e => ?_
        simp only [Value.ownBlock, Option.some.injEq] at e
        omega
    go_wp2
    go_region_law (first
      | (refine step_append_lies _ (by rfl) _ _ _ (by rfl) lo 23 i1 _ 1 24 Try.underlying42 hi1 hy0 hy1 hy2 rfl (by omega) _ _ _ (by rfl) (World.ownsRow.alloc (ownsRow_below r1 hb2) _) ⟨w2.heap.size, 0, none⟩ 1 1 [.slice ra U.length rc] (by rfl) (by rfl) (World.news_of_block (cs := #[.slice ra U.length rc]) (t := 23) (fr := (0, 0)) (heap_alloc_new w2 _)) (by simp [Value.oneCell']) (by omega) (by unfold maxLen; omega) (by omega) (by simp; omega) (w2.heap.size + 1) (by simp) ?_; intro v5g v5c w5 hown5 hgrow5 hat5 hlt5; have hba5 := fill_keep (hb2.alloc s2 _) hgrow5 hv1 hne; have c5 := cell_of_one hba5; have f5 := frozen_of_row w5 _ 0 _ _ hba5)
      | (go_simp; go_at_call 87; refine (cloneZ_any gu _ U _ (h1.row.dr ⟨1, rfl⟩) hmU).mono ?_; rintro e w2 ⟨ra, rc, rfl, ho2, hb2'⟩; have hb2 : Below w1.heap.size w1 w2 := ((Below.refl _ w1).drew).trans hb2'; have s2 := hb2.size; have cv2 := HV1.out _ hb2; have cv3 := HV1.out _ (hb2.alloc s2 (.cells #[.slice ra U.length rc] 23))))
    all_goals
      have hA := h1.below (hb2.alloc s2 (.cells #[.slice ra U.length rc] 23))
      have hvA : (w2.alloc (.cells #[.slice ra U.length rc] 23)).heap[ba]? = some (.cells #[v] 42 (0, 0)) := ((hb2.alloc s2 _).block _ (lt_of_block hv1)).trans hv1
      obtain ⟨q1, q2, q3⟩ := fill_push (C := C) hA hvA (World.ownsRow.alloc (ownsRow_below r1 hb2) _) (fun j hj => by obtain ⟨u, hu, ho⟩ := R2.out j hj; exact ⟨u, hu, (ho.below hb2).alloc _⟩) ((ho2.from (by have : (w1.drewN 1).heap.size = w1.heap.size := rfl; omega)).alloc _) hown5 hgrow5 (by simp; omega) (by omega) (by omega) R3.out (fun i x hi hx => by
        obtain ⟨u, hu, ho⟩ := R2.out i hi
        rw [hx] at hu
        injection hu with hu
        subst hu
        cases hxb : x.ownBlock with
        | none => exact .inl rfl
        | some q =>
          right
          intro e
          have l1 := (World.ownsRow.lt ho q hxb).2
          have l2 := (World.ownsRow.lt ho2 q e.symm).1
          have : (w1.drewN 1).heap.size = w1.heap.size := rfl
          omega)
      clear hA hvA hba5 c5 f5 cv2 cv3 ca cu hgrow5 hown5
      go_wp2
      refine bodyPost_ret (results_none rfl _ _ _) rfl ?_
      rw [hv.out]
      have z : Below C w (w2.alloc (.cells #[.slice ra U.length rc] 23)) := (hb1.mono (by omega)).trans ((hb2.alloc s2 _).mono (by omega))
      exact ⟨U, rfl, q1, rfl, rfl, z.trans q3, (KeepI.below hb1).trans ((KeepI.below (hb2.alloc s2 _)).trans q2)⟩
end Go.Proofs.Ytmlbdlobdnhimaa

namespace Go.Proofs.Ytmlbdlobdnhimaa
open Go.RowKit

theorem take_nextA (V : List Int) {i : Int} (i0 : 0 ≤ i) (h : i < V.length) : V.take (i + 1).toNat = V.take i.toNat ++ [nth V i] := by
  rw [show (i + 1).toNat = i.toNat + 1 by omega, List.take_add_one]
  congr 1
  unfold nth
  have : i.toNat < V.length := by omega
  rw [List.getElem?_eq_getElem this, List.getD_eq_getElem?_getD, List.getElem?_eq_getElem this]
  rfl
theorem flat_take_le (g : Int → List (List Int)) (V : List Int) (i : Nat) : ((V.take i).flatMap g).length ≤ (V.flatMap g).length := by
  have : V.flatMap g = (V.take i).flatMap g ++ (V.drop i).flatMap g := by rw [← List.flatMap_append, List.take_append_drop]
  rw [this, List.length_append]
  omega
theorem take_set_succ (U : List Int) (x : Nat) (s : Int) (h : x < U.length) : (U.set x s).take (x + 1) = U.take x ++ [s] := by
  rw [List.take_add_one, List.take_set_of_le (Nat.le_refl x)]
  congr 1
  rw [List.getElem?_set_self h]; rfl
theorem take_less {A B : List Int} {x : Nat} (h : A.take (x + 1) = B.take (x + 1)) : A.take x = B.take x := by
  have := congrArg (List.take x) h
  rwa [List.take_take, List.take_take, Nat.min_eq_left (by omega)] at this
set_option maxRecDepth 100000 in
set_option maxHeartbeats 4000000 in
/-- fill -/
theorem fill_any (C lo : Nat) (n : Int) (bn bu ba bf gu : Nat) (hC : C ≤ bn ∧ C ≤ bu ∧ C ≤ ba ∧ C ≤ bf ∧ C ≤ gu) (n1 : 1 ≤ n) (n5 : n ≤ 5) : ∀ (k x : Nat) (U : List Int) (T : List (List Int)) (w : World), (x : Int) + k = n → (U.length : Int) = n → T.length + (latF n k (U.take x)).length ≤ 1073741824 → lo ≤ w.heap.size → FillSt w lo n bn bu ba bf gu U T →
    Calls Try.prog 86 #[.int .i64 x, .pointer (some ⟨bn, 0, none⟩), .pointer (some ⟨bu, 0, none⟩), .pointer (some ⟨ba, 0, none⟩), .pointer (some ⟨bf, 0, none⟩)] w (RetFill C lo n bn bu ba bf gu U x (T ++ latF n k (U.take x)) w) := by
  intro k
  induction k with
  | zero =>
    intro x U T w hx hU hT hsz h
    have e : (x : Int) = n := by omega
    have e2 : x = U.length := by omega
    have e3 : U.take x = U := List.take_of_length_le (by omega)
    have := fill_end C lo n bn bu ba bf gu U T w hC n1 n5 hU (by omega) hsz h
    rw [e, e3, e2]
    exact this
  | succ k ih =>
    intro x U T w hx hU hT hsz h
    obtain ⟨H, hH⟩ : ∃ H, H = U.take x := ⟨_, rfl⟩
    rw [← hH] at hT ⊢
    have hHl : (H.length : Int) = x := by rw [hH, List.length_take]; omega
    have hstep := latF_step (n := n) (k := k) (H := H) n5 (by rw [hHl]; exact hx)
    rw [hHl] at hstep
    obtain ⟨V, hV⟩ : ∃ V, V = upC n x := ⟨_, rfl⟩
    have hVl : V.length ≤ 16 := by rw [hV]; exact upC_len n5 (by omega) (by omega)
    have HU := Lib.hid (show ∀ w : World, Calls Try.prog 88 #[.int .i64 n, .int .i64 x] w (RetSl w.heap.size V w) from fun w => by rw [hV]; exact upChoices_any n x w n5 (by omega) (by omega))
    rw [← hV] at hstep
    obtain ⟨g, hg⟩ : ∃ g : Int → List (List Int), g = fun r => latF n k (H ++ [r]) := ⟨_, rfl⟩
    have hgr : ∀ r, latF n k (H ++ [r]) = g r := fun r => by rw [hg]
    rw [← hg] at hstep
    have HG := Lib.hid hgr
    rw [hstep] at hT ⊢
    have HT := Lib.hid hT
    have HH := Lib.hid hH
    have IH := Lib.hid ih
    have hne : ((x : Int) == n) = false := by rw [beq_eq_false_iff_ne]; omega
    clear hV hg hgr hstep hT hH ih
    have cn := cell_of_one h.hn
    have hlt := h.lt
    go_enter Try.func86, Try.ntmps86
    go_wp2_with fail
    refine (HU.out w).mono ?_
    rintro e w1 ⟨va, vc, rfl, ho1, hb1⟩
    have h1 := h.below hb1
    have s1 := hb1.size
    clear cn
    go_wp2
    go_loopw [7, 22] (fun _ iv wr => ∃ (i : Int) (U' : List Int), 0 ≤ i ∧ i ≤ V.length ∧ iv = .int .i64 i ∧ FillSt wr lo n bn bu ba bf gu U' (T ++ (V.take i.toNat).flatMap g) ∧ U'.length = U.length ∧ U'.take x = H ∧ Below C w wr ∧ KeepI gu w wr ∧ Own w.heap.size wr (.slice va V.length vc) V) (fun _ iv _ => ((V.length : Int) - intOf iv).toNat)
    case atStart => exact ⟨0, U, by omega, by omega, rfl, by simpa using h1, rfl, HH.out.symm, hb1.mono (by omega), KeepI.below hb1, ho1⟩
    case round =>
      obtain ⟨i, U', i0, i1, rfl, hF, hUl, hUt, hbw, hkw, ho⟩ := hrel
      by_cases hi : i < V.length
      · obtain ⟨vb, vo, rfl, hcv⟩ := ho.rd (by intro e; rw [e] at hi; simp at hi; omega)
        have d1 := hcv.at i i0 hi
        have cu := cell_of_one hF.hu
        have hxU : (x : Int) < U'.length := by omega
        have hxN : x < U'.length := by omega
        have cx := hF.row.cell (x := (x : Int)) (by omega) hxU
        rw [Int.toNat_natCast] at cx
        have fx := hF.row.free x
        have htk := take_nextA V i0 hi
        obtain ⟨s, hs⟩ : ∃ s, s = nth V i := ⟨_, rfl⟩
        rw [← hs] at d1 htk
        have hset := hF.set x s
        have hkb := hkw.trans (show KeepI gu wr (wr.setCell ⟨gu, x, none⟩ (.int .i64 s)) from fun j c fr _ hne => heap_setCell_other wr _ j _ hne)
        have hbb : Below C w (wr.setCell ⟨gu, x, none⟩ (.int .i64 s)) := hbw.setCell hC.2.2.2.2 _
        have hst := take_set_succ U' x s hxN
        rw [hUt] at hst
        have cf := cell_of_one hset.hf
        have hwr : w.heap.size ≤ wr.heap.size := hbw.size
        have hszs : lo ≤ (wr.setCell ⟨gu, x, none⟩ (.int .i64 s)).heap.size := by have := hbb.size; omega
        have hrow : V.flatMap g = (V.take i.toNat).flatMap g ++ (g s ++ (V.drop (i + 1).toNat).flatMap g) := by
          have e1 : V.flatMap g = (V.take (i + 1).toNat).flatMap g ++ (V.drop (i + 1).toNat).flatMap g := by rw [← List.flatMap_append, List.take_append_drop]
          rw [e1, htk, List.flatMap_append, List.append_assoc]
          congr 1
          simp
        have hbd : (T ++ (V.take i.toNat).flatMap g).length + (latF n k ((U'.set x s).take (x + 1))).length ≤ 1073741824 := by
          have := HT.out
          rw [hst, HG.out, List.length_append]
          rw [hrow, List.length_append, List.length_append] at this
          omega
        have hcall := IH.out (x + 1) (U'.set x s) (T ++ (V.take i.toNat).flatMap g) (wr.setCell ⟨gu, x, none⟩ (.int .i64 s)) (by omega) (by rw [List.length_set]; omega) hbd hszs hset
        rw [show ((x + 1 : Nat) : Int) = (x : Int) + 1 by omega] at hcall
        have HC := Lib.hid hcall
        have TK := Lib.hid htk
        have ST := Lib.hid hst
        have FS := Lib.hid hset
        clear hcall htk hst hrow hbd hs hcv hset
        go_wp2_with (go_at_call 86; refine HC.out.mono ?_; rintro e w5 ⟨U3, rfl, hF3, hl3, ht3, hb3, hk3⟩)
        go_roundw
        case rel =>
          rw [List.length_set] at hl3
          have ht4 := take_less ht3
          rw [List.take_set_of_le (Nat.le_refl x), hUt] at ht4
          have hk5 := hkb.trans hk3
          have hlg : gu < w.heap.size := by omega
          refine ⟨i + 1, U3, by omega, by omega, rfl, ?_, by omega, ht4, hbb.trans hb3, hk5, ?_⟩
          · rw [TK.out, List.flatMap_append, ← List.append_assoc]
            have : [s].flatMap g = latF n k ((U'.set x s).take (x + 1)) := by rw [ST.out, HG.out]; simp
            rw [this]
            exact hF3
          · have hk6 : KeepI gu wr w5 := (show KeepI gu wr (wr.setCell ⟨gu, x, none⟩ (.int .i64 s)) from fun j c fr _ hne => heap_setCell_other wr _ j _ hne).trans hk3
            exact hk6.own ho hlg
        case measure => simp [intOf]; omega
      · have e : i = V.length := by omega
        have e2 : V.take i.toNat = V := List.take_of_length_le (by omega)
        rw [e2] at hF
        clear e2
        go_wp2
        refine bodyPost_ret (results_none rfl _ _ _) rfl ?_
        exact ⟨U', rfl, hF, hUl, by rw [hUt]; exact HH.out, hbw, hkw⟩
end Go.Proofs.Ytmlbdlobdnhimaa

namespace Go.Proofs.Ytmlbdlobdnhimaa
open Go.RowKit

/-- all lattices of n, where n is within the bounds -/
def allI4 (n : Int) : List (List Int) := if 1 ≤ n ∧ n ≤ 5 then latF n n.toNat [] else []
theorem allI4_in {n : Int} (h : 1 ≤ n ∧ n ≤ 5) : allI4 n = latF n n.toNat [] := if_pos h
theorem allI4_out {n : Int} (h : ¬ (1 ≤ n ∧ n ≤ 5)) : allI4 n = [] := if_neg h
/-- a table of the call's own, empty ones too -/
def RetTab (B : Nat) (T : List (List Int)) (w : World) (e : Ending) (w' : World) : Prop := ∃ b c, e = .returned (.slice b T.length c) ∧ RowsAt B w' (.slice b T.length c) T ∧ Below w.heap.size w w'
theorem RetRows.tab {B : Nat} {T : List (List Int)} {w w' : World} {e : Ending} (h : RetRows B T w e w') : RetTab B T w e w' := by
  obtain ⟨G, c, rfl, hr, hb⟩ := h.parts
  exact ⟨_, c, rfl, hr, hb⟩
set_option maxRecDepth 100000 in
set_option maxHeartbeats 1000000 in
/-- spec.AllLattices -/
theorem specAllLattices_any (n : Int) (w : World) : Calls Try.prog 52 #[.int .i64 n] w (RetTab w.heap.size (allI4 n) w) := by
  by_cases hn : 1 ≤ n ∧ n ≤ 5
  · obtain ⟨n1, n5⟩ := hn
    have hv := Lib.hid (allI4_in ⟨n1, n5⟩)
    have hb1 : (decide (1 ≤ n) && decide (n ≤ 5)) = true := by rw [decide_eq_true n1, decide_eq_true n5]; rfl
    go_enter Try.func52, Try.ntmps52
    go_wp2_with fail
    refine (inRange_any n 1 5 w).mono ?_
    rw [hb1]
    rintro e w1 ⟨rfl, rfl⟩
    go_wp2_with fail
    refine (latF_all n (by omega) n5 w).mono ?_
    rintro e w2 ⟨G, cap, rfl, hT, hb⟩
    go_wp2
    go_ret
    rw [hv.out]
    exact ⟨_, cap, rfl, hT, hb⟩
  · have hv := Lib.hid (allI4_out hn)
    have hb1 : (decide (1 ≤ n) && decide (n ≤ 5)) = false := by
      rw [Bool.eq_false_iff]
      intro h
      rw [Bool.and_eq_true, decide_eq_true_eq, decide_eq_true_eq] at h
      exact hn h
    go_enter Try.func52, Try.ntmps52
    go_wp2_with fail
    refine (inRange_any n 1 5 w).mono ?_
    rw [hb1]
    rintro e w1 ⟨rfl, rfl⟩
    go_wp2
    go_ret
    rw [hv.out]
    exact ⟨none, 0, rfl, RowsAt.nothing _ _, Below.refl _ _⟩
/-- the boxes that AllLattices lays -/
def fillW (n : Int) (w : World) : World := ((((w.alloc (.cells #[.int .i64 n] 3)).alloc (.cells #[.slice none 0 0] 42)).alloc (.cells (IL (List.replicate n.toNat 0)) 3)).alloc (.cells #[.slice (some ⟨w.heap.size + 1 + 1, 0, none⟩) n.toNat n.toNat] 23)).alloc (.cells #[.nilFunc] 72)
def fillF (w : World) : Value := .func (.func 86) #[] #[.pointer (some ⟨w.heap.size, 0, none⟩), .pointer (some ⟨w.heap.size + 1 + 1 + 1, 0, none⟩), .pointer (some ⟨w.heap.size + 1, 0, none⟩), .pointer (some ⟨w.heap.size + 1 + 1 + 1 + 1, 0, none⟩)]
theorem fill_start (n : Int) (w : World) :
    (fillW n w).heap[w.heap.size + 1 + 1 + 1 + 1]? = some (.cells #[.nilFunc] 72 (0, 0)) ∧ (fillW n w).setRow (w.heap.size + 1 + 1 + 1 + 1) #[fillF w] = (fillW n w).setCell ⟨w.heap.size + 1 + 1 + 1 + 1, 0, none⟩ (fillF w) ∧
    FillSt ((fillW n w).setCell ⟨w.heap.size + 1 + 1 + 1 + 1, 0, none⟩ (fillF w)) (w.heap.size + 1 + 1 + 1 + 1 + 1) n w.heap.size (w.heap.size + 1 + 1 + 1) (w.heap.size + 1) (w.heap.size + 1 + 1 + 1 + 1) (w.heap.size + 1 + 1) (List.replicate n.toNat 0) [] ∧
    Below w.heap.size w ((fillW n w).setCell ⟨w.heap.size + 1 + 1 + 1 + 1, 0, none⟩ (fillF w)) ∧ ((fillW n w).setCell ⟨w.heap.size + 1 + 1 + 1 + 1, 0, none⟩ (fillF w)).heap.size = w.heap.size + 1 + 1 + 1 + 1 + 1 := by
  have h0 : (fillW n w).heap[w.heap.size]? = some (.cells #[.int .i64 n] 3 (0, 0)) := by
    unfold fillW
    rw [Below.heap_alloc _ _ _ (by simp; try omega), Below.heap_alloc _ _ _ (by simp; try omega), Below.heap_alloc _ _ _ (by simp; try omega), Below.heap_alloc _ _ _ (by simp; try omega)]
    exact heap_alloc_new w _
  have h1 : (fillW n w).heap[w.heap.size + 1]? = some (.cells #[.slice none 0 0] 42 (0, 0)) := by
    have := heap_alloc_new (w.alloc (.cells #[.int .i64 n] 3)) (.cells #[.slice none 0 0] 42)
    simp only [World.size_alloc] at this
    unfold fillW
    rw [Below.heap_alloc _ _ _ (by simp; try omega), Below.heap_alloc _ _ _ (by simp; try omega), Below.heap_alloc _ _ _ (by simp; try omega)]
    exact this
  have h2 : (fillW n w).heap[w.heap.size + 1 + 1]? = some (.cells (IL (List.replicate n.toNat 0)) 3 (0, 0)) := by
    have := heap_alloc_new ((w.alloc (.cells #[.int .i64 n] 3)).alloc (.cells #[.slice none 0 0] 42)) (.cells (IL (List.replicate n.toNat 0)) 3)
    simp only [World.size_alloc] at this
    unfold fillW
    rw [Below.heap_alloc _ _ _ (by simp; try omega), Below.heap_alloc _ _ _ (by simp; try omega)]
    exact this
  have h3 : (fillW n w).heap[w.heap.size + 1 + 1 + 1]? = some (.cells #[.slice (some ⟨w.heap.size + 1 + 1, 0, none⟩) n.toNat n.toNat] 23 (0, 0)) := by
    have := heap_alloc_new (((w.alloc (.cells #[.int .i64 n] 3)).alloc (.cells #[.slice none 0 0] 42)).alloc (.cells (IL (List.replicate n.toNat 0)) 3)) (.cells #[.slice (some ⟨w.heap.size + 1 + 1, 0, none⟩) n.toNat n.toNat] 23)
    simp only [World.size_alloc] at this
    unfold fillW
    rw [Below.heap_alloc _ _ _ (by simp; try omega)]
    exact this
  have h4 : (fillW n w).heap[w.heap.size + 1 + 1 + 1 + 1]? = some (.cells #[.nilFunc] 72 (0, 0)) := by
    have := heap_alloc_new ((((w.alloc (.cells #[.int .i64 n] 3)).alloc (.cells #[.slice none 0 0] 42)).alloc (.cells (IL (List.replicate n.toNat 0)) 3)).alloc (.cells #[.slice (some ⟨w.heap.size + 1 + 1, 0, none⟩) n.toNat n.toNat] 23)) (.cells #[.nilFunc] 72)
    simp only [World.size_alloc] at this
    exact this
  have D : ∀ {b : Nat} {o : Obj}, b < w.heap.size + 1 + 1 + 1 + 1 → (fillW n w).heap[b]? = some o → ((fillW n w).setCell ⟨w.heap.size + 1 + 1 + 1 + 1, 0, none⟩ (fillF w)).heap[b]? = some o := fun {b o} hb ho => by
    rw [heap_setCell_other _ _ b _ (by show b ≠ w.heap.size + 1 + 1 + 1 + 1; omega)]; exact ho
  have hl : (List.replicate n.toNat (0 : Int)).length = n.toNat := List.length_replicate
  refine ⟨h4, (setCell_eq_setRow _ _ 0 _ _ _ _ h4).symm, ⟨D (by omega) h0, ?_, D (by omega) h2, ⟨_, D (by omega) h1, RowsD.nothing _ _⟩, ?_, ⟨by omega, by omega, by omega, by omega, by omega⟩, by omega⟩, ?_, ?_⟩
  · rw [hl]; exact D (by omega) h3
  · rw [heap_setCell_same _ _ 0 _ _ _ h4]; rfl
  · refine Below.setCell ?_ (by show w.heap.size ≤ w.heap.size + 1 + 1 + 1 + 1; omega) _
    unfold fillW
    exact (((((Below.refl _ _).alloc (Nat.le_refl _) _).alloc (by simp) _).alloc (by simp; omega) _).alloc (by simp; omega) _).alloc (by simp; omega) _
  · unfold fillW; simp
/-- rows apart are handed back -/
def RetTabD (B : Nat) (T : List (List Int)) (w : World) (e : Ending) (w' : World) : Prop := ∃ b c, e = .returned (.slice b T.length c) ∧ RowsD B w' (.slice b T.length c) T ∧ Below w.heap.size w w'
set_option maxRecDepth 100000 in
set_option maxHeartbeats 2000000 in
/-- impl.AllLattices -/
theorem implAllLattices_D (n : Int) (w : World) : Calls Try.prog 50 #[.int .i64 n] w (RetTabD w.heap.size (allI4 n) w) := by
  have c0 := cell_of_one (heap_alloc_new w (.cells #[.int .i64 n] 3))
  by_cases h1 : n < 1
  · have hv := Lib.hid (allI4_out (n := n) (by omega))
    go_enter Try.func50, Try.ntmps50
    go_wp2
    go_ret
    rw [hv.out]
    exact ⟨none, 0, rfl, RowsD.nothing _ _, (Below.refl _ _).alloc (Nat.le_refl _) _⟩
  · by_cases h5 : 5 < n
    · have hv := Lib.hid (allI4_out (n := n) (by omega))
      go_enter Try.func50, Try.ntmps50
      go_wp2
      go_ret
      rw [hv.out]
      exact ⟨none, 0, rfl, RowsD.nothing _ _, (Below.refl _ _).alloc (Nat.le_refl _) _⟩
    · have n1 : 1 ≤ n := by omega
      have n5 : n ≤ 5 := by omega
      have hv := Lib.hid (allI4_in ⟨n1, n5⟩)
      have hmk := run_make_ints n.toNat (by omega)
      rw [Int.toNat_of_nonneg (by omega)] at hmk
      go_enter Try.func50, Try.ntmps50
      obtain ⟨q1, q2, q3, q4, q5⟩ := fill_start n w
      obtain ⟨w6, hw6⟩ : ∃ w6, w6 = (fillW n w).setRow (w.heap.size + 1 + 1 + 1 + 1) #[fillF w] := ⟨_, rfl⟩
      rw [← q2, ← hw6] at q3 q4 q5
      have cf := cell_of_one q3.hf
      have HF := Lib.hid q3
      have HB := Lib.hid q4
      have hsz := q5
      have Q1 := Lib.hid q1
      clear q1 q2
      have hlen : (List.replicate n.toNat (0 : Int)).length = n.toNat := List.length_replicate
      have HC := Lib.hid (show ∀ w6 : World, FillSt w6 (w.heap.size + 1 + 1 + 1 + 1 + 1) n w.heap.size (w.heap.size + 1 + 1 + 1) (w.heap.size + 1) (w.heap.size + 1 + 1 + 1 + 1) (w.heap.size + 1 + 1) (List.replicate n.toNat 0) [] → w.heap.size + 1 + 1 + 1 + 1 + 1 ≤ w6.heap.size →
          Calls Try.prog 86 #[.int .i64 0, .pointer (some ⟨w.heap.size, 0, none⟩), .pointer (some ⟨w.heap.size + 1 + 1 + 1, 0, none⟩), .pointer (some ⟨w.heap.size + 1, 0, none⟩), .pointer (some ⟨w.heap.size + 1 + 1 + 1 + 1, 0, none⟩)] w6
            (RetFill w.heap.size (w.heap.size + 1 + 1 + 1 + 1 + 1) n w.heap.size (w.heap.size + 1 + 1 + 1) (w.heap.size + 1) (w.heap.size + 1 + 1 + 1 + 1) (w.heap.size + 1 + 1) (List.replicate n.toNat 0) 0 (latF n n.toNat []) w6) from fun w6 hf hs => by
        have hb := latF_bound n5 n.toNat []
        have hp : 32 ^ n.toNat ≤ 32 ^ 5 := Nat.pow_le_pow_right (by decide) (by omega)
        have h5 : 32 ^ 5 = 33554432 := by decide
        have := fill_any w.heap.size (w.heap.size + 1 + 1 + 1 + 1 + 1) n w.heap.size (w.heap.size + 1 + 1 + 1) (w.heap.size + 1) (w.heap.size + 1 + 1 + 1 + 1) (w.heap.size + 1 + 1) (by omega) n1 n5 n.toNat 0 (List.replicate n.toNat 0) [] w6 (by omega) (by omega) (by rw [List.take_zero]; simp only [List.length_nil]; omega) hs hf
        rw [List.take_zero, List.nil_append] at this
        exact this)
      clear q3 q4 q5 hlen
      have H6 := Lib.hid hw6
      clear hw6
      go_wp2_with (first
        | go_skip
        | (refine wpList_store_one rfl 72 _ _ rfl (w.heap.size + 1 + 1 + 1 + 1) rfl rfl 72 .nilFunc Q1.out rfl ?_; show wpList Try.prog _ _ _ _ ((fillW n w).setRow (w.heap.size + 1 + 1 + 1 + 1) #[fillF w]); rw [← H6.out])
        | (go_at_call 86; refine (HC.out _ HF.out (by rw [hsz]; omega)).mono ?_; rintro e w7 ⟨U', rfl, hF, hl, ht, hb7, hk⟩; obtain ⟨v, hv7, hr7⟩ := hF.ha; have c7 := cell_of_one hv7))
      obtain ⟨b, c, rfl, _⟩ := hr7.at.rd
      go_ret
      rw [hv.out]
      exact ⟨b, c, rfl, hr7.from (by omega), HB.out.trans hb7⟩
theorem implAllLattices_any (n : Int) (w : World) : Calls Try.prog 50 #[.int .i64 n] w (RetTab w.heap.size (allI4 n) w) :=
  (implAllLattices_D n w).mono fun e w' h => by
    obtain ⟨b, c, rfl, hr, hb⟩ := h
    exact ⟨b, c, rfl, hr.at, hb⟩
end Go.Proofs.Ytmlbdlobdnhimaa
