import Derived.Test.YthjbfdoclifhoaaL5
import Derived.Scope
import Derived.WalkMore
import Derived.ScopeJumps
import Derived.Test.YthjbfdoclifhoaaCD9
import Derived.Deep.MidRow
import Derived.Great.BuildSlice
/- A scope in which the run jumps to several labels: what holds at each jump, with a number that every pass from a label lowers. -/
namespace Go.Proofs.Ythjbfdoclifhoaa
open Go

/-- As Q; by a goto to a label: what J says of it. -/
def jumpsX (J : Nat → Act → World → Prop) (Q : Exit → Act → World → Prop) : Exit → Act → World → Prop
  | .goto l, a, w => J l a w
  | e, a, w => Q e a w
theorem scope_multi {P : Program} {a : Act} {w : World} {Q : Exit → Act → World → Prop} {c : Code} (J : Nat → Nat → Act → World → Prop)
    (first : c.wp P (jumpsX (fun l a w => ∃ f, J l f a w) Q) a w)
    (pass : ∀ l f a w, J l f a w → ∃ rest, findLabel c l = some rest ∧ rest.wp P (jumpsX (fun l' a' w' => ∃ f', f' < f ∧ J l' f' a' w') Q) a w) : (Code.scope c).wp P Q a w := by
  intro b k cs
  have key : ∀ (f l : Nat) (a : Act) (w : World), J l f a w → ∀ rest, findLabel c l = some rest → ∃ e a' w', Q e a' w' ∧ Arrives P (lone (b.at a (.code rest :: .inScope c :: k)) cs w) b k cs e a' w' := by
    intro f
    induction f using Nat.strongRecOn with
    | _ f ih =>
      intro l a w hJ rest hrest
      obtain ⟨rest', hf, hp⟩ := pass l f a w hJ
      rw [hrest] at hf
      injection hf with hf
      subst hf
      obtain ⟨e, a₁, w₁, hq, harr⟩ := hp b (.inScope c :: k) cs
      cases e with
      | normal => exact ⟨.normal, a₁, w₁, hq, Steps.trans harr (.one step_inScope)⟩
      | exit id => exact ⟨.exit id, a₁, w₁, hq, fun k' hk => harr k' (by simp [exitTo, hk])⟩
      | goto l' =>
        obtain ⟨f', hlt, hJ'⟩ := hq
        obtain ⟨rest2, hf2, _⟩ := pass l' f' a₁ w₁ hJ'
        obtain ⟨e₂, a₂, w₂, hq₂, harr₂⟩ := ih f' hlt l' a₁ w₁ hJ' rest2 hf2
        have hg : gotoIn l' (.inScope c :: k) = some (.code rest2 :: .inScope c :: k) := by simp [gotoIn, hf2]
        exact ⟨e₂, a₂, w₂, hq₂, .of_steps (harr _ hg) harr₂⟩
      | ret => exact ⟨_, a₁, w₁, hq, harr⟩
      | panic ch => exact ⟨_, a₁, w₁, hq, harr⟩
      | outgrown => exact ⟨_, a₁, w₁, hq, harr⟩
  obtain ⟨e, a₁, w₁, hq, harr⟩ := first b (.inScope c :: k) cs
  cases e with
  | normal => exact ⟨.normal, a₁, w₁, hq, .head step_scope (Steps.trans harr (.one step_inScope))⟩
  | exit id => exact ⟨.exit id, a₁, w₁, hq, fun k' hk => .head step_scope (harr k' (by simp [exitTo, hk]))⟩
  | goto l' =>
    obtain ⟨f, hJ'⟩ := hq
    obtain ⟨rest2, hf2, _⟩ := pass l' f a₁ w₁ hJ'
    obtain ⟨e₂, a₂, w₂, hq₂, harr₂⟩ := key f l' a₁ w₁ hJ' rest2 hf2
    have hg : gotoIn l' (.inScope c :: k) = some (.code rest2 :: .inScope c :: k) := by simp [gotoIn, hf2]
    exact ⟨e₂, a₂, w₂, hq₂, .of_steps (.head step_scope (harr _ hg)) harr₂⟩
  | ret => exact ⟨_, a₁, w₁, hq, .of_steps (.one step_scope) harr⟩
  | panic ch => exact ⟨_, a₁, w₁, hq, .of_steps (.one step_scope) harr⟩
  | outgrown => exact ⟨_, a₁, w₁, hq, .of_steps (.one step_scope) harr⟩
end Go.Proofs.Ythjbfdoclifhoaa

namespace Go.Proofs.Ythjbfdoclifhoaa
open Go.RowKit
set_option linter.unusedVariables false

/-- a table's cells -/
def tabC (T : List (List Int)) : List Value := (tab2 (iv (tv T))).toList
theorem tabC_len (T : List (List Int)) : (tabC T).length = 36 := by unfold tabC; rw [Array.length_toList]; exact tab2_size _
/-- a list of tables in a row of its own -/
def TabR (B : Nat) (w : World) (v : Value) (R : List (List (List Int))) : Prop := w.ownsRow B 48 36 v R.length (R.flatMap tabC)
theorem TabR.grown {B d : Nat} {w w' : World} {v : Value} {R : List (List (List Int))} (h : TabR B w v R) (hg : w.grownBy w' (some d)) (hd : d < B) : TabR B w' v R :=
  World.ownsRow.kept h hg (.inr (fun e => by have := (World.ownsRow.lt h d e).1; omega))
/-- the world where the search stands -/
structure StW (w0 : World) (d m c p n : Nat) (pa : Option Addr) (s : DS) (v : Value) (w : World) : Prop where
  db : DrB w d (n : Int) (iv (tv s.T)) (.slice pa m c) (.int .i64 (s.k : Int))
  pl : 0 < m → PlB w p m (fun k => (plX n k : Int)) (fun k => (plY n k : Int))
  tb : TabR w0.heap.size w v s.R
  gr : w0.grownBy w (some d)
theorem StW.grow {w0 w w' : World} {d m c p n : Nat} {pa : Option Addr} {s : DS} {v : Value} (S : StW w0 d m c p n pa s v w) (hd : d < w0.heap.size) (hg : w.grownBy w' (some d)) {T' : List (List Int)} {k' m' : Nat} {z' : Int}
    (hdb : DrB w' d (n : Int) (iv (tv T')) (.slice pa m c) (.int .i64 (k' : Int))) (hpl : 0 < m → PlB w' p m (fun k => (plX n k : Int)) (fun k => (plY n k : Int))) : StW w0 d m c p n pa ⟨m', T', k', z', s.R⟩ v w' :=
  ⟨hdb, hpl, S.tb.grown hg hd, grown_trans S.gr hg⟩
theorem StW.drew {w0 w : World} {d m c p n : Nat} {pa : Option Addr} {s : DS} {v : Value} (S : StW w0 d m c p n pa s v w) : StW w0 d m c p n pa s v w.drew := ⟨S.db, S.pl, S.tb, grown_dr0 S.gr⟩
theorem drA_row (n : Int) (f : Int → Int → Value) (pv kv : Value) {j : Nat} (hj : j < 36) : (drA n f pv kv)[1 + j]? = (tab2 f)[j]? := by
  unfold drA
  rw [Array.getElem?_append_right (by simp), Array.getElem?_append_left (by rw [tab2_size]; simp; omega)]
  congr 1
  simp
theorem DrB.range {w : World} {d : Nat} {n : Int} {T : List (List Int)} {pv kv : Value} (h : DrB w d n (iv (tv T)) pv kv) : w.rangeAt d 1 (tabC T) := fun j v hv => by
  have hj : j < 36 := by have := (List.getElem?_eq_some_iff.1 hv).1; rw [tabC_len] at this; exact this
  rw [cell_of_row w d _ _ _ _ h, drA_row _ _ _ _ hj, ← hv]
  unfold tabC
  exact (Array.getElem?_toList).symm
theorem fill_tab (f : Int → Int → Value) (z : Value) (n : Nat) (hn : n = 36) : Instr.fill (fun i => some (i * n, n)) ((Array.range (1 * n)).map (z.cells[· % z.cells.size]!)) [(0, .agg (tab2 f))] = some (tab2 f) := by
  subst hn
  exact (Great.fill_whole (s := 36) (by omega) [.agg (tab2 f)] _ (by simp [Value.cells, tab2_size]) (by simp)).trans (by simp [Value.cells])
theorem info_tabZ : (Try.prog.info? 48).map (fun i => (i.zero, i.size, i.bytes)) = some (some (.agg (tab2 fun _ _ => .int .i64 0)), 36, 288) := by kernel_rfl
theorem size_tabC (T : List (List Int)) : (Try.prog.info? 48).map (·.size) = some (tabC T).length := by rw [tabC_len]; kernel_rfl
theorem one_tabC (T : List (List Int)) : ∀ u ∈ tabC T, u.oneCell' = true := fun u hu => by
  unfold tabC tab2 at hu
  simp only [List.mem_map] at hu
  obtain ⟨i, _, rfl⟩ := hu
  rfl
theorem tab_news (T : List (List Int)) (w : World) : ∀ (j : Nat) (u : Value), (tabC T)[j]? = some u → (w.alloc (.cells (tab2 (iv (tv T))) 48)).cell? ((⟨w.heap.size, 0, none⟩ : Addr).add j) = some u := fun j u hu => by
  refine (World.news_of_block (cs := tab2 (iv (tv T))) (t := 48) (fr := (0, 0)) (heap_alloc_new w _)) j u ?_
  exact hu
theorem wpList_append_tab {ops : Array Oper} {rest : List Oper} {o : Oper} {a : Act} {Q : Exit → Act → World → Prop} (hgd : o.guard = none) (s x : Operand)
    (ho : o.op = .call { callee := .builtin .append, args := #[s, x], argTypes := #[42, 42] }) (B : Nat) (v : Value) (R : List (List (List Int))) (T : List (List Int)) (w : World) (hs : a.eval s = v) (hown : TabR B w v R)
    (g : Nat) (hx : a.eval x = .slice (some ⟨g, 0, none⟩) 1 1) (hg : w.heap[g]? = some (.cells (tab2 (iv (tv T))) 48 (0, 0))) (hR : R.length ≤ 1000) (hB : B ≤ w.heap.size)
    (h : ∀ v' w', TabR B w' v' (R ++ [T]) → w.grownBy w' v.ownBlock → wpList Try.prog ops Q rest (a.put o.dst v') w') : wpList Try.prog ops Q (o :: rest) a w := by
  obtain ⟨i0, hi, hz0, hz1, hz2⟩ := info_parts info_tabZ
  refine wpList_append_own w hgd s x 42 ho B 48 i0 (.agg (tab2 fun _ _ => .int .i64 0)) 36 288 Try.underlying42 hi hz0 hz1 hz2 (tab2_size (fun _ _ => .int .i64 0)) (by decide) v R.length (R.flatMap tabC) hs hown ⟨g, 0, none⟩ 1 1 (tabC T) hx (tabC_len T) ?_ (one_tabC T) (by unfold maxLen; omega) (by omega) hB ?_
  · exact World.news_of_block (cs := tab2 (iv (tv T))) (t := 48) (fr := (0, 0)) hg
  · intro v' w' h1 h2 _
    refine h v' w' ?_ h2
    unfold TabR
    rw [List.length_append, List.flatMap_append]
    simpa using h1
/-- what holds at a jump -/
def JF (w0 : World) (d m c p n : Nat) (pa : Option Addr) (Rf : List (List (List Int))) (l f : Nat) (a : Act) (wr : World) : Prop := ∃ (s : DS) (v : Value) (u1 u5 u6 u7 u8 u9 u10 u11 u12 u13 u14 u15 u16 u17 u18 u19 u20 u21 u22 u23 u24 u25 u26 u27 u28 u29 u30 u31 u32 u33 u34 u35 u36 u37 u38 : Value), s.m ≤ 2 ∧ (l = if s.m = 0 then 1 else if s.m = 1 then 2 else 0) ∧ runX n f s = true ∧ runD n f s = some Rf ∧ StW w0 d m c p n pa s v wr ∧
    a = { tmps := #[.pointer (some ⟨d, 0, none⟩), u1, .slice none 0 0, v, .int .i64 s.z, u5, u6, u7, u8, u9, u10, u11, u12, u13, u14, u15, u16, u17, u18, u19, u20, u21, u22, u23, u24, u25, u26, u27, u28, u29, u30, u31, u32, u33, u34, u35, u36, u37, u38], defers := [] }
theorem step0_full {n k : Nat} {T : List (List Int)} {z : Int} {R : List (List (List Int))} (h : k = (plN n).length) : stepD n ⟨0, T, k, z, R⟩ = ⟨2, T, k, z, R ++ [T]⟩ := by unfold stepD; rw [if_pos rfl, if_pos h]
theorem step0_least {n k : Nat} {T : List (List Int)} {z : Int} {R : List (List (List Int))} (h : ¬ k = (plN n).length) : stepD n ⟨0, T, k, z, R⟩ = ⟨1, T, k, leastD T (plX n k) (plY n k), R⟩ := by unfold stepD; rw [if_pos rfl, if_neg h]
theorem step1_over {n k : Nat} {T : List (List Int)} {z : Int} {R : List (List (List Int))} (h : (plX n k : Int) < z) : stepD n ⟨1, T, k, z, R⟩ = ⟨2, T, k, z, R⟩ := by unfold stepD; rw [if_neg (by show ¬ (1 = 0); omega), if_pos rfl, if_pos h]
theorem step1_fits {n k : Nat} {T : List (List Int)} {z : Int} {R : List (List (List Int))} (h : ¬ (plX n k : Int) < z) (h2 : sameD n (set2 T (plX n k) (plY n k) z) = true) : stepD n ⟨1, T, k, z, R⟩ = ⟨0, set2 T (plX n k) (plY n k) z, k + 1, z, R⟩ := by unfold stepD; rw [if_neg (by show ¬ (1 = 0); omega), if_pos rfl, if_neg h, if_pos h2]
theorem step1_no {n k : Nat} {T : List (List Int)} {z : Int} {R : List (List (List Int))} (h : ¬ (plX n k : Int) < z) (h2 : sameD n (set2 T (plX n k) (plY n k) z) = false) : stepD n ⟨1, T, k, z, R⟩ = ⟨1, T, k, z + 1, R⟩ := by unfold stepD; rw [if_neg (by show ¬ (1 = 0); omega), if_pos rfl, if_neg h, if_neg (by rw [h2]; simp)]
theorem step2 {n k : Nat} {T : List (List Int)} {z : Int} {R : List (List (List Int))} : stepD n ⟨2, T, k, z, R⟩ = ⟨1, set2 T (plX n (k - 1)) (plY n (k - 1)) (-1), k - 1, tv T (plX n (k - 1)) (plY n (k - 1)) + 1, R⟩ := by unfold stepD; rw [if_neg (by show ¬ (2 = 0); omega), if_neg (by show ¬ (2 = 1); omega)]
set_option maxRecDepth 100000 in
set_option maxHeartbeats 8000000 in
/-- (*impl.draft).fillings -/
theorem drFillings_any (d m c p n : Nat) (pa : Option Addr) (w : World) (Rf : List (List (List Int))) (hn1 : 1 ≤ n) (hn : n ≤ 5) (hm : m = (plN n).length) (hm6 : m ≤ 6)
    (h : DrB w d (n : Int) (iv (tv (dr0 n))) (.slice pa m c) (.int .i64 (0 : Int))) (hpa : 0 < m → pa = some ⟨p, 0, none⟩ ∧ p ≠ d) (hP : 0 < m → PlB w p m (fun k => (plX n k : Int)) (fun k => (plY n k : Int)))
    (hpl : plOk n = true) (hrun : runX n 1000 ⟨0, dr0 n, 0, 0, []⟩ = true) (hres : runD n 1000 ⟨0, dr0 n, 0, 0, []⟩ = some Rf) :
    Calls Try.prog 19 #[.pointer (some ⟨d, 0, none⟩)] w fun e w' => ∃ v, e = .returned v ∧ TabR w.heap.size w' v Rf ∧ w.grownBy w' (some d) := by
  have hd := h.lt
  have S0 : StW w d m c p n pa ⟨0, dr0 n, 0, 0, []⟩ (.slice none 0 0) w := ⟨h, hP, World.ownsRow_nil _ _ _ _, grown_refl w _⟩
  go_enter Try.func19, Try.ntmps19
  go_wp2
  refine scope_multi (JF w d m c p n pa Rf) ?_ ?_
  · go_wp2
    go_step3
    obtain ⟨T, k, wr, hX, hD, hS, hwr⟩ : ∃ (T : List (List Int)) (k : Nat) (wr : World), runX n 1000 ⟨0, T, k, 0, []⟩ = true ∧ runD n 1000 ⟨0, T, k, 0, []⟩ = some Rf ∧ StW w d m c p n pa ⟨0, T, k, 0, []⟩ (.slice none 0 0) wr ∧ wr = w := ⟨dr0 n, 0, w, hrun, hres, S0, rfl⟩
    rw [← hwr]
    clear hwr hrun hres S0 h
    obtain ⟨g0, hg0, ok, hstep⟩ := runX_ok hX
    rw [hg0] at hD
    have hX2 := (hstep.resolve_left (fun h => by have h1 := h.1; simp at h1)).2
    have hD2 := runD_on hD (fun h => by have h1 := h.1; simp at h1)
    have hdb := hS.db
    simp only [] at hdb
    have HI := Lib.hid (drIsFull_any d m c pa (n : Int) (iv (tv T)) k wr hdb)
    have hS1 := hS.drew
    have hR1 : ([] : List (List (List Int))).length ≤ 1000 := ok.R
    by_cases hk : k = (plN n).length
    · rw [step0_full hk] at hX2 hD2
      have f1 : ((k : Int) == (m : Int)) = true := by rw [beq_iff_eq]; omega
      rw [f1] at HI
      obtain ⟨i0, hi, hz0, hz1, hz2⟩ := info_parts info_tabZ
      have HRG := Lib.hid (DrB.range (w := wr.drew) hS1.db)
      have hbase : w.heap.size ≤ (wr.drew.alloc (.cells (tab2 (iv (tv T))) 48)).heap.size := by have := hS.gr.size; simp; omega
      have hTB : TabR w.heap.size (wr.drew.alloc (.cells (tab2 (iv (tv T))) 48)) (Value.slice none 0 0) [] := World.ownsRow.alloc (w := wr.drew) hS1.tb _
      have HGX := Lib.hid (show (wr.drew.alloc (.cells (tab2 (iv (tv T))) 48)).heap[wr.drew.heap.size]? = some (.cells (tab2 (iv (tv T))) 48 (0, 0)) from heap_alloc_new wr.drew _)
      clear hdb
      go_wp2_with (first
        | (go_at_call 42; refine HI.out.mono ?_; rintro e w1 ⟨rfl, rfl⟩)
        | (refine wpList_load_mid_w rfl 48 _ rfl d 1 rfl (tab2 (iv (tv T))) _ HRG.out Try.underlying48 rfl (size_table _) ?_)
        | (refine wpList_buildSlice rfl 42 48 1 _ rfl (tab2 (iv (tv T))) i0 _ Try.underlying42 hi hz0 (by rw [hz1]; omega) (by rw [hz1]; omega) (Eq.trans (congrArg (Instr.fill (fun i => some (i * i0.size, i0.size)) ((Array.range (1 * i0.size)).map ((Value.agg (tab2 fun _ _ => Value.int .i64 0)).cells[· % (Value.agg (tab2 fun _ _ => Value.int .i64 0)).cells.size]!))) (by kernel_rfl : _ = [(0, .agg (tab2 (iv (tv T))))])) (fill_tab (iv (tv T)) _ _ hz1)) ?_)
        | (at_builtin; refine wpList_append_tab rfl _ _ rfl w.heap.size (Value.slice none 0 0) [] T _ rfl hTB wr.drew.heap.size rfl HGX.out hR1 hbase ?_; intro v6 w6 hown6 hgrow6))
      have hne6 : ∀ q, (Value.slice none 0 0).ownBlock = some q → w.heap.size ≤ q := fun q hq => (World.ownsRow.lt hTB q hq).1
      have hA6 : ∀ q, q < w.heap.size → w6.heap[q]? = wr.heap[q]? := fun q hq => by
        have hs := hS.gr.size
        rw [hgrow6.block q (by simp; omega) (fun e => by have := hne6 q e.symm; omega)]
        exact Below.heap_alloc wr.drew _ q (by show q < wr.heap.size; omega)
      go_step3
      exact ⟨g0, ⟨2, T, k, 0, [] ++ [T]⟩, v6, _, _, _, _, _, _, _, _, _, _, _, _, _, _, _, _, _, _, _, _, _, _, _, _, _, _, _, _, _, _, _, _, _, _, _, show (2 : Nat) ≤ 2 by decide, rfl, hX2, hD2, ⟨hS.db.same (hA6 d hd), fun h0 => (hS.pl h0).same (hA6 p (hP h0).lt), hown6, grown_app (grown_alloc hS1.gr _) hgrow6 hne6⟩, rfl⟩
    · rw [step0_least hk] at hX2 hD2
      have hkl : k ≤ (plN n).length := ok.k
      have f1 : ((k : Int) == (m : Int)) = false := by rw [beq_eq_false_iff_ne]; omega
      rw [f1] at HI
      have hkm : k < m := by omega
      obtain ⟨hpe, hne⟩ := hpa (by omega)
      subst hpe
      have hPk := pl_at hpl (show k < (plN n).length by omega)
      have HLe := Lib.hid (drLeast_any d p m c (n : Int) (iv (tv T)) (fun k => (plX n k : Int)) (fun k => (plY n k : Int)) k (k : Int) (tv T ((plX n k : Int) - 1) (plY n k)) (tv T (plX n k) ((plY n k : Int) - 1)) (leastD T (plX n k) (plY n k)) ((plX n k : Int) - 1) ((plY n k : Int) - 1) wr.drew hkm hS1.db (hS1.pl (by omega)) rfl (by show (plX n k : Int) = _; omega) (by show (plY n k : Int) = _; omega) (by omega) (by show (plX n k : Int) < 6; omega) (by omega) (by show (plY n k : Int) < 6; omega) rfl rfl rfl)
      obtain ⟨z, hz⟩ : ∃ z, z = leastD T (plX n k) (plY n k) := ⟨_, rfl⟩
      rw [← hz] at HLe hX2 hD2
      clear hz hdb
      go_wp2_with (first
        | (go_at_call 42; refine HI.out.mono ?_; rintro e w1 ⟨rfl, rfl⟩)
        | (go_at_call 43; refine HLe.out.mono ?_; rintro e wq ⟨rfl, hb2⟩))
      replace hS : StW w d m c p n (some ⟨p, 0, none⟩) ⟨1, T, k, z, []⟩ (Value.slice none 0 0) wq := hS1.grow hd (grown_of_below hb2) (hS1.db.below hb2) (fun h => (hS1.pl h).same (hb2.block _ (hS1.pl h).lt))
      have hX3 := hX2
      have hD3 := hD2
      clear hX hD hX2 hD2 ok hstep hS1 hb2 HI HLe hkm hPk hne f1 hkl hR1
      go_step3
      obtain ⟨g, rfl, ok, hstep⟩ := runX_ok hX3
      have hX2 := (hstep.resolve_left (fun h => by have h1 := h.1; simp at h1)).2
      have hD2 := runD_on hD3 (fun h => by have h1 := h.1; simp at h1)
      have hkm : k < m := by rw [hm]; exact ok.k1 rfl
      obtain ⟨_, hne⟩ := hpa (by omega)
      have hPk := pl_at hpl (ok.k1 rfl)
      have hp0 := hS.pl (by omega)
      have hdb := hS.db
      have ho := ok.op rfl
      have z0 := ok.z0
      have z6 := ok.z6
      simp only [] at ho hdb z0 z6 hPk
      have HM := Lib.hid (drMost_any d p m c (n : Int) (iv (tv T)) (fun k => (plX n k : Int)) (fun k => (plY n k : Int)) k _ hkm hdb hp0)
      have hS1 := hS.drew
      by_cases hzx : (plX n k : Int) < z
      · rw [step1_over hzx] at hX2 hD2
        clear hdb hp0
        go_wp2_with (go_at_call 44; refine HM.out.mono ?_; rintro e w1 ⟨rfl, rfl⟩)
        go_step3
        exact ⟨g, ⟨2, T, k, z, []⟩, (Value.slice none 0 0), _, _, _, _, _, _, _, _, _, _, _, _, _, _, _, _, _, _, _, _, _, _, _, _, _, _, _, _, _, _, _, _, _, _, _, show (2 : Nat) ≤ 2 by decide, rfl, hX2, hD2, ⟨hS1.db, hS1.pl, hS1.tb, hS1.gr⟩, rfl⟩
      · have hF := ok.rng
        simp only [] at hF
        have HFI := Lib.hid (drFits_any d p m c (n : Int) (tv T) (fun k => (plX n k : Int)) (fun k => (plY n k : Int)) k z _ hkm (show DrB wq.drew d (n : Int) (iv (tv T)) (.slice (some ⟨p, 0, none⟩) m c) (.int .i64 (k : Int)) from hS1.db) (hS1.pl (by omega)) (by omega) hne (by omega) (by omega) (by show 0 ≤ (plX n k : Int); omega) (by show (plX n k : Int) < 6; omega) (by show 0 ≤ (plY n k : Int); omega) (by show (plY n k : Int) < 6; omega) hF z0 (by omega) ho.1 ho.2)
        have hset : tv (set2 T (plX n k) (plY n k) z) = putF (tv T) (plX n k) (plY n k) z := tv_set2 ok.len ok.row (by omega) (by omega) (by omega) (by omega) z
        have hsame : sameF (n : Int) (putF (tv T) (plX n k) (plY n k) z) = sameD n (set2 T (plX n k) (plY n k) z) := by rw [sameD_F, hset]
        rw [hsame] at HFI
        cases hb : sameD n (set2 T (plX n k) (plY n k) z) with
        | false =>
          rw [step1_no hzx hb] at hX2 hD2
          rw [hb] at HFI
          have kz : IntKind.i64.wrap (z + 1) = z + 1 := IntWalk.i64_in _ (by omega)
          clear hdb hp0 hsame hset hF
          go_wp2_with (first
            | (go_at_call 44; refine HM.out.mono ?_; rintro e w1 ⟨rfl, rfl⟩)
            | (go_at_call 45; refine HFI.out.mono ?_; rintro e w2 ⟨rfl, hd2, hp2, hg2⟩))
          go_step3
          exact ⟨g, ⟨1, T, k, z + 1, []⟩, (Value.slice none 0 0), _, _, _, _, _, _, _, _, _, _, _, _, _, _, _, _, _, _, _, _, _, _, _, _, _, _, _, _, _, _, _, _, _, _, _, show (1 : Nat) ≤ 2 by decide, rfl, hX2, hD2, hS1.grow hd hg2 hd2 (fun _ => hp2), rfl⟩
        | true =>
          rw [step1_fits hzx hb] at hX2 hD2
          rw [hb] at HFI
          clear hdb hp0 hsame hF
          go_wp2_with (first
            | (go_at_call 44; refine HM.out.mono ?_; rintro e w1 ⟨rfl, rfl⟩)
            | (go_at_call 45; refine HFI.out.mono ?_; rintro e w2 ⟨rfl, hd2, hp2, hg2⟩)
            | (go_at_call 46; refine (drPut_any d p m c (n : Int) (iv (tv T)) (fun k => (plX n k : Int)) (fun k => (plY n k : Int)) k z w2 hkm hd2 hp2 (by omega) hne (by show 0 ≤ (plX n k : Int); omega) (by show (plX n k : Int) < 6; omega) (by show 0 ≤ (plY n k : Int); omega) (by show (plY n k : Int) < 6; omega)).mono ?_; rintro e w3 ⟨rfl, hd3, hp3, hg3⟩; replace hd3 : DrB w3 d (n : Int) (upd2 (upd2 (iv (tv T)) (plX n k) (plY n k) (.int .i64 z)) (plY n k) (plX n k) (.int .i64 z)) (.slice (some ⟨p, 0, none⟩) m c) (.int .i64 ((k : Int) + 1)) := hd3; rw [iv_put, ← hset] at hd3))
          go_step3
          exact ⟨g, ⟨0, set2 T (plX n k) (plY n k) z, k + 1, z, []⟩, (Value.slice none 0 0), _, _, _, _, _, _, _, _, _, _, _, _, _, _, _, _, _, _, _, _, _, _, _, _, _, _, _, _, _, _, _, _, _, _, _, show (0 : Nat) ≤ 2 by decide, rfl, hX2, hD2, hS1.grow hd (grown_trans hg2 hg3) (by exact_mod_cast hd3) (fun _ => hp3), rfl⟩
  · rintro l f a wr ⟨⟨m0, T, k, z, R⟩, v, u1, u5, u6, u7, u8, u9, u10, u11, u12, u13, u14, u15, u16, u17, u18, u19, u20, u21, u22, u23, u24, u25, u26, u27, u28, u29, u30, u31, u32, u33, u34, u35, u36, u37, u38, hm2, rfl, hX, hD, hS, rfl⟩
    have hm012 : m0 = 0 ∨ m0 = 1 ∨ m0 = 2 := by have : m0 ≤ 2 := hm2; omega
    rcases hm012 with rfl | rfl | rfl
    · refine ⟨_, rfl, ?_⟩
      obtain ⟨g0, hg0, ok, hstep⟩ := runX_ok hX
      rw [hg0] at hD
      have hX2 := (hstep.resolve_left (fun h => by have h1 := h.1; simp at h1)).2
      have hD2 := runD_on hD (fun h => by have h1 := h.1; simp at h1)
      have hdb := hS.db
      simp only [] at hdb
      have HI := Lib.hid (drIsFull_any d m c pa (n : Int) (iv (tv T)) k wr hdb)
      have hS1 := hS.drew
      have hR1 : (R : List (List (List Int))).length ≤ 1000 := ok.R
      by_cases hk : k = (plN n).length
      · rw [step0_full hk] at hX2 hD2
        have f1 : ((k : Int) == (m : Int)) = true := by rw [beq_iff_eq]; omega
        rw [f1] at HI
        obtain ⟨i0, hi, hz0, hz1, hz2⟩ := info_parts info_tabZ
        have HRG := Lib.hid (DrB.range (w := wr.drew) hS1.db)
        have hbase : w.heap.size ≤ (wr.drew.alloc (.cells (tab2 (iv (tv T))) 48)).heap.size := by have := hS.gr.size; simp; omega
        have hTB : TabR w.heap.size (wr.drew.alloc (.cells (tab2 (iv (tv T))) 48)) v R := World.ownsRow.alloc (w := wr.drew) hS1.tb _
        have HGX := Lib.hid (show (wr.drew.alloc (.cells (tab2 (iv (tv T))) 48)).heap[wr.drew.heap.size]? = some (.cells (tab2 (iv (tv T))) 48 (0, 0)) from heap_alloc_new wr.drew _)
        clear hdb
        go_wp2_with (first
          | (go_at_call 42; refine HI.out.mono ?_; rintro e w1 ⟨rfl, rfl⟩)
          | (refine wpList_load_mid_w rfl 48 _ rfl d 1 rfl (tab2 (iv (tv T))) _ HRG.out Try.underlying48 rfl (size_table _) ?_)
          | (refine wpList_buildSlice rfl 42 48 1 _ rfl (tab2 (iv (tv T))) i0 _ Try.underlying42 hi hz0 (by rw [hz1]; omega) (by rw [hz1]; omega) (Eq.trans (congrArg (Instr.fill (fun i => some (i * i0.size, i0.size)) ((Array.range (1 * i0.size)).map ((Value.agg (tab2 fun _ _ => Value.int .i64 0)).cells[· % (Value.agg (tab2 fun _ _ => Value.int .i64 0)).cells.size]!))) (by kernel_rfl : _ = [(0, .agg (tab2 (iv (tv T))))])) (fill_tab (iv (tv T)) _ _ hz1)) ?_)
          | (at_builtin; refine wpList_append_tab rfl _ _ rfl w.heap.size v R T _ rfl hTB wr.drew.heap.size rfl HGX.out hR1 hbase ?_; intro v6 w6 hown6 hgrow6))
        have hne6 : ∀ q, v.ownBlock = some q → w.heap.size ≤ q := fun q hq => (World.ownsRow.lt hTB q hq).1
        have hA6 : ∀ q, q < w.heap.size → w6.heap[q]? = wr.heap[q]? := fun q hq => by
          have hs := hS.gr.size
          rw [hgrow6.block q (by simp; omega) (fun e => by have := hne6 q e.symm; omega)]
          exact Below.heap_alloc wr.drew _ q (by show q < wr.heap.size; omega)
        go_step3
        exact ⟨g0, by omega, ⟨2, T, k, z, R ++ [T]⟩, v6, _, _, _, _, _, _, _, _, _, _, _, _, _, _, _, _, _, _, _, _, _, _, _, _, _, _, _, _, _, _, _, _, _, _, _, show (2 : Nat) ≤ 2 by decide, rfl, hX2, hD2, ⟨hS.db.same (hA6 d hd), fun h0 => (hS.pl h0).same (hA6 p (hP h0).lt), hown6, grown_app (grown_alloc hS1.gr _) hgrow6 hne6⟩, rfl⟩
      · rw [step0_least hk] at hX2 hD2
        have hkl : k ≤ (plN n).length := ok.k
        have f1 : ((k : Int) == (m : Int)) = false := by rw [beq_eq_false_iff_ne]; omega
        rw [f1] at HI
        have hkm : k < m := by omega
        obtain ⟨hpe, hne⟩ := hpa (by omega)
        subst hpe
        have hPk := pl_at hpl (show k < (plN n).length by omega)
        have HLe := Lib.hid (drLeast_any d p m c (n : Int) (iv (tv T)) (fun k => (plX n k : Int)) (fun k => (plY n k : Int)) k (k : Int) (tv T ((plX n k : Int) - 1) (plY n k)) (tv T (plX n k) ((plY n k : Int) - 1)) (leastD T (plX n k) (plY n k)) ((plX n k : Int) - 1) ((plY n k : Int) - 1) wr.drew hkm hS1.db (hS1.pl (by omega)) rfl (by show (plX n k : Int) = _; omega) (by show (plY n k : Int) = _; omega) (by omega) (by show (plX n k : Int) < 6; omega) (by omega) (by show (plY n k : Int) < 6; omega) rfl rfl rfl)
        obtain ⟨z, hz⟩ : ∃ z, z = leastD T (plX n k) (plY n k) := ⟨_, rfl⟩
        rw [← hz] at HLe hX2 hD2
        clear hz hdb
        go_wp2_with (first
          | (go_at_call 42; refine HI.out.mono ?_; rintro e w1 ⟨rfl, rfl⟩)
          | (go_at_call 43; refine HLe.out.mono ?_; rintro e wq ⟨rfl, hb2⟩))
        replace hS : StW w d m c p n (some ⟨p, 0, none⟩) ⟨1, T, k, z, R⟩ v wq := hS1.grow hd (grown_of_below hb2) (hS1.db.below hb2) (fun h => (hS1.pl h).same (hb2.block _ (hS1.pl h).lt))
        have hX3 := hX2
        have hD3 := hD2
        clear hX hD hX2 hD2 ok hstep hS1 hb2 HI HLe hkm hPk hne f1 hkl hR1
        go_step3
        obtain ⟨g, rfl, ok, hstep⟩ := runX_ok hX3
        have hX2 := (hstep.resolve_left (fun h => by have h1 := h.1; simp at h1)).2
        have hD2 := runD_on hD3 (fun h => by have h1 := h.1; simp at h1)
        have hkm : k < m := by rw [hm]; exact ok.k1 rfl
        obtain ⟨_, hne⟩ := hpa (by omega)
        have hPk := pl_at hpl (ok.k1 rfl)
        have hp0 := hS.pl (by omega)
        have hdb := hS.db
        have ho := ok.op rfl
        have z0 := ok.z0
        have z6 := ok.z6
        simp only [] at ho hdb z0 z6 hPk
        have HM := Lib.hid (drMost_any d p m c (n : Int) (iv (tv T)) (fun k => (plX n k : Int)) (fun k => (plY n k : Int)) k _ hkm hdb hp0)
        have hS1 := hS.drew
        by_cases hzx : (plX n k : Int) < z
        · rw [step1_over hzx] at hX2 hD2
          clear hdb hp0
          go_wp2_with (go_at_call 44; refine HM.out.mono ?_; rintro e w1 ⟨rfl, rfl⟩)
          go_step3
          exact ⟨g, by omega, ⟨2, T, k, z, R⟩, v, _, _, _, _, _, _, _, _, _, _, _, _, _, _, _, _, _, _, _, _, _, _, _, _, _, _, _, _, _, _, _, _, _, _, _, show (2 : Nat) ≤ 2 by decide, rfl, hX2, hD2, ⟨hS1.db, hS1.pl, hS1.tb, hS1.gr⟩, rfl⟩
        · have hF := ok.rng
          simp only [] at hF
          have HFI := Lib.hid (drFits_any d p m c (n : Int) (tv T) (fun k => (plX n k : Int)) (fun k => (plY n k : Int)) k z _ hkm (show DrB wq.drew d (n : Int) (iv (tv T)) (.slice (some ⟨p, 0, none⟩) m c) (.int .i64 (k : Int)) from hS1.db) (hS1.pl (by omega)) (by omega) hne (by omega) (by omega) (by show 0 ≤ (plX n k : Int); omega) (by show (plX n k : Int) < 6; omega) (by show 0 ≤ (plY n k : Int); omega) (by show (plY n k : Int) < 6; omega) hF z0 (by omega) ho.1 ho.2)
          have hset : tv (set2 T (plX n k) (plY n k) z) = putF (tv T) (plX n k) (plY n k) z := tv_set2 ok.len ok.row (by omega) (by omega) (by omega) (by omega) z
          have hsame : sameF (n : Int) (putF (tv T) (plX n k) (plY n k) z) = sameD n (set2 T (plX n k) (plY n k) z) := by rw [sameD_F, hset]
          rw [hsame] at HFI
          cases hb : sameD n (set2 T (plX n k) (plY n k) z) with
          | false =>
            rw [step1_no hzx hb] at hX2 hD2
            rw [hb] at HFI
            have kz : IntKind.i64.wrap (z + 1) = z + 1 := IntWalk.i64_in _ (by omega)
            clear hdb hp0 hsame hset hF
            go_wp2_with (first
              | (go_at_call 44; refine HM.out.mono ?_; rintro e w1 ⟨rfl, rfl⟩)
              | (go_at_call 45; refine HFI.out.mono ?_; rintro e w2 ⟨rfl, hd2, hp2, hg2⟩))
            go_step3
            exact ⟨g, by omega, ⟨1, T, k, z + 1, R⟩, v, _, _, _, _, _, _, _, _, _, _, _, _, _, _, _, _, _, _, _, _, _, _, _, _, _, _, _, _, _, _, _, _, _, _, _, show (1 : Nat) ≤ 2 by decide, rfl, hX2, hD2, hS1.grow hd hg2 hd2 (fun _ => hp2), rfl⟩
          | true =>
            rw [step1_fits hzx hb] at hX2 hD2
            rw [hb] at HFI
            clear hdb hp0 hsame hF
            go_wp2_with (first
              | (go_at_call 44; refine HM.out.mono ?_; rintro e w1 ⟨rfl, rfl⟩)
              | (go_at_call 45; refine HFI.out.mono ?_; rintro e w2 ⟨rfl, hd2, hp2, hg2⟩)
              | (go_at_call 46; refine (drPut_any d p m c (n : Int) (iv (tv T)) (fun k => (plX n k : Int)) (fun k => (plY n k : Int)) k z w2 hkm hd2 hp2 (by omega) hne (by show 0 ≤ (plX n k : Int); omega) (by show (plX n k : Int) < 6; omega) (by show 0 ≤ (plY n k : Int); omega) (by show (plY n k : Int) < 6; omega)).mono ?_; rintro e w3 ⟨rfl, hd3, hp3, hg3⟩; replace hd3 : DrB w3 d (n : Int) (upd2 (upd2 (iv (tv T)) (plX n k) (plY n k) (.int .i64 z)) (plY n k) (plX n k) (.int .i64 z)) (.slice (some ⟨p, 0, none⟩) m c) (.int .i64 ((k : Int) + 1)) := hd3; rw [iv_put, ← hset] at hd3))
            go_step3
            exact ⟨g, by omega, ⟨0, set2 T (plX n k) (plY n k) z, k + 1, z, R⟩, v, _, _, _, _, _, _, _, _, _, _, _, _, _, _, _, _, _, _, _, _, _, _, _, _, _, _, _, _, _, _, _, _, _, _, _, show (0 : Nat) ≤ 2 by decide, rfl, hX2, hD2, hS1.grow hd (grown_trans hg2 hg3) (by exact_mod_cast hd3) (fun _ => hp3), rfl⟩
    · refine ⟨_, rfl, ?_⟩
      obtain ⟨g, rfl, ok, hstep⟩ := runX_ok hX
      have hX2 := (hstep.resolve_left (fun h => by have h1 := h.1; simp at h1)).2
      have hD2 := runD_on hD (fun h => by have h1 := h.1; simp at h1)
      have hkm : k < m := by rw [hm]; exact ok.k1 rfl
      obtain ⟨hpe, hne⟩ := hpa (by omega)
      subst hpe
      have hPk := pl_at hpl (ok.k1 rfl)
      have hp0 := hS.pl (by omega)
      have hdb := hS.db
      have ho := ok.op rfl
      have z0 := ok.z0
      have z6 := ok.z6
      simp only [] at ho hdb z0 z6 hPk
      have HM := Lib.hid (drMost_any d p m c (n : Int) (iv (tv T)) (fun k => (plX n k : Int)) (fun k => (plY n k : Int)) k _ hkm hdb hp0)
      have hS1 := hS.drew
      by_cases hzx : (plX n k : Int) < z
      · rw [step1_over hzx] at hX2 hD2
        clear hdb hp0
        go_wp2_with (go_at_call 44; refine HM.out.mono ?_; rintro e w1 ⟨rfl, rfl⟩)
        go_step3
        exact ⟨g, by omega, ⟨2, T, k, z, R⟩, v, _, _, _, _, _, _, _, _, _, _, _, _, _, _, _, _, _, _, _, _, _, _, _, _, _, _, _, _, _, _, _, _, _, _, _, show (2 : Nat) ≤ 2 by decide, rfl, hX2, hD2, ⟨hS1.db, hS1.pl, hS1.tb, hS1.gr⟩, rfl⟩
      · have hF := ok.rng
        simp only [] at hF
        have HFI := Lib.hid (drFits_any d p m c (n : Int) (tv T) (fun k => (plX n k : Int)) (fun k => (plY n k : Int)) k z _ hkm (show DrB wr.drew d (n : Int) (iv (tv T)) (.slice (some ⟨p, 0, none⟩) m c) (.int .i64 (k : Int)) from hS1.db) (hS1.pl (by omega)) (by omega) hne (by omega) (by omega) (by show 0 ≤ (plX n k : Int); omega) (by show (plX n k : Int) < 6; omega) (by show 0 ≤ (plY n k : Int); omega) (by show (plY n k : Int) < 6; omega) hF z0 (by omega) ho.1 ho.2)
        have hset : tv (set2 T (plX n k) (plY n k) z) = putF (tv T) (plX n k) (plY n k) z := tv_set2 ok.len ok.row (by omega) (by omega) (by omega) (by omega) z
        have hsame : sameF (n : Int) (putF (tv T) (plX n k) (plY n k) z) = sameD n (set2 T (plX n k) (plY n k) z) := by rw [sameD_F, hset]
        rw [hsame] at HFI
        cases hb : sameD n (set2 T (plX n k) (plY n k) z) with
        | false =>
          rw [step1_no hzx hb] at hX2 hD2
          rw [hb] at HFI
          have kz : IntKind.i64.wrap (z + 1) = z + 1 := IntWalk.i64_in _ (by omega)
          clear hdb hp0 hsame hset hF
          go_wp2_with (first
            | (go_at_call 44; refine HM.out.mono ?_; rintro e w1 ⟨rfl, rfl⟩)
            | (go_at_call 45; refine HFI.out.mono ?_; rintro e w2 ⟨rfl, hd2, hp2, hg2⟩))
          go_step3
          exact ⟨g, by omega, ⟨1, T, k, z + 1, R⟩, v, _, _, _, _, _, _, _, _, _, _, _, _, _, _, _, _, _, _, _, _, _, _, _, _, _, _, _, _, _, _, _, _, _, _, _, show (1 : Nat) ≤ 2 by decide, rfl, hX2, hD2, hS1.grow hd hg2 hd2 (fun _ => hp2), rfl⟩
        | true =>
          rw [step1_fits hzx hb] at hX2 hD2
          rw [hb] at HFI
          clear hdb hp0 hsame hF
          go_wp2_with (first
            | (go_at_call 44; refine HM.out.mono ?_; rintro e w1 ⟨rfl, rfl⟩)
            | (go_at_call 45; refine HFI.out.mono ?_; rintro e w2 ⟨rfl, hd2, hp2, hg2⟩)
            | (go_at_call 46; refine (drPut_any d p m c (n : Int) (iv (tv T)) (fun k => (plX n k : Int)) (fun k => (plY n k : Int)) k z w2 hkm hd2 hp2 (by omega) hne (by show 0 ≤ (plX n k : Int); omega) (by show (plX n k : Int) < 6; omega) (by show 0 ≤ (plY n k : Int); omega) (by show (plY n k : Int) < 6; omega)).mono ?_; rintro e w3 ⟨rfl, hd3, hp3, hg3⟩; replace hd3 : DrB w3 d (n : Int) (upd2 (upd2 (iv (tv T)) (plX n k) (plY n k) (.int .i64 z)) (plY n k) (plX n k) (.int .i64 z)) (.slice (some ⟨p, 0, none⟩) m c) (.int .i64 ((k : Int) + 1)) := hd3; rw [iv_put, ← hset] at hd3))
          go_step3
          exact ⟨g, by omega, ⟨0, set2 T (plX n k) (plY n k) z, k + 1, z, R⟩, v, _, _, _, _, _, _, _, _, _, _, _, _, _, _, _, _, _, _, _, _, _, _, _, _, _, _, _, _, _, _, _, _, _, _, _, show (0 : Nat) ≤ 2 by decide, rfl, hX2, hD2, hS1.grow hd (grown_trans hg2 hg3) (by exact_mod_cast hd3) (fun _ => hp3), rfl⟩
    · refine ⟨_, rfl, ?_⟩
      obtain ⟨g, rfl, ok, hstep⟩ := runX_ok hX
      have hdb := hS.db
      simp only [] at hdb
      rcases hstep with e | ⟨e, hX2⟩
      · have hk0 : k = 0 := e.2
        have hR := runD_end hD e
        subst hk0
        have c8 := hdb.ck
        go_wp2
        unfold jumpsX
        dsimp only
        go_ret
        exact ⟨v, rfl, hR ▸ hS.tb, hS.gr⟩
      · have hk0 : k ≠ 0 := fun h => e ⟨rfl, h⟩
        obtain ⟨j, rfl⟩ : ∃ j, k = j + 1 := ⟨k - 1, by omega⟩
        have hD2 := runD_on hD e
        rw [step2, Nat.add_sub_cancel] at hX2 hD2
        have hkl : j + 1 ≤ (plN n).length := ok.k
        have hjm : j < m := by omega
        obtain ⟨hpe, hne⟩ := hpa (by omega)
        subst hpe
        have hPk := pl_at hpl (show j < (plN n).length by omega)
        have hp0 := hS.pl (by omega)
        have hrg := ok.rng (plX n j) (plY n j) (by omega) (by omega) (by omega) (by omega)
        simp only [] at hrg
        have c8 := hdb.ck
        have f8 : (((j + 1 : Nat) : Int) == 0) = false := by rw [beq_eq_false_iff_ne]; omega
        obtain ⟨q, hq⟩ : ∃ q : Int, q = tv T (plX n j) (plY n j) := ⟨_, rfl⟩
        obtain ⟨kk, hkk⟩ : ∃ kk : Int, kk = ((j + 1 : Nat) : Int) := ⟨_, rfl⟩
        rw [← hkk] at c8 f8 hdb
        rw [← hq] at hrg hX2 hD2
        have hkj : kk = (j : Int) + 1 := by omega
        have kq : IntKind.i64.wrap (q + 1) = q + 1 := IntWalk.i64_in _ (by omega)
        have HL := Lib.hid (drLast_any d p m c (n : Int) (iv (tv T)) (fun k => (plX n k : Int)) (fun k => (plY n k : Int)) j kk q wr hjm hdb hp0 hkj (by omega) (by show 0 ≤ (plX n j : Int); omega) (by show (plX n j : Int) < 6; omega) (by show 0 ≤ (plY n j : Int); omega) (by show (plY n j : Int) < 6; omega) (by show Value.int .i64 _ = _; rw [hq]))
        have hset : tv (set2 T (plX n j) (plY n j) (-1)) = putF (tv T) (plX n j) (plY n j) (-1) := tv_set2 ok.len ok.row (by omega) (by omega) (by omega) (by omega) (-1)
        have HT := Lib.hid (fun (w' : World) (hb : Below wr.heap.size wr w') => drTakeBack_any d p m c (n : Int) (iv (tv T)) (fun k => (plX n k : Int)) (fun k => (plY n k : Int)) j kk w' hjm (hdb.below hb) (hp0.same (hb.block _ hp0.lt)) hkj (by omega) hne (by show 0 ≤ (plX n j : Int); omega) (by show (plX n j : Int) < 6; omega) (by show 0 ≤ (plY n j : Int); omega) (by show (plY n j : Int) < 6; omega))
        have HS := Lib.hid hS
        clear hdb hp0 hS hkk hkj hq
        go_wp2_with (first
          | (go_at_call 47; refine HL.out.mono ?_; rintro e w1 ⟨rfl, hb1⟩)
          | (go_at_call 48; refine (HT.out w1 hb1).mono ?_; rintro e w2 ⟨rfl, hd2, hp2, hg2⟩; replace hd2 : DrB w2 d (n : Int) (upd2 (upd2 (iv (tv T)) (plX n j) (plY n j) (.int .i64 (-1))) (plY n j) (plX n j) (.int .i64 (-1))) (.slice (some ⟨p, 0, none⟩) m c) (.int .i64 (j : Int)) := hd2; rw [iv_put, ← hset] at hd2))
        go_step3
        exact ⟨g, by omega, ⟨1, set2 T (plX n j) (plY n j) (-1), j, q + 1, R⟩, v, _, _, _, _, _, _, _, _, _, _, _, _, _, _, _, _, _, _, _, _, _, _, _, _, _, _, _, _, _, _, _, _, _, _, _, show (1 : Nat) ≤ 2 by decide, rfl, hX2, hD2, HS.out.grow hd (grown_trans (grown_of_below hb1) hg2) hd2 (fun _ => hp2), rfl⟩
end Go.Proofs.Ythjbfdoclifhoaa

namespace Go.Proofs.Ythjbfdoclifhoaa
open Go.RowKit
set_option linter.unusedVariables false

/-- the products with the greatest element, up to k -/
def f1D (n k : Int) : Int → Int → Int := fun a b => if b = n - 1 ∧ 0 ≤ a ∧ a < k then a else if a = n - 1 ∧ 0 ≤ b ∧ b < k then b else 0
theorem f1D_step {n k : Int} (k0 : 0 ≤ k) (kn : k < n) : upd2 (upd2 (iv (f1D n k)) k (n - 1) (.int .i64 k)) (n - 1) k (.int .i64 k) = iv (f1D n (k + 1)) := by
  funext a b
  unfold upd2 iv f1D
  by_cases h1 : a = n - 1 ∧ b = k
  · rw [if_pos h1]
    by_cases h2 : b = n - 1 ∧ 0 ≤ a ∧ a < k + 1
    · rw [if_pos h2]; congr 1; omega
    · rw [if_neg h2, if_pos (by omega)]; congr 1; omega
  · rw [if_neg h1]
    by_cases h2 : a = k ∧ b = n - 1
    · rw [if_pos h2, if_pos (by omega)]; congr 1; omega
    · rw [if_neg h2]
      by_cases h3 : b = n - 1 ∧ 0 ≤ a ∧ a < k
      · rw [if_pos h3, if_pos (by omega)]
      · rw [if_neg h3]
        by_cases h4 : a = n - 1 ∧ 0 ≤ b ∧ b < k
        · rw [if_pos h4, if_neg (by omega), if_pos (by omega)]
        · rw [if_neg h4, if_neg (by omega), if_neg (by omega)]
/-- the draft's table when the places P have been opened -/
def drF (n : Int) (P : List (Nat × Nat)) : Int → Int → Int := P.foldl (fun F p => putF F p.1 p.2 (-1)) (f1D n n)
theorem drF_app (n : Int) (P : List (Nat × Nat)) (p : Nat × Nat) : drF n (P ++ [p]) = putF (drF n P) p.1 p.2 (-1) := by unfold drF; rw [List.foldl_append]; rfl
/-- the places ahead of one -/
def plB4 (n x y : Nat) : List (Nat × Nat) := (plN n).filter fun p => decide (p.1 < x) || (decide (p.1 = x) && decide (p.2 < y))
theorem plB4_all : ((List.range 6).all fun n => (List.range 6).all fun x => (List.range 6).all fun y =>
    (!(decide (1 ≤ x ∧ x ≤ y ∧ y + 1 < n)) || decide (plB4 n x (y + 1) = plB4 n x y ++ [(x, y)])) &&
    ((!(decide (1 ≤ x ∧ x + 1 < n)) || decide (plB4 n (x + 1) (x + 1) = plB4 n x (n - 1))) && (!(decide (n ≤ x + 1)) || decide (plB4 n x x = plN n)))) = true := by decide +kernel
theorem plB4_at {n x y : Nat} (hn : n < 6) (hx : x < 6) (hy : y < 6) : ((1 ≤ x ∧ x ≤ y ∧ y + 1 < n) → plB4 n x (y + 1) = plB4 n x y ++ [(x, y)]) ∧ ((1 ≤ x ∧ x + 1 < n) → plB4 n (x + 1) (x + 1) = plB4 n x (n - 1)) ∧ (n ≤ x + 1 → plB4 n x x = plN n) := by
  have h := List.all_eq_true.1 (List.all_eq_true.1 (List.all_eq_true.1 plB4_all n (List.mem_range.2 hn)) x (List.mem_range.2 hx)) y (List.mem_range.2 hy)
  simp only [Bool.and_eq_true, Bool.or_eq_true, Bool.not_eq_true', decide_eq_true_eq, decide_eq_false_iff_not] at h
  obtain ⟨h1, h2, h3⟩ := h
  exact ⟨fun e => h1.resolve_left (fun c => c e), fun e => h2.resolve_left (fun c => c e), fun e => h3.resolve_left (fun c => c e)⟩
theorem plB4_0 : ((List.range 6).all fun n => decide (plB4 n 1 1 = []) ) = true := by decide +kernel
theorem plB4_lens : ((List.range 6).all fun n => (List.range 6).all fun x => (List.range 6).all fun y => decide ((plB4 n x y).length ≤ 1000)) = true := by decide +kernel
theorem plB4_len {n x y : Nat} (hn : n < 6) (hx : x < 6) (hy : y < 6) : (plB4 n x y).length ≤ 1000 :=
  of_decide_eq_true (List.all_eq_true.1 (List.all_eq_true.1 (List.all_eq_true.1 plB4_lens n (List.mem_range.2 hn)) x (List.mem_range.2 hx)) y (List.mem_range.2 hy))
/-- a place's cells -/
def placeC (p : Nat × Nat) : List Value := [.int .i64 (p.1 : Int), .int .i64 (p.2 : Int)]
def PlR (B : Nat) (w : World) (v : Value) (P : List (Nat × Nat)) : Prop := w.ownsRow B 93 2 v P.length (P.flatMap placeC)
theorem info_place : (Try.prog.info? 93).map (fun i => (i.zero, i.size, i.bytes)) = some (some (.agg #[.int .i64 0, .int .i64 0]), 2, 16) := by kernel_rfl
theorem wpList_append_pl {ops : Array Oper} {rest : List Oper} {o : Oper} {a : Act} {Q : Exit → Act → World → Prop} (hgd : o.guard = none) (s x : Operand)
    (ho : o.op = .call { callee := .builtin .append, args := #[s, x], argTypes := #[88, 88] }) (B : Nat) (v : Value) (P : List (Nat × Nat)) (p : Nat × Nat) (w : World) (hs : a.eval s = v) (hown : PlR B w v P)
    (g : Nat) (hx : a.eval x = .slice (some ⟨g, 0, none⟩) 1 1) (hg : w.heap[g]? = some (.cells #[.int .i64 (p.1 : Int), .int .i64 (p.2 : Int)] 93 (0, 0))) (hR : P.length ≤ 1000) (hB : B ≤ w.heap.size)
    (h : ∀ v' w', PlR B w' v' (P ++ [p]) → w.grownBy w' v.ownBlock → wpList Try.prog ops Q rest (a.put o.dst v') w') : wpList Try.prog ops Q (o :: rest) a w := by
  obtain ⟨i0, hi, hz0, hz1, hz2⟩ := info_parts info_place
  refine wpList_append_own w hgd s x 88 ho B 93 i0 (.agg #[.int .i64 0, .int .i64 0]) 2 16 Try.underlying88 hi hz0 hz1 hz2 rfl (by decide) v P.length (P.flatMap placeC) hs hown ⟨g, 0, none⟩ 1 1 (placeC p) hx rfl ?_ (by intro u hu; simp [placeC] at hu; rcases hu with rfl | rfl <;> rfl) (by unfold maxLen; omega) (by omega) hB ?_
  · exact World.news_of_block (cs := #[.int .i64 (p.1 : Int), .int .i64 (p.2 : Int)]) (t := 93) (fr := (0, 0)) hg
  · intro v' w' h1 h2 _
    refine h v' w' ?_ h2
    unfold PlR
    rw [List.length_append, List.flatMap_append]
    simpa using h1
theorem PlR.slice {B : Nat} {w : World} {v : Value} {R : List (Nat × Nat)} (h : PlR B w v R) : ∃ a n c, v = .slice a n c := by
  rcases h.2 with ⟨rfl, _⟩ | ⟨g, cap, cur, rfl, _⟩
  · exact ⟨_, _, _, rfl⟩
  · exact ⟨_, _, _, rfl⟩
theorem PlR.grown {B d : Nat} {w w' : World} {v : Value} {R : List (Nat × Nat)} (h : PlR B w v R) (hg : w.grownBy w' (some d)) (hd : d < B) : PlR B w' v R :=
  World.ownsRow.kept h hg (.inr (fun e => by have := (World.ownsRow.lt h d e).1; omega))
set_option maxRecDepth 100000 in
set_option maxHeartbeats 4000000 in
/-- impl.newDraft -/
theorem newDraft_any (n : Nat) (w : World) (n1 : 1 ≤ n) (n5 : n ≤ 5) :
    Calls Try.prog 18 #[.int .i64 (n : Int)] w fun e w' => ∃ v, e = .returned (.pointer (some ⟨w.heap.size, 0, none⟩)) ∧ DrB w' w.heap.size (n : Int) (iv (drF n (plN n))) v (.int .i64 0) ∧ PlR (w.heap.size + 1) w' v (plN n) ∧ Below w.heap.size w w' := by
  obtain ⟨d, hd⟩ : ∃ d, d = w.heap.size := ⟨_, rfl⟩
  obtain ⟨w1, hw1⟩ : ∃ w1, w1 = w.alloc (.cells (drA (n : Int) (iv fun _ _ => 0) (.slice none 0 0) (.int .i64 0)) 90) := ⟨_, rfl⟩
  have h1 : DrB w1 d (n : Int) (iv (f1D n 0)) (.slice none 0 0) (.int .i64 0) := by
    have e : iv (f1D n 0) = iv fun _ _ => 0 := by
      funext a b
      unfold iv f1D
      rw [if_neg (by omega), if_neg (by omega)]
    rw [e, hw1, hd]
    exact heap_alloc_new w _
  have hb1 : Below w.heap.size w w1 := by rw [hw1]; exact (Below.refl _ _).alloc (Nat.le_refl _) _
  have hs1 : w1.heap.size = d + 1 := by rw [hw1, hd]; simp
  have kn : IntKind.i64.wrap ((n : Int) - 1) = (n : Int) - 1 := IntWalk.i64_in _ (by omega)
  go_enter Try.func18, Try.ntmps18
  go_wp2
  rw [show w.alloc (Obj.cells #[.int .i64 (n : Int), .int .i64 0, .int .i64 0, .int .i64 0, .int .i64 0, .int .i64 0, .int .i64 0, .int .i64 0, .int .i64 0, .int .i64 0, .int .i64 0, .int .i64 0, .int .i64 0, .int .i64 0, .int .i64 0, .int .i64 0, .int .i64 0, .int .i64 0, .int .i64 0, .int .i64 0, .int .i64 0, .int .i64 0, .int .i64 0, .int .i64 0, .int .i64 0, .int .i64 0, .int .i64 0, .int .i64 0, .int .i64 0, .int .i64 0, .int .i64 0, .int .i64 0, .int .i64 0, .int .i64 0, .int .i64 0, .int .i64 0, .int .i64 0, .slice none 0 0, .int .i64 0] 90) = w1 from by rw [hw1]; kernel_rfl, ← hd]
  have HD := Lib.hid hd
  clear hw1 hd
  go_loopw [4, 11] (fun _ cv wr => ∃ k : Int, 0 ≤ k ∧ k ≤ n ∧ cv = .int .i64 k ∧ DrB wr d (n : Int) (iv (f1D n k)) (.slice none 0 0) (.int .i64 0) ∧ Below w.heap.size w wr) (fun _ cv _ => (6 - intOf cv).toNat)
  case atStart => exact ⟨0, by omega, by omega, rfl, h1, hb1⟩
  case round =>
    clear h1 hb1
    obtain ⟨k, k0, kn1, rfl, hD, hbl⟩ := hrel
    by_cases hk : k < n
    · have k6 : k < 6 := by omega
      have m0 : 0 ≤ (n : Int) - 1 := by omega
      have m6 : (n : Int) - 1 < 6 := by omega
      have kk : IntKind.i64.wrap (k + 1) = k + 1 := IntWalk.i64_in _ (by omega)
      obtain ⟨m, hm⟩ : ∃ m : Int, m = (n : Int) - 1 := ⟨_, rfl⟩
      have km : IntKind.i64.wrap ((n : Int) - 1) = m := by rw [hm]; exact kn
      rw [← hm] at m0 m6
      have hD2 := hD.setT (.int .i64 k) k0 k6 m0 m6
      have q1 := hD.ct k0 k6 m0 m6
      have q2 := hD.free (1 + k.toNat * 6 + m.toNat)
      have r1 := hD2.ct m0 m6 k0 k6
      have r2 := hD.free (1 + m.toNat * 6 + k.toNat)
      have HM := Lib.hid hm
      clear kn hm
      go_wp2_with fail
      refine wp_region_any (by kernel_rfl) ?_
      refine any_of_C (C := fun _ => True) _ _ _ _ ?_
      refine anyC_take (i := 0) (oi := ⟨_, _, _, _, _, _⟩) (v := .pointer (some ⟨d, 0, none⟩)) rfl (by kernel_rfl) (by kernel_rfl) (by kernel_rfl) (fun _ _ _ h => h) (.inl ⟨by kernel_rfl, fun wz hz => by apply runs_moveY <;> rfl⟩) ?_
      refine anyC_take (i := 1) (oi := ⟨_, _, _, _, _, _⟩) (v := .int .i64 k) rfl (by kernel_rfl) (by kernel_rfl) (by kernel_rfl) (fun _ _ _ h => h) (.inl ⟨by kernel_rfl, fun wz hz => by apply runs_moveY <;> rfl⟩) ?_
      refine anyC_take (i := 2) (oi := ⟨_, _, _, _, _, _⟩) (v := .int .i64 (n : Int)) rfl (by kernel_rfl) (by kernel_rfl) (by kernel_rfl) (fun _ _ _ h => h) (.inl ⟨by kernel_rfl, fun wz hz => by apply runs_moveY <;> rfl⟩) ?_
      (try simp only [Act.put, List.setIfInBounds_toArray, List.set_cons_zero, List.set_cons_succ])
      refine anyC_take (i := 3) (oi := ⟨_, _, _, _, _, _⟩) (v := .int .i64 m) rfl (by kernel_rfl) (by kernel_rfl) (by kernel_rfl) (fun _ _ _ h => h) (.inl ⟨by kernel_rfl, fun wz hz => by go_simp⟩) ?_
      refine anyC_take (i := 4) (oi := ⟨_, _, _, _, _, _⟩) (v := .pointer (some ⟨d, 0, none⟩)) rfl (by kernel_rfl) (by kernel_rfl) (by kernel_rfl) (fun _ _ _ h => h) (.inl ⟨by kernel_rfl, fun wz hz => by apply runs_moveY <;> rfl⟩) ?_
      refine anyC_take (i := 5) (oi := ⟨_, _, _, _, _, _⟩) (v := .int .i64 (n : Int)) rfl (by kernel_rfl) (by kernel_rfl) (by kernel_rfl) (fun _ _ _ h => h) (.inl ⟨by kernel_rfl, fun wz hz => by apply runs_moveY <;> rfl⟩) ?_
      (try simp only [Act.put, List.setIfInBounds_toArray, List.set_cons_zero, List.set_cons_succ])
      refine anyC_take (i := 6) (oi := ⟨_, _, _, _, _, _⟩) (v := .int .i64 m) rfl (by kernel_rfl) (by kernel_rfl) (by kernel_rfl) (fun _ _ _ h => h) (.inl ⟨by kernel_rfl, fun wz hz => by go_simp⟩) ?_
      refine anyC_take (i := 7) (oi := ⟨_, _, _, _, _, _⟩) (v := .int .i64 k) rfl (by kernel_rfl) (by kernel_rfl) (by kernel_rfl) (fun _ _ _ h => h) (.inl ⟨by kernel_rfl, fun wz hz => by apply runs_moveY <;> rfl⟩) ?_
      refine anyC_take (i := 8) (oi := ⟨_, _, _, _, _, _⟩) (v := .int .i64 k) rfl (by kernel_rfl) (by kernel_rfl) (by kernel_rfl) (fun _ _ _ h => h) (.inl ⟨by kernel_rfl, fun wz hz => by apply runs_moveY <;> rfl⟩) ?_
      (try simp only [Act.put, List.setIfInBounds_toArray, List.set_cons_zero, List.set_cons_succ])
      refine anyC_take (i := 9) (oi := ⟨_, _, _, _, _, _⟩) (v := .int .i64 k) rfl (by kernel_rfl) (by kernel_rfl) (by kernel_rfl) (fun _ _ _ h => h) (.inl ⟨by kernel_rfl, fun wz hz => by apply runs_moveY <;> rfl⟩) ?_
      refine anyC_take (i := 10) (oi := ⟨_, _, _, _, _, _⟩) (v := .pointer (some ⟨d, 0, none⟩)) rfl (by kernel_rfl) (by kernel_rfl) (by kernel_rfl) (fun _ _ _ h => h) (.inl ⟨by kernel_rfl, fun wz hz => by go_simp⟩) ?_
      refine anyC_take (i := 11) (oi := ⟨_, _, _, _, _, _⟩) (v := .pointer (some ⟨d, 1, none⟩)) rfl (by kernel_rfl) (by kernel_rfl) (by kernel_rfl) (fun _ _ _ h => h) (.inl ⟨by kernel_rfl, fun wz hz => by go_simp⟩) ?_
      (try simp only [Act.put, List.setIfInBounds_toArray, List.set_cons_zero, List.set_cons_succ])
      refine anyC_take (i := 12) (oi := ⟨_, _, _, _, _, _⟩) (v := .pointer (some ⟨d, 1 + k.toNat * 6, none⟩)) rfl (by kernel_rfl) (by kernel_rfl) (by kernel_rfl) (fun _ _ _ h => h) (.inl ⟨by kernel_rfl, fun wz hz => by go_simp⟩) ?_
      refine anyC_take (i := 13) (oi := ⟨_, _, _, _, _, _⟩) (v := .pointer (some ⟨d, 1 + k.toNat * 6 + m.toNat, none⟩)) rfl (by kernel_rfl) (by kernel_rfl) (by kernel_rfl) (fun _ _ _ h => h) (.inl ⟨by kernel_rfl, fun wz hz => by go_simp⟩) ?_
      refine anyC_take (i := 15) (oi := ⟨_, _, _, _, _, _⟩) (v := .pointer (some ⟨d, 0, none⟩)) rfl (by kernel_rfl) (by kernel_rfl) (by kernel_rfl) (fun _ _ _ h => h) (.inl ⟨by kernel_rfl, fun wz hz => by go_simp⟩) ?_
      (try simp only [Act.put, List.setIfInBounds_toArray, List.set_cons_zero, List.set_cons_succ])
      refine anyC_take (i := 16) (oi := ⟨_, _, _, _, _, _⟩) (v := .pointer (some ⟨d, 1, none⟩)) rfl (by kernel_rfl) (by kernel_rfl) (by kernel_rfl) (fun _ _ _ h => h) (.inl ⟨by kernel_rfl, fun wz hz => by go_simp⟩) ?_
      refine anyC_take (i := 17) (oi := ⟨_, _, _, _, _, _⟩) (v := .pointer (some ⟨d, 1 + m.toNat * 6, none⟩)) rfl (by kernel_rfl) (by kernel_rfl) (by kernel_rfl) (fun _ _ _ h => h) (.inl ⟨by kernel_rfl, fun wz hz => by go_simp⟩) ?_
      (try simp only [Act.put, List.setIfInBounds_toArray, List.set_cons_zero, List.set_cons_succ])
      refine anyC_store (i := 14) (o := ⟨_, _, _, _, _, _⟩) (w' := wr.drew.setCell ⟨d, 1 + k.toNat * 6 + m.toNat, none⟩ (.int .i64 k)) rfl (by kernel_rfl) (by kernel_rfl) (by go_simp) trivial ?_
      (try simp only [Act.put])
      refine anyC_take (i := 18) (oi := ⟨_, _, _, _, _, _⟩) (v := .pointer (some ⟨d, 1 + m.toNat * 6 + k.toNat, none⟩)) rfl (by kernel_rfl) (by kernel_rfl) (by kernel_rfl) (fun _ _ _ h => h) (.inl ⟨by kernel_rfl, fun wz hz => by go_simp⟩) ?_
      (try simp only [Act.put, List.setIfInBounds_toArray, List.set_cons_zero, List.set_cons_succ])
      refine anyC_store (i := 19) (o := ⟨_, _, _, _, _, _⟩) (w' := (wr.drew.setCell ⟨d, 1 + k.toNat * 6 + m.toNat, none⟩ (.int .i64 k)).setCell ⟨d, 1 + m.toNat * 6 + k.toNat, none⟩ (.int .i64 k)) rfl (by kernel_rfl) (by kernel_rfl) (by go_simp) trivial ?_
      (try simp only [Act.put])
      refine anyC_done (by kernel_rfl) trivial ?_ _
      have hD3 := hD2.setT (.int .i64 k) m0 m6 k0 k6
      rw [HM.out, f1D_step k0 hk] at hD3
      go_wp2
      go_roundw
      case rel => exact ⟨k + 1, by omega, by omega, rfl, by rw [HM.out]; exact hD3, ((hbl.trans ((Dr.below ⟨1, rfl⟩ _ : Below wr.heap.size wr wr.drew).mono hbl.size)).setCell (by show w.heap.size ≤ d; rw [HD.out]; omega) _).setCell (by show w.heap.size ≤ d; rw [HD.out]; omega) _⟩
      case measure => simp [intOf]; omega
    · have ek : k = n := by omega
      subst ek
      have hnil : plB4 n 1 1 = [] := by
        have h := List.all_eq_true.1 plB4_0 n (List.mem_range.2 (by omega))
        exact of_decide_eq_true h
      go_wp2
      go_loopw [5, 6] (fun xv _ wr2 => ∃ (x : Nat) (v : Value), 1 ≤ x ∧ (x + 1 ≤ n ∨ x = 1) ∧ xv = .int .i64 (x : Int) ∧ DrB wr2 d (n : Int) (iv (drF n (plB4 n x x))) v (.int .i64 0) ∧ PlR (d + 1) wr2 v (plB4 n x x) ∧ Below w.heap.size w wr2) (fun xv _ _ => (6 - intOf xv).toNat)
      case atStart => exact ⟨1, .slice none 0 0, by omega, .inr rfl, rfl, by rw [hnil]; exact hD, by rw [hnil]; exact World.ownsRow_nil _ _ _ _, hbl⟩
      case round =>
        clear hD hbl hnil
        obtain ⟨x, v, x1, xn, rfl, hDx, hPx, hbx⟩ := hrel
        by_cases hx : (x : Int) < (n : Int) - 1
        · have kx : IntKind.i64.wrap ((x : Int) + 1) = (x : Int) + 1 := IntWalk.i64_in _ (by omega)
          go_wp2
          go_loopw [6] (fun yv wr3 => ∃ (y : Nat) (v : Value), x ≤ y ∧ y + 1 ≤ n ∧ yv = .int .i64 (y : Int) ∧ DrB wr3 d (n : Int) (iv (drF n (plB4 n x y))) v (.int .i64 0) ∧ PlR (d + 1) wr3 v (plB4 n x y) ∧ Below w.heap.size w wr3) (fun yv _ => (6 - intOf yv).toNat)
          case atStart => exact ⟨x, v, by omega, by omega, rfl, hDx, hPx, hbx⟩
          case round =>
            clear hDx hPx hbx
            obtain ⟨y, u, xy, yn, rfl, hDy, hPy, hby⟩ := hrel
            by_cases hy : (y : Int) < (n : Int) - 1
            · have ky : IntKind.i64.wrap ((y : Int) + 1) = (y : Int) + 1 := IntWalk.i64_in _ (by omega)
              have hstep := (plB4_at (n := n) (x := x) (y := y) (by omega) (by omega) (by omega)).1 ⟨x1, xy, by omega⟩
              have hlen := plB4_len (n := n) (x := x) (y := y) (by omega) (by omega) (by omega)
              have HW := Lib.hid (drWrite_any d (n : Int) (iv (drF n (plB4 n x y))) u (.int .i64 0) (x : Int) (y : Int) (-1) wr hDy (by omega) (by omega) (by omega) (by omega))
              have hdl := hDy.lt
              have hdw : w.heap.size ≤ d := by rw [HD.out]; omega
              have HS := Lib.hid hstep
              have HN := Lib.hid hlen
              clear hstep hlen
              go_wp2_with (first
                | (go_at_call 41; refine HW.out.mono ?_; rintro e w2 ⟨rfl, hd2, hg2⟩; rw [iv_put] at hd2; have hP2 := hPy.grown hg2 (by omega); have hb2 := hby.trans ((grown_below hg2 hdw hby.size)); have c7 := hd2.cp; have hl2 := hd2.lt)
                | (at_builtin; refine wpList_append_pl rfl _ _ rfl (d + 1) u (plB4 n x y) (x, y) _ rfl (World.ownsRow.alloc hP2 _) w2.heap.size rfl (heap_alloc_new w2 _) HN.out (by simp; omega) ?_; intro v6 w6 hown6 hgrow6; obtain ⟨a6, n6, c6, rfl⟩ := hown6.slice; have hA6 : w6.heap[d]? = w2.heap[d]? := (by rw [hgrow6.block d (by simp; omega) (fun e => by have := (World.ownsRow.lt hP2 d e.symm).1; omega)]; exact Below.heap_alloc w2 _ d hl2); have hd6 := hd2.same hA6; have c76 := hd6.cp; have f76 := hd6.free 37; clear c7))
              have hd7 := hd6.setP (.slice a6 n6 c6)
              have hP7 : PlR (d + 1) (w6.setCell ⟨d, 37, none⟩ (.slice a6 n6 c6)) (.slice a6 n6 c6) (plB4 n x y ++ [(x, y)]) := PlR.grown hown6 (grown_cell (grown_refl w6 _)) (by omega)
              have hb7 : Below w.heap.size w (w6.setCell ⟨d, 37, none⟩ (.slice a6 n6 c6)) := by
                have ha := hb2.alloc hb2.size (.cells #[.int .i64 (x : Int), .int .i64 (y : Int)] 93)
                exact (ha.grown hgrow6 (by have := hb2.size; simp; omega) (fun q hq => by have := (World.ownsRow.lt hP2 q hq).1; omega)).setCell (by show w.heap.size ≤ d; exact hdw) _
              go_roundw
              case rel => exact ⟨y + 1, .slice a6 n6 c6, by omega, by omega, by simp, by rw [HS.out, drF_app]; exact hd7, by rw [HS.out]; exact hP7, hb7⟩
              case measure => simp [intOf]; omega
            · have hyn : y = n - 1 := by omega
              have hnx := (plB4_at (n := n) (x := x) (y := y) (by omega) (by omega) (by omega)).2.1 ⟨x1, by omega⟩
              rw [hyn, ← hnx] at hDy hPy
              go_wp2
              go_roundw
              case rel => exact ⟨x + 1, u, by omega, .inl (by omega), by simp, hDy, hPy, hby⟩
              case measure => simp [intOf]; omega
        · have hpl := (plB4_at (n := n) (x := x) (y := x) (by omega) (by omega) (by omega)).2.2 (by omega)
          rw [hpl] at hDx hPx
          go_wp2
          go_ret
          have e := HD.out
          subst e
          exact ⟨rfl, v, hDx, hPx, hbx⟩
end Go.Proofs.Ythjbfdoclifhoaa

/- A new draft is ready for the search; what the search finds. -/
namespace Go.Proofs.Ythjbfdoclifhoaa
open Go.RowKit
set_option linter.unusedVariables false

theorem drF_all : ((List.range 6).all fun n => decide (n = 0) || (List.range 6).all fun a => (List.range 6).all fun b => decide (drF n (plN n) a b = tv (dr0 n) a b)) = true := by decide +kernel
theorem DrB.ready {w : World} {d n : Nat} {pv kv : Value} (n1 : 1 ≤ n) (n5 : n ≤ 5) (h : DrB w d (n : Int) (iv (drF n (plN n))) pv kv) : DrB w d (n : Int) (iv (tv (dr0 n))) pv kv := by
  unfold DrB at *
  rw [h]
  have e : tab2 (iv (drF n (plN n))) = tab2 (iv (tv (dr0 n))) := tab2_congr fun a b a0 a6 b0 b6 => by
    have h1 := List.all_eq_true.1 drF_all n (List.mem_range.2 (by omega))
    rw [Bool.or_eq_true, decide_eq_true_eq] at h1
    have h2 := h1.resolve_left (by omega)
    have h3 := of_decide_eq_true (List.all_eq_true.1 (List.all_eq_true.1 h2 a.toNat (List.mem_range.2 (by omega))) b.toNat (List.mem_range.2 (by omega)))
    rw [show ((a.toNat : Nat) : Int) = a by omega, show ((b.toNat : Nat) : Int) = b by omega] at h3
    unfold iv
    rw [h3]
  unfold drA
  rw [e]
theorem plC_at (P : List (Nat × Nat)) {j : Nat} (hj : j < P.length) : (P.flatMap placeC)[j * 2]? = some (.int .i64 ((P.getD j (0, 0)).1 : Int)) ∧ (P.flatMap placeC)[j * 2 + 1]? = some (.int .i64 ((P.getD j (0, 0)).2 : Int)) := by
  induction P generalizing j with
  | nil => simp at hj
  | cons p P ih =>
    cases j with
    | zero => exact ⟨rfl, rfl⟩
    | succ j =>
      have := ih (j := j) (by simp at hj; omega)
      rw [show (j + 1) * 2 = j * 2 + 2 by omega]
      exact this
theorem PlR.ready {B : Nat} {w : World} {v : Value} {n : Nat} (h : PlR B w v (plN n)) : ∃ pa c p, v = .slice pa (plN n).length c ∧ (0 < (plN n).length → (pa = some ⟨p, 0, none⟩ ∧ B ≤ p) ∧ PlB w p (plN n).length (fun k => (plX n k : Int)) (fun k => (plY n k : Int))) := by
  obtain ⟨hl, h⟩ := h
  rcases h with ⟨rfl, h0⟩ | ⟨g, cap, cur, rfl, hB, hg, hc, _, hs, ht⟩
  · exact ⟨none, 0, 0, by rw [h0], fun hp => by omega⟩
  · refine ⟨some ⟨g, 0, none⟩, cap, g, rfl, fun hp => ⟨⟨rfl, hB⟩, cur, _, hg, fun j hj => ?_⟩⟩
    have e := plC_at (plN n) hj
    have hk : ∀ i, i < (plN n).length * 2 → cur[i]? = ((plN n).flatMap placeC)[i]? := fun i hi => by
      rw [← ht, List.getElem?_take_of_lt hi, Array.getElem?_toList]
    rw [hk _ (by omega), hk _ (by omega)]
    exact e
/-- what the search finds -/
theorem finD_at {n : Nat} (n1 : 1 ≤ n) (n5 : n ≤ 5) : ∃ R, runD n 1000 ⟨0, dr0 n, 0, 0, []⟩ = some R ∧ R.map (rowsD n) = chT n ∧ runX n 1000 ⟨0, dr0 n, 0, 0, []⟩ = true ∧ plOk n = true ∧ (plN n).length ≤ 6 := by
  have key : ∀ n : Nat, finD n = true → ∃ R, runD n 1000 ⟨0, dr0 n, 0, 0, []⟩ = some R ∧ R.map (rowsD n) = chT n := fun n h => by
    unfold finD at h
    split at h
    · cases h
    · rename_i R hR
      exact ⟨R, hR, of_decide_eq_true h⟩
  have hn : n = 1 ∨ n = 2 ∨ n = 3 ∨ n = 4 ∨ n = 5 := by omega
  obtain ⟨p1, p2, p3, p4, p5⟩ := plOk_all
  obtain ⟨l1, l2, l3, l4, l5⟩ := plLen_all
  rcases hn with rfl | rfl | rfl | rfl | rfl
  · obtain ⟨R, h1, h2⟩ := key 1 finD_1
    exact ⟨R, h1, h2, runX_1, p1, by omega⟩
  · obtain ⟨R, h1, h2⟩ := key 2 finD_2
    exact ⟨R, h1, h2, runX_2, p2, by omega⟩
  · obtain ⟨R, h1, h2⟩ := key 3 finD_3
    exact ⟨R, h1, h2, runX_3, p3, by omega⟩
  · obtain ⟨R, h1, h2⟩ := key 4 finD_4
    exact ⟨R, h1, h2, runX_4, p4, by omega⟩
  · obtain ⟨R, h1, h2⟩ := key 5 finD_5
    exact ⟨R, h1, h2, runX_5, p5, by omega⟩
end Go.Proofs.Ythjbfdoclifhoaa
