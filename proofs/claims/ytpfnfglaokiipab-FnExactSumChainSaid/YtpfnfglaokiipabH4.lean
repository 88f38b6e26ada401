import Derived.Test.YtpfnfglaokiipabH3
namespace Go.Proofs.Ytpfnfglaokiipab
open Go.RowKit

/-- the elements are those of the lattice -/
def inE (L E : List Int) (j : Int) : Bool := decide (0 ≤ nth E j) && decide (nth E j < L.length)
def withB (L E : List Int) : Bool := allI E.length (inE L E)
theorem withB_f {L E : List Int} {k : Int} (k0 : 0 ≤ k) (hk : k < E.length) (h : inE L E k = false) : withB L E = false := allI_false (p := inE L E) k k0 hk h
/-- the joins of the lattice, as an array -/
def tabJ (L : List Int) : Int → Int → Int := tabT (revG (ordG L)) L.length
def tabM (L : List Int) : Int → Int → Int := tabT (ordG L) L.length
theorem LatAt.joins {w : World} {b : Nat} {L : List Int} (h : LatAt w b L) : w.rangeAt b 73 (tab2 (iv (tabJ L))).toList := fun j v hv => by
  have hj : j < (tab2 (iv (tabJ L))).toList.length := (List.getElem?_eq_some_iff.1 hv).1
  rw [cell_of_row w b _ _ _ _ h]
  unfold latOf latA
  rw [List.getElem?_toArray, List.getElem?_append_right (by simp [tab2]), show 73 + j - ((Value.int .i64 L.length :: (tab2 (bv (ordG L))).toList) ++ (tab2 (iv (tabT (ordG L) L.length))).toList).length = j by simp [tab2]]
  exact hv
theorem LatAt.meets {w : World} {b : Nat} {L : List Int} (h : LatAt w b L) : w.rangeAt b 37 (tab2 (iv (tabM L))).toList := fun j v hv => by
  have hj : j < (tab2 (iv (tabM L))).toList.length := (List.getElem?_eq_some_iff.1 hv).1
  have hj' : j < 36 := by simpa [tab2] using hj
  rw [cell_of_row w b _ _ _ _ h]
  unfold latOf latA
  rw [List.getElem?_toArray, List.getElem?_append_left (by simp [tab2]; omega), List.getElem?_append_right (by simp [tab2]), show 37 + j - (Value.int .i64 L.length :: (tab2 (bv (ordG L))).toList).length = j by simp [tab2]]
  exact hv
theorem wpList_load_mid_w {P : Program} {ops : Array Oper} {rest : List Oper} {op : Oper} {a : Act} {w : World} {Q : Exit → Act → World → Prop} (hw : Region.wanted op (yielded ops a.tmps) = true) (ty : TypeId) (x : Operand) (ho : op.op = .load ty x)
    (b o : Nat) (hx : a.eval x = .pointer (some ⟨b, o, none⟩)) (cs : Array Value) (d : TypeDesc) (hc : w.rangeAt b o cs.toList)
    (hu : P.underlying ty = some d) (hd : d.isRow = true) (hi : (P.info? ty).map (·.size) = some cs.size)
    (h : wpList P ops Q rest (a.put op.dst (.agg cs)) w) : wpList P ops Q (op :: rest) a w := by
  unfold wpList
  rw [if_pos hw]
  exact .inl (wp_load_mid ty x ho b o hx cs.toList d hc hu hd (by simpa using hi) (by simpa using h))

set_option maxRecDepth 100000 in
set_option maxHeartbeats 1000000 in
/-- impl.lattice.has -/
theorem has_any (a2 : Option Addr) (c2 : Nat) (L E : List Int) (w : World) (hr2 : Rd w a2 E) (hE : E.length ≤ 16) :
    Calls Try.prog 92 #[.agg (latOf L), .slice a2 E.length c2] w fun e w' => e = .returned (.bool (withB L E)) ∧ Below w.heap.size w w' := by
  have hB : Below w.heap.size w (w.alloc (.cells (latOf L) 60)) := (Below.refl _ _).alloc (Nat.le_refl _) _
  have hL : LatAt (w.alloc (.cells (latOf L) 60)) w.heap.size L := LatAt.new w L
  obtain ⟨w2, hw2⟩ : ∃ w2, w2 = w.alloc (.cells (latOf L) 60) := ⟨_, rfl⟩
  rw [← hw2] at hB hL
  have hr3 : Rd w2 a2 E := hr2.below hB
  have cs := hL.size
  go_enter Try.func92, Try.ntmps92
  go_wp2
  rw [← hw2]
  clear hw2
  go_loopw [6, 9] (fun _ c wr => ∃ k : Int, 0 ≤ k ∧ k ≤ E.length ∧ c = .int .i64 k ∧ AllTo k (inE L E) ∧ w2 = wr) (fun _ c _ => ((E.length : Int) - intOf c).toNat)
  case atStart => exact ⟨0, by omega, by omega, rfl, AllTo.zero _, rfl⟩
  case round =>
    obtain ⟨k, k0, k1, rfl, ha, rfl⟩ := hrel
    by_cases hk : k < E.length
    · obtain ⟨b2, o2, rfl, hc2⟩ := hr3 (by intro e; rw [e] at hk; simp at hk; omega)
      have d2 := hc2.at k k0 hk
      have hi := Lib.hid (show inE L E k = (decide (0 ≤ nth E k) && decide (nth E k < L.length)) from rfl)
      by_cases hn : nth E k < 0
      · have hf := Lib.hid (withB_f k0 hk (by rw [hi.out, decide_eq_false (by omega)]; rfl))
        go_wp2
        go_ret
        exact ⟨ret_bool (by rw [hf.out]), hB⟩
      · by_cases hn2 : (L.length : Int) ≤ nth E k
        · have hf := Lib.hid (withB_f k0 hk (by rw [hi.out, decide_eq_false (show ¬ nth E k < L.length by omega)]; simp))
          go_wp2
          go_ret
          exact ⟨ret_bool (by rw [hf.out]), hB⟩
        · have ht := Lib.hid (show inE L E k = true by rw [hi.out, decide_eq_true (by omega), decide_eq_true (by omega)]; rfl)
          go_wp2
          go_roundw
          case rel => exact ⟨k + 1, by omega, by omega, rfl, ha.succ ht.out, trivial⟩
          case measure => simp [intOf]; omega
    · have hf := Lib.hid (show withB L E = true from ha.all (by omega : (E.length : Int) ≤ k))
      go_wp2
      go_ret
      exact ⟨ret_bool (by rw [hf.out]), hB⟩

def areG (n : Int) (f j : Int → Int → Int) : Bool := all2 n (sbG f) && all2 n (s3G n f) && allI n (kbG n f) && all2 n (overG n f j)
theorem ret_below {f : FuncId} {args : Array Value} {w : World} {r r' : Bool} (h : Calls Try.prog f args w fun e w' => e = .returned (.bool r) ∧ Below w.heap.size w w') (hr : r = r') : Calls Try.prog f args w fun e w' => e = .returned (.bool r') ∧ Below w.heap.size w w' := by
  subst hr; exact h

set_option maxRecDepth 100000 in
set_option maxHeartbeats 2000000 in
/-- impl.table.areProducts -/
theorem areProducts_any (f : Int → Int → Int) (L : List Int) (w : World) (hf : FitG L.length f) (hj : FitG L.length (tabJ L)) (n1 : 1 ≤ (L.length : Int)) (n6 : (L.length : Int) ≤ 6) :
    Calls Try.prog 89 #[.agg (tab2 (iv f)), .agg (latOf L)] w fun e w' => e = .returned (.bool (areG L.length f (tabJ L))) ∧ Below w.heap.size w w' := by
  obtain ⟨w2, hw2⟩ : ∃ w2, w2 = (w.alloc (.cells (tab2 (iv f)) 58)).alloc (.cells (latOf L) 60) := ⟨_, rfl⟩
  have hB : Below w.heap.size w w2 := by rw [hw2]; exact ((Below.refl _ _).alloc (Nat.le_refl _) _).alloc (by simp) _
  have hb : Blk w2 w.heap.size 58 (iv f) := by rw [hw2]; exact (Blk.new w rfl).alloc _
  have hL : LatAt w2 (w.heap.size + 1) L := by
    have := LatAt.new (w.alloc (.cells (tab2 (iv f)) 58)) L
    rw [hw2]; simpa using this
  have Kb := Lib.hid (show ∀ wz, Below w2.heap.size w2 wz → Blk wz w.heap.size 58 (iv f) from fun wz h => hb.below h hb.lt)
  have Kl := Lib.hid (show ∀ wz, Below w2.heap.size w2 wz → LatAt wz (w.heap.size + 1) L from fun wz h => hL.below h hL.lt)
  have c0 := hL.size
  have HF := Lib.hid hf
  have HJ := Lib.hid hj
  have z0 : Below w2.heap.size w2 w2 := Below.refl _ _
  have hv := Lib.hid (show areG L.length f (tabJ L) = (all2 L.length (sbG f) && all2 L.length (s3G L.length f) && allI L.length (kbG L.length f) && all2 L.length (overG L.length f (tabJ L))) from rfl)
  clear hb hL hf hj
  cases hq1 : all2 L.length (sbG f) <;> cases hq2 : all2 L.length (s3G L.length f) <;> cases hq3 : allI L.length (kbG L.length f) <;> cases hq4 : all2 L.length (overG L.length f (tabJ L))
  all_goals
    rw [hq1, hq2, hq3, hq4] at hv
    have Q1 := Lib.hid hq1
    have Q2 := Lib.hid hq2
    have Q3 := Lib.hid hq3
    have Q4 := Lib.hid hq4
    clear hq1 hq2 hq3 hq4
    go_enter Try.func89, Try.ntmps89
    go_wp2_with (first
      | go_skip
      | (rw [← hw2]; clear hw2)
      | (refine wpList_load_row_w rfl 58 _ rfl w.heap.size rfl _ _ _ _ (Kb.out _ (by assumption)).heap Try.underlying58 rfl (size_table _) ?_)
      | (refine wpList_load_mid_w rfl 58 _ rfl (w.heap.size + 1) 73 rfl _ _ (Kl.out _ (by assumption)).joins Try.underlying58 rfl (size_table _) ?_)
      | (go_at_call 111; refine (ret_below (isSameBothWays_any f L.length _ (by omega) n6) Q1.out).mono ?_; rintro e w5 ⟨rfl, h5⟩; have z5 : Below w2.heap.size w2 w5 := h5; have c5 := (Kl.out _ z5).size)
      | (go_at_call 112; refine (ret_below (isSameForThree_any f L.length _ HF.out (by omega) n6) Q2.out).mono ?_; rintro e w6 ⟨rfl, h6⟩; have z6 : Below w2.heap.size w2 w6 := z5.trans (h6.mono z5.size); have c6 := (Kl.out _ z6).size)
      | (go_at_call 113; refine (ret_below (keepsBounds_any f L.length _ n1 n6) Q3.out).mono ?_; rintro e w7 ⟨rfl, h7⟩; have z7 : Below w2.heap.size w2 w7 := z6.trans (h7.mono z6.size); have c7 := (Kl.out _ z7).size)
      | (go_at_call 114; refine (ret_below (goesOver_any f (tabJ L) L.length _ HF.out HJ.out (by omega) n6) Q4.out).mono ?_; rintro e w8 ⟨rfl, h8⟩; have z8 : Below w2.heap.size w2 w8 := z7.trans (h8.mono z7.size)))
    go_ret
    exact ⟨ret_bool (by rw [hv.out]; rfl), hB.trans (Below.mono (by assumption) hB.size)⟩
end Go.Proofs.Ytpfnfglaokiipab
