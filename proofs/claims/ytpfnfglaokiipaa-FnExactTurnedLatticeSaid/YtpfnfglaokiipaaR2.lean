import Derived.Test.YtpfnfglaokiipaaH1
import Derived.Test.YtpfnfglaokiipaaR1
namespace Go.Proofs.Ytpfnfglaokiipaa
open Go.RowKit

theorem cell_of_blk {w : World} {B : Nat} {f : Int → Int → Int} (h : Blk w B 43 (iv f)) {x y : Int} (x0 : 0 ≤ x) (x1 : x < 6) (y0 : 0 ≤ y) (y1 : y < 6) : w.cell? ⟨B, x.toNat * 6 + y.toNat, none⟩ = some (.int .i64 (f x y)) := h.cell x0 x1 y0 y1
theorem append2 (a b c : Value) : (#[a, b] ++ #[c] : Array Value) = #[a, b, c] := rfl
theorem append22 (a b c d : Value) : (#[a, b] ++ #[c, d] : Array Value) = #[a, b, c, d] := rfl
theorem append23 (a b c d e : Value) : (#[a, b] ++ #[c, d, e] : Array Value) = #[a, b, c, d, e] := rfl

def FitG (n : Int) (f : Int → Int → Int) : Prop := ∀ x y, 0 ≤ x → x < n → 0 ≤ y → y < n → 0 ≤ f x y ∧ f x y < n
theorem enters_go : Enters 87 := enters_of Try.func87 (by kernel_rfl) rfl
def goG (f j : Int → Int → Int) (y z x : Int) : Bool := f x (j y z) == j (f x y) (f x z)
def overG (n : Int) (f j : Int → Int → Int) (y z : Int) : Bool := allI n (goG f j y z)
set_option maxRecDepth 100000 in
set_option maxHeartbeats 2000000 in
theorem goClo_any (f j : Int → Int → Int) (B B2 B3 : Nat) (n y z : Int) (w : World) (hf : Hid (FitG n f)) (hj : Hid (FitG n j)) (hb : Blk w B 43 (iv f)) (hb3 : Blk w B3 43 (iv j)) (h2 : w.heap[B2]? = some (.cells #[.int .i64 n] 3 (0, 0))) (n6 : n ≤ 6) (y0 : 0 ≤ y) (y1 : y < n) (z0 : 0 ≤ z) (z1 : z < n) :
    Calls Try.prog 87 #[.int .i64 y, .int .i64 z, .pointer (some ⟨B2, 0, none⟩), .pointer (some ⟨B, 0, none⟩), .pointer (some ⟨B3, 0, none⟩)] w fun e w' => e = .returned (.bool (overG n f j y z)) ∧ Dr w w' := by
  have c2 := cell_of_one h2
  go_enter Try.func87, Try.ntmps87
  go_wp2
  go_loopw [8, 10] (fun _ c wr => ∃ x : Int, 0 ≤ x ∧ x ≤ n ∧ c = .int .i64 x ∧ AllTo x (goG f j y z) ∧ Dr w wr) (fun _ c _ => (6 - intOf c).toNat)
  case atStart => exact ⟨0, by omega, by omega, rfl, AllTo.zero _, Dr.refl _⟩
  case round =>
    obtain ⟨x, x0, x1, rfl, ha, hd⟩ := hrel
    by_cases hx : x < n
    · have hb' := hb.dr hd
      have hb3' := hb3.dr hd
      obtain ⟨a0, a1⟩ := hj.out y z y0 y1 z0 z1
      obtain ⟨b0, b1⟩ := hf.out x y x0 hx y0 y1
      obtain ⟨e0, e1⟩ := hf.out x z x0 hx z0 z1
      have a2 : j y z < 6 := by omega
      have b2 : f x y < 6 := by omega
      have e2 : f x z < 6 := by omega
      have x2 : x < 6 := by omega
      have d0 := cell_of_blk hb3' y0 (by omega : y < 6) z0 (by omega : z < 6)
      have d1 := cell_of_blk hb' x0 x2 a0 a2
      have d2 := cell_of_blk hb' x0 x2 y0 (by omega : y < 6)
      have d3 := cell_of_blk hb' x0 x2 z0 (by omega : z < 6)
      have d4 := cell_of_blk hb3' b0 b2 e0 e2
      have hv := Lib.hid (show goG f j y z x = !(f x (j y z) != j (f x y) (f x z)) by unfold goG; simp [bne])
      cases hq : f x (j y z) != j (f x y) (f x z)
      all_goals rw [hq] at hv
      case false =>
        go_wp2
        go_quiet (fail)
        go_wp2
        go_roundw
        case rel => exact ⟨x + 1, by omega, by omega, rfl, ha.succ hv.out, hd.more _⟩
        case measure => simp [intOf]; omega
      case true =>
        have hf2 := Lib.hid (show overG n f j y z = false from allI_false (p := goG f j y z) x x0 hx hv.out)
        go_wp2
        go_quiet (fail)
        go_wp2
        go_ret
        exact ⟨ret_bool (by rw [hf2.out]), hd.more _⟩
    · have ht := Lib.hid (show overG n f j y z = true from ha.all (by omega : n ≤ x))
      go_wp2
      go_ret
      exact ⟨ret_bool (by rw [ht.out]), hd⟩

set_option maxRecDepth 100000 in
set_option maxHeartbeats 1000000 in
theorem goesOver_any (f j : Int → Int → Int) (n : Int) (w : World) (hf : FitG n f) (hj : FitG n j) (n0 : 0 ≤ n) (n6 : n ≤ 6) :
    Calls Try.prog 60 #[.agg (tab2 (iv f)), .agg (tab2 (iv j)), .int .i64 n] w fun e w' => e = .returned (.bool (all2 n (overG n f j))) ∧ Below w.heap.size w w' := by
  obtain ⟨w2, hw2⟩ : ∃ w2, w2 = ((w.alloc (.cells (tab2 (iv f)) 43)).alloc (.cells (tab2 (iv j)) 43)).alloc (.cells #[.int .i64 n] 3) := ⟨_, rfl⟩
  have hB : Below w.heap.size w w2 := by rw [hw2]; exact (((Below.refl _ _).alloc (Nat.le_refl _) _).alloc (by simp) _).alloc (by simp; omega) _
  have hb : Blk w2 w.heap.size 43 (iv f) := by rw [hw2]; exact ((Blk.new w rfl).alloc _).alloc _
  have hb3 : Blk w2 (w.heap.size + 1) 43 (iv j) := by rw [hw2]; exact (Blk.mk' (by simp) rfl).alloc _
  have h2 : w2.heap[w.heap.size + 1 + 1]? = some (.cells #[.int .i64 n] 3 (0, 0)) := by
    have := heap_alloc_new ((w.alloc (.cells (tab2 (iv f)) 43)).alloc (.cells (tab2 (iv j)) 43)) (.cells #[.int .i64 n] 3)
    rw [hw2]; simpa using this
  have H : ∀ (x y : Int) (wr : World), 0 ≤ x → x < n → 0 ≤ y → y < n → Below w2.heap.size w2 wr → Calls Try.prog 87 (#[.int .i64 x, .int .i64 y] ++ #[.pointer (some ⟨w.heap.size + 1 + 1, 0, none⟩), .pointer (some ⟨w.heap.size, 0, none⟩), .pointer (some ⟨w.heap.size + 1, 0, none⟩)]) wr fun e w' => e = .returned (.bool (overG n f j x y)) ∧ Below wr.heap.size wr w' := fun x y wr x0 x1 y0 y1 hbel => by
    rw [append23]
    exact (goClo_any f j w.heap.size (w.heap.size + 1 + 1) (w.heap.size + 1) n x y wr (Lib.hid hf) (Lib.hid hj) (hb.below hbel hb.lt) (hb3.below hbel hb3.lt) ((hbel.block _ (lt_of_block h2)).trans h2) n6 x0 x1 y0 y1).mono fun _ _ h => ⟨h.1, h.2.below _⟩
  have C := Lib.hid (allTwo_any _ _ n (overG n f j) _ n0 n6 enters_go H)
  clear H hb h2 hf hj hb3
  go_enter Try.func60, Try.ntmps60
  go_wp2_with (go_at_call 85; rw [← hw2]; refine (C.out).mono ?_; rintro e w5 ⟨rfl, h5⟩)
  go_ret
  exact ⟨rfl, hB.trans (h5.mono hB.size)⟩

/-- the joins of the lattice, as an array -/
def tabJ (L : List Int) : Int → Int → Int := tabT (revG (ordG L)) L.length
def tabM (L : List Int) : Int → Int → Int := tabT (ordG L) L.length
theorem LatAt.joins {w : World} {b : Nat} {L : List Int} (h : LatAt w b L) : w.rangeAt b 73 (tab2 (iv (tabJ L))).toList := fun j v hv => by
  have hj : j < (tab2 (iv (tabJ L))).toList.length := (List.getElem?_eq_some_iff.1 hv).1
  rw [cell_of_row w b _ _ _ _ h]
  unfold latOf latA
  rw [List.getElem?_toArray, List.getElem?_append_right (by simp [tab2]), show 73 + j - ((Value.int .i64 L.length :: (tab2 (bv (ordG L))).toList) ++ (tab2 (iv (tabT (ordG L) L.length))).toList).length = j by simp [tab2]]
  exact hv
theorem LatAt.meets {w : World} {b : Nat} {L : List Int} (h : LatAt w b L) : w.rangeAt b 37 (tab2 (iv (tabM L))).toList := fun j v hv => by
  have hj : j < (tab2 (iv (tabM L))).toList.length := (List.getElem?_eq_some_iff.1 hv).1
  have hj' : j < 36 := by simpa [tab2] using hj
  rw [cell_of_row w b _ _ _ _ h]
  unfold latOf latA
  rw [List.getElem?_toArray, List.getElem?_append_left (by simp [tab2]; omega), List.getElem?_append_right (by simp [tab2]), show 37 + j - (Value.int .i64 L.length :: (tab2 (bv (ordG L))).toList).length = j by simp [tab2]]
  exact hv
theorem wpList_load_mid_w {P : Program} {ops : Array Oper} {rest : List Oper} {op : Oper} {a : Act} {w : World} {Q : Exit → Act → World → Prop} (hw : Region.wanted op (yielded ops a.tmps) = true) (ty : TypeId) (x : Operand) (ho : op.op = .load ty x)
    (b o : Nat) (hx : a.eval x = .pointer (some ⟨b, o, none⟩)) (cs : Array Value) (d : TypeDesc) (hc : w.rangeAt b o cs.toList)
    (hu : P.underlying ty = some d) (hd : d.isRow = true) (hi : (P.info? ty).map (·.size) = some cs.size)
    (h : wpList P ops Q rest (a.put op.dst (.agg cs)) w) : wpList P ops Q (op :: rest) a w := by
  unfold wpList
  rw [if_pos hw]
  exact .inl (wp_load_mid ty x ho b o hx cs.toList d hc hu hd (by simpa using hi) (by simpa using h))

theorem fit_join {L : List Int} (h : latB L = true) : FitG L.length (tabJ L) := fun x y x0 x1 y0 y1 => by
  unfold tabJ; rw [tabT_join h x0 x1 y0 y1]; exact lat_jn h x0 x1 y0 y1
theorem fit_meet {L : List Int} (h : latB L = true) : FitG L.length (tabM L) := fun x y x0 x1 y0 y1 => by
  unfold tabM; rw [tabT_meet h x0 x1 y0 y1]; exact lat_mt h x0 x1 y0 y1
end Go.Proofs.Ytpfnfglaokiipaa
