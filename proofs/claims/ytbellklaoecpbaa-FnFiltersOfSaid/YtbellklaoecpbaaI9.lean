import Derived.Test.YtbellklaoecpbaaI8
namespace Go.Proofs.Ytbellklaoecpbaa
open Go.RowKit

/-- The cells of a lattice. -/
def latA (n : Int) (g : Int → Int → Bool) (m j : Int → Int → Int) : Array Value := ((.int .i64 n :: (tab2 (bv g)).toList) ++ (tab2 (iv m)).toList ++ (tab2 (iv j)).toList).toArray
theorem latA_size (n : Int) (g : Int → Int → Bool) (m j : Int → Int → Int) : (latA n g m j).size = 109 := by simp [latA, tab2]
theorem one_lat (n : Int) (g : Int → Int → Bool) (m j : Int → Int → Int) : (latA n g m j).all (·.oneCell') = true := by
  refine all_oneCell_toArray fun v hv => ?_
  have h1 := Array.all_eq_true_iff_forall_mem.1 (one_bv g)
  have h2 := Array.all_eq_true_iff_forall_mem.1 (one_iv m)
  have h3 := Array.all_eq_true_iff_forall_mem.1 (one_iv j)
  simp only [List.mem_append, List.mem_cons, Array.mem_toList_iff] at hv
  rcases hv with (hv | hv) | hv
  · rcases hv with rfl | hv
    · rfl
    · exact h1 v hv
  · exact h2 v hv
  · exact h3 v hv
theorem info_lat : (Try.prog.info? 61).map (·.size) = some 109 := by kernel_rfl
theorem size_lat (n : Int) (g : Int → Int → Bool) (m j : Int → Int → Int) : (Try.prog.info? 61).map (·.size) = some (latA n g m j).size := by rw [latA_size]; exact info_lat
def zeroLat : Array Value := latA 0 zeroG zeroI zeroI
theorem built_lat (n : Int) (g : Int → Int → Bool) (m j : Int → Int → Int) :
    Try.prog.built 61 [(0, .int .i64 n), (1, .agg (tab2 (bv g))), (2, .agg (tab2 (iv m))), (3, .agg (tab2 (iv j)))] = some (latA n g m j) := by kernel_rfl
/-- the results of a function that hands back a lattice and a bool -/
theorem results_lat_tmp {fn : Func} {p u : Tmp} (h : fn.results = #[.cell p 61, .tmp u]) (tmps : Array Value) (w : World) (g : Nat) (hp : tmps.getD p undef = .pointer (some ⟨g, 0, none⟩))
    (arr : Array Value) {v : Value} (hz : arr.size = 109) (hg : w.heap[g]? = some (.cells arr 61 (0, 0))) (hu : tmps.getD u undef = v) :
    (results fn tmps).run Try.prog w = .ok (.tuple #[.agg arr, v]) w := by
  have hp' : tmps[p]?.getD undef = .pointer (some ⟨g, 0, none⟩) := by simpa using hp
  have hu' : tmps[u]?.getD undef = v := by simpa using hu
  have hl := run_loadVar_row (P := Try.prog) w g _ 61 _ _ _ hg Try.underlying61 rfl (by rw [hz]; exact info_lat)
  simp [results, h, hp', hu', asAddr, hl]
theorem wpList_load_row_w {P : Program} {ops : Array Oper} {rest : List Oper} {o : Oper} {a : Act} {w : World} {Q : Exit → Act → World → Prop} (hw : Region.wanted o (yielded ops a.tmps) = true) (ty : TypeId) (x : Operand) (ho : o.op = .load ty x)
    (g : Nat) (hx : a.eval x = .pointer (some ⟨g, 0, none⟩)) (t : TypeId) (cs : Array Value) (fr : Nat × Nat) (d : TypeDesc) (hg : w.heap[g]? = some (.cells cs t fr))
    (hu : P.underlying ty = some d) (hd : (match d with | .struct _ | .array _ _ => true | _ => false) = true) (hi : (P.info? ty).map (·.size) = some cs.size)
    (h : wpList P ops Q rest (a.put o.dst (.agg cs)) w) : wpList P ops Q (o :: rest) a w := by
  unfold wpList
  rw [if_pos hw]
  exact .inl (wp_load_row ty x ho g hx t cs fr d hg hu hd hi h)
theorem Rd.cases {w : World} {a : Option Addr} {L : List Int} (h : Rd w a L) : (num L < 1 ∨ 6 < num L) ∨ (1 ≤ num L ∧ num L ≤ 6 ∧ ∃ b off, a = some ⟨b, off, none⟩ ∧ Cells w b off L) := by
  by_cases h1 : 1 ≤ num L ∧ num L ≤ 6
  · exact .inr ⟨h1.1, h1.2, h.pos h1.1⟩
  · exact .inl (by omega)
theorem Cells.lt {w : World} {b off : Nat} {L : List Int} (h : Cells w b off L) (h1 : 1 ≤ num L) : b < w.heap.size := block_lt_of_cell (h.at 0 (by omega) (by omega))


set_option maxRecDepth 100000 in
set_option maxHeartbeats 2000000 in
theorem readLattice_len (a : Option Addr) (cap : Nat) (L : List Int) (w : World) (hl : num L < 1 ∨ 6 < num L) :
    Calls Try.prog 69 #[.slice a L.length cap] w fun e w' => e = .returned (.tuple #[.agg zeroLat, .bool false]) ∧ Below w.heap.size w w' := by
  go_enter Try.func69, Try.ntmps69
  go_wp2_with (first | (go_at_call 114; refine (readOrder_len _ _ _ _ hl).mono ?_; rintro e w1 ⟨rfl, hb1⟩; have hz : w1.heap[w.heap.size]? = some (.cells zeroLat 61 (0, 0)) := (hb1.block _ (by simp)).trans (heap_alloc_new w _); have hB : Below w.heap.size w w1 := ((Below.refl _ _).alloc (Nat.le_refl _) _).trans (hb1.mono (by simp)); clear hb1) | (refine wpList_store_row rfl 56 _ _ rfl w1.heap.size _ rfl rfl _ _ (Blk.heap (f := bv fun _ _ => false) (Blk.new w1 rfl)) (size_order _) rfl (one_bv _) ?_; rw [World.setRow_alloc_new]; obtain ⟨b2, hb2⟩ : ∃ b2, b2 = w1.heap.size := ⟨_, rfl⟩; obtain ⟨w2, hw2⟩ : ∃ w2, w2 = w1.alloc (.cells (tab2 (bv zeroG)) 56) := ⟨_, rfl⟩; rw [← hw2, ← hb2]; have hb : Blk w2 b2 56 (bv zeroG) := (by rw [hw2, hb2]; exact Blk.new w1 rfl); replace hz : w2.heap[w.heap.size]? = some (.cells zeroLat 61 (0, 0)) := (by rw [hw2, Below.heap_alloc _ _ _ (lt_of_block hz)]; exact hz); replace hB : Below w.heap.size w w2 := (by rw [hw2]; exact hB.alloc hB.size _); clear hw2 hb2 w1) | (refine wpList_store_row rfl 61 _ _ rfl w.heap.size zeroLat rfl rfl _ _ hz (size_lat _ _ _ _) rfl (one_lat _ _ _ _) ?_))
  exact bodyPost_ret (v := .tuple #[.agg zeroLat, .bool false]) (results_lat_tmp rfl _ _ w.heap.size rfl _ (latA_size _ _ _ _) (setRow_heap _ _ _ _ _ _ hz) rfl) rfl ⟨rfl, below_setRow' hB (Nat.le_refl _) _⟩

end Go.Proofs.Ytbellklaoecpbaa
