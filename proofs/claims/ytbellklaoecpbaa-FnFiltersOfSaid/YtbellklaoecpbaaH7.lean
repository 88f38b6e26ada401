import Derived.Test.YtbellklaoecpbaaH6
import Derived.Test.YtbellklaoecpbaaR2
import Derived.Deep.RegionWith
namespace Go.Proofs.Ytbellklaoecpbaa
open Go.RowKit

/-- The cells of an algebra. -/
def algA (n : Int) (g : Int → Int → Bool) (m j : Int → Int → Int) (f i : Int → Int → Int) : Array Value := ((latA n g m j).toList ++ (tab2 (iv f)).toList ++ (tab2 (iv i)).toList).toArray
theorem algA_size (n : Int) (g : Int → Int → Bool) (m j f i : Int → Int → Int) : (algA n g m j f i).size = 181 := by simp [algA, tab2, latA]
theorem one_alg (n : Int) (g : Int → Int → Bool) (m j f i : Int → Int → Int) : (algA n g m j f i).all (·.oneCell') = true := by
  refine all_oneCell_toArray fun v hv => ?_
  have h1 := Array.all_eq_true_iff_forall_mem.1 (one_lat n g m j)
  have h2 := Array.all_eq_true_iff_forall_mem.1 (one_iv f)
  have h3 := Array.all_eq_true_iff_forall_mem.1 (one_iv i)
  simp only [List.mem_append, Array.mem_toList_iff] at hv
  rcases hv with (hv | hv) | hv
  · exact h1 v hv
  · exact h2 v hv
  · exact h3 v hv
theorem info_alg : (Try.prog.info? 63).map (·.size) = some 181 := by kernel_rfl
theorem size_alg (n : Int) (g : Int → Int → Bool) (m j f i : Int → Int → Int) : (Try.prog.info? 63).map (·.size) = some (algA n g m j f i).size := by rw [algA_size]; exact info_alg
def zeroAlg : Array Value := algA 0 zeroG zeroI zeroI zeroI zeroI
theorem size_zeroAlg : (Try.prog.info? 63).map (·.size) = some zeroAlg.size := size_alg _ _ _ _ _ _
theorem one_zeroAlg : zeroAlg.all (·.oneCell') = true := one_alg _ _ _ _ _ _
theorem built_alg (n : Int) (g : Int → Int → Bool) (m j f i : Int → Int → Int) :
    Try.prog.built 63 [(0, .agg (latA n g m j)), (1, .agg (tab2 (iv f))), (2, .agg (tab2 (iv i)))] = some (algA n g m j f i) := by kernel_rfl
theorem built_alg0 : Try.prog.built 63 [] = some zeroAlg := by kernel_rfl
/-- the algebra that the numbers are read as -/
def algOf (L : List Int) (T : List (List Int)) : Array Value := algA L.length (ordG L) (tabM L) (tabJ L) (timG L T) (impG L T)
theorem results_alg_tmp {fn : Func} {p u : Tmp} (h : fn.results = #[.cell p 63, .tmp u]) (tmps : Array Value) (w : World) (g : Nat) (hp : tmps.getD p undef = .pointer (some ⟨g, 0, none⟩))
    (arr : Array Value) {v : Value} (hz : arr.size = 181) (hg : w.heap[g]? = some (.cells arr 63 (0, 0))) (hu : tmps.getD u undef = v) :
    (results fn tmps).run Try.prog w = .ok (.tuple #[.agg arr, v]) w := by
  have hp' : tmps[p]?.getD undef = .pointer (some ⟨g, 0, none⟩) := by simpa using hp
  have hu' : tmps[u]?.getD undef = v := by simpa using hu
  have hl := run_loadVar_row (P := Try.prog) w g _ 63 _ _ _ hg Try.underlying63 rfl (by rw [hz]; exact info_alg)
  simp [results, h, hp', hu', asAddr, hl]
theorem fit_tim {L : List Int} {T : List (List Int)} (h : shapeB L T = true) : FitG L.length (timG L T) := fun x y x0 x1 y0 y1 => by
  have hn : num L = L.length := rfl
  rw [timG_in (by omega) (by omega)]; exact shape_cell h x0 x1 y0 y1
theorem all2_congr {n : Int} {p q : Int → Int → Bool} (h : ∀ x y, 0 ≤ x → x < n → 0 ≤ y → y < n → p x y = q x y) : all2 n p = all2 n q :=
  allI_congr fun x x0 x1 => allI_congr fun y y0 y1 => h x y x0 x1 y0 y1
theorem areG_eq {L : List Int} {T : List (List Int)} (hl : latB L = true) (h : shapeB L T = true) : areG L.length (timG L T) (tabJ L) = allI (num L) (lwX L T) := by
  have hn : num L = L.length := rfl
  rw [← areB_eq]
  unfold areG areB
  rw [← hn]
  have ht : ∀ x y, 0 ≤ x → x < num L → 0 ≤ y → y < num L → timG L T x y = tv T x y := fun x y _ x1 _ y1 => timG_in x1 y1
  have hj : ∀ x y, 0 ≤ x → x < num L → 0 ≤ y → y < num L → tabJ L x y = jn L x y := fun x y x0 x1 y0 y1 => tabT_join hl x0 x1 y0 y1
  have hc := fun x y x0 x1 y0 y1 => shape_cell (x := x) (y := y) h x0 x1 y0 y1
  have hjl := fun x y x0 x1 y0 y1 => lat_jn (x := x) (y := y) hl x0 x1 y0 y1
  have hp := lat_len hl
  congr 1
  · congr 1
    · congr 1
      · exact all2_congr fun x y x0 x1 y0 y1 => by unfold sbG sbXY; rw [ht x y x0 x1 y0 y1, ht y x y0 y1 x0 x1]
      · exact all2_congr fun x y x0 x1 y0 y1 => allI_congr fun z z0 z1 => by
          obtain ⟨a0, a1⟩ := hc x y x0 x1 y0 y1
          obtain ⟨b0, b1⟩ := hc y z y0 y1 z0 z1
          unfold asG asQ
          rw [ht x y x0 x1 y0 y1, ht y z y0 y1 z0 z1, ht _ z a0 a1 z0 z1, ht x _ x0 x1 b0 b1]
    · exact allI_congr fun x x0 x1 => by
        unfold kbG kbX
        rw [ht x (num L - 1) x0 x1 (by omega) (by omega), ht x 0 x0 x1 (by omega) (by omega)]
  · exact all2_congr fun y z y0 y1 z0 z1 => allI_congr fun x x0 x1 => by
      obtain ⟨a0, a1⟩ := hjl y z y0 y1 z0 z1
      obtain ⟨b0, b1⟩ := hc x y x0 x1 y0 y1
      obtain ⟨c0, c1⟩ := hc x z x0 x1 z0 z1
      unfold goG goQ
      rw [hj y z y0 y1 z0 z1, ht x _ x0 x1 a0 a1, ht x y x0 x1 y0 y1, ht x z x0 x1 z0 z1, hj _ _ b0 b1 c0 c1]

set_option maxRecDepth 100000 in
set_option maxHeartbeats 2000000 in
theorem readAlgebra_lat (a b : Option Addr) (ca cb : Nat) (L : List Int) (T : List (List Int)) (w : World) (hr : Rd w a L) (h : latB L = false) :
    Calls Try.prog 66 #[.agg #[.slice a L.length ca, .slice b T.length cb]] w fun e w' => e = .returned (.tuple #[.agg zeroAlg, .bool false]) ∧ Below w.heap.size w w' := by
  have hB1 : Below w.heap.size w ((w.alloc (.cells #[.slice a L.length ca, .slice b T.length cb] 26)).alloc (.cells zeroAlg 63)) := ((Below.refl _ _).alloc (Nat.le_refl _) _).alloc (by simp) _
  have hr1 := hr.below hB1
  have hz1 : ((w.alloc (.cells #[.slice a L.length ca, .slice b T.length cb] 26)).alloc (.cells zeroAlg 63)).heap[w.heap.size + 1]? = some (.cells zeroAlg 63 (0, 0)) := heap_alloc2_new _ _ _
  go_enter Try.func66, Try.ntmps66
  go_wp2_with (first
    | go_skip
    | (go_at_call 69; refine (readLattice_no _ _ L _ hr1 h).mono ?_; rintro e w2 ⟨rfl, h2⟩; have hz := (h2.block _ (lt_of_block hz1)).trans hz1; have hB := hB1.trans (h2.mono hB1.size); clear h2)
    | (refine wpList_store_row rfl 61 _ _ rfl w2.heap.size zeroLat rfl rfl _ _ (heap_alloc_new w2 (.cells zeroLat 61)) (size_lat _ _ _ _) rfl (one_lat _ _ _ _) ?_; rw [World.setRow_alloc_new]; obtain ⟨w3, hw3⟩ : ∃ w3, w3 = w2.alloc (.cells zeroLat 61) := ⟨_, rfl⟩; rw [← hw3]; replace hz : w3.heap[w.heap.size + 1]? = some (.cells zeroAlg 63 (0, 0)) := (by rw [hw3, Below.heap_alloc _ _ _ (lt_of_block hz)]; exact hz); replace hB : Below w.heap.size w w3 := (by rw [hw3]; exact hB.alloc hB.size _); clear hw3)
    | (refine wpList_store_row rfl 63 _ _ rfl (w.heap.size + 1) zeroAlg rfl rfl _ _ hz size_zeroAlg rfl one_zeroAlg ?_))
  exact bodyPost_ret (v := .tuple #[.agg zeroAlg, .bool false]) (results_alg_tmp rfl _ _ (w.heap.size + 1) rfl _ (algA_size _ _ _ _ _ _) (setRow_heap _ _ _ _ _ _ hz) rfl) rfl ⟨rfl, below_setRow' hB (by omega) _⟩
end Go.Proofs.Ytbellklaoecpbaa
