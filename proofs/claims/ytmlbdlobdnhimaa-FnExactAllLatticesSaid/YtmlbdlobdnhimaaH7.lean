import Derived.Test.YtmlbdlobdnhimaaH6
import Derived.Test.YtmlbdlobdnhimaaR2
import Derived.Deep.RegionWith
namespace Go.Proofs.Ytmlbdlobdnhimaa
open Go.RowKit

/-- The cells of an algebra. -/
def algA (n : Int) (g : Int → Int → Bool) (m j : Int → Int → Int) (f i : Int → Int → Int) : Array Value := ((latA n g m j).toList ++ (tab2 (iv f)).toList ++ (tab2 (iv i)).toList).toArray
theorem algA_size (n : Int) (g : Int → Int → Bool) (m j f i : Int → Int → Int) : (algA n g m j f i).size = 181 := by simp [algA, tab2, latA]
theorem one_alg (n : Int) (g : Int → Int → Bool) (m j f i : Int → Int → Int) : (algA n g m j f i).all (·.oneCell') = true := by
  refine all_oneCell_toArray fun v hv => ?_
  have h1 := Array.all_eq_true_iff_forall_mem.1 (one_lat n g m j)
  have h2 := Array.all_eq_true_iff_forall_mem.1 (one_iv f)
  have h3 := Array.all_eq_true_iff_forall_mem.1 (one_iv i)
  simp only [List.mem_append, Array.mem_toList_iff] at hv
  rcases hv with (hv | hv) | hv
  · exact h1 v hv
  · exact h2 v hv
  · exact h3 v hv
def zeroAlg : Array Value := algA 0 zeroG zeroI zeroI zeroI zeroI
theorem one_zeroAlg : zeroAlg.all (·.oneCell') = true := one_alg _ _ _ _ _ _
/-- the algebra that the numbers are read as -/
def algOf (L : List Int) (T : List (List Int)) : Array Value := algA L.length (ordG L) (tabM L) (tabJ L) (timG L T) (impG L T)
theorem fit_tim {L : List Int} {T : List (List Int)} (h : shapeB L T = true) : FitG L.length (timG L T) := fun x y x0 x1 y0 y1 => by
  have hn : num L = L.length := rfl
  rw [timG_in (by omega) (by omega)]; exact shape_cell h x0 x1 y0 y1
theorem all2_congr {n : Int} {p q : Int → Int → Bool} (h : ∀ x y, 0 ≤ x → x < n → 0 ≤ y → y < n → p x y = q x y) : all2 n p = all2 n q :=
  allI_congr fun x x0 x1 => allI_congr fun y y0 y1 => h x y x0 x1 y0 y1
theorem areG_eq {L : List Int} {T : List (List Int)} (hl : latB L = true) (h : shapeB L T = true) : areG L.length (timG L T) (tabJ L) = allI (num L) (lwX L T) := by
  have hn : num L = L.length := rfl
  rw [← areB_eq]
  unfold areG areB
  rw [← hn]
  have ht : ∀ x y, 0 ≤ x → x < num L → 0 ≤ y → y < num L → timG L T x y = tv T x y := fun x y _ x1 _ y1 => timG_in x1 y1
  have hj : ∀ x y, 0 ≤ x → x < num L → 0 ≤ y → y < num L → tabJ L x y = jn L x y := fun x y x0 x1 y0 y1 => tabT_join hl x0 x1 y0 y1
  have hc := fun x y x0 x1 y0 y1 => shape_cell (x := x) (y := y) h x0 x1 y0 y1
  have hjl := fun x y x0 x1 y0 y1 => lat_jn (x := x) (y := y) hl x0 x1 y0 y1
  have hp := lat_len hl
  congr 1
  · congr 1
    · congr 1
      · exact all2_congr fun x y x0 x1 y0 y1 => by unfold sbG sbXY; rw [ht x y x0 x1 y0 y1, ht y x y0 y1 x0 x1]
      · exact all2_congr fun x y x0 x1 y0 y1 => allI_congr fun z z0 z1 => by
          obtain ⟨a0, a1⟩ := hc x y x0 x1 y0 y1
          obtain ⟨b0, b1⟩ := hc y z y0 y1 z0 z1
          unfold asG asQ
          rw [ht x y x0 x1 y0 y1, ht y z y0 y1 z0 z1, ht _ z a0 a1 z0 z1, ht x _ x0 x1 b0 b1]
    · exact allI_congr fun x x0 x1 => by
        unfold kbG kbX
        rw [ht x (num L - 1) x0 x1 (by omega) (by omega), ht x 0 x0 x1 (by omega) (by omega)]
  · exact all2_congr fun y z y0 y1 z0 z1 => allI_congr fun x x0 x1 => by
      obtain ⟨a0, a1⟩ := hjl y z y0 y1 z0 z1
      obtain ⟨b0, b1⟩ := hc x y x0 x1 y0 y1
      obtain ⟨c0, c1⟩ := hc x z x0 x1 z0 z1
      unfold goG goQ
      rw [hj y z y0 y1 z0 z1, ht x _ x0 x1 a0 a1, ht x y x0 x1 y0 y1, ht x z x0 x1 z0 z1, hj _ _ b0 b1 c0 c1]

end Go.Proofs.Ytmlbdlobdnhimaa
