import Derived.Test.YtpfnfglaokiipaaE3
namespace Go.Proofs.Ytpfnfglaokiipaa
open Go.RowKit

def covR (L : List Int) (x y z : Int) : Bool := z == x || z == y || !bl L x z || !bl L z y
def covQ (L : List Int) (x y : Int) : Bool := (y != x && bl L x y) && allI (num L) (covR L x y)
def covI (L : List Int) (x : Int) : List Int := if goodB L x x then filtTo (covQ L x) (num L) else []
theorem covI_t {L : List Int} {x : Int} (h : goodB L x x = true) : covI L x = filtTo (covQ L x) (num L) := if_pos h
theorem covI_f {L : List Int} {x : Int} (h : goodB L x x = false) : covI L x = [] := if_neg (by rw [h]; decide)
theorem covI_len (L : List Int) (x : Int) : (covI L x).length ≤ 6 := by
  cases h : goodB L x x with
  | false => rw [covI_f h]; simp
  | true => rw [covI_t h]; have := filtTo_len (covQ L x) (num L); have := (goodB_parts h).2.2.1; omega

set_option maxRecDepth 100000 in
set_option maxHeartbeats 4000000 in
/-- spec.covers -/
theorem covers_any (b off cap : Nat) (L : List Int) (x : Int) (w : World) (hc : Cells w b off L) (hs : Small L) (h1 : 1 ≤ num L) (x0 : 0 ≤ x) (x1 : x < num L) :
    Calls Try.prog 53 #[.slice (some ⟨b, off, none⟩) L.length cap, .int .i64 x] w (RetOwn w.heap.size (filtTo (covQ L x) (num L)) w) := by
  have h6 := hs.len
  have hlt := hc.lt h1
  have hn : num L = L.length := rfl
  have HN := Lib.hid hn; clear hn
  have hn1 : num L ≤ L.length := by rw [HN.out]; omega
  have hn2 : (L.length : Int) ≤ num L := by rw [HN.out]; omega
  obtain ⟨i0, hi, hz0, hz1, hz2⟩ := info_parts info_int
  go_enter Try.func53, Try.ntmps53
  go_wp2
  go_loopw [5, 6] (fun v c wr => ∃ y : Int, 0 ≤ y ∧ y ≤ num L ∧ c = .int .i64 y ∧ Own w.heap.size wr v (filtTo (covQ L x) y) ∧ Below w.heap.size w wr) (fun _ c _ => (6 - intOf c).toNat)
  case atStart => exact ⟨0, by omega, by omega, rfl, Own.row (L := []) (heap_alloc_new w _) (Nat.le_refl _) (Nat.zero_le _), (Below.refl _ _).alloc (Nat.le_refl _) _⟩
  case round =>
    obtain ⟨y, y0, y1, rfl, hown, hbel⟩ := hrel
    by_cases hy : y < num L
    · have hyl : y < L.length := by omega
      have hc2 : Cells wr b off L := hc.below hbel hlt
      have hlen := filtTo_len (covQ L x) y
      have hsu := Lib.hid (filtTo_succ (covQ L x) y y0)
      have hq := Lib.hid (show covQ L x y = ((y != x && bl L x y) && allI (num L) (covR L x y)) from rfl)
      cases hA : y != x <;> cases hB : bl L x y
      all_goals
        go_wp2_with (go_at_call 49; refine (below_any _ _ _ L _ _ _ hc2 hs (by omega) (by omega) (by omega) (by omega)).mono ?_; rintro e w' ⟨rfl, rfl⟩)
        obtain ⟨w1, rfl⟩ : ∃ w1 : World, w1 = wr := ⟨_, rfl⟩
        go_loop [7, 8] (fun o c => ∃ z : Int, 0 ≤ z ∧ z ≤ num L ∧ c = .int .i64 z ∧ o = .bool (okTo (y != x && bl L x y) (covR L x y) z)) (fun _ c => (6 - intOf c).toNat)
        case atStart => exact ⟨0, by omega, by omega, rfl, by simp [okTo_zero, *]⟩
        case round =>
          obtain ⟨z, z0, z1, rfl, rfl⟩ := hrel
          have hsz := Lib.hid (okTo_succ (y != x && bl L x y) (covR L x y) z z0)
          by_cases hz : z < num L
          · cases hok : okTo (y != x && bl L x y) (covR L x y) z with
            | true =>
              rw [hok] at hsz
              clear hok hA hB
              have hr := Lib.hid (show covR L x y z = (z == x || z == y || !bl L x z || !bl L z y) from rfl)
              cases hC : z == x <;> cases hD : z == y <;> cases hE : bl L x z <;> cases hF : bl L z y
              all_goals
                rw [hC, hD, hE, hF] at hr
                go_wp2_with (go_at_call 49; refine (below_any _ _ _ L _ _ _ hc2 hs (by omega) (by omega) (by omega) (by omega)).mono ?_; rintro e w' ⟨rfl, rfl⟩)
                go_round
                case rel => exact ⟨z + 1, by omega, by omega, rfl, by rw [hsz.out, hr.out]; rfl⟩
                case measure => simp [intOf]; omega
            | false =>
              have he := okTo_end z1 (.inr hok)
              rw [hok, ← hq.out] at he
              have hsu2 := Lib.hid (show filtTo (covQ L x) (y + 1) = filtTo (covQ L x) y by rw [hsu.out, he]; rfl)
              clear he hA hB
              go_wp2
              go_roundw
              case rel => exact ⟨y + 1, by omega, by omega, rfl, by rw [hsu2.out]; exact hown, hbel⟩
              case measure => simp [intOf]; omega
          · have he := okTo_end (A := y != x && bl L x y) (q := covR L x y) z1 (.inl (by omega))
            rw [← hq.out] at he
            clear hA hB
            cases hok : okTo (y != x && bl L x y) (covR L x y) z with
            | true =>
              rw [hok] at he
              have hsu2 := Lib.hid (show filtTo (covQ L x) (y + 1) = filtTo (covQ L x) y ++ [y] by rw [hsu.out, he]; rfl)
              clear he
              go_wp2_with (at_builtin; refine wpList_append_own _ rfl _ _ 22 rfl w.heap.size 3 i0 (.int .i64 0) 1 8 Try.underlying22 hi hz0 hz1 hz2 rfl (by decide) _ _ _ rfl (World.ownsRow.alloc hown _) ⟨w1.heap.size, 0, none⟩ 1 1 [.int .i64 y] rfl rfl (cell_one_new _ _ _) (fun x hx => by simp at hx; subst hx; rfl) (by unfold maxLen; omega) (by omega) (by have := hbel.size; simp; omega) ?_; intro v' w2 hown1 hgrow _)
              go_roundw
              case rel => exact ⟨y + 1, by omega, by omega, rfl, by unfold Own; rw [hsu2.out, List.map_append, List.length_append]; exact hown1, (hbel.alloc hbel.size _).grown hgrow (by have := hbel.size; simp; omega) (fun q hq => (World.ownsRow.lt hown q hq).1)⟩
              case measure => simp [intOf]; omega
            | false =>
              rw [hok] at he
              have hsu2 := Lib.hid (show filtTo (covQ L x) (y + 1) = filtTo (covQ L x) y by rw [hsu.out, he]; rfl)
              clear he
              go_wp2
              go_roundw
              case rel => exact ⟨y + 1, by omega, by omega, rfl, by rw [hsu2.out]; exact hown, hbel⟩
              case measure => simp [intOf]; omega
    · have e : y = num L := by omega
      subst e
      go_wp2
      go_ret
      exact ⟨_, rfl, hown, hbel⟩
end Go.Proofs.Ytpfnfglaokiipaa
