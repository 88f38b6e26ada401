import Derived.Test.YtnmhbbekmepinaaSE1
import Derived.Test.YtnmhbbekmepinaaSS1
import Derived.Test.YtnmhbbekmepinaaG9
import Derived.Deep.RegionHeld3
import Derived.Deep.AppendLies
namespace Go.Proofs.Ytnmhbbekmepinaa
open Go.RowKit
set_option linter.unusedVariables false

theorem ownCapS {B : Nat} {w : World} {a : Option Addr} {n c : Nat} {L : List Int} (h : Own B w (.slice a n c) L) : L.length ≤ c := by
  rcases h.2 with ⟨e, hn⟩ | ⟨g, cap, cur, e, _, hg, hc, _⟩
  · omega
  · injection e with _ _ e
    rw [e]; exact hc
set_option maxRecDepth 100000 in
set_option maxHeartbeats 2000000 in
/-- impl.gapsOf -/
theorem gapsOf_any (a : Option Addr) (ca : Nat) (F : List Int) (w : World) (hr : Rd w a F) (h1 : 1 ≤ F.length) (h6 : F.length ≤ 6) (hv : ∀ k : Int, 0 ≤ k → k < F.length → 0 ≤ nth F k ∧ nth F k ≤ 6) :
    Calls Try.prog 114 #[.slice a F.length ca] w (RetSl w.heap.size (gapsL F) w) := by
  obtain ⟨i0, hi, hz0, hz1, hz2⟩ := info_parts info_int
  obtain ⟨fb, fo, rfl, hc⟩ := hr (by intro e; rw [e] at h1; simp at h1)
  have KF := Lib.hid (show ∀ wz, Below w.heap.size w wz → ∀ k : Int, 0 ≤ k → k < F.length → wz.cell? ⟨fb, fo + k.toNat, none⟩ = some (.int .i64 (nth F k)) from fun wz h k k0 k1 => (h.cell (by exact block_lt_of_cell (hc.at k k0 k1))).trans (hc.at k k0 k1))
  have hfb : fb < w.heap.size := by have := block_lt_of_cell (hc.at 0 (by omega) (show (0 : Int) < num F from (by show (0 : Int) < (F.length : Int); omega))); exact this
  obtain ⟨G, hG⟩ : ∃ G : Int → Int, G = fun i => nth F (i + 1) - nth F i := ⟨_, rfl⟩
  have HG := Lib.hid (show gapsL F = lstTo G ((F.length : Int) - 1) by rw [hG]; rfl)
  have HV := Lib.hid hv
  have HGG := Lib.hid hG
  clear hr hc hv hG
  go_enter Try.func114, Try.ntmps114
  go_wp2
  go_loopw [3, 4] (fun lv xv wr => ∃ k : Int, 1 ≤ k ∧ k ≤ F.length ∧ xv = .int .i64 k ∧ Own w.heap.size wr lv (lstTo G (k - 1)) ∧ Below w.heap.size w wr) (fun _ xv _ => (10 - intOf xv).toNat)
  case atStart => exact ⟨1, by omega, by omega, rfl, Own.nothing _ _, Below.refl _ _⟩
  case round =>
    obtain ⟨k, k0, k1, rfl, hown, hbel⟩ := hrel
    by_cases hk : k < F.length
    · have hs := hbel.size
      have c0 := KF.out _ hbel k (by omega) hk
      have c1 := KF.out _ hbel (k - 1) (by omega) (by omega)
      rw [show (k - 1).toNat = k.toNat - 1 by omega] at c1
      have hl := lstTo_len G (k - 1) (by omega)
      have hsu := Lib.hid (show lstTo G (k + 1 - 1) = lstTo G (k - 1) ++ [nth F k - nth F (k - 1)] by rw [show k + 1 - 1 = k - 1 + 1 by omega, lstTo_succ G _ (by omega), HGG.out]; show _ ++ [nth F (k - 1 + 1) - nth F (k - 1)] = _; rw [show k - 1 + 1 = k by omega])
      obtain ⟨v0, v1⟩ := HV.out k (by omega) hk
      obtain ⟨u0, u1⟩ := HV.out (k - 1) (by omega) (by omega)
      obtain ⟨P, hP⟩ : ∃ P, P = lstTo G (k - 1) := ⟨_, rfl⟩
      rw [← hP] at hown hl hsu
      obtain ⟨va, vc, rfl, _⟩ := hown.slice
      have hno : some fb ≠ (Value.slice va P.length vc).ownBlock := fun e => by
        have := (World.ownsRow.lt hown fb e.symm).1
        omega
      have HNO := Lib.hid hno
      have OW := Lib.hid hown
      obtain ⟨x, hx⟩ : ∃ x, x = nth F k := ⟨_, rfl⟩
      obtain ⟨y, hy⟩ : ∃ y, y = nth F (k - 1) := ⟨_, rfl⟩
      rw [← hx] at c0 v0 v1 hsu
      rw [← hy] at c1 u0 u1 hsu
      have kw : IntKind.i64.wrap (x - y) = x - y := IntWalk.i64_in _ (by omega)
      have kk : IntKind.i64.wrap (k - 1) = k - 1 := IntWalk.i64_in _ (by omega)
      have kp : IntKind.i64.wrap (k + 1) = k + 1 := IntWalk.i64_in _ (by omega)
      have ix0 : 0 ≤ k := by omega
      have iy0 : 0 ≤ k - 1 := by omega
      have iy1 : k - 1 < F.length := by omega
      clear hP hx hy hno hown
      go_wp2
      go_region_held3 (fun w' => w'.cell? ⟨fb, fo + k.toNat, none⟩ = some (.int .i64 x) ∧ w'.cell? ⟨fb, fo + (k.toNat - 1), none⟩ = some (.int .i64 y))
        (first
          | go_keep
          | (go_split_ands
             refine ⟨?_, ?_⟩
             · (rw [hgrow.cell_far _ (by simp; omega) HNO.out]; assumption)
             · (rw [hgrow.cell_far _ (by simp; omega) HNO.out]; assumption)))
        ((refine step_append_lies _ (by rfl) _ _ _ (by rfl) w.heap.size 3 i0 _ 1 8 Try.underlying22 hi hz0 hz1 hz2 rfl (by omega) _ _ _ (by rfl) (World.ownsRow.drew (World.ownsRow.alloc OW.out _))
            ⟨wr.heap.size, 0, none⟩ 1 1 [.int .i64 (x - y)] (by rfl) (by rfl) (World.news_of_block (cs := #[.int .i64 (x - y)]) (t := 3) (fr := (0, 0)) (heap_alloc_new wr _)) (by simp [Value.oneCell'])
            (by omega) (by unfold maxLen; omega) (by omega) (by simp; omega) (wr.heap.size + 1) (by simp) ?_; intro gg cap w9 hown1 hgrow hat hlt))
      have hb9 : Below w.heap.size w w9 := ((hbel.alloc hs _).drew).grown hgrow (by simp; omega) (fun q hq => (World.ownsRow.lt OW.out q hq).1)
      clear c0 c1 hgrow hat
      go_wp2
      go_roundw
      case rel => exact ⟨k + 1, by omega, by omega, rfl, by unfold Own; rw [hsu.out, List.map_append, List.length_append]; exact hown1, hb9⟩
      case measure => simp [intOf]; omega
    · have e : k = F.length := by omega
      subst e
      obtain ⟨va, vc, rfl, _⟩ := hown.slice
      go_wp2
      go_ret
      rw [HG.out]
      exact ⟨va, vc, rfl, hown, hbel⟩
end Go.Proofs.Ytnmhbbekmepinaa
