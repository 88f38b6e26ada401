import Derived.Test.YtbellklaoecpbaaH4
import Derived.Test.YtbellklaoecpbaaL4
import Derived.Test.YtbellklaoecpbaaR2
import Derived.Test.YtbellklaoecpbaaT4
import Derived.Test.YtbellklaoecpbaaA5
namespace Go.Proofs.Ytbellklaoecpbaa
open Go.RowKit

/-- the order of pairs -/
def crossG (A B : List Int) (p q : Int) : Bool := bl A (p / num B) (q / num B) && bl B (p % num B) (q % num B)
theorem div_fits {p m n : Int} (p0 : 0 ≤ p) (m1 : 1 ≤ m) (h : p < n * m) : 0 ≤ p / m ∧ p / m < n ∧ 0 ≤ p % m ∧ p % m < m :=
  ⟨Int.ediv_nonneg p0 (by omega), Int.ediv_lt_of_lt_mul (by omega) h, Int.emod_nonneg _ (by omega), Int.emod_lt_of_pos _ (by omega)⟩
end Go.Proofs.Ytbellklaoecpbaa

namespace Go.Proofs.Ytbellklaoecpbaa
open Go.RowKit

theorem mul_le36 {x y : Int} (x0 : 0 ≤ x) (x6 : x ≤ 6) (y0 : 0 ≤ y) (y6 : y ≤ 6) : 0 ≤ x * y ∧ x * y ≤ 36 :=
  ⟨Int.mul_nonneg x0 y0, by have := Int.mul_le_mul x6 y6 y0 (by omega : (0 : Int) ≤ 6); omega⟩
def crossI (A B : List Int) : List Int := if latB A && latB B && decide ((A.length : Int) * B.length ≤ 6) then upL (crossG A B) ((A.length : Int) * B.length) else []
theorem crossI_a {A B : List Int} (h : latB A = false) : crossI A B = [] := by unfold crossI; rw [h]; rfl
theorem crossI_b {A B : List Int} (h : latB B = false) : crossI A B = [] := by unfold crossI; rw [h, Bool.and_false]; rfl
theorem crossI_c {A B : List Int} (h : ¬ (A.length : Int) * B.length ≤ 6) : crossI A B = [] := by unfold crossI; rw [decide_eq_false h, Bool.and_false]; rfl
theorem crossI_t {A B : List Int} (h1 : latB A = true) (h2 : latB B = true) (h : (A.length : Int) * B.length ≤ 6) : crossI A B = upL (crossG A B) ((A.length : Int) * B.length) := by unfold crossI; rw [h1, h2, decide_eq_true h]; rfl
theorem upL_len (g : Int → Int → Bool) (n : Int) : (upL g n).length = n.toNat := by simp [upL]
theorem crossI_len (A B : List Int) : (crossI A B).length ≤ 6 := by
  unfold crossI
  split
  · rename_i h
    simp only [Bool.and_eq_true, decide_eq_true_eq] at h
    rw [upL_len]; omega
  · simp
end Go.Proofs.Ytbellklaoecpbaa

namespace Go.Proofs.Ytbellklaoecpbaa
open Go.RowKit

/-- the rows of an order up to one -/
def upP (g : Int → Int → Bool) (n p : Int) : List Int := (List.range p.toNat).map fun (i : Nat) => rowTo (g i) n
theorem upP_succ (g : Int → Int → Bool) (n p : Int) (h : 0 ≤ p) : upP g n (p + 1) = upP g n p ++ [rowTo (g p) n] := by
  unfold upP
  rw [show (p + 1).toNat = p.toNat + 1 by omega, List.range_succ, List.map_append]
  simp [Int.toNat_of_nonneg h]
theorem upP_len (g : Int → Int → Bool) (n p : Int) : (upP g n p).length = p.toNat := by simp [upP]

set_option maxRecDepth 100000 in
set_option maxHeartbeats 4000000 in
/-- spec.cross -/
theorem cross_any (ab ao bb bo ca cb : Nat) (A B : List Int) (w : World) (hcA : Cells w ab ao A) (hcB : Cells w bb bo B) (hsA : Small A) (hsB : Small B) (a1 : 1 ≤ num A) (a6 : num A ≤ 6) (b1 : 1 ≤ num B) (b6 : num B ≤ 6) (h6 : (A.length : Int) * B.length ≤ 6) :
    Calls Try.prog 145 #[.slice (some ⟨ab, ao, none⟩) A.length ca, .slice (some ⟨bb, bo, none⟩) B.length cb] w (RetOwn w.heap.size (upL (crossG A B) ((A.length : Int) * B.length)) w) := by
  have hna : num A = A.length := rfl
  have hnb : num B = B.length := rfl
  have hla := hcA.lt a1
  have hlb := hcB.lt b1
  obtain ⟨m0, m36⟩ := mul_le36 (x := (A.length : Int)) (y := (B.length : Int)) (by omega) (by omega) (by omega) (by omega)
  have kmul : IntKind.i64.wrap ((A.length : Int) * B.length) = (A.length : Int) * B.length := IntWalk.i64_in _ (by omega)
  have hMM : num A * num B = (A.length : Int) * B.length := rfl
  obtain ⟨M, hM⟩ : ∃ M : Int, M = (A.length : Int) * B.length := ⟨_, rfl⟩
  rw [← hM] at h6 m0 m36 kmul hMM ⊢
  rw [hM] at kmul
  have KM := Lib.hid (show (A.length : Int) * B.length = M from hM.symm)
  have kmul2 : IntKind.i64.wrap ((A.length : Int) * B.length) = M := by rw [kmul, KM.out]
  have HMM := Lib.hid hMM
  have HNB := Lib.hid hnb
  obtain ⟨i0, hi, hz0, hz1, hz2⟩ := info_parts info_int
  clear hM hMM kmul
  go_enter Try.func145, Try.ntmps145
  go_wp2
  go_loopw [5, 7] (fun v c wr => ∃ p : Int, 0 ≤ p ∧ p ≤ M ∧ c = .int .i64 p ∧ Own w.heap.size wr v (upP (crossG A B) M p) ∧ Below w.heap.size w wr) (fun _ c _ => (6 - intOf c).toNat)
  case atStart => exact ⟨0, by omega, by omega, rfl, Own.row (L := []) (heap_alloc_new w _) (Nat.le_refl _) (Nat.zero_le _), (Below.refl _ _).alloc (Nat.le_refl _) _⟩
  case round =>
    obtain ⟨p, p0, p1, rfl, hown, hbel⟩ := hrel
    by_cases hp : p < M
    · have hlen := upP_len (crossG A B) M p
      have hsu := Lib.hid (upP_succ (crossG A B) M p p0)
      obtain ⟨x0, x1, u0, u1⟩ := div_fits (n := num A) p0 b1 (by rw [HMM.out]; exact hp)
      go_wp2
      obtain ⟨w3, rfl⟩ : ∃ w3 : World, w3 = wr := ⟨_, rfl⟩
      go_loopw [8, 9] (fun r c wr => ∃ q : Int, 0 ≤ q ∧ q ≤ M ∧ c = .int .i64 q ∧ r = .int .i64 (rowTo (crossG A B p) q) ∧ Dr w3 wr) (fun _ c _ => (6 - intOf c).toNat)
      case atStart => exact ⟨0, by omega, by omega, rfl, rfl, Dr.refl _⟩
      case round =>
        obtain ⟨q, q0, q1, rfl, rfl, hd⟩ := hrel
        by_cases hqm : q < M
        · obtain ⟨y0, y1, v0, v1⟩ := div_fits (n := num A) q0 b1 (by rw [HMM.out]; exact hqm)
          have hA2 := hd.cells (hcA.below hbel hla)
          have hB2 := hd.cells (hcB.below hbel hlb)
          have t1 : p.tdiv (B.length : Int) = p / num B := Int.tdiv_eq_ediv_of_nonneg p0
          have t2 : q.tdiv (B.length : Int) = q / num B := Int.tdiv_eq_ediv_of_nonneg q0
          have t3 : p.tmod (B.length : Int) = p % num B := Int.tmod_eq_emod_of_nonneg p0
          have t4 : q.tmod (B.length : Int) = q % num B := Int.tmod_eq_emod_of_nonneg q0
          have t5 : IntKind.i64.wrap (p / num B) = p / num B := IntWalk.i64_in _ (by omega)
          have t6 : IntKind.i64.wrap (q / num B) = q / num B := IntWalk.i64_in _ (by omega)
          have t7 : IntKind.i64.wrap (p % num B) = p % num B := IntWalk.i64_in _ (by omega)
          have t8 : IntKind.i64.wrap (q % num B) = q % num B := IntWalk.i64_in _ (by omega)
          have hz : ((B.length : Int) == 0) = false := by rw [beq_eq_false_iff_ne]; omega
          have hzz : (B.length : Int) ≠ 0 := by omega
          have hv := Lib.hid (show crossG A B p q = (bl A (p / num B) (q / num B) && bl B (p % num B) (q % num B)) from rfl)
          have hrs := Lib.hid (rowTo_succ (crossG A B p) q q0)
          obtain ⟨rb0, rb1⟩ := rowTo_bound (crossG A B p) q0
          have pq := pw_30 q (by omega)
          have pq0 := pw_pos q
          have kadd : IntKind.i64.wrap (rowTo (crossG A B p) q + pw q) = rowTo (crossG A B p) q + pw q := IntWalk.i64_in _ (by omega)
          obtain ⟨X, hX⟩ : ∃ X, X = p / num B := ⟨_, rfl⟩
          obtain ⟨Y, hY⟩ : ∃ Y, Y = q / num B := ⟨_, rfl⟩
          obtain ⟨U, hU⟩ : ∃ U, U = p % num B := ⟨_, rfl⟩
          obtain ⟨Z, hZ⟩ : ∃ Z, Z = q % num B := ⟨_, rfl⟩
          rw [← hX] at x0 x1 t1 t5 hv
          rw [← hY] at y0 y1 t2 t6 hv
          rw [← hU] at u0 u1 t3 t7 hv
          rw [← hZ] at v0 v1 t4 t8 hv
          have y30 : Y ≤ 30 := by omega
          have z30 : Z ≤ 30 := by omega
          clear hX hY hU hZ
          cases hC : bl A X Y <;> cases hD : bl B U Z
          all_goals
            rw [hC, hD] at hv
            have HC := Lib.hid hC
            have HD := Lib.hid hD
            clear hC hD
          case true.true =>
            have hst := Lib.hid (show rowTo (crossG A B p) (q + 1) = rowTo (crossG A B p) q + pw q by rw [hrs.out, hv.out]; rfl)
            go_wp2
            go_quiet (first | (go_at_call_of 120 (Value.int IntKind.i64 X); exact q_same (below_is ab ao ca A X Y _ (Cells.drewN hA2 _) hsA x0 x1 y0 y30 HC.out)) | (go_at_call 120; exact q_same (below_is bb bo cb B U Z _ (Cells.drewN hB2 _) hsB u0 u1 v0 z30 HD.out)))
            go_wp2_with (go_at_call 105; refine (power_any _ _ (by omega) (by omega)).mono ?_; rintro e w' ⟨rfl, rfl⟩)
            go_roundw
            case rel => exact ⟨q + 1, by omega, by omega, rfl, by rw [hst.out], hd.more _⟩
            case measure => simp [intOf]; omega
          all_goals
            have hst := Lib.hid (show rowTo (crossG A B p) (q + 1) = rowTo (crossG A B p) q by rw [hrs.out, hv.out]; rfl)
            go_wp2
            go_quiet (first | (go_at_call_of 120 (Value.int IntKind.i64 X); exact q_same (below_is ab ao ca A X Y _ (Cells.drewN hA2 _) hsA x0 x1 y0 y30 HC.out)) | (go_at_call 120; exact q_same (below_is bb bo cb B U Z _ (Cells.drewN hB2 _) hsB u0 u1 v0 z30 HD.out)))
            go_wp2
            go_roundw
            case rel => exact ⟨q + 1, by omega, by omega, rfl, by rw [hst.out], hd.more _⟩
            case measure => simp [intOf]; omega
        · have e : q = M := by omega
          subst e
          have hown9 := hown.below (hd.below w3.heap.size)
          have hbel9 := hbel.trans (hd.below w.heap.size)
          have hs9 := hbel9.size
          go_wp2_with (at_builtin; refine wpList_append_own _ rfl _ _ 23 rfl w.heap.size 3 i0 (.int .i64 0) 1 8 Try.underlying23 hi hz0 hz1 hz2 rfl (by decide) _ _ _ rfl (World.ownsRow.alloc hown9 _) ⟨wr.heap.size, 0, none⟩ 1 1 [.int .i64 (rowTo (crossG A B p) q)] rfl rfl (cell_one_new _ _ _) (fun x hx => by simp at hx; subst hx; rfl) (by unfold maxLen; omega) (by omega) (by simp; omega) ?_; intro v' w2 hown1 hgrow _)
          go_roundw
          case rel => exact ⟨p + 1, by omega, by omega, rfl, by unfold Own; rw [hsu.out, List.map_append, List.length_append]; exact hown1, (hbel9.alloc hbel9.size _).grown hgrow (by simp; omega) (fun k hk => (World.ownsRow.lt hown9 k hk).1)⟩
          case measure => simp [intOf]; omega
    · have e : p = M := by omega
      subst e
      go_wp2
      go_ret
      exact ⟨_, rfl, hown, hbel⟩
end Go.Proofs.Ytbellklaoecpbaa
