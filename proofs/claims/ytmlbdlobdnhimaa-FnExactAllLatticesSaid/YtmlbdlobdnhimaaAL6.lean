import Derived.Test.YtmlbdlobdnhimaaAL5
import Derived.Test.YtmlbdlobdnhimaaD3
namespace Go.Proofs.Ytmlbdlobdnhimaa
open Go.RowKit

theorem rows_rdT {B : Nat} {w : World} {b : Option Addr} {c : Nat} {T : List (List Int)} (h : RowsAt B w (.slice b T.length c) T) : RdT w b T := by
  obtain ⟨_, _, e', r⟩ := h.rd
  injection e' with e1 _ _
  rw [e1]; exact r
set_option maxRecDepth 100000 in
set_option maxHeartbeats 2000000 in
/-- the exact law of AllLattices -/
theorem lawAllLattices (n : Int) (w : World) :
    Calls Try.prog 14 #[.int .i64 n] w fun e w' => e = .returned (.bool true) ∧ Below w.heap.size w w' := by
  obtain ⟨T, hTe⟩ : ∃ T, T = allI4 n := ⟨_, rfl⟩
  have HI := Lib.hid (show ∀ (w : World), Calls Try.prog 50 #[.int .i64 n] w (RetTabD w.heap.size T w) from fun w => by rw [hTe]; exact implAllLattices_D n w)
  have HP := Lib.hid (show ∀ (w : World), Calls Try.prog 52 #[.int .i64 n] w (RetTab w.heap.size T w) from fun w => by rw [hTe]; exact specAllLattices_any n w)
  have hT6 : T.length ≤ 33554432 := by
    by_cases hn : 1 ≤ n ∧ n ≤ 5
    · rw [hTe, allI4_in hn]
      have h1 := latF_bound hn.2 n.toNat []
      have h2 : 32 ^ n.toNat ≤ 32 ^ 5 := Nat.pow_le_pow_right (by decide) (by omega)
      have h3 : 32 ^ 5 = 33554432 := by decide
      omega
    · rw [hTe, allI4_out hn]; simp
  have hR6 : ∀ j : Nat, j < T.length → (rowAt T j).length ≤ 16 := fun j hj => by
    by_cases hn : 1 ≤ n ∧ n ≤ 5
    · rw [hTe, allI4_in hn] at hj ⊢
      have := (latF_row (n := n) (k := (j : Int)) (by omega) (by omega) (by omega)).2
      omega
    · rw [hTe, allI4_out hn] at hj; simp at hj
  have HR := Lib.hid hR6
  have HR2 := Lib.hid (show ∀ j : Nat, j < T.length → (rowAt T j).length ≤ 1073741824 from fun j hj => by have := hR6 j hj; omega)
  have hT7 : T.length ≤ 1073741824 := by omega
  clear hTe hR6
  go_enter Try.func14, Try.ntmps14
  go_wp2_with fail
  refine (HP.out w).mono ?_
  rintro e w1 ⟨sb, sc, rfl, hs, hb1⟩
  have rs := rows_rdT hs
  have z1 := hb1.size
  go_wp2_with fail
  refine (HI.out w1).mono ?_
  rintro e w2 ⟨gb, gc, rfl, hg, hb2⟩
  have rg := rows_rdT hg.at
  have b2 : Below w.heap.size w w2 := hb1.trans (hb2.mono z1)
  have z2 := hb2.size
  have rs2 := rs.below hb2
  go_wp2_with fail
  refine (eqIntSS_same _ _ _ _ T w2 rg rs2 HR2.out hT7).mono ?_
  rintro e w3 ⟨rfl, hd3⟩
  have hb3 : Below w2.heap.size w2 w3 := hd3.below _
  have b3 := b2.trans (hd3.below _)
  have z3 := hb3.size
  have hg3 := hg.below hb3
  have rs3 := rs2.below hb3
  go_wp2_with fail
  refine (markIntSS_D w1.heap.size _ _ T 1 w3 hg3 (by omega) (by omega) (by omega) hT6 HR.out).mono ?_
  rintro e w4 ⟨rfl, hm4, hb4⟩
  have b4 := b3.trans (hb4.mono z1)
  have rs4 : RdT w4 sb T := by
    have hq : RdT w1 sb T := rs
    exact (hq.below ((hb2.trans (hb3.mono z2)).trans hb4))
  have z4 := hb4.size
  go_wp2_with fail
  refine (heldIntSS_D w1.heap.size _ _ T 1 w4 hm4 (by omega) (by omega) hT6 HR.out).mono ?_
  rintro e w5 ⟨rfl, hc0, rfl⟩
  have hc1 : ¬ (1 + cum T T.length < 0) := by omega
  go_wp2_with fail
  refine (HI.out w4).mono ?_
  rintro e w6 ⟨kb, kc, rfl, hk, hb6⟩
  have rk := rows_rdT hk.at
  have b6 := b4.trans (hb6.mono (by omega))
  have rs6 := rs4.below hb6
  have hm6 := hm4.below hb6
  have z6 := hb6.size
  go_wp2_with fail
  refine (eqIntSS_same _ _ _ _ T w6 rk rs6 HR2.out hT7).mono ?_
  rintro e w7 ⟨rfl, hd7⟩
  have hm7 := hm6.below (hd7.below _)
  have b7 := b6.trans (hd7.below _)
  go_wp2_with fail
  refine (heldIntSS_D w1.heap.size _ _ T 1 w7 hm7 (by omega) (by omega) hT6 HR.out).mono ?_
  rintro e w8 ⟨rfl, _, rfl⟩
  go_wp2
  go_ret
  exact ⟨rfl, b7⟩
end Go.Proofs.Ytmlbdlobdnhimaa
