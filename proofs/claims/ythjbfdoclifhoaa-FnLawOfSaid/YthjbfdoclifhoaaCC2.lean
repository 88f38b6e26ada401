import Derived.Test.YthjbfdoclifhoaaCC1
import Derived.Test.YthjbfdoclifhoaaU3
import Derived.Test.YthjbfdoclifhoaaP7
import Derived.Lib.SliceRun
namespace Go.Proofs.Ythjbfdoclifhoaa
open Go.RowKit
set_option linter.unusedVariables false

theorem enters_crA : Enters 27 := enters_of Try.func27 (by kernel_rfl) rfl
set_option maxRecDepth 100000 in
set_option maxHeartbeats 2000000 in
theorem crClo_any (L : List Int) (T : List (List Int)) (M : List Int) (U : List (List Int)) (bp ba bb g c : Nat) (p q : Nat) (w : World) (hp : w.heap[bp]? = some (.cells #[.slice (some ⟨g, 0, none⟩) (L.length * M.length) c] 62 (0, 0))) (hA : AlgAt w ba L T) (hB : AlgAt w bb M U) (hR : ∀ wz, Below w.heap.size w wz → ∀ j : Nat, j < L.length * M.length → wz.rangeAt g (j * 2) [.int .i64 ((j / M.length : Nat) : Int), .int .i64 ((j % M.length : Nat) : Int)])
    (h : algB L T = true) (h2 : algB M U = true) (h3 : L.length * M.length ≤ 6) (p1 : p < L.length * M.length) (q1 : q < L.length * M.length) :
    Calls Try.prog 27 #[.int .i64 (p : Int), .int .i64 (q : Int), .pointer (some ⟨bp, 0, none⟩), .pointer (some ⟨ba, 0, none⟩), .pointer (some ⟨bb, 0, none⟩)] w fun e w' => e = .returned (.int .i64 (caP T U M.length p q)) ∧ Below w.heap.size w w' := by
  obtain ⟨l1, l6⟩ := lat_len (alg_lat h)
  obtain ⟨k1, k6⟩ := lat_len (alg_lat h2)
  have hnl : num L = L.length := rfl
  have hnm : num M = M.length := rfl
  have m1 : 1 ≤ M.length := by omega
  have hpd : p / M.length < L.length := (Nat.div_lt_iff_lt_mul (by omega)).2 p1
  have hqd : q / M.length < L.length := (Nat.div_lt_iff_lt_mul (by omega)).2 q1
  have hpm : p % M.length < M.length := Nat.mod_lt _ (by omega)
  have hqm : q % M.length < M.length := Nat.mod_lt _ (by omega)
  have rp := hR w (Below.refl _ _) p p1
  have rq := hR w (Below.refl _ _) q q1
  have HE0 := Lib.hid (show caP T U M.length p q = tv T ((p / M.length : Nat) : Int) ((q / M.length : Nat) : Int) * M.length + tv U ((p % M.length : Nat) : Int) ((q % M.length : Nat) : Int) from by
    unfold caP
    rw [Int.natCast_ediv, Int.natCast_ediv, Int.natCast_emod, Int.natCast_emod])
  obtain ⟨pd, hpdE⟩ : ∃ x : Nat, x = p / M.length := ⟨_, rfl⟩
  obtain ⟨qd, hqdE⟩ : ∃ x : Nat, x = q / M.length := ⟨_, rfl⟩
  obtain ⟨pm, hpmE⟩ : ∃ x : Nat, x = p % M.length := ⟨_, rfl⟩
  obtain ⟨qm, hqmE⟩ : ∃ x : Nat, x = q % M.length := ⟨_, rfl⟩
  rw [← hpdE, ← hpmE] at rp
  rw [← hqdE, ← hqmE] at rq
  rw [← hpdE, ← hqdE, ← hpmE, ← hqmE] at HE0
  rw [← hpdE] at hpd
  rw [← hqdE] at hqd
  rw [← hpmE] at hpm
  rw [← hqmE] at hqm
  clear hpdE hqdE hpmE hqmE
  have et := tv_el h (show El L (pd : Int) from ⟨by omega, by omega⟩) (show El L (qd : Int) from ⟨by omega, by omega⟩)
  have eu := tv_el h2 (show El M (pm : Int) from ⟨by omega, by omega⟩) (show El M (qm : Int) from ⟨by omega, by omega⟩)
  have ct := hA.t (x := (pd : Int)) (y := (qd : Int)) (by omega) (by omega) (by omega) (by omega)
  rw [timG_in (by omega) (by omega)] at ct
  have cu := hB.t (x := (pm : Int)) (y := (qm : Int)) (by omega) (by omega) (by omega) (by omega)
  rw [timG_in (by omega) (by omega)] at cu
  obtain ⟨tt, htt⟩ : ∃ x, x = tv T (pd : Int) (qd : Int) := ⟨_, rfl⟩
  obtain ⟨uu, huu⟩ : ∃ x, x = tv U (pm : Int) (qm : Int) := ⟨_, rfl⟩
  rw [← htt] at ct et HE0
  rw [← huu] at cu eu HE0
  obtain ⟨i, hi⟩ : ∃ i : Nat, i = tt.toNat * M.length + uu.toNat := ⟨_, rfl⟩
  have HE := Lib.hid (show caP T U M.length p q = (i : Int) from by
    rw [HE0.out, hi, Int.natCast_add, Int.natCast_mul, Int.toNat_of_nonneg et.1, Int.toNat_of_nonneg eu.1])
  have uul : uu.toNat < M.length := by have := eu.2; omega
  have ttl : tt.toNat + 1 ≤ L.length := by have := et.2; omega
  have d1 : i / M.length = tt.toNat := by rw [hi, Nat.mul_comm, Nat.mul_add_div (by omega), Nat.div_eq_of_lt uul, Nat.add_zero]
  have d2 : i % M.length = uu.toNat := by rw [hi, Nat.mul_comm, Nat.mul_add_mod, Nat.mod_eq_of_lt uul]
  have hil : i < L.length * M.length := by
    have h1 : (tt.toNat + 1) * M.length ≤ L.length * M.length := Nat.mul_le_mul_right _ ttl
    rw [Nat.succ_mul] at h1
    omega
  have HIX := Lib.hid (show ∀ (w' : World), Below w.heap.size w w' → Calls Try.prog 28 #[.slice (some ⟨g, 0, none⟩) (L.length * M.length) c, .agg #[.int .i64 tt, .int .i64 uu]] w' fun e w2 => e = .returned (.int .i64 (i : Int)) ∧ Below w'.heap.size w' w2 from fun w' hw => by
    have := indexPair_any g c M.length (L.length * M.length) i w' (fun wz hz => hR wz (hw.trans (hz.mono hw.size))) m1 hil (by omega)
    rw [d1, d2, Int.toNat_of_nonneg et.1, Int.toNat_of_nonneg eu.1] at this
    exact this)
  have cp := cell_of_one hp
  obtain ⟨pa, hpa⟩ : ∃ x : Int, x = (pd : Int) := ⟨_, rfl⟩
  obtain ⟨pb, hpb⟩ : ∃ x : Int, x = (pm : Int) := ⟨_, rfl⟩
  obtain ⟨qa, hqa⟩ : ∃ x : Int, x = (qd : Int) := ⟨_, rfl⟩
  obtain ⟨qb, hqb⟩ : ∃ x : Int, x = (qm : Int) := ⟨_, rfl⟩
  have bnd : (0 ≤ pa ∧ pa < 6) ∧ (0 ≤ pb ∧ pb < 6) ∧ (0 ≤ qa ∧ qa < 6) ∧ (0 ≤ qb ∧ qb < 6) := by omega
  obtain ⟨⟨pa0, pa6⟩, ⟨pb0, pb6⟩, ⟨qa0, qa6⟩, ⟨qb0, qb6⟩⟩ := bnd
  rw [← hpa, ← hqa] at ct
  rw [← hpb, ← hqb] at cu
  have r0 : w.cell? ⟨g, p * 2, none⟩ = some (.int .i64 pa) := by rw [hpa]; exact rp 0 _ rfl
  have r1 : w.cell? ⟨g, p * 2 + 1, none⟩ = some (.int .i64 pb) := by rw [hpb]; exact rp 1 _ rfl
  have r2 : w.cell? ⟨g, q * 2, none⟩ = some (.int .i64 qa) := by rw [hqa]; exact rq 0 _ rfl
  have r3 : w.cell? ⟨g, q * 2 + 1, none⟩ = some (.int .i64 qb) := by rw [hqb]; exact rq 1 _ rfl
  obtain ⟨N, hN⟩ : ∃ N, N = L.length * M.length := ⟨_, rfl⟩
  rw [← hN] at cp HIX p1 q1
  have p1i : (p : Int) < N := by omega
  have q1i : (q : Int) < N := by omega
  clear rp rq hpa hpb hqa hqb hp hA hB hR h h2 h3 l1 l6 k1 k6 hnl hnm hpd hqd hpm hqm et eu hi htt huu d1 d2 hil hN m1 uul ttl HE0
  go_enter Try.func27, Try.ntmps27
  go_wp2
  refine region_in (Below w.heap.size w) (by kernel_rfl) (by kernel_rfl) (Dr.below ⟨1, rfl⟩ _) fun hne => ?_
  have s0 : ∀ s : In (Below w.heap.size w), s.w.cell? ⟨bp, 0, none⟩ = some (.slice (some ⟨g, 0, none⟩) N c) := fun s => (s.h.cell (by exact block_lt_of_cell cp)).trans cp
  have s1 : ∀ s : In (Below w.heap.size w), s.w.cell? ⟨g, p * 2, none⟩ = some (.int .i64 pa) := fun s => (s.h.cell (by exact block_lt_of_cell r0)).trans r0
  have s2 : ∀ s : In (Below w.heap.size w), s.w.cell? ⟨g, p * 2 + 1, none⟩ = some (.int .i64 pb) := fun s => (s.h.cell (by exact block_lt_of_cell r1)).trans r1
  have s3 : ∀ s : In (Below w.heap.size w), s.w.cell? ⟨g, q * 2, none⟩ = some (.int .i64 qa) := fun s => (s.h.cell (by exact block_lt_of_cell r2)).trans r2
  have s4 : ∀ s : In (Below w.heap.size w), s.w.cell? ⟨g, q * 2 + 1, none⟩ = some (.int .i64 qb) := fun s => (s.h.cell (by exact block_lt_of_cell r3)).trans r3
  have s5 : ∀ s : In (Below w.heap.size w), s.w.cell? ⟨ba, 109 + pa.toNat * 6 + qa.toNat, none⟩ = some (.int .i64 tt) := fun s => (s.h.cell (by exact block_lt_of_cell ct)).trans ct
  have s6 : ∀ s : In (Below w.heap.size w), s.w.cell? ⟨bb, 109 + pb.toNat * 6 + qb.toNat, none⟩ = some (.int .i64 uu) := fun s => (s.h.cell (by exact block_lt_of_cell cu)).trans cu
  clear cp r0 r1 r2 r3 ct cu
  repeat go_big_quiet_step ((first | (go_at_call 28; exact in_below _ (Nat.le_refl _) (HIX.out _ (In.h _)))))
  refine wpQuiet_nil ?_
  intro s
  have hw2 := s.h
  obtain ⟨w2, hw2'⟩ : ∃ w2, w2 = s.w := ⟨_, rfl⟩
  rw [← hw2'] at hw2 ⊢
  clear hw2' s0 s1 s2 s3 s4 s5 s6
  go_wp2
  go_ret
  exact ⟨ret_int (by rw [HE.out]), hw2⟩
end Go.Proofs.Ythjbfdoclifhoaa
