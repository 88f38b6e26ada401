import Derived.Test.YtjcambkjcagcoaaGreatKS2
namespace Go.Proofs.YtjcambkjcagcoaaGreat
open Go.RowKit
set_option linter.unusedVariables false

/-- sorted in place -/
def RetSort (B : Nat) (X : List Int) (ad : Option Addr) (c : Nat) (w : World) (e : Ending) (w' : World) : Prop :=
  e = .returned (.tuple #[]) ∧ ∃ Y, SameAs X Y ∧ UpTo Y ((X.length : Int) - 1) ∧ Own B w' (.slice ad X.length c) Y ∧ Below B w w'
set_option maxRecDepth 100000 in
set_option maxHeartbeats 1000000 in
theorem insSort_nil (w : World) : Calls Tryz.prog 177 #[.slice none 0 0, .int .i64 0, .int .i64 0] w fun e w' => e = .returned (.tuple #[]) ∧ w = w' := by
  go_enter Tryz.func177, Tryz.ntmps177
  go_wp2
  go_loopw [6, 7] (fun iv _ wr => iv = .int .i64 1 ∧ w = wr) (fun _ _ _ => 0)
  case atStart => exact ⟨rfl, rfl⟩
  case round =>
    obtain ⟨rfl, rfl⟩ := hrel
    go_wp2
    go_end0
    exact ⟨rfl, rfl⟩
theorem insSort_all (X : List Int) (ad : Option Addr) (c : Nat) (w : World) (B : Nat) (hown : Own B w (.slice ad X.length c) X) (h64 : X.length ≤ 64) (hB : B ≤ w.heap.size) :
    Calls Tryz.prog 177 #[.slice ad X.length c, .int .i64 0, .int .i64 (X.length : Int)] w (RetSort B X ad c w) := by
  rcases hown.shape with ⟨e1, e2⟩ | ⟨g, cap, e1, _, _⟩
  · subst e2
    injection e1 with x1 _ x3
    subst x1 x3
    refine (insSort_nil w).mono ?_
    rintro e w' ⟨rfl, rfl⟩
    exact ⟨rfl, [], SameAs.refl _, fun a b a0 ab b1 => by simp at b1; omega, hown, Below.refl _ _⟩
  · injection e1 with x1 _ x3
    subst x1 x3
    by_cases h0 : 0 < X.length
    · exact insSort_any X g c w B hown h64 h0 hB
    · have hX : X = [] := List.length_eq_zero_iff.1 (by omega)
      subst hX
      go_enter Tryz.func177, Tryz.ntmps177
      go_wp2
      go_loopw [6, 7] (fun iv _ wr => iv = .int .i64 1 ∧ w = wr) (fun _ _ _ => 0)
      case atStart => exact ⟨rfl, rfl⟩
      case round =>
        obtain ⟨rfl, rfl⟩ := hrel
        go_wp2
        go_end0
        exact ⟨rfl, [], SameAs.refl _, fun a b a0 ab b1 => by simp at b1; omega, hown, Below.refl _ _⟩
set_option maxRecDepth 100000 in
set_option maxHeartbeats 2000000 in
/-- slices.pdqsortOrdered, of twelve at most -/
theorem pdq_any (X : List Int) (ad : Option Addr) (c : Nat) (k : Int) (w : World) (B : Nat) (hown : Own B w (.slice ad X.length c) X) (h12 : X.length ≤ 12) (hB : B ≤ w.heap.size) :
    Calls Tryz.prog 174 #[.slice ad X.length c, .int .i64 0, .int .i64 (X.length : Int), .int .i64 k] w (RetSort B X ad c w) := by
  have HO := Lib.hid hown
  have h12' : (X.length : Int) ≤ 12 := by omega
  have hs : IntKind.i64.wrap ((X.length : Int) - 0) = X.length := by rw [Int.sub_zero]; exact IntWalk.i64_in _ (by omega)
  clear hown
  go_enter Tryz.func174, Tryz.ntmps174
  go_wp2
  refine wp_loop_rounds 1 ?_
  rw [rounds_succ]
  go_wp2_with (go_at_call 177; refine (insSort_all X ad c w B HO.out (by omega) hB).mono ?_; rintro e w' ⟨rfl, Y, hS, hU, hO, hb⟩)
  go_end0
  exact ⟨rfl, Y, hS, hU, hO, hb⟩
set_option maxRecDepth 100000 in
set_option maxHeartbeats 2000000 in
/-- slices.Sort, of twelve at most -/
theorem sort_any (X : List Int) (ad : Option Addr) (c : Nat) (w : World) (B : Nat) (hown : Own B w (.slice ad X.length c) X) (h12 : X.length ≤ 12) (hB : B ≤ w.heap.size) :
    Calls Tryz.prog 163 #[.slice ad X.length c] w (RetSort B X ad c w) := by
  have HO := Lib.hid hown
  have h12' : (X.length : Int) ≤ 12 := by omega
  have hu : IntKind.u64.wrap (X.length : Int) = X.length := by
    obtain ⟨n, hn⟩ : ∃ n : Int, n = X.length := ⟨_, rfl⟩
    rw [← hn]
    rcases small_len n (by omega) (by omega) with rfl | rfl | rfl | rfl | rfl | rfl | rfl | rfl | rfl | rfl | rfl | rfl | rfl <;> decide
  clear hown
  go_enter Tryz.func163, Tryz.ntmps163
  go_wp2_with (first
    | (go_at_call 175; refine (bitsLen_any (X.length : Int) (by omega) (by omega) _).mono ?_; rintro e w' ⟨k, rfl, rfl⟩)
    | (go_at_call 174; refine (pdq_any X ad c k w B HO.out h12 hB).mono ?_; rintro e w' ⟨rfl, Y, hS, hU, hO, hb⟩))
  go_end0
  exact ⟨rfl, Y, hS, hU, hO, hb⟩
end Go.Proofs.YtjcambkjcagcoaaGreat
