import Derived.Test.YtpfnfglaokiipabA3
namespace Go.Proofs.Ytpfnfglaokiipab
open Go.RowKit

theorem latB_vo {L : List Int} (h : voB L = false) : latB L = false := by unfold latB; rw [h]; rfl
theorem latB_xy {L : List Int} {x y : Int} (x0 : 0 ≤ x) (x1 : x < num L) (y0 : 0 ≤ y) (y1 : y < num L) (h : latXY L x y = false) : latB L = false := by
  unfold latB
  rw [allI_false x x0 x1 (allI_false y y0 y1 h)]; simp
theorem latB_t {L : List Int} {m : Int} (h : voB L = true) (hm : num L ≤ m) (ha : AllTo m fun x => allI (num L) (latXY L x)) : latB L = true := by
  unfold latB; rw [h, ha.all hm]; rfl
theorem voB_parts {L : List Int} (h : voB L = true) : 1 ≤ num L ∧ num L ≤ 6 ∧ Small L := by
  unfold voB at h
  simp only [Bool.and_eq_true, decide_eq_true_eq] at h
  obtain ⟨⟨⟨a, b⟩, c⟩, _⟩ := h
  exact ⟨a, b, small_of b fun j j0 j1 => (allI_iff _ _).1 c j j0 j1⟩
theorem latB_parts {L : List Int} (h : latB L = true) : 1 ≤ num L ∧ num L ≤ 6 ∧ Small L := by
  unfold latB at h
  rw [Bool.and_eq_true] at h
  exact voB_parts h.1

set_option maxHeartbeats 400000 in
/-- spec.validLattice: no numbers, or more than six -/
theorem validLattice_len (a : Option Addr) (cap : Nat) (L : List Int) (w : World) (hl : num L < 1 ∨ 6 < num L) :
    Calls Try.prog 72 #[.slice a L.length cap] w fun e w' => e = .returned (.bool (latB L)) ∧ Dr w w' := by
  have hv := voB_len hl
  have hb := Lib.hid (latB_vo hv)
  go_enter Try.func72, Try.ntmps72
  go_wp2_with (go_at_call 101; refine (validOrder_len _ _ _ _ hl).mono ?_; rintro e w' ⟨rfl, rfl⟩)
  go_ret
  exact ⟨ret_bool hb.out.symm, Dr.refl _⟩

set_option maxRecDepth 100000 in
set_option maxHeartbeats 2000000 in
/-- spec.validLattice: one to six numbers -/
theorem validLattice_six (b off cap : Nat) (L : List Int) (w : World) (hc : Cells w b off L) (h1 : 1 ≤ num L) (h6 : num L ≤ 6) :
    Calls Try.prog 72 #[.slice (some ⟨b, off, none⟩) L.length cap] w fun e w' => e = .returned (.bool (latB L)) ∧ Dr w w' := by
  have hc0 := hc
  have hn : num L = L.length := rfl
  have HN := Lib.hid hn; clear hn
  have hn1 : num L ≤ L.length := by rw [HN.out]; omega
  have hn2 : (L.length : Int) ≤ num L := by rw [HN.out]; omega
  cases hv : voB L with
  | false =>
    have hb := Lib.hid (latB_vo hv)
    go_enter Try.func72, Try.ntmps72
    go_wp2_with (go_at_call 101; refine (validOrder_six _ _ _ _ _ hc h1 h6).mono ?_; rintro e w1 ⟨rfl, hd⟩)
    go_ret
    exact ⟨ret_bool hb.out.symm, hd⟩
  | true =>
    have hs := (voB_parts hv).2.2
    have HV := Lib.hid hv
    go_enter Try.func72, Try.ntmps72
    go_wp2_with (go_at_call 101; refine (validOrder_six _ _ _ _ _ hc h1 h6).mono ?_; rintro e w1 ⟨rfl, hd⟩)
    clear hv
    obtain ⟨w0, rfl⟩ : ∃ w0 : World, w0 = w1 := ⟨_, rfl⟩
    go_loopw [3] (fun x wr => ∃ k : Int, 0 ≤ k ∧ k ≤ num L ∧ x = .int .i64 k ∧ AllTo k (fun x => allI (num L) (latXY L x)) ∧ Dr w wr) (fun x _ => (6 - intOf x).toNat)
    case atStart => exact ⟨0, by omega, by omega, rfl, AllTo.zero _, hd⟩
    case round =>
      obtain ⟨x, x0, x1, rfl, hx, hd2⟩ := hrel
      replace hc := hd2.cells hc0
      by_cases hxn : x < num L
      · have hxl : x < L.length := by omega
        go_wp2
        obtain ⟨w2, rfl⟩ : ∃ w2 : World, w2 = wr := ⟨_, rfl⟩
        go_loopw [4] (fun y wr => ∃ k : Int, 0 ≤ k ∧ k ≤ num L ∧ y = .int .i64 k ∧ AllTo k (latXY L x) ∧ Dr w wr) (fun y _ => (6 - intOf y).toNat)
        case atStart => exact ⟨0, by omega, by omega, rfl, AllTo.zero _, hd2⟩
        case round =>
          obtain ⟨y, y0, y1, rfl, hy, hd3⟩ := hrel
          replace hc := hd3.cells hc0
          by_cases hyn : y < num L
          · have hyl : y < L.length := by omega
            by_cases hA : mt L x y < 0 <;> by_cases hB : jn L x y < 0
            all_goals go_wp2_with (first | (go_at_call 93; refine (meet_any _ _ _ L _ _ _ hc hs (by omega) (by omega) (by omega) (by omega)).mono ?_; rintro e w' ⟨rfl, rfl⟩) | (go_at_call 67; refine (join_any _ _ _ L _ _ _ hc hs (by omega) (by omega) (by omega) (by omega)).mono ?_; rintro e w' ⟨rfl, rfl⟩))
            all_goals first | (go_ret; exact ⟨ret_bool (latB_xy x0 hxn y0 hyn (by unfold latXY; simp [hA, hB])).symm, hd3⟩) | skip
            go_roundw
            case rel => exact ⟨y + 1, by omega, by omega, rfl, hy.succ (by unfold latXY; rw [decide_eq_false (by omega), decide_eq_false (by omega)]; rfl), hd3⟩
            case measure => simp [intOf]; omega
          · have ht := hy.all (by omega : num L ≤ y)
            have HT := Lib.hid ht; clear ht
            go_wp2
            go_roundw
            case rel => exact ⟨x + 1, by omega, by omega, rfl, hx.succ HT.out, hd3⟩
            case measure => simp [intOf]; omega
      · have ht := latB_t HV.out (by omega : num L ≤ x) hx
        have HT := Lib.hid ht; clear ht
        go_wp2
        go_ret
        exact ⟨ret_bool HT.out.symm, hd2⟩

/-- spec.validLattice, whatever the numbers -/
theorem validLattice_any (a : Option Addr) (cap : Nat) (L : List Int) (w : World) (hr : Rd w a L) :
    Calls Try.prog 72 #[.slice a L.length cap] w fun e w' => e = .returned (.bool (latB L)) ∧ Dr w w' := by
  by_cases h : 1 ≤ num L ∧ num L ≤ 6
  · obtain ⟨b, off, rfl, hc⟩ := hr.pos h.1
    exact validLattice_six b off cap L w hc h.1 h.2
  · exact validLattice_len a cap L w (by omega)
end Go.Proofs.Ytpfnfglaokiipab
