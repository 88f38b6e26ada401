import Derived.Test.YtpophjloedpcfaaGreatDoorProg
import Derived.Test.YtpophjloedpcfaaGreatDoorM5
import Derived.WalkKit
import Derived.WalkSpells
import Derived.WalkLawsBesides
import Derived.Lib.Hide
import Derived.Deep.QuietTactic
import Derived.BigQuiet
namespace Go.Proofs.YtpophjloedpcfaaGreatDoor
open Go.RowKit

/-- The cells of a slice that reads as a list of ints. -/
def Cells (w : World) (b off : Nat) (L : List Int) : Prop := ∀ j : Nat, j < L.length → w.cell? ⟨b, off + j, none⟩ = some (.int .i64 (nth L j))
theorem Cells.at {w : World} {b off : Nat} {L : List Int} (h : Cells w b off L) (x : Int) (h0 : 0 ≤ x) (h1 : x < num L) :
    w.cell? ⟨b, off + x.toNat, none⟩ = some (.int .i64 (nth L x)) := by
  have := h x.toNat (by unfold num at h1; omega)
  rwa [Int.toNat_of_nonneg h0] at this
theorem ret_bool {a b : Bool} (h : a = b) : Ending.returned (.bool a) = .returned (.bool b) := by rw [h]
theorem ret_int {a b : Int} (h : a = b) : Ending.returned (.int .i64 a) = .returned (.int .i64 b) := by rw [h]

/-- A callee that draws nothing, met in a region that draws its order. -/
theorem q_same {P : Program} {f : FuncId} {args : Array Value} {w : World} {n : Nat} {v : Value}
    (h : Calls P f args (w.drewN n) fun e w' => e = .returned v ∧ w.drewN n = w') : Calls P f args (w.drewN n) fun e w'' => e = .returned v ∧ ∃ m, w'' = w.drewN m :=
  h.mono fun _ _ ⟨he, hm⟩ => ⟨he, n, hm.symm⟩
/-- The world has drawn some answers, no more. -/
def Dr (w w' : World) : Prop := ∃ n, w' = w.drewN n
theorem Dr.refl (w : World) : Dr w w := ⟨0, rfl⟩
theorem Dr.more {w w' : World} (h : Dr w w') (n : Nat) : Dr w (w'.drewN n) := by
  obtain ⟨m, rfl⟩ := h; exact ⟨m + n, World.drewN_drewN ..⟩
theorem Dr.trans {a b c : World} (h : Dr a b) (k : Dr b c) : Dr a c := by
  obtain ⟨m, rfl⟩ := k; exact h.more m
theorem Dr.cells {w w' : World} (h : Dr w w') {b off : Nat} {L : List Int} (hc : Cells w b off L) : Cells w' b off L := by
  obtain ⟨m, rfl⟩ := h; exact hc
theorem Dr.below {w w' : World} (h : Dr w w') (B : Nat) : Below B w w' := by
  obtain ⟨m, rfl⟩ := h; exact ⟨rfl, rfl, rfl, Nat.le_refl _, fun _ _ => rfl⟩
theorem q_dr {P : Program} {f : FuncId} {args : Array Value} {w : World} {n : Nat} {v : Value}
    (h : Calls P f args (w.drewN n) fun e w' => e = .returned v ∧ Dr (w.drewN n) w') : Calls P f args (w.drewN n) fun e w'' => e = .returned v ∧ ∃ m, w'' = w.drewN m :=
  h.mono fun _ _ ⟨he, m, hm⟩ => ⟨he, n + m, by rw [hm, World.drewN_drewN]⟩
/-- A slice's address, and the list that it reads as. -/
def Rd (w : World) (a : Option Addr) (L : List Int) : Prop := L ≠ [] → ∃ b off, a = some ⟨b, off, none⟩ ∧ Cells w b off L
theorem Dr.rd {w w' : World} (h : Dr w w') {a : Option Addr} {L : List Int} (hr : Rd w a L) : Rd w' a L := fun hl =>
  let ⟨b, off, ha, hc⟩ := hr hl; ⟨b, off, ha, h.cells hc⟩
theorem Rd.pos {w : World} {a : Option Addr} {L : List Int} (h : Rd w a L) (h1 : 1 ≤ num L) : ∃ b off, a = some ⟨b, off, none⟩ ∧ Cells w b off L :=
  h (by intro e; rw [e] at h1; simp [num] at h1)
theorem Cells.drewN {w : World} {b off : Nat} {L : List Int} (h : Cells w b off L) (n : Nat) : Cells (w.drewN n) b off L := h

set_option maxHeartbeats 400000 in
/-- spec.power -/
theorem power_any (n : Int) (w : World) (hn0 : 0 ≤ n) (hn : n ≤ 30) :
    Calls Tryz.prog 49 #[.int .i64 n] w fun e w' => e = .returned (.int .i64 (pw n)) ∧ w = w' := by
  go_enter Tryz.func49, Tryz.ntmps49
  go_wp2
  go_loop [0, 3] (fun i o => ∃ k : Int, 0 ≤ k ∧ k ≤ n ∧ i = .int .i64 k ∧ o = .int .i64 (pw (n - k))) (fun i _ => (intOf i).toNat)
  case atStart => exact ⟨n, hn0, Int.le_refl _, rfl, by simp [pw_zero]⟩
  case round =>
    obtain ⟨k, h0, h1, rfl, rfl⟩ := hrel
    have p1 := pw_30 (n - k) (by omega)
    have p2 := pw_pos (n - k)
    by_cases hk : 0 < k
    · have hs := pw_succ (n - k) (by omega)
      have HS := Lib.hid hs; clear hs
      go_wp2
      go_round
      case rel => exact ⟨k - 1, by omega, by omega, rfl, by rw [← HS.out]; congr 2; omega⟩
      case measure => simp [intOf]; omega
    · have e : k = 0 := by omega
      subst e
      go_wp2
      go_ret
      exact ⟨ret_int (by simp), rfl⟩

set_option maxHeartbeats 400000 in
/-- spec.inRange -/
theorem inRange_any (n a b : Int) (w : World) :
    Calls Tryz.prog 65 #[.int .i64 n, .int .i64 a, .int .i64 b] w fun e w' => e = .returned (.bool (decide (a ≤ n) && decide (n ≤ b))) ∧ w = w' := by
  go_enter Tryz.func65, Tryz.ntmps65
  go_wp2
  all_goals go_ret
  all_goals exact ⟨ret_bool (by simp; try omega), rfl⟩

set_option maxHeartbeats 400000 in
/-- spec.bit -/
theorem bit_any (v y : Int) (w : World) (hv : 0 ≤ v) (hv2 : v ≤ 63) (hy0 : 0 ≤ y) (hy : y ≤ 30) :
    Calls Tryz.prog 131 #[.int .i64 v, .int .i64 y] w fun e w' => e = .returned (.int .i64 (bt v y)) ∧ w = w' := by
  have p1 := pw_30 y hy
  have p2 := pw_pos y
  go_enter Tryz.func131, Tryz.ntmps131
  go_wp2_with (go_at_call 49; refine (power_any _ _ hy0 hy).mono ?_; rintro e w' ⟨rfl, rfl⟩)
  have d1 : 0 ≤ v / pw y := Int.ediv_nonneg hv (by omega)
  go_ret
  exact ⟨ret_int (by simp [bt]; rw [Int.tmod_eq_emod_of_nonneg d1]), rfl⟩

set_option maxHeartbeats 400000 in
/-- spec.below -/
theorem below_any (b off cap : Nat) (L : List Int) (x y : Int) (w : World) (hc : Cells w b off L) (hs : Small L) (x0 : 0 ≤ x) (x1 : x < num L) (y0 : 0 ≤ y) (y1 : y ≤ 30) :
    Calls Tryz.prog 98 #[.slice (some ⟨b, off, none⟩) L.length cap, .int .i64 x, .int .i64 y] w fun e w' => e = .returned (.bool (bl L x y)) ∧ w = w' := by
  have c1 := hc.at x x0 x1
  obtain ⟨r0, r1⟩ := hs.rng x x0 x1
  have x2 : x < L.length := x1
  go_enter Tryz.func98, Tryz.ntmps98
  go_wp2_with (go_at_call 131; refine (bit_any _ _ _ r0 r1 y0 y1).mono ?_; rintro e w' ⟨rfl, rfl⟩)
  go_ret
  exact ⟨ret_bool (by simp [bl]), rfl⟩
end Go.Proofs.YtpophjloedpcfaaGreatDoor

namespace Go.Proofs.YtpophjloedpcfaaGreatDoor
open Go.RowKit

set_option maxRecDepth 100000 in
set_option maxHeartbeats 2000000 in
/-- spec.meet -/
theorem meet_any (b off cap : Nat) (L : List Int) (x y : Int) (w : World) (hc : Cells w b off L) (hs : Small L) (x0 : 0 ≤ x) (x1 : x < num L) (y0 : 0 ≤ y) (y1 : y < num L) :
    Calls Tryz.prog 97 #[.slice (some ⟨b, off, none⟩) L.length cap, .int .i64 x, .int .i64 y] w fun e w' => e = .returned (.int .i64 (mt L x y)) ∧ w = w' := by
  have hl := hs.len
  have hn : num L = L.length := rfl
  have HN := Lib.hid hn; clear hn
  have hn1 : num L ≤ L.length := by rw [HN.out]; omega
  have hn2 : (L.length : Int) ≤ num L := by rw [HN.out]; omega
  go_enter Tryz.func97, Tryz.ntmps97
  go_wp2
  go_loop [7] (fun z => ∃ k : Int, 0 ≤ k ∧ k ≤ num L ∧ z = .int .i64 k ∧ NoneTo k (isMeetB L x y)) (fun z => (6 - intOf z).toNat)
  case atStart => exact ⟨0, by omega, by omega, rfl, NoneTo.zero _⟩
  case round =>
    obtain ⟨k, k0, k1, rfl, hno⟩ := hrel
    by_cases hk : k < num L
    · go_wp2_with (go_at_call 98; refine (below_any _ _ _ L _ _ _ hc hs (by omega) (by omega) (by omega) (by omega)).mono ?_; rintro e w' ⟨rfl, rfl⟩)
      all_goals
        go_loop [8, 9] (fun o z => ∃ j : Int, 0 ≤ j ∧ j ≤ num L ∧ z = .int .i64 j ∧ o = .bool (okTo (bl L k x && bl L k y) (meetQ L x y k) j)) (fun _ z => (6 - intOf z).toNat)
        case atStart => exact ⟨0, by omega, by omega, rfl, by simp [okTo_zero, *]⟩
        case round =>
          obtain ⟨j, j0, j1, rfl, rfl⟩ := hrel
          have hsu := okTo_succ (bl L k x && bl L k y) (meetQ L x y k) j j0
          have HS := Lib.hid hsu; clear hsu
          by_cases hj : j < num L
          · cases hok : okTo (bl L k x && bl L k y) (meetQ L x y k) j with
            | true =>
              rw [hok] at HS
              clear hok
              go_wp2_with (go_at_call 98; refine (below_any _ _ _ L _ _ _ hc hs (by omega) (by omega) (by omega) (by omega)).mono ?_; rintro e w' ⟨rfl, rfl⟩)
              all_goals
                go_round
                case rel => exact ⟨j + 1, by omega, by omega, rfl, by rw [HS.out]; simp [meetQ, *]⟩
                case measure => simp [intOf]; omega
            | false =>
              have he := okTo_end j1 (.inr hok)
              rw [hok, ← isMeetB_eq] at he
              have HE := Lib.hid he; clear he hok HS
              go_wp2
              go_round
              case rel => exact ⟨k + 1, by omega, by omega, rfl, hno.succ HE.out⟩
              case measure => simp [intOf]; omega
          · have he := okTo_end (A := bl L k x && bl L k y) (q := meetQ L x y k) j1 (.inl (by omega))
            rw [← isMeetB_eq] at he
            have HE := Lib.hid he; clear he HS
            cases hok : okTo (bl L k x && bl L k y) (meetQ L x y k) j with
            | true =>
              rw [hok] at HE
              clear hok
              have hf := firstI_some k0 hk hno HE.out
              have HF := Lib.hid hf; clear hf
              go_wp2
              go_ret
              exact ⟨ret_int HF.out.symm, rfl⟩
            | false =>
              rw [hok] at HE
              clear hok
              go_wp2
              go_round
              case rel => exact ⟨k + 1, by omega, by omega, rfl, hno.succ HE.out⟩
              case measure => simp [intOf]; omega
    · have hf : mt L x y = -1 := firstI_none fun j h0 h1 => hno j h0 (by omega)
      have HF := Lib.hid hf; clear hf
      go_wp2
      go_ret
      exact ⟨ret_int HF.out.symm, rfl⟩

set_option maxRecDepth 100000 in
set_option maxHeartbeats 2000000 in
/-- spec.join -/
theorem join_any (b off cap : Nat) (L : List Int) (x y : Int) (w : World) (hc : Cells w b off L) (hs : Small L) (x0 : 0 ≤ x) (x1 : x < num L) (y0 : 0 ≤ y) (y1 : y < num L) :
    Calls Tryz.prog 66 #[.slice (some ⟨b, off, none⟩) L.length cap, .int .i64 x, .int .i64 y] w fun e w' => e = .returned (.int .i64 (jn L x y)) ∧ w = w' := by
  have hl := hs.len
  have hn : num L = L.length := rfl
  have HN := Lib.hid hn; clear hn
  have hn1 : num L ≤ L.length := by rw [HN.out]; omega
  have hn2 : (L.length : Int) ≤ num L := by rw [HN.out]; omega
  go_enter Tryz.func66, Tryz.ntmps66
  go_wp2
  go_loop [7] (fun z => ∃ k : Int, 0 ≤ k ∧ k ≤ num L ∧ z = .int .i64 k ∧ NoneTo k (isJoinB L x y)) (fun z => (6 - intOf z).toNat)
  case atStart => exact ⟨0, by omega, by omega, rfl, NoneTo.zero _⟩
  case round =>
    obtain ⟨k, k0, k1, rfl, hno⟩ := hrel
    by_cases hk : k < num L
    · go_wp2_with (go_at_call 98; refine (below_any _ _ _ L _ _ _ hc hs (by omega) (by omega) (by omega) (by omega)).mono ?_; rintro e w' ⟨rfl, rfl⟩)
      all_goals
        go_loop [8, 9] (fun o z => ∃ j : Int, 0 ≤ j ∧ j ≤ num L ∧ z = .int .i64 j ∧ o = .bool (okTo (bl L x k && bl L y k) (joinQ L x y k) j)) (fun _ z => (6 - intOf z).toNat)
        case atStart => exact ⟨0, by omega, by omega, rfl, by simp [okTo_zero, *]⟩
        case round =>
          obtain ⟨j, j0, j1, rfl, rfl⟩ := hrel
          have hsu := okTo_succ (bl L x k && bl L y k) (joinQ L x y k) j j0
          have HS := Lib.hid hsu; clear hsu
          by_cases hj : j < num L
          · cases hok : okTo (bl L x k && bl L y k) (joinQ L x y k) j with
            | true =>
              rw [hok] at HS
              clear hok
              go_wp2_with (go_at_call 98; refine (below_any _ _ _ L _ _ _ hc hs (by omega) (by omega) (by omega) (by omega)).mono ?_; rintro e w' ⟨rfl, rfl⟩)
              all_goals
                go_round
                case rel => exact ⟨j + 1, by omega, by omega, rfl, by rw [HS.out]; simp [joinQ, *]⟩
                case measure => simp [intOf]; omega
            | false =>
              have he := okTo_end j1 (.inr hok)
              rw [hok, ← isJoinB_eq] at he
              have HE := Lib.hid he; clear he hok HS
              go_wp2
              go_round
              case rel => exact ⟨k + 1, by omega, by omega, rfl, hno.succ HE.out⟩
              case measure => simp [intOf]; omega
          · have he := okTo_end (A := bl L x k && bl L y k) (q := joinQ L x y k) j1 (.inl (by omega))
            rw [← isJoinB_eq] at he
            have HE := Lib.hid he; clear he HS
            cases hok : okTo (bl L x k && bl L y k) (joinQ L x y k) j with
            | true =>
              rw [hok] at HE
              clear hok
              have hf := firstI_some k0 hk hno HE.out
              have HF := Lib.hid hf; clear hf
              go_wp2
              go_ret
              exact ⟨ret_int HF.out.symm, rfl⟩
            | false =>
              rw [hok] at HE
              clear hok
              go_wp2
              go_round
              case rel => exact ⟨k + 1, by omega, by omega, rfl, hno.succ HE.out⟩
              case measure => simp [intOf]; omega
    · have hf : jn L x y = -1 := firstI_none fun j h0 h1 => hno j h0 (by omega)
      have HF := Lib.hid hf; clear hf
      go_wp2
      go_ret
      exact ⟨ret_int HF.out.symm, rfl⟩

end Go.Proofs.YtpophjloedpcfaaGreatDoor

namespace Go.Proofs.YtpophjloedpcfaaGreatDoor
open Go.RowKit

set_option maxHeartbeats 400000 in
/-- spec.validOrder: no numbers, or more than six -/
theorem validOrder_len (a : Option Addr) (cap : Nat) (L : List Int) (w : World) (hl : num L < 1 ∨ 6 < num L) :
    Calls Tryz.prog 96 #[.slice a L.length cap] w fun e w' => e = .returned (.bool (voB L)) ∧ w = w' := by
  have hv := Lib.hid (voB_len hl)
  have hn : (decide (1 ≤ (L.length : Int)) && decide ((L.length : Int) ≤ 6)) = false := by
    unfold num at hl
    rw [Bool.eq_false_iff, Ne, Bool.and_eq_true, decide_eq_true_eq, decide_eq_true_eq]; omega
  go_enter Tryz.func96, Tryz.ntmps96
  go_wp2_with (go_at_call 65; refine (inRange_any _ _ _ _).mono ?_; rintro e w' ⟨rfl, rfl⟩)
  all_goals (go_ret; exact ⟨ret_bool hv.out.symm, rfl⟩)

set_option maxRecDepth 100000 in
set_option maxHeartbeats 2000000 in
/-- spec.validOrder: one to six numbers -/
theorem validOrder_six (b off cap : Nat) (L : List Int) (w : World) (hc : Cells w b off L) (h1 : 1 ≤ num L) (h6 : num L ≤ 6) :
    Calls Tryz.prog 96 #[.slice (some ⟨b, off, none⟩) L.length cap] w fun e w' => e = .returned (.bool (voB L)) ∧ Dr w w' := by
  have hc0 := hc
  have hn : num L = L.length := rfl
  have HN := Lib.hid hn; clear hn
  have hn1 : num L ≤ L.length := by rw [HN.out]; omega
  have hn2 : (L.length : Int) ≤ num L := by rw [HN.out]; omega
  have hin : (decide (1 ≤ (L.length : Int)) && decide ((L.length : Int) ≤ 6)) = true := by
    rw [Bool.and_eq_true, decide_eq_true_eq, decide_eq_true_eq]; omega
  have p1 := pw_30 L.length (by omega)
  have p2 := pw_pos L.length
  go_enter Tryz.func96, Tryz.ntmps96
  go_wp2_with (go_at_call 65; refine (inRange_any _ _ _ _).mono ?_; rintro e w' ⟨rfl, rfl⟩)
  go_loopw [4] (fun x wr => ∃ k : Int, 0 ≤ k ∧ k ≤ num L ∧ x = .int .i64 k ∧ AllTo k (inR L) ∧ Dr w wr) (fun x _ => (6 - intOf x).toNat)
  case atStart => exact ⟨0, by omega, by omega, rfl, AllTo.zero _, Dr.refl _⟩
  case round =>
    obtain ⟨k, k0, k1, rfl, hall, hd⟩ := hrel
    replace hc := hd.cells hc
    by_cases hk : k < num L
    · have c1 := hc.at k k0 hk
      have hkl : k < L.length := by omega
      have hir : inR L k = (decide (0 ≤ nth L k) && decide (nth L k ≤ pw L.length - 1)) := rfl
      cases hi : inR L k with
      | true =>
        rw [hi] at hir
        have hir2 := hir.symm
        clear hir
        have HI := Lib.hid hi; clear hi
        go_wp2
        go_quiet (first | (go_at_call 49; exact q_same (power_any _ _ (by omega) (by omega))) | (go_at_call 65; exact q_same (inRange_any _ _ _ _)))
        go_wp2
        go_roundw
        case rel => exact ⟨k + 1, by omega, by omega, rfl, hall.succ HI.out, hd.more _⟩
        case measure => simp [intOf]; omega
      | false =>
        rw [hi] at hir
        have hir2 := hir.symm
        clear hir
        have hv := Lib.hid (voB_rng k0 hk hi)
        clear hi
        go_wp2
        go_quiet (first | (go_at_call 49; exact q_same (power_any _ _ (by omega) (by omega))) | (go_at_call 65; exact q_same (inRange_any _ _ _ _)))
        go_wp2
        go_ret
        exact ⟨ret_bool hv.out.symm, hd.more _⟩
    · have hr : AllTo (num L) (inR L) := fun j j0 j1 => hall j j0 (by omega)
      have hs := small_of h6 hr
      clear hall
      go_wp2
      obtain ⟨w1, rfl⟩ : ∃ w1 : World, w1 = wr := ⟨_, rfl⟩
      go_loopw [5] (fun x wr => ∃ k : Int, 0 ≤ k ∧ k ≤ num L ∧ x = .int .i64 k ∧ AllTo k (ordX L) ∧ Dr w wr) (fun x _ => (6 - intOf x).toNat)
      case atStart => exact ⟨0, by omega, by omega, rfl, AllTo.zero _, hd⟩
      case round =>
        obtain ⟨x, x0, x1, rfl, hx, hd2⟩ := hrel
        replace hc := hd2.cells hc0
        by_cases hxn : x < num L
        · have hxl : x < L.length := by omega
          have hnl : num L - 1 = L.length - 1 := by omega
          have HNL := Lib.hid hnl; clear hnl
          cases hA : bl L x x <;> cases hB : bl L 0 x <;> cases hC : bl L x (L.length - 1)
          all_goals go_wp2_with (go_at_call 98; refine (below_any _ _ _ L _ _ _ hc hs (by omega) (by omega) (by omega) (by omega)).mono ?_; rintro e w' ⟨rfl, rfl⟩)
          all_goals first | (go_ret; exact ⟨ret_bool (voB_ord x0 hxn (ordX_f1 (by rw [HNL.out, hA, hB, hC]; rfl))).symm, hd2⟩) | skip
          have hb : (bl L x x && bl L 0 x && bl L x (num L - 1)) = true := by rw [HNL.out, hA, hB, hC]; rfl
          clear hA hB hC
          have HB := Lib.hid hb; clear hb
          obtain ⟨w2, rfl⟩ : ∃ w2 : World, w2 = wr := ⟨_, rfl⟩
          go_loopw [6] (fun y wr => ∃ k : Int, 0 ≤ k ∧ k ≤ num L ∧ y = .int .i64 k ∧ AllTo k (ordXY L x) ∧ Dr w wr) (fun y _ => (6 - intOf y).toNat)
          case atStart => exact ⟨0, by omega, by omega, rfl, AllTo.zero _, hd2⟩
          case round =>
            obtain ⟨y, y0, y1, rfl, hy, hd3⟩ := hrel
            replace hc := hd3.cells hc0
            by_cases hyn : y < num L
            · have hyl : y < L.length := by omega
              cases hA : x != y <;> cases hB : bl L x y <;> cases hC : bl L y x
              all_goals go_wp2_with (go_at_call 98; refine (below_any _ _ _ L _ _ _ hc hs (by omega) (by omega) (by omega) (by omega)).mono ?_; rintro e w' ⟨rfl, rfl⟩)
              all_goals first | (go_ret; exact ⟨ret_bool (voB_ord x0 hxn (ordX_f2 y0 hyn (ordXY_f1 (by rw [hA, hB, hC]; rfl)))).symm, hd3⟩) | skip
              all_goals
                have hb2 : (x != y && bl L x y && bl L y x) = false := by rw [hA, hB, hC]; rfl
                clear hA hB hC
                have HB2 := Lib.hid hb2; clear hb2
                obtain ⟨w3, rfl⟩ : ∃ w3 : World, w3 = wr := ⟨_, rfl⟩
                go_loopw [7] (fun z wr => ∃ k : Int, 0 ≤ k ∧ k ≤ num L ∧ z = .int .i64 k ∧ AllTo k (ordXYZ L x y) ∧ Dr w wr) (fun z _ => (6 - intOf z).toNat)
                case atStart => exact ⟨0, by omega, by omega, rfl, AllTo.zero _, hd3⟩
                case round =>
                  obtain ⟨z, z0, z1, rfl, hz, hd4⟩ := hrel
                  replace hc := hd4.cells hc0
                  by_cases hzn : z < num L
                  · have hzl : z < L.length := by omega
                    cases hA : bl L x y <;> cases hB : bl L y z <;> cases hC : bl L x z
                    all_goals go_wp2_with (go_at_call 98; refine (below_any _ _ _ L _ _ _ hc hs (by omega) (by omega) (by omega) (by omega)).mono ?_; rintro e w' ⟨rfl, rfl⟩)
                    all_goals first | (go_ret; exact ⟨ret_bool (voB_ord x0 hxn (ordX_f2 y0 hyn (ordXY_f2 z0 hzn (by unfold ordXYZ; rw [hA, hB, hC]; rfl)))).symm, hd4⟩) | skip
                    all_goals
                      go_roundw
                      case rel => exact ⟨z + 1, by omega, by omega, rfl, hz.succ (by unfold ordXYZ; rw [hA, hB, hC]; rfl), hd4⟩
                      case measure => simp [intOf]; omega
                  · have ht := ordXY_t HB2.out (by omega : num L ≤ z) hz
                    have HT := Lib.hid ht; clear ht
                    go_wp2
                    go_roundw
                    case rel => exact ⟨y + 1, by omega, by omega, rfl, hy.succ HT.out, hd4⟩
                    case measure => simp [intOf]; omega
            · have ht := ordX_t HB.out (by omega : num L ≤ y) hy
              have HT := Lib.hid ht; clear ht
              go_wp2
              go_roundw
              case rel => exact ⟨x + 1, by omega, by omega, rfl, hx.succ HT.out, hd3⟩
              case measure => simp [intOf]; omega
        · have hv := Lib.hid (voB_t h1 h6 hr (by omega : num L ≤ x) hx)
          go_wp2
          go_ret
          exact ⟨ret_bool hv.out.symm, hd2⟩
end Go.Proofs.YtpophjloedpcfaaGreatDoor

namespace Go.Proofs.YtpophjloedpcfaaGreatDoor
open Go.RowKit

theorem latB_vo {L : List Int} (h : voB L = false) : latB L = false := by unfold latB; rw [h]; rfl
theorem latB_xy {L : List Int} {x y : Int} (x0 : 0 ≤ x) (x1 : x < num L) (y0 : 0 ≤ y) (y1 : y < num L) (h : latXY L x y = false) : latB L = false := by
  unfold latB
  rw [allI_false x x0 x1 (allI_false y y0 y1 h)]; simp
theorem latB_t {L : List Int} {m : Int} (h : voB L = true) (hm : num L ≤ m) (ha : AllTo m fun x => allI (num L) (latXY L x)) : latB L = true := by
  unfold latB; rw [h, ha.all hm]; rfl
theorem voB_parts {L : List Int} (h : voB L = true) : 1 ≤ num L ∧ num L ≤ 6 ∧ Small L := by
  unfold voB at h
  simp only [Bool.and_eq_true, decide_eq_true_eq] at h
  obtain ⟨⟨⟨a, b⟩, c⟩, _⟩ := h
  exact ⟨a, b, small_of b fun j j0 j1 => (allI_iff _ _).1 c j j0 j1⟩
theorem latB_parts {L : List Int} (h : latB L = true) : 1 ≤ num L ∧ num L ≤ 6 ∧ Small L := by
  unfold latB at h
  rw [Bool.and_eq_true] at h
  exact voB_parts h.1

set_option maxHeartbeats 400000 in
/-- spec.validLattice: no numbers, or more than six -/
theorem validLattice_len (a : Option Addr) (cap : Nat) (L : List Int) (w : World) (hl : num L < 1 ∨ 6 < num L) :
    Calls Tryz.prog 64 #[.slice a L.length cap] w fun e w' => e = .returned (.bool (latB L)) ∧ Dr w w' := by
  have hv := voB_len hl
  have hb := Lib.hid (latB_vo hv)
  go_enter Tryz.func64, Tryz.ntmps64
  go_wp2_with (go_at_call 96; refine (validOrder_len _ _ _ _ hl).mono ?_; rintro e w' ⟨rfl, rfl⟩)
  go_ret
  exact ⟨ret_bool hb.out.symm, Dr.refl _⟩

set_option maxRecDepth 100000 in
set_option maxHeartbeats 2000000 in
/-- spec.validLattice: one to six numbers -/
theorem validLattice_six (b off cap : Nat) (L : List Int) (w : World) (hc : Cells w b off L) (h1 : 1 ≤ num L) (h6 : num L ≤ 6) :
    Calls Tryz.prog 64 #[.slice (some ⟨b, off, none⟩) L.length cap] w fun e w' => e = .returned (.bool (latB L)) ∧ Dr w w' := by
  have hc0 := hc
  have hn : num L = L.length := rfl
  have HN := Lib.hid hn; clear hn
  have hn1 : num L ≤ L.length := by rw [HN.out]; omega
  have hn2 : (L.length : Int) ≤ num L := by rw [HN.out]; omega
  cases hv : voB L with
  | false =>
    have hb := Lib.hid (latB_vo hv)
    go_enter Tryz.func64, Tryz.ntmps64
    go_wp2_with (go_at_call 96; refine (validOrder_six _ _ _ _ _ hc h1 h6).mono ?_; rintro e w1 ⟨rfl, hd⟩)
    go_ret
    exact ⟨ret_bool hb.out.symm, hd⟩
  | true =>
    have hs := (voB_parts hv).2.2
    have HV := Lib.hid hv
    go_enter Tryz.func64, Tryz.ntmps64
    go_wp2_with (go_at_call 96; refine (validOrder_six _ _ _ _ _ hc h1 h6).mono ?_; rintro e w1 ⟨rfl, hd⟩)
    clear hv
    obtain ⟨w0, rfl⟩ : ∃ w0 : World, w0 = w1 := ⟨_, rfl⟩
    go_loopw [3] (fun x wr => ∃ k : Int, 0 ≤ k ∧ k ≤ num L ∧ x = .int .i64 k ∧ AllTo k (fun x => allI (num L) (latXY L x)) ∧ Dr w wr) (fun x _ => (6 - intOf x).toNat)
    case atStart => exact ⟨0, by omega, by omega, rfl, AllTo.zero _, hd⟩
    case round =>
      obtain ⟨x, x0, x1, rfl, hx, hd2⟩ := hrel
      replace hc := hd2.cells hc0
      by_cases hxn : x < num L
      · have hxl : x < L.length := by omega
        go_wp2
        obtain ⟨w2, rfl⟩ : ∃ w2 : World, w2 = wr := ⟨_, rfl⟩
        go_loopw [4] (fun y wr => ∃ k : Int, 0 ≤ k ∧ k ≤ num L ∧ y = .int .i64 k ∧ AllTo k (latXY L x) ∧ Dr w wr) (fun y _ => (6 - intOf y).toNat)
        case atStart => exact ⟨0, by omega, by omega, rfl, AllTo.zero _, hd2⟩
        case round =>
          obtain ⟨y, y0, y1, rfl, hy, hd3⟩ := hrel
          replace hc := hd3.cells hc0
          by_cases hyn : y < num L
          · have hyl : y < L.length := by omega
            by_cases hA : mt L x y < 0 <;> by_cases hB : jn L x y < 0
            all_goals go_wp2_with (first | (go_at_call 97; refine (meet_any _ _ _ L _ _ _ hc hs (by omega) (by omega) (by omega) (by omega)).mono ?_; rintro e w' ⟨rfl, rfl⟩) | (go_at_call 66; refine (join_any _ _ _ L _ _ _ hc hs (by omega) (by omega) (by omega) (by omega)).mono ?_; rintro e w' ⟨rfl, rfl⟩))
            all_goals first | (go_ret; exact ⟨ret_bool (latB_xy x0 hxn y0 hyn (by unfold latXY; simp [hA, hB])).symm, hd3⟩) | skip
            go_roundw
            case rel => exact ⟨y + 1, by omega, by omega, rfl, hy.succ (by unfold latXY; rw [decide_eq_false (by omega), decide_eq_false (by omega)]; rfl), hd3⟩
            case measure => simp [intOf]; omega
          · have ht := hy.all (by omega : num L ≤ y)
            have HT := Lib.hid ht; clear ht
            go_wp2
            go_roundw
            case rel => exact ⟨x + 1, by omega, by omega, rfl, hx.succ HT.out, hd3⟩
            case measure => simp [intOf]; omega
      · have ht := latB_t HV.out (by omega : num L ≤ x) hx
        have HT := Lib.hid ht; clear ht
        go_wp2
        go_ret
        exact ⟨ret_bool HT.out.symm, hd2⟩

/-- spec.validLattice, whatever the numbers -/
theorem validLattice_any (a : Option Addr) (cap : Nat) (L : List Int) (w : World) (hr : Rd w a L) :
    Calls Tryz.prog 64 #[.slice a L.length cap] w fun e w' => e = .returned (.bool (latB L)) ∧ Dr w w' := by
  by_cases h : 1 ≤ num L ∧ num L ≤ 6
  · obtain ⟨b, off, rfl, hc⟩ := hr.pos h.1
    exact validLattice_six b off cap L w hc h.1 h.2
  · exact validLattice_len a cap L w (by omega)
end Go.Proofs.YtpophjloedpcfaaGreatDoor

namespace Go.Proofs.YtpophjloedpcfaaGreatDoor
open Go.RowKit

def goodB (L : List Int) (x y : Int) : Bool := latB L && (decide (0 ≤ x) && decide (x ≤ num L - 1)) && (decide (0 ≤ y) && decide (y ≤ num L - 1))
def isBelowB (L : List Int) (x y : Int) : Bool := goodB L x y && bl L x y
def meetOfI (L : List Int) (x y : Int) : Int := if goodB L x y then mt L x y else -1
def joinOfI (L : List Int) (x y : Int) : Int := if goodB L x y then jn L x y else -1
def chainXY (L : List Int) (x y : Int) : Bool := bl L x y || bl L y x
def chainB (L : List Int) : Bool := allI (num L) fun x => allI (num L) (chainXY L x)
theorem goodB_parts {L : List Int} {x y : Int} (h : goodB L x y = true) : latB L = true ∧ 1 ≤ num L ∧ num L ≤ 6 ∧ Small L ∧ 0 ≤ x ∧ x < num L ∧ 0 ≤ y ∧ y < num L := by
  unfold goodB at h
  simp only [Bool.and_eq_true, decide_eq_true_eq] at h
  obtain ⟨⟨a, b, c⟩, d, e⟩ := h
  obtain ⟨h1, h6, hs⟩ := latB_parts a
  exact ⟨a, h1, h6, hs, b, by omega, d, by omega⟩

theorem below_is (b off cap : Nat) (L : List Int) (x y : Int) (w : World) (hc : Cells w b off L) (hs : Small L) (x0 : 0 ≤ x) (x1 : x < num L) (y0 : 0 ≤ y) (y1 : y ≤ 30) {r : Bool} (h : bl L x y = r) :
    Calls Tryz.prog 98 #[.slice (some ⟨b, off, none⟩) L.length cap, .int .i64 x, .int .i64 y] w fun e w' => e = .returned (.bool r) ∧ w = w' := by
  subst h; exact below_any b off cap L x y w hc hs x0 x1 y0 y1
end Go.Proofs.YtpophjloedpcfaaGreatDoor
