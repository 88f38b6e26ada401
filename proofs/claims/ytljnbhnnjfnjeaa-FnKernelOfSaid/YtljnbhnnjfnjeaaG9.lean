import Derived.Test.YtljnbhnnjfnjeaaG6
import Derived.Test.YtljnbhnnjfnjeaaD3
import Derived.Test.YtljnbhnnjfnjeaaM5
namespace Go.Proofs.Ytljnbhnnjfnjeaa
open Go.RowKit

set_option maxRecDepth 100000 in
set_option maxHeartbeats 2000000 in
/-- impl.elementsThat at whatever function value -/
theorem elementsThat_any (f : Nat) (env : Array Value) (n : Int) (p : Int → Bool) (w : World) (n0 : 0 ≤ n) (n6 : n ≤ 6) (he : Enters f)
    (H : ∀ (y : Int) (wr : World), 0 ≤ y → y < n → Below w.heap.size w wr → Calls Try.prog f (#[.int .i64 y] ++ env) wr fun e w' => e = .returned (.bool (p y)) ∧ Below wr.heap.size wr w') :
    Calls Try.prog 34 #[.int .i64 n, .func (.func f) #[] env] w (RetOwn w.heap.size (filtTo p n) w) := by
  obtain ⟨i0, hi, hz0, hz1, hz2⟩ := info_parts info_int
  have HH := Lib.hid H; clear H
  have HE := Lib.hid (show ∀ (args : Array Value) (w : World), (callFunc f args).run Try.prog w = .ok (.enter f args) w from he); clear he
  go_enter Try.func34, Try.ntmps34
  go_wp2
  go_loopw [5, 6, 8] (fun v _ c wr => ∃ y : Int, 0 ≤ y ∧ y ≤ n ∧ c = .int .i64 y ∧ Own w.heap.size wr v (filtTo p y) ∧ Below w.heap.size w wr) (fun _ _ c _ => (6 - intOf c).toNat)
  case atStart => exact ⟨0, by omega, by omega, rfl, Own.nothing _ _, Below.refl _ _⟩
  case round =>
    obtain ⟨y, y0, y1, rfl, hown, hbel⟩ := hrel
    by_cases hy : y < n
    · have hlen := filtTo_len p y
      have hsu := Lib.hid (filtTo_succ p y y0)
      have hC := HH.out y wr y0 hy hbel
      cases hq : p y with
      | true =>
        rw [hq] at hC
        have hsu2 := Lib.hid (show filtTo p (y + 1) = filtTo p y ++ [y] by rw [hsu.out, hq]; rfl)
        have HC := Lib.hid hC; clear hq hC
        go_wp2_with (first
          | (rw [HE.out]; refine (HC.out).mono ?_; rintro e w3 ⟨rfl, hd3⟩; have hown3 := hown.below hd3; have hbel3 := hbel.trans (hd3.mono hbel.size))
          | (at_builtin; refine wpList_append_own _ rfl _ _ 23 rfl w.heap.size 3 i0 (.int .i64 0) 1 8 Try.underlying23 hi hz0 hz1 hz2 rfl (by decide) _ _ _ rfl (World.ownsRow.alloc hown3 _) ⟨w3.heap.size, 0, none⟩ 1 1 [.int .i64 y] rfl rfl (cell_one_new _ _ _) (fun x hx => by simp at hx; subst hx; rfl) (by unfold maxLen; omega) (by omega) (by have := hbel3.size; simp; omega) ?_; intro v' w2 hown1 hgrow _))
        go_roundw
        case rel => exact ⟨y + 1, by omega, by omega, rfl, by unfold Own; rw [hsu2.out, List.map_append, List.length_append]; exact hown1, (hbel3.alloc hbel3.size _).grown hgrow (by have := hbel3.size; simp; omega) (fun q hq => (World.ownsRow.lt hown3 q hq).1)⟩
        case measure => simp [intOf]; omega
      | false =>
        rw [hq] at hC
        have hsu2 := Lib.hid (show filtTo p (y + 1) = filtTo p y by rw [hsu.out, hq]; rfl)
        have HC := Lib.hid hC; clear hq hC
        go_wp2_with (rw [HE.out]; refine (HC.out).mono ?_; rintro e w3 ⟨rfl, hd3⟩; have hown3 := hown.below hd3; have hbel3 := hbel.trans (hd3.mono hbel.size))
        go_roundw
        case rel => exact ⟨y + 1, by omega, by omega, rfl, by rw [hsu2.out]; exact hown3, hbel3⟩
        case measure => simp [intOf]; omega
    · have e : y = n := by omega
      subst e
      go_wp2
      go_ret
      exact ⟨_, rfl, hown, hbel⟩

def fixQ (T : List (List Int)) (x : Int) : Bool := tv T x x == x
def algI (L : List Int) (T : List (List Int)) (p : Int → Bool) : List Int := if algB L T then filtTo p (num L) else []
theorem algI_t {L : List Int} {T : List (List Int)} {p : Int → Bool} (h : algB L T = true) : algI L T p = filtTo p (num L) := if_pos h
theorem algI_f {L : List Int} {T : List (List Int)} {p : Int → Bool} (h : algB L T = false) : algI L T p = [] := if_neg (by rw [h]; decide)
theorem algI_len (L : List Int) (T : List (List Int)) (p : Int → Bool) : (algI L T p).length ≤ 6 := by
  cases h : algB L T with
  | false => rw [algI_f h]; simp
  | true => rw [algI_t h]; have := filtTo_len p (num L); have := lat_len (algB_parts h).1; omega
theorem append1 (a b : Value) : (#[a] ++ #[b] : Array Value) = #[a, b] := rfl
end Go.Proofs.Ytljnbhnnjfnjeaa

namespace Go.Proofs.Ytljnbhnnjfnjeaa
open Go.RowKit

set_option maxRecDepth 100000 in
set_option maxHeartbeats 2000000 in
/-- impl.elementsThat at whatever function value -/
theorem elementsThat_m (f : Nat) (r : Value) (n : Int) (p : Int → Bool) (w : World) (n0 : 0 ≤ n) (n6 : n ≤ 6) (he : Enters f)
    (H : ∀ (y : Int) (wr : World), 0 ≤ y → y < n → Below w.heap.size w wr → Calls Try.prog f (#[r, .int .i64 y]) wr fun e w' => e = .returned (.bool (p y)) ∧ Below wr.heap.size wr w') :
    Calls Try.prog 34 #[.int .i64 n, .func (.func f) #[r] #[]] w (RetOwn w.heap.size (filtTo p n) w) := by
  obtain ⟨i0, hi, hz0, hz1, hz2⟩ := info_parts info_int
  have HH := Lib.hid H; clear H
  have HE := Lib.hid (show ∀ (args : Array Value) (w : World), (callFunc f args).run Try.prog w = .ok (.enter f args) w from he); clear he
  go_enter Try.func34, Try.ntmps34
  go_wp2
  go_loopw [5, 6, 8] (fun v _ c wr => ∃ y : Int, 0 ≤ y ∧ y ≤ n ∧ c = .int .i64 y ∧ Own w.heap.size wr v (filtTo p y) ∧ Below w.heap.size w wr) (fun _ _ c _ => (6 - intOf c).toNat)
  case atStart => exact ⟨0, by omega, by omega, rfl, Own.nothing _ _, Below.refl _ _⟩
  case round =>
    obtain ⟨y, y0, y1, rfl, hown, hbel⟩ := hrel
    by_cases hy : y < n
    · have hlen := filtTo_len p y
      have hsu := Lib.hid (filtTo_succ p y y0)
      have hC := HH.out y wr y0 hy hbel
      cases hq : p y with
      | true =>
        rw [hq] at hC
        have hsu2 := Lib.hid (show filtTo p (y + 1) = filtTo p y ++ [y] by rw [hsu.out, hq]; rfl)
        have HC := Lib.hid hC; clear hq hC
        go_wp2_with (first
          | (rw [HE.out]; refine (HC.out).mono ?_; rintro e w3 ⟨rfl, hd3⟩; have hown3 := hown.below hd3; have hbel3 := hbel.trans (hd3.mono hbel.size))
          | (at_builtin; refine wpList_append_own _ rfl _ _ 23 rfl w.heap.size 3 i0 (.int .i64 0) 1 8 Try.underlying23 hi hz0 hz1 hz2 rfl (by decide) _ _ _ rfl (World.ownsRow.alloc hown3 _) ⟨w3.heap.size, 0, none⟩ 1 1 [.int .i64 y] rfl rfl (cell_one_new _ _ _) (fun x hx => by simp at hx; subst hx; rfl) (by unfold maxLen; omega) (by omega) (by have := hbel3.size; simp; omega) ?_; intro v' w2 hown1 hgrow _))
        go_roundw
        case rel => exact ⟨y + 1, by omega, by omega, rfl, by unfold Own; rw [hsu2.out, List.map_append, List.length_append]; exact hown1, (hbel3.alloc hbel3.size _).grown hgrow (by have := hbel3.size; simp; omega) (fun q hq => (World.ownsRow.lt hown3 q hq).1)⟩
        case measure => simp [intOf]; omega
      | false =>
        rw [hq] at hC
        have hsu2 := Lib.hid (show filtTo p (y + 1) = filtTo p y by rw [hsu.out, hq]; rfl)
        have HC := Lib.hid hC; clear hq hC
        go_wp2_with (rw [HE.out]; refine (HC.out).mono ?_; rintro e w3 ⟨rfl, hd3⟩; have hown3 := hown.below hd3; have hbel3 := hbel.trans (hd3.mono hbel.size))
        go_roundw
        case rel => exact ⟨y + 1, by omega, by omega, rfl, by rw [hsu2.out]; exact hown3, hbel3⟩
        case measure => simp [intOf]; omega
    · have e : y = n := by omega
      subst e
      go_wp2
      go_ret
      exact ⟨_, rfl, hown, hbel⟩

/-- a load of a part of a block, in a region that draws its order -/
theorem quiet_load_mid {P : Program} {C : World → Prop} {o : Oper} {a : Act} {K : Act → Prop} (ty : TypeId) (x : Operand) (ho : o.op = .load ty x) (g f : Nat) (hx : a.eval x = .pointer (some ⟨g, f, none⟩)) (cs : Array Value) (d : TypeDesc)
    (hg : ∀ w, C w → w.rangeAt g f cs.toList) (hu : P.underlying ty = some d) (hd : d.isRow = true) (hi : (P.info? ty).map (·.size) = some cs.size)
    (h : K (a.put o.dst (.agg cs))) : o.quiet P a C K :=
  ⟨_, fun w hw => by
    unfold Oper.quietAt execOp
    simp only [ho, hx, Instr.loadAt, Instr.sureAddr, Sem.run_bind, Sem.run_pure, Result.andThen_ok, run_loadVar_mid w g f ty cs.toList d (hg w hw) hu hd (by simpa using hi)]
    exact ⟨rfl, by simp⟩, h⟩
def sharpQ (L : List Int) (T : List (List Int)) (x : Int) : Bool := jn L x (imp L T x 0) == L.length - 1
end Go.Proofs.Ytljnbhnnjfnjeaa

namespace Go.Proofs.Ytljnbhnnjfnjeaa
open Go.RowKit

theorem in_trans {w1 wr : World} (z : Below w1.heap.size w1 wr) (s : In (Below wr.heap.size wr)) : Below w1.heap.size w1 s.w := z.trans (s.h.mono z.size)
theorem in_same {P : Program} {f : FuncId} {args : Array Value} {w1 : World} {v : Value} {B : Nat} (s : In (Below B w1))
    (h : Calls P f args s.w fun e w'' => e = .returned v ∧ s.w = w'') : Calls P f args s.w fun e w'' => e = .returned v ∧ ∃ s' : In (Below B w1), w'' = s'.w :=
  h.mono fun _ _ h => ⟨h.1, s, h.2.symm⟩
end Go.Proofs.Ytljnbhnnjfnjeaa
