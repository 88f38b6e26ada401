import Derived.Test.YtpfnfglaokiipabM2
import Derived.Test.YtpfnfglaokiipabK1
import Derived.Test.YtpfnfglaokiipabL5
namespace Go.Proofs.Ytpfnfglaokiipab
open Go.RowKit

/-- A call of a function that has a body enters it. -/
def Enters (f : Nat) : Prop := ∀ (args : Array Value) (w : World), (callFunc f args).run Try.prog w = .ok (.enter f args) w
theorem enters_of {f : FuncId} {fn : Func} {c : Code} (hf : Try.prog.funcs[f]? = some fn) (hname : (fn.name == "runtime.NumGoroutine") = false) (hb : fn.body = some c) : Enters f := fun args w => by
  have h1 : fn.name ≠ "runtime.NumGoroutine" := by simpa using hname
  simp [callFunc, hf, h1, hb]

set_option maxRecDepth 100000 in
set_option maxHeartbeats 2000000 in
/-- impl.allTwo at whatever closure -/
theorem allTwo_any (f : Nat) (env : Array Value) (n : Int) (p : Int → Int → Bool) (w : World) (n0 : 0 ≤ n) (n6 : n ≤ 6) (he : Enters f)
    (H : ∀ (x y : Int) (wr : World), 0 ≤ x → x < n → 0 ≤ y → y < n → Below w.heap.size w wr → Calls Try.prog f (#[.int .i64 x, .int .i64 y] ++ env) wr fun e w' => e = .returned (.bool (p x y)) ∧ Below wr.heap.size wr w') :
    Calls Try.prog 99 #[.int .i64 n, .func (.func f) #[] env] w fun e w' => e = .returned (.bool (all2 n p)) ∧ Below w.heap.size w w' := by
  have HH := Lib.hid H; clear H
  have HE := Lib.hid (show ∀ (args : Array Value) (w : World), (callFunc f args).run Try.prog w = .ok (.enter f args) w from he); clear he
  go_enter Try.func99, Try.ntmps99
  go_wp2
  go_loopw [5, 6, 8] (fun _ _ c wr => ∃ x : Int, 0 ≤ x ∧ x ≤ n ∧ c = .int .i64 x ∧ AllTo x (fun x => allI n (p x)) ∧ Below w.heap.size w wr) (fun _ _ c _ => (6 - intOf c).toNat)
  case atStart => exact ⟨0, by omega, by omega, rfl, AllTo.zero _, Below.refl _ _⟩
  case round =>
    obtain ⟨x, x0, x1, rfl, hx, hbel⟩ := hrel
    by_cases hxn : x < n
    · go_wp2
      obtain ⟨w3, rfl⟩ : ∃ w3 : World, w3 = wr := ⟨_, rfl⟩
      go_loopw [6, 12] (fun _ c wr => ∃ y : Int, 0 ≤ y ∧ y ≤ n ∧ c = .int .i64 y ∧ AllTo y (p x) ∧ Below w.heap.size w wr) (fun _ c _ => (6 - intOf c).toNat)
      case atStart => exact ⟨0, by omega, by omega, rfl, AllTo.zero _, hbel⟩
      case round =>
        clear hbel
        obtain ⟨y, y0, y1, rfl, hy, hbel⟩ := hrel
        by_cases hyn : y < n
        · have hC := HH.out x y wr x0 hxn y0 hyn hbel
          cases hv : p x y with
          | false =>
            rw [hv] at hC
            have hf := Lib.hid (show all2 n p = false from allI_false (p := fun x => allI n (p x)) x x0 hxn (allI_false (p := p x) y y0 hyn hv))
            have HC := Lib.hid hC; clear hC hv
            go_wp2_with (rw [HE.out]; refine (HC.out).mono ?_; rintro e w5 ⟨rfl, h5⟩)
            go_ret
            exact ⟨ret_bool (by rw [hf.out]), hbel.trans (h5.mono hbel.size)⟩
          | true =>
            rw [hv] at hC
            have HV := Lib.hid hv
            have HC := Lib.hid hC; clear hC hv
            go_wp2_with (rw [HE.out]; refine (HC.out).mono ?_; rintro e w5 ⟨rfl, h5⟩)
            go_roundw
            case rel => exact ⟨y + 1, by omega, by omega, rfl, hy.succ HV.out, hbel.trans (h5.mono hbel.size)⟩
            case measure => simp [intOf]; omega
        · have ht := Lib.hid (show allI n (p x) = true from hy.all (by omega : n ≤ y))
          go_wp2
          go_roundw
          case rel => exact ⟨x + 1, by omega, by omega, rfl, hx.succ ht.out, hbel⟩
          case measure => simp [intOf]; omega
    · have ht := Lib.hid (show all2 n p = true from hx.all (by omega : n ≤ x))
      go_wp2
      go_ret
      exact ⟨ret_bool (by rw [ht.out]), hbel⟩
end Go.Proofs.Ytpfnfglaokiipab
