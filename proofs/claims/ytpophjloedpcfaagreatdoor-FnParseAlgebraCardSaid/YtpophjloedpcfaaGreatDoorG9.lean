import Derived.Test.YtpophjloedpcfaaGreatDoorG6
import Derived.Test.YtpophjloedpcfaaGreatDoorD3
import Derived.Test.YtpophjloedpcfaaGreatDoorM5
namespace Go.Proofs.YtpophjloedpcfaaGreatDoor
open Go.RowKit

def fixQ (T : List (List Int)) (x : Int) : Bool := tv T x x == x
def algI (L : List Int) (T : List (List Int)) (p : Int → Bool) : List Int := if algB L T then filtTo p (num L) else []
theorem algI_t {L : List Int} {T : List (List Int)} {p : Int → Bool} (h : algB L T = true) : algI L T p = filtTo p (num L) := if_pos h
theorem algI_f {L : List Int} {T : List (List Int)} {p : Int → Bool} (h : algB L T = false) : algI L T p = [] := if_neg (by rw [h]; decide)
theorem algI_len (L : List Int) (T : List (List Int)) (p : Int → Bool) : (algI L T p).length ≤ 6 := by
  cases h : algB L T with
  | false => rw [algI_f h]; simp
  | true => rw [algI_t h]; have := filtTo_len p (num L); have := lat_len (algB_parts h).1; omega
theorem append1 (a b : Value) : (#[a] ++ #[b] : Array Value) = #[a, b] := rfl
end Go.Proofs.YtpophjloedpcfaaGreatDoor

namespace Go.Proofs.YtpophjloedpcfaaGreatDoor
open Go.RowKit

/-- a load of a part of a block, in a region that draws its order -/
theorem quiet_load_mid {P : Program} {C : World → Prop} {o : Oper} {a : Act} {K : Act → Prop} (ty : TypeId) (x : Operand) (ho : o.op = .load ty x) (g f : Nat) (hx : a.eval x = .pointer (some ⟨g, f, none⟩)) (cs : Array Value) (d : TypeDesc)
    (hg : ∀ w, C w → w.rangeAt g f cs.toList) (hu : P.underlying ty = some d) (hd : d.isRow = true) (hi : (P.info? ty).map (·.size) = some cs.size)
    (h : K (a.put o.dst (.agg cs))) : o.quiet P a C K :=
  ⟨_, fun w hw => by
    unfold Oper.quietAt execOp
    simp only [ho, hx, Instr.loadAt, Instr.sureAddr, Sem.run_bind, Sem.run_pure, Result.andThen_ok, run_loadVar_mid w g f ty cs.toList d (hg w hw) hu hd (by simpa using hi)]
    exact ⟨rfl, by simp⟩, h⟩
def sharpQ (L : List Int) (T : List (List Int)) (x : Int) : Bool := jn L x (imp L T x 0) == L.length - 1
end Go.Proofs.YtpophjloedpcfaaGreatDoor

namespace Go.Proofs.YtpophjloedpcfaaGreatDoor
open Go.RowKit

theorem in_trans {w1 wr : World} (z : Below w1.heap.size w1 wr) (s : In (Below wr.heap.size wr)) : Below w1.heap.size w1 s.w := z.trans (s.h.mono z.size)
theorem in_same {P : Program} {f : FuncId} {args : Array Value} {w1 : World} {v : Value} {B : Nat} (s : In (Below B w1))
    (h : Calls P f args s.w fun e w'' => e = .returned v ∧ s.w = w'') : Calls P f args s.w fun e w'' => e = .returned v ∧ ∃ s' : In (Below B w1), w'' = s'.w :=
  h.mono fun _ _ h => ⟨h.1, s, h.2.symm⟩
end Go.Proofs.YtpophjloedpcfaaGreatDoor
