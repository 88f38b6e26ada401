import Derived.Test.YthjbfdoclifhoaaN7
import Derived.Test.YthjbfdoclifhoaaG11
import Derived.Maps.AppendAt
namespace Go.Proofs.Ythjbfdoclifhoaa
open Go.RowKit

theorem fls_63 {L : List Int} {T : List (List Int)} (h : latB L = true) {x : Int} (hx : x ∈ fls L T) : 0 ≤ x ∧ x ≤ 63 := by
  have := fls_parts hx
  have := pw_6 (lat_len h).2
  omega
theorem filt_63 {L : List Int} {T : List (List Int)} (h : latB L = true) (p : Int → Bool) : ∀ s ∈ (fls L T).filter p, 0 ≤ s ∧ s ≤ 63 := fun _ hs => fls_63 h (List.mem_filter.1 hs).1
theorem filt_64 {L : List Int} {T : List (List Int)} (h : latB L = true) (p : Int → Bool) : ((fls L T).filter p).length ≤ 64 := by
  have := List.length_filter_le p (fls L T)
  have := fls_len L T (lat_len h).2
  omega
end Go.Proofs.Ythjbfdoclifhoaa

namespace Go.Proofs.Ythjbfdoclifhoaa
open Go.RowKit

theorem hrt_out {L : List Int} {T : List (List Int)} (h : algB L T = false) : hrtI L T = 0 ∧ hrtB L T = false := by
  have hb : hrtB L T = false := by unfold hrtB; rw [h]; rfl
  exact ⟨by unfold hrtI; rw [hb]; rfl, hb⟩
theorem hrt_no {L : List Int} {T : List (List Int)} (h : (hrtC L T == pw (num L - 1)) = true) : hrtI L T = 0 ∧ hrtB L T = false := by
  have hb : hrtB L T = false := by unfold hrtB; rw [beq_iff_eq] at h; rw [h]; simp
  exact ⟨by unfold hrtI; rw [hb]; rfl, hb⟩
theorem hrt_yes {L : List Int} {T : List (List Int)} (ha : algB L T = true) (h : (hrtC L T == pw (num L - 1)) = false) : hrtI L T = hrtC L T ∧ hrtB L T = true := by
  have hb : hrtB L T = true := by unfold hrtB; rw [ha, Bool.true_and, bne, h]; rfl
  exact ⟨by unfold hrtI; rw [hb]; rfl, hb⟩
end Go.Proofs.Ythjbfdoclifhoaa

namespace Go.Proofs.Ythjbfdoclifhoaa
open Go.RowKit

theorem apart_new {u v v' : Value} {n : Nat} (h : ∀ q, u.ownBlock = some q → v.ownBlock ≠ some q) (hl : v'.ownBlock = v.ownBlock ∨ v'.ownBlock = some n) (hn : ∀ q, u.ownBlock = some q → q < n) : ∀ q, u.ownBlock = some q → v'.ownBlock ≠ some q := fun q hq e => by
  rcases hl with hl | hl
  · exact h q hq (hl ▸ e)
  · have := hn q hq
    rw [hl] at e
    injection e with e
    omega
theorem apart_kept {u v : Value} (h : ∀ q, u.ownBlock = some q → v.ownBlock ≠ some q) : u.ownBlock = none ∨ u.ownBlock ≠ v.ownBlock := by
  cases hu : u.ownBlock with
  | none => exact .inl rfl
  | some q => exact .inr fun e => h q hu e.symm
end Go.Proofs.Ythjbfdoclifhoaa

namespace Go.Proofs.Ythjbfdoclifhoaa
open Go.RowKit

theorem clsQ_self {L : List Int} {T : List (List Int)} (h : algB L T = true) {f x : Int} (hf : filB L T f = true) (hx : El L x) : clsQ L T f x x = true := by
  unfold clsQ; rw [nearI_self h hx]
  unfold filB at hf; rw [Bool.and_eq_true] at hf; exact hf.1
/-- the classes, of a filter alone -/
def clsL (L : List Int) (T : List (List Int)) (f : Int) : List Int := if afB L T f then lstTo (clsI L T f) (num L) else []
theorem clsL_t {L : List Int} {T : List (List Int)} {f : Int} (h : afB L T f = true) : clsL L T f = lstTo (clsI L T f) (num L) := if_pos h
theorem clsL_f {L : List Int} {T : List (List Int)} {f : Int} (h : afB L T f = false) : clsL L T f = [] := if_neg (by rw [h]; decide)
theorem clsL_len (L : List Int) (T : List (List Int)) (f : Int) : (clsL L T f).length ≤ 64 := by
  cases h : afB L T f with
  | false => rw [clsL_f h]; simp
  | true =>
    rw [clsL_t h]
    have ha : algB L T = true := by unfold afB at h; rw [Bool.and_eq_true] at h; exact h.1
    have := lat_len (alg_lat ha)
    have := lstTo_len (clsI L T f) (num L) (by omega)
    omega
theorem afB_parts {L : List Int} {T : List (List Int)} {f : Int} (h : afB L T f = true) : algB L T = true ∧ filB L T f = true ∧ 0 ≤ f ∧ f ≤ 63 := by
  rw [afB_as, Bool.and_eq_true] at h
  have h1 := h.1
  unfold asB at h1; rw [Bool.and_eq_true] at h1
  have := setB_63 h1.2 (lat_len (alg_lat h1.1)).2
  exact ⟨h1.1, h.2, this.1, this.2⟩
set_option maxRecDepth 100000 in
set_option maxHeartbeats 2000000 in
theorem enters_els : Enters 84 := enters_of Try.func84 (by kernel_rfl) rfl
theorem filtTo_true : ∀ k : Nat, filtTo (fun _ => true) k = lstTo (fun i => i) k
  | 0 => rfl
  | k + 1 => by rw [show ((k + 1 : Nat) : Int) = (k : Int) + 1 by omega, filtTo_nat, lstTo_succ _ _ (by omega), filtTo_true k]; rfl
set_option maxRecDepth 100000 in
theorem elsClo_any (y : Int) (w : World) : Calls Try.prog 84 (#[.int .i64 y] ++ #[]) w fun e w' => e = .returned (.bool true) ∧ Below w.heap.size w w' := by
  go_enter Try.func84, Try.ntmps84
  go_wp2
  go_ret
  exact ⟨rfl, Below.refl _ _⟩
set_option maxRecDepth 100000 in
set_option maxHeartbeats 1000000 in
/-- impl.lattice.elements -/
theorem elements_any (L : List Int) (w : World) (n6 : (L.length : Int) ≤ 6) :
    Calls Try.prog 56 #[.agg (latOf L)] w (RetSl w.heap.size (lstTo (fun i => i) (L.length : Int)) w) := by
  obtain ⟨w1, hw1⟩ : ∃ w1, w1 = w.alloc (.cells (latOf L) 56) := ⟨_, rfl⟩
  have hB : Below w.heap.size w w1 := by rw [hw1]; exact (Below.refl _ _).alloc (Nat.le_refl _) _
  have hL : LatAt w1 w.heap.size L := by rw [hw1]; exact LatAt.new w L
  have c0 := hL.size
  have HT := Lib.hid (filtTo_true L.length)
  go_enter Try.func56, Try.ntmps56
  go_wp2_with (first
    | (rw [← hw1]; clear hw1)
    | (go_at_call 83; refine (elementsThat_any 84 #[] (L.length : Int) (fun _ => true) w1 (by omega) n6 enters_els (fun y wr y0 y1 hb => elsClo_any y wr)).mono ?_; rintro e w3 hret; obtain ⟨a3, c3, rfl, o3, h3⟩ := hret.sl))
  go_ret
  rw [HT.out] at o3 ⊢
  exact ⟨a3, c3, rfl, o3.from hB.size, hB.trans (h3.mono hB.size)⟩
end Go.Proofs.Ythjbfdoclifhoaa

namespace Go.Proofs.Ythjbfdoclifhoaa
open Go.RowKit

theorem append13 (a b c d : Value) : (#[a] ++ #[b, c, d] : Array Value) = #[a, b, c, d] := rfl
theorem anyC_skip {P : Program} {ops : Array Oper} {md : Region.Mode} {Q : Exit → Act → World → Prop} {C : World → Prop} {i : Nat} {o : Oper} {fuel : Nat} {listed : Array Bool} {a : Act} {w w' : World} (hi : ops[i]? = some o)
    (hr : Region.ready md ops listed = [i]) (hw : Region.wanted o (yielded ops a.tmps) = true) (hx : (execOp a.eval o).run P w = .ok .skip w') (hC : C w)
    (h : wpAnyC P md ops Q C fuel (listed.setIfInBounds i true) (a.put o.dst undef) w') : wpAnyC P md ops Q C (fuel + 1) listed a w := by
  refine ⟨hC, fun h0 => (by rw [hr] at h0; cases h0), fun j hj => ?_⟩
  rw [hr, List.mem_singleton] at hj
  subst hj
  unfold wpOp
  simp only [hi, hw, if_true, Oper.wp, hx, Oper.upon]
  exact .inl h
theorem runs_move {P : Program} {o : Oper} {a : Act} (x : Operand) (ho : o.op = .move x) (v : Value) (hx : a.eval x = v) (w : World) : (execOp a.eval o).run P w = .ok (.value v) w := by
  subst hx
  unfold execOp
  simp [ho]
theorem runs_make3 {P : Program} {o : Oper} {a : Act} (f : FuncId) (x y z : Operand) (ho : o.op = .makeFunc (.func f) #[] #[x, y, z]) (u v t : Value) (hx : a.eval x = u) (hy : a.eval y = v) (hz : a.eval z = t) (w : World) : (execOp a.eval o).run P w = .ok (.value (.func (.func f) #[] #[u, v, t])) w := by
  subst hx hy hz
  unfold execOp
  simp [ho, Instr.makeFunc]
theorem runs_mid {P : Program} {C : World → Prop} {o : Oper} {a : Act} (ty : TypeId) (x : Operand) (ho : o.op = .load ty x) (g f : Nat) (hx : a.eval x = .pointer (some ⟨g, f, none⟩)) (cs : Array Value) (d : TypeDesc)
    (hg : ∀ w, C w → w.rangeAt g f cs.toList) (hu : P.underlying ty = some d) (hd : d.isRow = true) (hi : (P.info? ty).map (·.size) = some cs.size) (w : World) (hC : C w) : (execOp a.eval o).run P w = .ok (.value (.agg cs)) w := by
  unfold execOp
  simp only [ho, hx, Instr.loadAt, Instr.sureAddr, Sem.run_bind, Sem.run_pure, Result.andThen_ok, run_loadVar_mid w g f ty cs.toList d (hg w hC) hu hd (by simpa using hi)]
/-- the classes so far, noughts behind them -/
def mixC (L : List Int) (T : List (List Int)) (f x : Int) : List Int := lstTo (clsI L T f) x ++ List.replicate (L.length - x.toNat) 0
theorem mixC_len {L : List Int} {T : List (List Int)} {f x : Int} (x0 : 0 ≤ x) (x1 : x ≤ num L) : (mixC L T f x).length = L.length := by
  have h := lstTo_len (clsI L T f) x x0
  have : num L = L.length := rfl
  unfold mixC; rw [List.length_append, List.length_replicate]; omega
theorem mixC_set {L : List Int} {T : List (List Int)} {f x : Int} (x0 : 0 ≤ x) (x1 : x < num L) : (mixC L T f x).set x.toNat (clsI L T f x) = mixC L T f (x + 1) := by
  have h := lstTo_len (clsI L T f) x x0
  have hn : num L = L.length := rfl
  unfold mixC
  rw [List.set_append_right (h := by omega), lstTo_succ _ _ x0, List.append_assoc]
  congr 1
  have e1 : x.toNat - (lstTo (clsI L T f) x).length = 0 := by omega
  have e2 : L.length - x.toNat = (L.length - (x + 1).toNat) + 1 := by omega
  rw [e1, e2, List.replicate_succ]
  rfl
theorem mixC_all {L : List Int} {T : List (List Int)} {f : Int} : mixC L T f (num L) = lstTo (clsI L T f) (num L) := by
  have hn : num L = L.length := rfl
  unfold mixC
  rw [show L.length - (num L).toNat = 0 by omega]
  simp
theorem enters_els1 : Enters 56 := enters_of Try.func56 (by kernel_rfl) rfl
/-- what the closure of classesBy reads -/
structure CB (ba bx bf : Nat) (L : List Int) (T : List (List Int)) (f x : Int) (w : World) : Prop where
  alg : AlgAt w ba L T
  x : w.heap[bx]? = some (.cells #[.int .i64 x] 3 (0, 0))
  f : w.heap[bf]? = some (.cells #[.int .i64 f] 3 (0, 0))
theorem CB.below {ba bx bf : Nat} {L : List Int} {T : List (List Int)} {f x : Int} {w w' : World} (h : CB ba bx bf L T f x w) (hb : Below w.heap.size w w') : CB ba bx bf L T f x w' :=
  ⟨h.alg.below hb h.alg.lt, (hb.block _ (lt_of_block h.x)).trans h.x, (hb.block _ (lt_of_block h.f)).trans h.f⟩
end Go.Proofs.Ythjbfdoclifhoaa
