import Derived.Test.YthjbfdoclifhoaaTM14
import Derived.Test.YthjbfdoclifhoaaY1
namespace Go.Proofs.Ythjbfdoclifhoaa
open Go.RowKit
set_option linter.unusedVariables false

theorem el3 {L : List Int} {x y z : Int} (x0 : 0 ≤ x) (x1 : x < L.length) (y0 : 0 ≤ y) (y1 : y < L.length) (z0 : 0 ≤ z) (z1 : z < L.length) : ∀ i, 0 ≤ i → i < 3 → El L (nth [x, y, z] i) := fun i i0 i1 => by
  have : i = 0 ∨ i = 1 ∨ i = 2 := by omega
  rcases this with rfl | rfl | rfl
  · exact ⟨x0, x1⟩
  · exact ⟨y0, y1⟩
  · exact ⟨z0, z1⟩
/-- the cells that a closure on terms holds: an algebra, and a slice of nodes -/
def CloAt (w : World) (ga gn nn m : Nat) (L : List Int) (T : List (List Int)) (V : List Value) : Prop := AlgAt w ga L T ∧ w.heap[gn]? = some (.cells #[.slice (some ⟨nn, 0, none⟩) m m] 70 (0, 0)) ∧ NdAt w nn V
theorem CloAt.below {w w' : World} {ga gn nn m : Nat} {L : List Int} {T : List (List Int)} {V : List Value} (h : CloAt w ga gn nn m L T V) (hb : Below w.heap.size w w') : CloAt w' ga gn nn m L T V :=
  ⟨h.1.below hb h.1.lt, (hb.block _ (lt_of_block h.2.1)).trans h.2.1, h.2.2.below hb h.2.2.lt⟩
theorem enters_it1 : Enters 35 := enters_of Try.func35 (by kernel_rfl) rfl
set_option maxRecDepth 100000 in
set_option maxHeartbeats 2000000 in
theorem isC_any (L : List Int) (T : List (List Int)) (t : List Int) (ga gn nn nb : Nat) (x y z : Int) (T1 : TypeId) (y1 : Value) (w : World) (h : algB L T = true) (hv : vtB t = true) (e1 : tmV t.length t = .iface T1 y1) (x0 : 0 ≤ x) (x1 : x < L.length) (y0 : 0 ≤ y) (yy1 : y < L.length) (z0 : 0 ≤ z) (z1 : z < L.length) (hc : CloAt w ga gn nn 1 L T [.iface T1 y1]) (hr : Row w nb [x, y, z]) :
    Calls Try.prog 35 #[.slice (some ⟨nb, 0, none⟩) 3 3, .pointer (some ⟨ga, 0, none⟩), .pointer (some ⟨gn, 0, none⟩)] w fun e w' => e = .returned (.bool (hdB L T t [x, y, z])) ∧ Below w.heap.size w w' := by
  have HC := Lib.hid (holds_any L T ga t [x, y, z] nb 0 3 rfl h (el3 x0 x1 y0 yy1 z0 z1) hv w hc.1 hr.rd T1 y1 e1)
  have c0 := cell_of_one hc.2.1
  have c1 := hc.2.2.cell (k := 0) (v := .iface T1 y1) rfl
  clear h hv e1 hc hr x0 x1 y0 yy1 z0 z1
  go_enter Try.func35, Try.ntmps35
  go_wp2_with fail
  refine HC.out.mono ?_
  rintro e w2 ⟨rfl, h2⟩
  clear c0 c1
  go_wp2
  go_ret
  exact ⟨ret_bool rfl, h2⟩
/-- what refutes a term first -/
def rfI (L : List Int) (T : List (List Int)) (t : List Int) : Option (List Int) := if algB L T && vtB t then f3 L.length (fun N => !(hdB L T t N)) else none
def itB (L : List Int) (T : List (List Int)) (t : List Int) : Bool := (algB L T && vtB t) && (f3 L.length (fun N => !(hdB L T t N))).isNone
/-- a list and whether there is one -/
def RetSsb (L : List Int) (V : Bool) (w : World) (e : Ending) (w' : World) : Prop := ∃ (a : Option Addr) (n c : Nat), e = .returned (.tuple #[.slice a n c, .bool V]) ∧ RS w' (.slice a n c) L ∧ Below w.heap.size w w'
def RetGsb (L : List Int) (V : Bool) (w : World) (e : Ending) (w' : World) : Prop := ∃ (a : Option Addr) (n c : Nat), e = .returned (.tuple #[.slice a n c, .bool V]) ∧ GS w.heap.size w'.heap.size w' (.slice a n c) L ∧ Below w.heap.size w w'
theorem two_alg (w2 : World) : ((w2.alloc (.cells Try.zeroCells58 58)).alloc (.cells #[.slice none 0 0] 70)).heap[w2.heap.size]? = some (.cells zeroAlg 58 (0, 0)) := by
  rw [Below.heap_alloc _ _ _ (by simp)]; exact heap_alloc_new w2 _
theorem two_alg_set (w2 : World) (A : Array Value) (w3 : World) (h : w3 = ((w2.alloc (.cells Try.zeroCells58 58)).alloc (.cells #[.slice none 0 0] 70)).setRow w2.heap.size A) :
    w3.cell? ⟨w2.heap.size + 1, 0, none⟩ = some (.slice none 0 0) ∧ w3.frozen? ⟨w2.heap.size + 1, 0, none⟩ = false := by
  have hn3 : w3.heap[w2.heap.size + 1]? = some (.cells #[.slice none 0 0] 70 (0, 0)) := by
    rw [h, setRow_other _ _ _ _ (by omega)]
    exact heap_alloc2_new _ _ _
  exact ⟨cell_of_one hn3, frozen_of_row w3 _ 0 _ _ hn3⟩
theorem clo_made {L : List Int} {T : List (List Int)} (w2 w3 : World) (nb m : Nat) (V : List Value) (h : w3 = ((w2.alloc (.cells Try.zeroCells58 58)).alloc (.cells #[.slice none 0 0] 70)).setRow w2.heap.size (algOf L T)) (hN : NdAt w2 nb V)
    (w4 : World) (h4 : w4 = w3.setCell ⟨w2.heap.size + 1, 0, none⟩ (.slice (some ⟨nb, 0, none⟩) m m)) : Below w2.heap.size w2 w4 ∧ CloAt w4 w2.heap.size (w2.heap.size + 1) nb m L T V := by
  have hb3 : Below w2.heap.size w2 w3 := by rw [h]; exact below_setRow' (((Below.refl _ _).alloc (Nat.le_refl _) _).alloc (by simp) _) (Nat.le_refl _) _
  have hb4 : Below w2.heap.size w2 w4 := by rw [h4]; exact hb3.setCell (by simp) _
  have ha3 : AlgAt w3 w2.heap.size L T := by rw [h]; exact setRow_heap _ _ _ _ _ _ (two_alg w2)
  have hn3 : w3.heap[w2.heap.size + 1]? = some (.cells #[.slice none 0 0] 70 (0, 0)) := by
    rw [h, setRow_other _ _ _ _ (by omega)]
    exact heap_alloc2_new _ _ _
  refine ⟨hb4, ?_, ?_, hN.below hb4 hN.lt⟩
  · rw [h4]
    exact (heap_setCell_other w3 _ _ _ (by simp)).trans ha3
  · rw [h4, setCell_eq_setRow w3 _ _ _ _ _ _ hn3]
    exact setRow_heap w3 _ _ _ _ _ hn3
theorem clo_none (w2 w3 : World) (A : Array Value) (h : w3 = ((w2.alloc (.cells Try.zeroCells58 58)).alloc (.cells #[.slice none 0 0] 70)).setRow w2.heap.size A)
    (w4 : World) (h4 : w4 = w3.setCell ⟨w2.heap.size + 1, 0, none⟩ (.slice none 0 0)) : Below w2.heap.size w2 w4 := by
  have hb3 : Below w2.heap.size w2 w3 := by rw [h]; exact below_setRow' (((Below.refl _ _).alloc (Nat.le_refl _) _).alloc (by simp) _) (Nat.le_refl _) _
  rw [h4]; exact hb3.setCell (by simp) _
set_option maxRecDepth 100000 in
set_option maxHeartbeats 4000000 in
/-- impl.IsTrue -/
theorem implIsTrue_any (a b : Option Addr) (ca cb : Nat) (L : List Int) (T : List (List Int)) (at_ : Option Addr) (ct : Nat) (t : List Int) (w : World) (hr : Rd w a L) (hT : RdT w b T) (ht : Rd w at_ t) (hmt : t.length ≤ 1048576) (hct : t.length ≤ ct) :
    Calls Try.prog 12 #[.agg #[.slice a L.length ca, .slice b T.length cb], .slice at_ t.length ct] w (fun e w' => e = .returned (.bool (itB L T t)) ∧ Below w.heap.size w w') := by
  obtain ⟨w1, hw1⟩ : ∃ w1, w1 = w.alloc (.cells #[.slice a L.length ca, .slice b T.length cb] 31) := ⟨_, rfl⟩
  have hB : Below w.heap.size w w1 := by rw [hw1]; exact (Below.refl _ _).alloc (Nat.le_refl _) _
  have hx1 : w1.heap[w.heap.size]? = some (.cells #[.slice a L.length ca, .slice b T.length cb] 31 (0, 0)) := by rw [hw1]; exact heap_alloc_new w _
  have KX := Lib.hid (show ∀ wz, Below w1.heap.size w1 wz → wz.heap[w.heap.size]? = some (.cells #[.slice a L.length ca, .slice b T.length cb] 31 (0, 0)) from fun wz h => (h.block _ (lt_of_block hx1)).trans hx1)
  have HC := Lib.hid (readAT_one a b ca cb L T at_ ct t w1 (hr.below hB) (hT.below hB) (ht.below hB) hct hmt)
  have z : Below w1.heap.size w1 w1 := Below.refl _ _
  clear hr hT ht hx1
  go_enter Try.func12, Try.ntmps12
  go_wp2_with (first
    | (rw [← hw1]; clear hw1)
    | (refine wpList_load_row_w rfl 31 _ rfl w.heap.size rfl _ _ _ _ (KX.out _ (by assumption)) Try.underlying31 rfl (size_Alg _ _) ?_))
  refine HC.out.mono ?_
  rintro e w2 (⟨hA, hv, nb, rfl, hnb, hN, hb2⟩ | ⟨hno, rfl, hb2⟩)
  · replace z := hb2
    obtain ⟨l15, htm⟩ := vtB_parts hv
    obtain ⟨T1, y1, e1⟩ := tmV_if htm
    obtain ⟨n1, n6⟩ := lat_len (alg_lat hA)
    have n1' : 1 ≤ L.length := by have : num L = L.length := rfl; omega
    have n6' : L.length ≤ 6 := by have : num L = L.length := rfl; omega
    rw [e1] at hN
    have HF := Lib.hid (fun (ga gn : Nat) (wz : World) (hcl : CloAt wz ga gn nb 1 L T [.iface T1 y1]) => isForAll_any 35 #[.pointer (some ⟨ga, 0, none⟩), .pointer (some ⟨gn, 0, none⟩)] L T (fun N => hdB L T t N) wz n1' n6' enters_it1 fun x y z nb2 wr x0 x1 y0 y1' z0 z1 hb hrow => isC_any L T t ga gn nb nb2 x y z T1 y1 wr hA hv e1 x0 x1 y0 y1' z0 z1 (hcl.below hb) hrow)
    have HV := Lib.hid (show itB L T t = (f3 L.length (fun N => !(hdB L T t N))).isNone by unfold itB; rw [hA, hv]; rfl)
    obtain ⟨r, hr⟩ : ∃ r, r = (f3 L.length (fun N => !(hdB L T t N))).isNone := ⟨_, rfl⟩
    rw [← hr] at HF HV
    clear hb2 HC htm e1 hA hv hr n1 n6 n1' n6'
    go_wp2_with (first
      | go_skip
      | (rw [← hw4]; clear hw4 c7 f7; have ka := hcl.1)
      | (refine wpList_load_row_w rfl 58 _ rfl ga rfl _ _ _ _ ka Try.underlying58 rfl (size_alg _ _ _ _ _ _) ?_)
      | (refine wpList_store_row rfl 58 _ _ rfl w2.heap.size (algOf L T) rfl rfl _ _ (two_alg w2) (size_alg _ _ _ _ _ _) rfl (one_alg _ _ _ _ _ _) ?_; obtain ⟨ga, hga⟩ : ∃ ga, ga = w2.heap.size := ⟨_, rfl⟩; obtain ⟨w3, hw3⟩ : ∃ w3, w3 = ((w2.alloc (.cells Try.zeroCells58 58)).alloc (.cells #[.slice none 0 0] 70)).setRow w2.heap.size (algOf L T) := ⟨_, rfl⟩; obtain ⟨w4, hw4⟩ : ∃ w4, w4 = w3.setCell ⟨w2.heap.size + 1, 0, none⟩ (.slice (some ⟨nb, 0, none⟩) 1 1) := ⟨_, rfl⟩; obtain ⟨c7, f7⟩ := two_alg_set w2 (algOf L T) w3 hw3; obtain ⟨q4, hcl⟩ := clo_made (L := L) (T := T) w2 w3 nb 1 [.iface T1 y1] hw3 hN w4 hw4; have lo3 : w1.heap.size ≤ ga := (by rw [hga]; exact z.size); rw [← hw3, ← hga]; rw [← hga] at c7 f7 hw4 hcl; replace z := z.trans (q4.mono z.size); clear hw3 hga q4)
      | (go_at_call 34; refine (HF.out ga (ga + 1) _ hcl).mono ?_; rintro e w5 ⟨rfl, h5⟩))
    go_ret
    exact ⟨ret_bool (by rw [HV.out]), hB.trans ((z.trans (h5.mono z.size)).mono hB.size)⟩
  · replace z := hb2
    have HV := Lib.hid (show itB L T t = false by unfold itB; rw [hno]; rfl)
    clear hb2 HC hno
    go_wp2_with (first
      | go_skip
      | (rw [← hw4]; clear hw4 c7 f7)
      | (refine wpList_store_row rfl 58 _ _ rfl w2.heap.size zeroAlg rfl rfl _ _ (two_alg w2) size_zeroAlg rfl one_zeroAlg ?_; obtain ⟨ga, hga⟩ : ∃ ga, ga = w2.heap.size := ⟨_, rfl⟩; obtain ⟨w3, hw3⟩ : ∃ w3, w3 = ((w2.alloc (.cells Try.zeroCells58 58)).alloc (.cells #[.slice none 0 0] 70)).setRow w2.heap.size zeroAlg := ⟨_, rfl⟩; obtain ⟨w4, hw4⟩ : ∃ w4, w4 = w3.setCell ⟨w2.heap.size + 1, 0, none⟩ (.slice none 0 0) := ⟨_, rfl⟩; obtain ⟨c7, f7⟩ := two_alg_set w2 zeroAlg w3 hw3; have q4 := clo_none w2 w3 _ hw3 w4 hw4; have lo3 : w1.heap.size ≤ ga := (by rw [hga]; exact z.size); rw [← hw3, ← hga]; rw [← hga] at c7 f7 hw4; replace z := z.trans (q4.mono z.size); clear hw3 hga q4))
    go_ret
    exact ⟨ret_bool (by rw [HV.out]), hB.trans (z.mono hB.size)⟩
end Go.Proofs.Ythjbfdoclifhoaa
