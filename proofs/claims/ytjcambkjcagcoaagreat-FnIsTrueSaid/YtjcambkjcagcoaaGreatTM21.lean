import Derived.Test.YtjcambkjcagcoaaGreatTM17
namespace Go.Proofs.YtjcambkjcagcoaaGreat
open Go.RowKit
set_option linter.unusedVariables false

theorem tmCells_two {w : World} {tb : Nat} {ap at_ : Option Addr} {cp ct : Nat} {p t : List Int} (hc1 : w.cell? ⟨tb, 0, none⟩ = some (.slice ap p.length cp)) (hc2 : w.cell? ⟨tb, 1, none⟩ = some (.slice at_ t.length ct)) (hr1 : Rd w ap p) (hr2 : Rd w at_ t) (h1 : p.length ≤ cp) (h2 : p.length ≤ 1048576) (h3 : t.length ≤ ct) (h4 : t.length ≤ 1048576) : TmCells w tb [p, t] := fun j hj => by
  have : j = 0 ∨ j = 1 := by simp at hj; omega
  rcases this with rfl | rfl
  · exact ⟨ap, cp, hc1, hr1, h1, h2⟩
  · exact ⟨at_, ct, hc2, hr2, h3, h4⟩
theorem all_two {p t : List Int} : (∀ j : Nat, j < [p, t].length → vtB (rowAt [p, t] j) = true) ↔ (vtB p && vtB t) = true := by
  rw [Bool.and_eq_true]
  refine ⟨fun h => ⟨h 0 (by simp), h 1 (by simp)⟩, fun h j hj => ?_⟩
  have : j = 0 ∨ j = 1 := by simp at hj; omega
  rcases this with rfl | rfl
  · exact h.1
  · exact h.2
/-- an algebra and two terms are read, by a caller -/
theorem readAT_two (a b : Option Addr) (ca cb : Nat) (L : List Int) (T : List (List Int)) (ap : Option Addr) (cp : Nat) (p : List Int) (at_ : Option Addr) (ct : Nat) (t : List Int) (w : World) (hr : Rd w a L) (hT : RdT w b T) (hp : Rd w ap p) (ht : Rd w at_ t) (hcp : p.length ≤ cp) (hmp : p.length ≤ 1048576) (hct : t.length ≤ ct) (hmt : t.length ≤ 1048576) :
    Calls Tryz.prog 63 #[.agg #[.slice a L.length ca, .slice b T.length cb], .slice (some ⟨w.heap.size, 0, none⟩) 2 2] (w.alloc (.cells #[.slice ap p.length cp, .slice at_ t.length ct] 23)) fun e w' =>
      (algB L T = true ∧ (vtB p && vtB t) = true ∧ ∃ nb, e = .returned (.tuple #[.agg (algOf L T), .slice (some ⟨nb, 0, none⟩) 2 2, .bool true]) ∧ w.heap.size ≤ nb ∧ NdAt w' nb [tmV p.length p, tmV t.length t] ∧ Below w.heap.size w w') ∨
      ((algB L T && (vtB p && vtB t)) = false ∧ e = .returned (.tuple #[.agg zeroAlg, .slice none 0 0, .bool false]) ∧ Below w.heap.size w w') := by
  have hb : Below w.heap.size w (w.alloc (.cells #[.slice ap p.length cp, .slice at_ t.length ct] 23)) := (Below.refl _ _).alloc (Nat.le_refl _) _
  have hc : (w.alloc (.cells #[.slice ap p.length cp, .slice at_ t.length ct] 23)).cell? ⟨w.heap.size, 0, none⟩ = some (.slice ap p.length cp) := by rw [cell_of_row _ w.heap.size 0 _ _ _ (heap_alloc_new w _)]; rfl
  have hc2 : (w.alloc (.cells #[.slice ap p.length cp, .slice at_ t.length ct] 23)).cell? ⟨w.heap.size, 1, none⟩ = some (.slice at_ t.length ct) := by rw [cell_of_row _ w.heap.size 1 _ _ _ (heap_alloc_new w _)]; rfl
  have hs : w.heap.size ≤ (w.alloc (.cells #[.slice ap p.length cp, .slice at_ t.length ct] 23)).heap.size := hb.size
  refine (readAT_any a b ca cb L T w.heap.size 2 [p, t] _ (hr.below hb) (hT.below hb) (tmCells_two hc hc2 (hp.below hb) (ht.below hb) hcp hmp hct hmt) (by simp)).mono fun e w' h => ?_
  rcases h with ⟨h1, h2, nb, he, hn, hN, hbb⟩ | ⟨h1, he, hbb⟩
  · exact .inl ⟨h1, all_two.1 h2, nb, he, Nat.le_trans hs hn, hN, hb.trans (hbb.mono hs)⟩
  · refine .inr ⟨?_, he, hb.trans (hbb.mono hs)⟩
    rw [Bool.eq_false_iff]
    intro h
    rw [Bool.and_eq_true] at h
    exact h1 ⟨h.1, all_two.2 h.2⟩
set_option maxRecDepth 100000 in
set_option maxHeartbeats 4000000 in
theorem flC_any (L : List Int) (T : List (List Int)) (p t : List Int) (ga gn nn nb : Nat) (x y z : Int) (T1 T2 : TypeId) (y1 y2 : Value) (w : World) (h : algB L T = true) (hvp : vtB p = true) (hvt : vtB t = true) (e1 : tmV p.length p = .iface T1 y1) (e2 : tmV t.length t = .iface T2 y2) (x0 : 0 ≤ x) (x1 : x < L.length) (y0 : 0 ≤ y) (yy1 : y < L.length) (z0 : 0 ≤ z) (z1 : z < L.length) (hc : CloAt w ga gn nn 2 L T [.iface T1 y1, .iface T2 y2]) (hr : Row w nb [x, y, z]) :
    Calls Tryz.prog 74 #[.slice (some ⟨nb, 0, none⟩) 3 3, .pointer (some ⟨ga, 0, none⟩), .pointer (some ⟨gn, 0, none⟩)] w fun e w' => e = .returned (.bool (!(hdB L T p [x, y, z]) || hdB L T t [x, y, z])) ∧ Below w.heap.size w w' := by
  have Q := Lib.hid (show ∀ wz, Below w.heap.size w wz → CloAt wz ga gn nn 2 L T [.iface T1 y1, .iface T2 y2] ∧ Row wz nb [x, y, z] from fun wz hz => ⟨hc.below hz, hr.below hz hr.lt⟩)
  have HC1 := Lib.hid (fun (wz : World) (hz : Below w.heap.size w wz) => holds_any L T ga p [x, y, z] nb 0 3 rfl h (el3 x0 x1 y0 yy1 z0 z1) hvp wz (Q.out _ hz).1.1 (Q.out _ hz).2.rd T1 y1 e1)
  have HC2 := Lib.hid (fun (wz : World) (hz : Below w.heap.size w wz) => holds_any L T ga t [x, y, z] nb 0 3 rfl h (el3 x0 x1 y0 yy1 z0 z1) hvt wz (Q.out _ hz).1.1 (Q.out _ hz).2.rd T2 y2 e2)
  have q0 : Below w.heap.size w w := Below.refl _ _
  have c0 := cell_of_one (Q.out _ q0).1.2.1
  have c1 := (Q.out _ q0).1.2.2.cell (k := 0) (v := .iface T1 y1) rfl
  obtain ⟨b1, hb1⟩ : ∃ b1, b1 = hdB L T p [x, y, z] := ⟨_, rfl⟩
  obtain ⟨b2, hb2⟩ : ∃ b2, b2 = hdB L T t [x, y, z] := ⟨_, rfl⟩
  rw [← hb1] at HC1 ⊢
  rw [← hb2] at HC2 ⊢
  clear h hvp hvt e1 e2 hc hr x0 x1 y0 yy1 z0 z1 hb1 hb2
  go_enter Tryz.func74, Tryz.ntmps74
  go_wp2_with fail
  refine (HC1.out _ q0).mono ?_
  rintro e w2 ⟨rfl, h2⟩
  have d0 := cell_of_one (Q.out _ h2).1.2.1
  have d1 := (Q.out _ h2).1.2.2.cell (k := 1) (v := .iface T2 y2) rfl
  clear c0 c1
  cases b1 with
  | false =>
    go_wp2_with go_skip
    go_ret
    exact ⟨ret_bool rfl, h2⟩
  | true =>
    go_wp2_with (first | go_skip | (go_at_call 66; refine (HC2.out _ h2).mono ?_; rintro e w3 ⟨rfl, h3⟩))
    go_ret
    exact ⟨ret_bool rfl, h2.trans (h3.mono h2.size)⟩
/-- a power of a term is at most another one -/
def lpQ (L : List Int) (T : List (List Int)) (p t : List Int) (k : Int) (N : List Int) : Bool := bl L (powr L T (vlI L T N p.length p) k) (vlI L T N t.length t)
/-- a term follows from another one -/
def flB (L : List Int) (T : List (List Int)) (p t : List Int) : Bool := (algB L T && (vtB p && vtB t)) && (f3 L.length (fun N => !(!(hdB L T p N) || hdB L T t N))).isNone
/-- the least power of a term that is at most another one -/
def lpF (L : List Int) (T : List (List Int)) (p t : List Int) (k : Int) : Option Int := if (f3 L.length (fun N => !(lpQ L T p t k N))).isNone then some k else none
def lpI (L : List Int) (T : List (List Int)) (p t : List Int) : Option Int := if algB L T && (vtB p && vtB t) then fsI 21 (lpF L T p t) else none
set_option maxRecDepth 100000 in
set_option maxHeartbeats 8000000 in
/-- impl.Follows -/
theorem implFollows_any (a b : Option Addr) (ca cb : Nat) (L : List Int) (T : List (List Int)) (ap : Option Addr) (cp : Nat) (p : List Int) (at_ : Option Addr) (ct : Nat) (t : List Int) (w : World) (hr : Rd w a L) (hT : RdT w b T) (hp : Rd w ap p) (ht : Rd w at_ t) (hmp : p.length ≤ 1048576) (hmt : t.length ≤ 1048576) (hcp : p.length ≤ cp) (hct : t.length ≤ ct) :
    Calls Tryz.prog 24 #[.agg #[.slice a L.length ca, .slice b T.length cb], .slice ap p.length cp, .slice at_ t.length ct] w fun e w' => e = .returned (.bool (flB L T p t)) ∧ Below w.heap.size w w' := by
  obtain ⟨w1, hw1⟩ : ∃ w1, w1 = w.alloc (.cells #[.slice a L.length ca, .slice b T.length cb] 26) := ⟨_, rfl⟩
  have hB : Below w.heap.size w w1 := by rw [hw1]; exact (Below.refl _ _).alloc (Nat.le_refl _) _
  have hx1 : w1.heap[w.heap.size]? = some (.cells #[.slice a L.length ca, .slice b T.length cb] 26 (0, 0)) := by rw [hw1]; exact heap_alloc_new w _
  have KX := Lib.hid (show ∀ wz, Below w1.heap.size w1 wz → wz.heap[w.heap.size]? = some (.cells #[.slice a L.length ca, .slice b T.length cb] 26 (0, 0)) from fun wz h => (h.block _ (lt_of_block hx1)).trans hx1)
  have HC := Lib.hid (readAT_two a b ca cb L T ap cp p at_ ct t w1 (hr.below hB) (hT.below hB) (hp.below hB) (ht.below hB) hcp hmp hct hmt)
  have z : Below w1.heap.size w1 w1 := Below.refl _ _
  clear hr hT ht hp hx1
  go_enter Tryz.func24, Tryz.ntmps24
  go_wp2_with (first
    | (rw [← hw1]; clear hw1)
    | (refine wpList_load_row_w rfl 26 _ rfl w.heap.size rfl _ _ _ _ (KX.out _ (by assumption)) Tryz.underlying26 rfl (size_Alg _ _) ?_))
  refine HC.out.mono ?_
  rintro e w2 (⟨hA, hv, nb, rfl, hnb, hN, hb2⟩ | ⟨hno, rfl, hb2⟩)
  · replace z := hb2
    have hv' := hv
    rw [Bool.and_eq_true] at hv'
    obtain ⟨hvp, hvt⟩ := hv'
    obtain ⟨T1, y1, e1⟩ := tmV_if (vtB_parts hvp).2
    obtain ⟨T2, y2, e2⟩ := tmV_if (vtB_parts hvt).2
    obtain ⟨n1, n6⟩ := lat_len (alg_lat hA)
    have n1' : 1 ≤ L.length := by have : num L = L.length := rfl; omega
    have n6' : L.length ≤ 6 := by have : num L = L.length := rfl; omega
    rw [e1, e2] at hN
    have HF := Lib.hid (fun (ga gn : Nat) (wz : World) (hcl : CloAt wz ga gn nb 2 L T [.iface T1 y1, .iface T2 y2]) => isForAll_any 74 #[.pointer (some ⟨ga, 0, none⟩), .pointer (some ⟨gn, 0, none⟩)] L T (fun N => !(hdB L T p N) || hdB L T t N) wz n1' n6' enters_fl1 fun x y z nb2 wr x0 x1 y0 y1' z0 z1 hb hrow => flC_any L T p t ga gn nb nb2 x y z T1 T2 y1 y2 wr hA hvp hvt e1 e2 x0 x1 y0 y1' z0 z1 (hcl.below hb) hrow)
    have HV := Lib.hid (show flB L T p t = (f3 L.length (fun N => !(!(hdB L T p N) || hdB L T t N))).isNone by unfold flB; rw [hA, hv]; rfl)
    obtain ⟨r, hr⟩ : ∃ r, r = (f3 L.length (fun N => !(!(hdB L T p N) || hdB L T t N))).isNone := ⟨_, rfl⟩
    rw [← hr] at HF HV
    clear hb2 HC e1 e2 hA hv hvp hvt hr n1 n6 n1' n6'
    go_wp2_with (first
      | go_skip
      | (rw [← hw4]; clear hw4 c7 f7; have ka := hcl.1)
      | (refine wpList_load_row_w rfl 63 _ rfl ga rfl _ _ _ _ ka Tryz.underlying63 rfl (size_alg _ _ _ _ _ _) ?_)
      | (refine wpList_store_row rfl 63 _ _ rfl w2.heap.size (algOf L T) rfl rfl _ _ (two_alg w2) (size_alg _ _ _ _ _ _) rfl (one_alg _ _ _ _ _ _) ?_; obtain ⟨ga, hga⟩ : ∃ ga, ga = w2.heap.size := ⟨_, rfl⟩; obtain ⟨w3, hw3⟩ : ∃ w3, w3 = ((w2.alloc (.cells Tryz.zeroCells63 63)).alloc (.cells #[.slice none 0 0] 83)).setRow w2.heap.size (algOf L T) := ⟨_, rfl⟩; obtain ⟨w4, hw4⟩ : ∃ w4, w4 = w3.setCell ⟨w2.heap.size + 1, 0, none⟩ (.slice (some ⟨nb, 0, none⟩) 2 2) := ⟨_, rfl⟩; obtain ⟨c7, f7⟩ := two_alg_set w2 (algOf L T) w3 hw3; obtain ⟨q4, hcl⟩ := clo_made (L := L) (T := T) w2 w3 nb 2 [.iface T1 y1, .iface T2 y2] hw3 hN w4 hw4; have lo3 : w1.heap.size ≤ ga := (by rw [hga]; exact z.size); rw [← hw3, ← hga]; rw [← hga] at c7 f7 hw4 hcl; replace z := z.trans (q4.mono z.size); clear hw3 hga q4)
      | (go_at_call 64; refine (HF.out ga (ga + 1) _ hcl).mono ?_; rintro e w5 ⟨rfl, h5⟩))
    go_ret
    exact ⟨ret_bool (by rw [HV.out]), hB.trans ((z.trans (h5.mono z.size)).mono hB.size)⟩
  · replace z := hb2
    have HV := Lib.hid (show flB L T p t = false by unfold flB; rw [hno]; rfl)
    clear hb2 HC hno
    go_wp2_with (first
      | go_skip
      | (rw [← hw4]; clear hw4 c7 f7)
      | (refine wpList_store_row rfl 63 _ _ rfl w2.heap.size zeroAlg rfl rfl _ _ (two_alg w2) size_zeroAlg rfl one_zeroAlg ?_; obtain ⟨ga, hga⟩ : ∃ ga, ga = w2.heap.size := ⟨_, rfl⟩; obtain ⟨w3, hw3⟩ : ∃ w3, w3 = ((w2.alloc (.cells Tryz.zeroCells63 63)).alloc (.cells #[.slice none 0 0] 83)).setRow w2.heap.size zeroAlg := ⟨_, rfl⟩; obtain ⟨w4, hw4⟩ : ∃ w4, w4 = w3.setCell ⟨w2.heap.size + 1, 0, none⟩ (.slice none 0 0) := ⟨_, rfl⟩; obtain ⟨c7, f7⟩ := two_alg_set w2 zeroAlg w3 hw3; have q4 := clo_none w2 w3 _ hw3 w4 hw4; have lo3 : w1.heap.size ≤ ga := (by rw [hga]; exact z.size); rw [← hw3, ← hga]; rw [← hga] at c7 f7 hw4; replace z := z.trans (q4.mono z.size); clear hw3 hga q4))
    go_ret
    exact ⟨ret_bool (by rw [HV.out]), hB.trans (z.mono hB.size)⟩
theorem k_made (wr : World) (k : Int) (wn : World) (h : wn = wr.alloc (.cells #[.int .i64 k] 3)) :
    Below wr.heap.size wr wn ∧ wn.cell? ⟨wr.heap.size, 0, none⟩ = some (.int .i64 k) := by
  have h0 := heap_alloc_new wr (.cells #[.int .i64 k] 3)
  exact ⟨by rw [h]; exact (Below.refl _ _).alloc (Nat.le_refl _) _, by rw [h]; exact cell_of_one h0⟩
end Go.Proofs.YtjcambkjcagcoaaGreat
