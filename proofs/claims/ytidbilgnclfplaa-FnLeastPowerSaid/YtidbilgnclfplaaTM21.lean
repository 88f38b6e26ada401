import Derived.Test.YtidbilgnclfplaaTM17
namespace Go.Proofs.Ytidbilgnclfplaa
open Go.RowKit
set_option linter.unusedVariables false

theorem tmCells_two {w : World} {tb : Nat} {ap at_ : Option Addr} {cp ct : Nat} {p t : List Int} (hc1 : w.cell? ⟨tb, 0, none⟩ = some (.slice ap p.length cp)) (hc2 : w.cell? ⟨tb, 1, none⟩ = some (.slice at_ t.length ct)) (hr1 : Rd w ap p) (hr2 : Rd w at_ t) (h1 : p.length ≤ cp) (h2 : p.length ≤ 1048576) (h3 : t.length ≤ ct) (h4 : t.length ≤ 1048576) : TmCells w tb [p, t] := fun j hj => by
  have : j = 0 ∨ j = 1 := by simp at hj; omega
  rcases this with rfl | rfl
  · exact ⟨ap, cp, hc1, hr1, h1, h2⟩
  · exact ⟨at_, ct, hc2, hr2, h3, h4⟩
theorem all_two {p t : List Int} : (∀ j : Nat, j < [p, t].length → vtB (rowAt [p, t] j) = true) ↔ (vtB p && vtB t) = true := by
  rw [Bool.and_eq_true]
  refine ⟨fun h => ⟨h 0 (by simp), h 1 (by simp)⟩, fun h j hj => ?_⟩
  have : j = 0 ∨ j = 1 := by simp at hj; omega
  rcases this with rfl | rfl
  · exact h.1
  · exact h.2
/-- an algebra and two terms are read, by a caller -/
theorem readAT_two (a b : Option Addr) (ca cb : Nat) (L : List Int) (T : List (List Int)) (ap : Option Addr) (cp : Nat) (p : List Int) (at_ : Option Addr) (ct : Nat) (t : List Int) (w : World) (hr : Rd w a L) (hT : RdT w b T) (hp : Rd w ap p) (ht : Rd w at_ t) (hcp : p.length ≤ cp) (hmp : p.length ≤ 1048576) (hct : t.length ≤ ct) (hmt : t.length ≤ 1048576) :
    Calls Try.prog 59 #[.agg #[.slice a L.length ca, .slice b T.length cb], .slice (some ⟨w.heap.size, 0, none⟩) 2 2] (w.alloc (.cells #[.slice ap p.length cp, .slice at_ t.length ct] 22)) fun e w' =>
      (algB L T = true ∧ (vtB p && vtB t) = true ∧ ∃ nb, e = .returned (.tuple #[.agg (algOf L T), .slice (some ⟨nb, 0, none⟩) 2 2, .bool true]) ∧ w.heap.size ≤ nb ∧ NdAt w' nb [tmV p.length p, tmV t.length t] ∧ Below w.heap.size w w') ∨
      ((algB L T && (vtB p && vtB t)) = false ∧ e = .returned (.tuple #[.agg zeroAlg, .slice none 0 0, .bool false]) ∧ Below w.heap.size w w') := by
  have hb : Below w.heap.size w (w.alloc (.cells #[.slice ap p.length cp, .slice at_ t.length ct] 22)) := (Below.refl _ _).alloc (Nat.le_refl _) _
  have hc : (w.alloc (.cells #[.slice ap p.length cp, .slice at_ t.length ct] 22)).cell? ⟨w.heap.size, 0, none⟩ = some (.slice ap p.length cp) := by rw [cell_of_row _ w.heap.size 0 _ _ _ (heap_alloc_new w _)]; rfl
  have hc2 : (w.alloc (.cells #[.slice ap p.length cp, .slice at_ t.length ct] 22)).cell? ⟨w.heap.size, 1, none⟩ = some (.slice at_ t.length ct) := by rw [cell_of_row _ w.heap.size 1 _ _ _ (heap_alloc_new w _)]; rfl
  have hs : w.heap.size ≤ (w.alloc (.cells #[.slice ap p.length cp, .slice at_ t.length ct] 22)).heap.size := hb.size
  refine (readAT_any a b ca cb L T w.heap.size 2 [p, t] _ (hr.below hb) (hT.below hb) (tmCells_two hc hc2 (hp.below hb) (ht.below hb) hcp hmp hct hmt) (by simp)).mono fun e w' h => ?_
  rcases h with ⟨h1, h2, nb, he, hn, hN, hbb⟩ | ⟨h1, he, hbb⟩
  · exact .inl ⟨h1, all_two.1 h2, nb, he, Nat.le_trans hs hn, hN, hb.trans (hbb.mono hs)⟩
  · refine .inr ⟨?_, he, hb.trans (hbb.mono hs)⟩
    rw [Bool.eq_false_iff]
    intro h
    rw [Bool.and_eq_true] at h
    exact h1 ⟨h.1, all_two.2 h.2⟩
set_option maxRecDepth 100000 in
set_option maxHeartbeats 4000000 in
theorem flC_any (L : List Int) (T : List (List Int)) (p t : List Int) (ga gn nn nb : Nat) (x y z : Int) (T1 T2 : TypeId) (y1 y2 : Value) (w : World) (h : algB L T = true) (hvp : vtB p = true) (hvt : vtB t = true) (e1 : tmV p.length p = .iface T1 y1) (e2 : tmV t.length t = .iface T2 y2) (x0 : 0 ≤ x) (x1 : x < L.length) (y0 : 0 ≤ y) (yy1 : y < L.length) (z0 : 0 ≤ z) (z1 : z < L.length) (hc : CloAt w ga gn nn 2 L T [.iface T1 y1, .iface T2 y2]) (hr : Row w nb [x, y, z]) :
    Calls Try.prog 70 #[.slice (some ⟨nb, 0, none⟩) 3 3, .pointer (some ⟨ga, 0, none⟩), .pointer (some ⟨gn, 0, none⟩)] w fun e w' => e = .returned (.bool (!(hdB L T p [x, y, z]) || hdB L T t [x, y, z])) ∧ Below w.heap.size w w' := by
  have Q := Lib.hid (show ∀ wz, Below w.heap.size w wz → CloAt wz ga gn nn 2 L T [.iface T1 y1, .iface T2 y2] ∧ Row wz nb [x, y, z] from fun wz hz => ⟨hc.below hz, hr.below hz hr.lt⟩)
  have HC1 := Lib.hid (fun (wz : World) (hz : Below w.heap.size w wz) => holds_any L T ga p [x, y, z] nb 0 3 rfl h (el3 x0 x1 y0 yy1 z0 z1) hvp wz (Q.out _ hz).1.1 (Q.out _ hz).2.rd T1 y1 e1)
  have HC2 := Lib.hid (fun (wz : World) (hz : Below w.heap.size w wz) => holds_any L T ga t [x, y, z] nb 0 3 rfl h (el3 x0 x1 y0 yy1 z0 z1) hvt wz (Q.out _ hz).1.1 (Q.out _ hz).2.rd T2 y2 e2)
  have q0 : Below w.heap.size w w := Below.refl _ _
  have c0 := cell_of_one (Q.out _ q0).1.2.1
  have c1 := (Q.out _ q0).1.2.2.cell (k := 0) (v := .iface T1 y1) rfl
  obtain ⟨b1, hb1⟩ : ∃ b1, b1 = hdB L T p [x, y, z] := ⟨_, rfl⟩
  obtain ⟨b2, hb2⟩ : ∃ b2, b2 = hdB L T t [x, y, z] := ⟨_, rfl⟩
  rw [← hb1] at HC1 ⊢
  rw [← hb2] at HC2 ⊢
  clear h hvp hvt e1 e2 hc hr x0 x1 y0 yy1 z0 z1 hb1 hb2
  go_enter Try.func70, Try.ntmps70
  go_wp2_with fail
  refine (HC1.out _ q0).mono ?_
  rintro e w2 ⟨rfl, h2⟩
  have d0 := cell_of_one (Q.out _ h2).1.2.1
  have d1 := (Q.out _ h2).1.2.2.cell (k := 1) (v := .iface T2 y2) rfl
  clear c0 c1
  cases b1 with
  | false =>
    go_wp2_with go_skip
    go_ret
    exact ⟨ret_bool rfl, h2⟩
  | true =>
    go_wp2_with (first | go_skip | (go_at_call 66; refine (HC2.out _ h2).mono ?_; rintro e w3 ⟨rfl, h3⟩))
    go_ret
    exact ⟨ret_bool rfl, h2.trans (h3.mono h2.size)⟩
/-- a power of a term is at most another one -/
def lpQ (L : List Int) (T : List (List Int)) (p t : List Int) (k : Int) (N : List Int) : Bool := bl L (powr L T (vlI L T N p.length p) k) (vlI L T N t.length t)
set_option maxRecDepth 100000 in
set_option maxHeartbeats 4000000 in
theorem lpC_any (L : List Int) (T : List (List Int)) (p t : List Int) (ga gn nn gk nb : Nat) (k x y z : Int) (T1 T2 : TypeId) (y1 y2 : Value) (w : World) (k0 : 0 ≤ k) (k1 : k ≤ 20) (h : algB L T = true) (hvp : vtB p = true) (hvt : vtB t = true) (e1 : tmV p.length p = .iface T1 y1) (e2 : tmV t.length t = .iface T2 y2) (x0 : 0 ≤ x) (x1 : x < L.length) (y0 : 0 ≤ y) (yy1 : y < L.length) (z0 : 0 ≤ z) (z1 : z < L.length) (hc : CloAt w ga gn nn 2 L T [.iface T1 y1, .iface T2 y2]) (hk : w.cell? ⟨gk, 0, none⟩ = some (.int .i64 k)) (hr : Row w nb [x, y, z]) :
    Calls Try.prog 73 #[.slice (some ⟨nb, 0, none⟩) 3 3, .pointer (some ⟨ga, 0, none⟩), .pointer (some ⟨gn, 0, none⟩), .pointer (some ⟨gk, 0, none⟩)] w fun e w' => e = .returned (.bool (lpQ L T p t k [x, y, z])) ∧ Below w.heap.size w w' := by
  have hl := alg_lat h
  have hEl := el3 x0 x1 y0 yy1 z0 z1
  obtain ⟨_, l6⟩ := lat_len hl
  have lpk := block_lt_of_cell hk
  have Q := Lib.hid (show ∀ wz, Below w.heap.size w wz → AlgAt wz ga L T ∧ wz.cell? ⟨gn, 0, none⟩ = some (.slice (some ⟨nn, 0, none⟩) 2 2) ∧ wz.cell? ⟨nn, 0, none⟩ = some (.iface T1 y1) ∧ wz.cell? ⟨nn, 1, none⟩ = some (.iface T2 y2) ∧ wz.cell? ⟨gk, 0, none⟩ = some (.int .i64 k) ∧ Row wz nb [x, y, z] from fun wz hz => by
    have c := hc.below hz
    exact ⟨c.1, cell_of_one c.2.1, c.2.2.cell (k := 0) (v := .iface T1 y1) rfl, c.2.2.cell (k := 1) (v := .iface T2 y2) rfl, by rw [hz.cell (by exact lpk)]; exact hk, hr.below hz hr.lt⟩)
  have HC1 := Lib.hid (show ∀ wz, Below w.heap.size w wz → Calls Try.prog 61 #[.pointer (some ⟨ga, 0, none⟩), .iface T1 y1, .slice (some ⟨nb, 0, none⟩) 3 3] wz fun e w' => e = .returned (.int .i64 (vlI L T [x, y, z] p.length p)) ∧ Below wz.heap.size wz w' from fun wz hz => by
    have := value_any L T ga [x, y, z] nb 0 3 rfl h hEl p.length p [] wz (vtB_parts hvp).2 (Q.out _ hz).1 (Q.out _ hz).2.2.2.2.2.rd
    rwa [e1] at this)
  have HC2 := Lib.hid (show ∀ wz, Below w.heap.size w wz → Calls Try.prog 61 #[.pointer (some ⟨ga, 0, none⟩), .iface T2 y2, .slice (some ⟨nb, 0, none⟩) 3 3] wz fun e w' => e = .returned (.int .i64 (vlI L T [x, y, z] t.length t)) ∧ Below wz.heap.size wz w' from fun wz hz => by
    have := value_any L T ga [x, y, z] nb 0 3 rfl h hEl t.length t [] wz (vtB_parts hvt).2 (Q.out _ hz).1 (Q.out _ hz).2.2.2.2.2.rd
    rwa [e2] at this)
  obtain ⟨v0, v1⟩ := vlI_el h hEl p.length p [] (vtB_parts hvp).2
  obtain ⟨u0, u1⟩ := vlI_el h hEl t.length t [] (vtB_parts hvt).2
  obtain ⟨V, hV⟩ : ∃ V, V = vlI L T [x, y, z] p.length p := ⟨_, rfl⟩
  obtain ⟨U, hU⟩ : ∃ U, U = vlI L T [x, y, z] t.length t := ⟨_, rfl⟩
  have HQ := Lib.hid (show lpQ L T p t k [x, y, z] = bl L (powr L T V k) U by rw [hV, hU]; rfl)
  rw [← hV] at HC1 v0 v1
  rw [← hU] at HC2 u0 u1
  have HP := Lib.hid (fun (wz : World) => powerM_any L T V k wz h v0 v1 k0 (by omega))
  obtain ⟨p0, p1⟩ := powr_lt (k := k) hl (algB_parts h).2.1 v0 v1
  obtain ⟨P, hP⟩ : ∃ P, P = powr L T V k := ⟨_, rfl⟩
  rw [← hP] at HP HQ p0 p1
  have HG := Lib.hid (show ∀ wz, Below w.heap.size w wz → wz.cell? ⟨ga, 1 + P.toNat * 6 + U.toNat, none⟩ = some (.bool (bl L P U)) from fun wz hz => by
    have := (Q.out _ hz).1.g (x := P) (y := U) p0 (by omega) u0 (by omega)
    rwa [ordG_in p1 u1] at this)
  have P6 : P < 6 := by omega
  have U6 : U < 6 := by omega
  have q0 : Below w.heap.size w w := Below.refl _ _
  clear h hvp hvt e1 e2 hc hr hl hEl l6 hV hU hP hk lpk
  go_enter Try.func73, Try.ntmps73
  go_wp2
  refine region_in (Below w.heap.size w) (by kernel_rfl) (by kernel_rfl) (Dr.below ⟨1, rfl⟩ _) fun hne => ?_
  have r1 : ∀ s : In (Below w.heap.size w), s.w.cell? ⟨gn, 0, none⟩ = some (.slice (some ⟨nn, 0, none⟩) 2 2) := fun s => (Q.out _ s.h).2.1
  have r2 : ∀ s : In (Below w.heap.size w), s.w.cell? ⟨nn, 0, none⟩ = some (.iface T1 y1) := fun s => (Q.out _ s.h).2.2.1
  have r3 : ∀ s : In (Below w.heap.size w), s.w.cell? ⟨gk, 0, none⟩ = some (.int .i64 k) := fun s => (Q.out _ s.h).2.2.2.2.1
  repeat (first
    | (go_big_quiet_want; refine quiet_load_row 72 _ rfl ga rfl _ _ _ _ (fun w' ⟨s, hs⟩ => by rw [hs]; exact (Q.out _ s.h).1) Try.underlying72 rfl (size_alg _ _ _ _ _ _) ?_; simp only [Act.put, List.setIfInBounds_toArray, List.set_cons_succ, List.set_cons_zero]; go_big_quiet_on)
    | go_big_quiet_step ((first | (go_at_call 61; exact in_below _ (Nat.le_refl _) (HC1.out _ (In.h _))) | (go_at_call 74; exact in_below _ (Nat.le_refl _) (HP.out _)))))
  refine wpQuiet_nil ?_
  intro s
  have hs7 := s.h
  obtain ⟨w7, hw7⟩ : ∃ x : World, x = s.w := ⟨_, rfl⟩
  rw [← hw7] at hs7 ⊢
  clear hw7 r1 r2 r3
  go_wp2
  refine region_in (Below w7.heap.size w7) (by kernel_rfl) (by kernel_rfl) (Dr.below ⟨1, rfl⟩ _) fun hne2 => ?_
  have r1 : ∀ s : In (Below w7.heap.size w7), s.w.cell? ⟨gn, 0, none⟩ = some (.slice (some ⟨nn, 0, none⟩) 2 2) := fun s => (Q.out _ (in_transT hs7 s)).2.1
  have r2 : ∀ s : In (Below w7.heap.size w7), s.w.cell? ⟨nn, 1, none⟩ = some (.iface T2 y2) := fun s => (Q.out _ (in_transT hs7 s)).2.2.2.1
  have r3 : ∀ s : In (Below w7.heap.size w7), s.w.cell? ⟨ga, 1 + P.toNat * 6 + U.toNat, none⟩ = some (.bool (bl L P U)) := fun s => HG.out _ (in_transT hs7 s)
  repeat (go_big_quiet_step ((go_at_call 61; exact in_below _ (Nat.le_refl _) (HC2.out _ (in_transT hs7 (by assumption))))))
  refine wpQuiet_nil ?_
  intro s
  have hs8 := in_transT hs7 s
  obtain ⟨w8, hw8⟩ : ∃ x : World, x = s.w := ⟨_, rfl⟩
  rw [← hw8] at hs8 ⊢
  clear hw8 r1 r2 r3
  go_wp2
  go_ret
  exact ⟨ret_bool (by rw [HQ.out]), hs8⟩
/-- a term follows from another one -/
def flB (L : List Int) (T : List (List Int)) (p t : List Int) : Bool := (algB L T && (vtB p && vtB t)) && (f3 L.length (fun N => !(!(hdB L T p N) || hdB L T t N))).isNone
/-- the least power of a term that is at most another one -/
def lpF (L : List Int) (T : List (List Int)) (p t : List Int) (k : Int) : Option Int := if (f3 L.length (fun N => !(lpQ L T p t k N))).isNone then some k else none
def lpI (L : List Int) (T : List (List Int)) (p t : List Int) : Option Int := if algB L T && (vtB p && vtB t) then fsI 21 (lpF L T p t) else none
set_option maxRecDepth 100000 in
set_option maxHeartbeats 8000000 in
/-- impl.Follows -/
theorem implFollows_any (a b : Option Addr) (ca cb : Nat) (L : List Int) (T : List (List Int)) (ap : Option Addr) (cp : Nat) (p : List Int) (at_ : Option Addr) (ct : Nat) (t : List Int) (w : World) (hr : Rd w a L) (hT : RdT w b T) (hp : Rd w ap p) (ht : Rd w at_ t) (hmp : p.length ≤ 1048576) (hmt : t.length ≤ 1048576) (hcp : p.length ≤ cp) (hct : t.length ≤ ct) :
    Calls Try.prog 33 #[.agg #[.slice a L.length ca, .slice b T.length cb], .slice ap p.length cp, .slice at_ t.length ct] w fun e w' => e = .returned (.bool (flB L T p t)) ∧ Below w.heap.size w w' := by
  obtain ⟨w1, hw1⟩ : ∃ w1, w1 = w.alloc (.cells #[.slice a L.length ca, .slice b T.length cb] 33) := ⟨_, rfl⟩
  have hB : Below w.heap.size w w1 := by rw [hw1]; exact (Below.refl _ _).alloc (Nat.le_refl _) _
  have hx1 : w1.heap[w.heap.size]? = some (.cells #[.slice a L.length ca, .slice b T.length cb] 33 (0, 0)) := by rw [hw1]; exact heap_alloc_new w _
  have KX := Lib.hid (show ∀ wz, Below w1.heap.size w1 wz → wz.heap[w.heap.size]? = some (.cells #[.slice a L.length ca, .slice b T.length cb] 33 (0, 0)) from fun wz h => (h.block _ (lt_of_block hx1)).trans hx1)
  have HC := Lib.hid (readAT_two a b ca cb L T ap cp p at_ ct t w1 (hr.below hB) (hT.below hB) (hp.below hB) (ht.below hB) hcp hmp hct hmt)
  have z : Below w1.heap.size w1 w1 := Below.refl _ _
  clear hr hT ht hp hx1
  go_enter Try.func33, Try.ntmps33
  go_wp2_with (first
    | (rw [← hw1]; clear hw1)
    | (refine wpList_load_row_w rfl 33 _ rfl w.heap.size rfl _ _ _ _ (KX.out _ (by assumption)) Try.underlying33 rfl (size_Alg _ _) ?_))
  refine HC.out.mono ?_
  rintro e w2 (⟨hA, hv, nb, rfl, hnb, hN, hb2⟩ | ⟨hno, rfl, hb2⟩)
  · replace z := hb2
    have hv' := hv
    rw [Bool.and_eq_true] at hv'
    obtain ⟨hvp, hvt⟩ := hv'
    obtain ⟨T1, y1, e1⟩ := tmV_if (vtB_parts hvp).2
    obtain ⟨T2, y2, e2⟩ := tmV_if (vtB_parts hvt).2
    obtain ⟨n1, n6⟩ := lat_len (alg_lat hA)
    have n1' : 1 ≤ L.length := by have : num L = L.length := rfl; omega
    have n6' : L.length ≤ 6 := by have : num L = L.length := rfl; omega
    rw [e1, e2] at hN
    have HF := Lib.hid (fun (ga gn : Nat) (wz : World) (hcl : CloAt wz ga gn nb 2 L T [.iface T1 y1, .iface T2 y2]) => isForAll_any 70 #[.pointer (some ⟨ga, 0, none⟩), .pointer (some ⟨gn, 0, none⟩)] L T (fun N => !(hdB L T p N) || hdB L T t N) wz n1' n6' enters_fl1 fun x y z nb2 wr x0 x1 y0 y1' z0 z1 hb hrow => flC_any L T p t ga gn nb nb2 x y z T1 T2 y1 y2 wr hA hvp hvt e1 e2 x0 x1 y0 y1' z0 z1 (hcl.below hb) hrow)
    have HV := Lib.hid (show flB L T p t = (f3 L.length (fun N => !(!(hdB L T p N) || hdB L T t N))).isNone by unfold flB; rw [hA, hv]; rfl)
    obtain ⟨r, hr⟩ : ∃ r, r = (f3 L.length (fun N => !(!(hdB L T p N) || hdB L T t N))).isNone := ⟨_, rfl⟩
    rw [← hr] at HF HV
    clear hb2 HC e1 e2 hA hv hvp hvt hr n1 n6 n1' n6'
    go_wp2_with (first
      | go_skip
      | (rw [← hw4]; clear hw4 c7 f7; have ka := hcl.1)
      | (refine wpList_load_row_w rfl 72 _ rfl ga rfl _ _ _ _ ka Try.underlying72 rfl (size_alg _ _ _ _ _ _) ?_)
      | (refine wpList_store_row rfl 72 _ _ rfl w2.heap.size (algOf L T) rfl rfl _ _ (two_alg w2) (size_alg _ _ _ _ _ _) rfl (one_alg _ _ _ _ _ _) ?_; obtain ⟨ga, hga⟩ : ∃ ga, ga = w2.heap.size := ⟨_, rfl⟩; obtain ⟨w3, hw3⟩ : ∃ w3, w3 = ((w2.alloc (.cells Try.zeroCells72 72)).alloc (.cells #[.slice none 0 0] 73)).setRow w2.heap.size (algOf L T) := ⟨_, rfl⟩; obtain ⟨w4, hw4⟩ : ∃ w4, w4 = w3.setCell ⟨w2.heap.size + 1, 0, none⟩ (.slice (some ⟨nb, 0, none⟩) 2 2) := ⟨_, rfl⟩; obtain ⟨c7, f7⟩ := two_alg_set w2 (algOf L T) w3 hw3; obtain ⟨q4, hcl⟩ := clo_made (L := L) (T := T) w2 w3 nb 2 [.iface T1 y1, .iface T2 y2] hw3 hN w4 hw4; have lo3 : w1.heap.size ≤ ga := (by rw [hga]; exact z.size); rw [← hw3, ← hga]; rw [← hga] at c7 f7 hw4 hcl; replace z := z.trans (q4.mono z.size); clear hw3 hga q4)
      | (go_at_call 68; refine (HF.out ga (ga + 1) _ hcl).mono ?_; rintro e w5 ⟨rfl, h5⟩))
    go_ret
    exact ⟨ret_bool (by rw [HV.out]), hB.trans ((z.trans (h5.mono z.size)).mono hB.size)⟩
  · replace z := hb2
    have HV := Lib.hid (show flB L T p t = false by unfold flB; rw [hno]; rfl)
    clear hb2 HC hno
    go_wp2_with (first
      | go_skip
      | (rw [← hw4]; clear hw4 c7 f7)
      | (refine wpList_store_row rfl 72 _ _ rfl w2.heap.size zeroAlg rfl rfl _ _ (two_alg w2) size_zeroAlg rfl one_zeroAlg ?_; obtain ⟨ga, hga⟩ : ∃ ga, ga = w2.heap.size := ⟨_, rfl⟩; obtain ⟨w3, hw3⟩ : ∃ w3, w3 = ((w2.alloc (.cells Try.zeroCells72 72)).alloc (.cells #[.slice none 0 0] 73)).setRow w2.heap.size zeroAlg := ⟨_, rfl⟩; obtain ⟨w4, hw4⟩ : ∃ w4, w4 = w3.setCell ⟨w2.heap.size + 1, 0, none⟩ (.slice none 0 0) := ⟨_, rfl⟩; obtain ⟨c7, f7⟩ := two_alg_set w2 zeroAlg w3 hw3; have q4 := clo_none w2 w3 _ hw3 w4 hw4; have lo3 : w1.heap.size ≤ ga := (by rw [hga]; exact z.size); rw [← hw3, ← hga]; rw [← hga] at c7 f7 hw4; replace z := z.trans (q4.mono z.size); clear hw3 hga q4))
    go_ret
    exact ⟨ret_bool (by rw [HV.out]), hB.trans (z.mono hB.size)⟩
theorem k_made (wr : World) (k : Int) (wn : World) (h : wn = wr.alloc (.cells #[.int .i64 k] 3)) :
    Below wr.heap.size wr wn ∧ wn.cell? ⟨wr.heap.size, 0, none⟩ = some (.int .i64 k) := by
  have h0 := heap_alloc_new wr (.cells #[.int .i64 k] 3)
  exact ⟨by rw [h]; exact (Below.refl _ _).alloc (Nat.le_refl _) _, by rw [h]; exact cell_of_one h0⟩
set_option maxRecDepth 100000 in
set_option maxHeartbeats 8000000 in
/-- impl.LeastPower -/
theorem implLeastPower_any (a b : Option Addr) (ca cb : Nat) (L : List Int) (T : List (List Int)) (ap : Option Addr) (cp : Nat) (p : List Int) (at_ : Option Addr) (ct : Nat) (t : List Int) (w : World) (hr : Rd w a L) (hT : RdT w b T) (hp : Rd w ap p) (ht : Rd w at_ t) (hmp : p.length ≤ 1048576) (hmt : t.length ≤ 1048576) (hcp : p.length ≤ cp) (hct : t.length ≤ ct) :
    Calls Try.prog 35 #[.agg #[.slice a L.length ca, .slice b T.length cb], .slice ap p.length cp, .slice at_ t.length ct] w fun e w' => e = .returned (.tuple #[.int .i64 ((lpI L T p t).getD 0), .bool (lpI L T p t).isSome]) ∧ Below w.heap.size w w' := by
  obtain ⟨w1, hw1⟩ : ∃ w1, w1 = w.alloc (.cells #[.slice a L.length ca, .slice b T.length cb] 33) := ⟨_, rfl⟩
  have hB : Below w.heap.size w w1 := by rw [hw1]; exact (Below.refl _ _).alloc (Nat.le_refl _) _
  have hx1 : w1.heap[w.heap.size]? = some (.cells #[.slice a L.length ca, .slice b T.length cb] 33 (0, 0)) := by rw [hw1]; exact heap_alloc_new w _
  have KX := Lib.hid (show ∀ wz, Below w1.heap.size w1 wz → wz.heap[w.heap.size]? = some (.cells #[.slice a L.length ca, .slice b T.length cb] 33 (0, 0)) from fun wz h => (h.block _ (lt_of_block hx1)).trans hx1)
  have HC := Lib.hid (readAT_two a b ca cb L T ap cp p at_ ct t w1 (hr.below hB) (hT.below hB) (hp.below hB) (ht.below hB) hcp hmp hct hmt)
  have z : Below w1.heap.size w1 w1 := Below.refl _ _
  clear hr hT ht hp hx1
  go_enter Try.func35, Try.ntmps35
  go_wp2_with (first
    | (rw [← hw1]; clear hw1)
    | (refine wpList_load_row_w rfl 33 _ rfl w.heap.size rfl _ _ _ _ (KX.out _ (by assumption)) Try.underlying33 rfl (size_Alg _ _) ?_))
  refine HC.out.mono ?_
  rintro e w2 (⟨hA, hv, nb, rfl, hnb, hN, hb2⟩ | ⟨hno, rfl, hb2⟩)
  · replace z := hb2
    have hv' := hv
    rw [Bool.and_eq_true] at hv'
    obtain ⟨hvp, hvt⟩ := hv'
    obtain ⟨T1, y1, e1⟩ := tmV_if (vtB_parts hvp).2
    obtain ⟨T2, y2, e2⟩ := tmV_if (vtB_parts hvt).2
    obtain ⟨n1, n6⟩ := lat_len (alg_lat hA)
    have n1' : 1 ≤ L.length := by have : num L = L.length := rfl; omega
    have n6' : L.length ≤ 6 := by have : num L = L.length := rfl; omega
    rw [e1, e2] at hN
    have HF := Lib.hid (fun (k : Int) (k0 : 0 ≤ k) (k1 : k ≤ 20) (ga gn gk : Nat) (wz : World) (hcl : CloAt wz ga gn nb 2 L T [.iface T1 y1, .iface T2 y2]) (hk : wz.cell? ⟨gk, 0, none⟩ = some (.int .i64 k)) => isForAll_any 73 #[.pointer (some ⟨ga, 0, none⟩), .pointer (some ⟨gn, 0, none⟩), .pointer (some ⟨gk, 0, none⟩)] L T (lpQ L T p t k) wz n1' n6' enters_lp1 fun x y z nb2 wr x0 x1 y0 y1' z0 z1 hb hrow => lpC_any L T p t ga gn nb gk nb2 k x y z T1 T2 y1 y2 wr k0 k1 hA hvp hvt e1 e2 x0 x1 y0 y1' z0 z1 (hcl.below hb) (by rw [hb.cell (by exact block_lt_of_cell hk)]; exact hk) hrow)
    have HV := Lib.hid (show lpI L T p t = fsI 21 (lpF L T p t) by unfold lpI; rw [hA, hv]; rfl)
    have HLP := Lib.hid (show ∀ k, lpF L T p t k = if (f3 L.length (fun N => !(lpQ L T p t k N))).isNone then some k else none from fun k => rfl)
    clear hb2 HC e1 e2 hA hv hvp hvt n1 n6 n1' n6'
    go_wp2_with (first
      | go_skip
      | (rw [← hw4]; clear hw4 c7 f7)
      | (refine wpList_store_row rfl 72 _ _ rfl w2.heap.size (algOf L T) rfl rfl _ _ (two_alg w2) (size_alg _ _ _ _ _ _) rfl (one_alg _ _ _ _ _ _) ?_; obtain ⟨ga, hga⟩ : ∃ ga, ga = w2.heap.size := ⟨_, rfl⟩; obtain ⟨w3, hw3⟩ : ∃ w3, w3 = ((w2.alloc (.cells Try.zeroCells72 72)).alloc (.cells #[.slice none 0 0] 73)).setRow w2.heap.size (algOf L T) := ⟨_, rfl⟩; obtain ⟨w4, hw4⟩ : ∃ w4, w4 = w3.setCell ⟨w2.heap.size + 1, 0, none⟩ (.slice (some ⟨nb, 0, none⟩) 2 2) := ⟨_, rfl⟩; obtain ⟨c7, f7⟩ := two_alg_set w2 (algOf L T) w3 hw3; obtain ⟨q4, hcl⟩ := clo_made (L := L) (T := T) w2 w3 nb 2 [.iface T1 y1, .iface T2 y2] hw3 hN w4 hw4; have lo3 : w1.heap.size ≤ ga := (by rw [hga]; exact z.size); rw [← hw3, ← hga]; rw [← hga] at c7 f7 hw4 hcl; replace z := z.trans (q4.mono z.size); clear hw3 hga q4))
    have KC := Lib.hid (show ∀ wz, Below w4.heap.size w4 wz → CloAt wz ga (ga + 1) nb 2 L T [.iface T1 y1, .iface T2 y2] from fun wz hz => hcl.below hz)
    have HZ4 := Lib.hid z
    have z4 : Below w4.heap.size w4 w4 := Below.refl _ _
    clear hcl z hN
    go_loopw [11, 12, 24] (fun _ _ c wr => ∃ k : Int, 0 ≤ k ∧ k ≤ 21 ∧ c = .int .i64 k ∧ (∀ j : Int, 0 ≤ j → j < k → lpF L T p t j = none) ∧ Below w4.heap.size w4 wr) (fun _ _ c _ => (21 - intOf c).toNat)
    case atStart => exact ⟨0, by omega, by omega, rfl, fun j j0 j1 => by omega, z4⟩
    case round =>
      clear z4
      obtain ⟨k, k0, k1, rfl, hj, z4⟩ := hrel
      have HJ := Lib.hid hj
      clear hj
      by_cases hk : k < 21
      · obtain ⟨wn, hwn⟩ : ∃ wn, wn = wr.alloc (.cells #[.int .i64 k] 3) := ⟨_, rfl⟩
        obtain ⟨hbn, ck⟩ := k_made wr k wn hwn
        obtain ⟨gk, hgk⟩ : ∃ gk, gk = wr.heap.size := ⟨_, rfl⟩
        have zn := z4.trans (hbn.mono z4.size)
        rw [← hgk] at ck
        have HC2 := Lib.hid (HF.out k k0 (by omega) ga (ga + 1) gk wn (KC.out _ zn) ck)
        have ka := (KC.out _ zn).1
        obtain ⟨v, hv⟩ : ∃ v, v = (f3 L.length (fun N => !(lpQ L T p t k N))).isNone := ⟨_, rfl⟩
        have HL := Lib.hid (show lpF L T p t k = if v then some k else none by rw [hv]; exact HLP.out k)
        rw [← hv] at HC2
        have HCK := Lib.hid (show ∀ wz, Below wn.heap.size wn wz → wz.cell? ⟨gk, 0, none⟩ = some (.int .i64 k) from fun wz hz => by rw [hz.cell (by exact block_lt_of_cell ck)]; exact ck)
        clear hv hbn ck
        cases v with
        | true =>
          go_wp2_with (first
            | go_skip
            | (rw [← hwn, ← hgk]; clear hwn hgk)
            | (refine wpList_load_row_w rfl 72 _ rfl ga rfl _ _ _ _ ka Try.underlying72 rfl (size_alg _ _ _ _ _ _) ?_)
            | (go_at_call 68; refine (HC2.out).mono ?_; rintro e w5 ⟨rfl, h5⟩; have c5 := HCK.out _ h5))
          go_ret2
          have hf : fsI 21 (lpF L T p t) = some k := fsI_some k0 (by exact_mod_cast hk) HL.out HJ.out
          rw [HV.out, hf]
          exact ⟨rfl, hB.trans ((HZ4.out.trans ((zn.trans (h5.mono zn.size)).mono HZ4.out.size)).mono hB.size)⟩
        | false =>
          go_wp2_with (first
            | go_skip
            | (rw [← hwn, ← hgk]; clear hwn hgk)
            | (refine wpList_load_row_w rfl 72 _ rfl ga rfl _ _ _ _ ka Try.underlying72 rfl (size_alg _ _ _ _ _ _) ?_)
            | (go_at_call 68; refine (HC2.out).mono ?_; rintro e w5 ⟨rfl, h5⟩; have c5 := HCK.out _ h5))
          go_roundw
          case rel => exact ⟨k + 1, by omega, by omega, rfl, fun j j0 j1 => by
            by_cases e : j = k
            · rw [e]; exact HL.out
            · exact HJ.out j j0 (by omega), zn.trans (h5.mono zn.size)⟩
          case measure => simp [intOf]; omega
      · have hf := Lib.hid (show fsI 21 (lpF L T p t) = none from fsI_none fun j j0 j1 => HJ.out j j0 (by omega))
        go_wp2
        go_ret2
        rw [HV.out, hf.out]
        exact ⟨rfl, hB.trans ((HZ4.out.trans (z4.mono HZ4.out.size)).mono hB.size)⟩
  · replace z := hb2
    have HV := Lib.hid (show lpI L T p t = none by unfold lpI; rw [hno]; rfl)
    clear hb2 HC hno
    go_wp2_with (first
      | go_skip
      | (rw [← hw4]; clear hw4 c7 f7)
      | (refine wpList_store_row rfl 72 _ _ rfl w2.heap.size zeroAlg rfl rfl _ _ (two_alg w2) size_zeroAlg rfl one_zeroAlg ?_; obtain ⟨ga, hga⟩ : ∃ ga, ga = w2.heap.size := ⟨_, rfl⟩; obtain ⟨w3, hw3⟩ : ∃ w3, w3 = ((w2.alloc (.cells Try.zeroCells72 72)).alloc (.cells #[.slice none 0 0] 73)).setRow w2.heap.size zeroAlg := ⟨_, rfl⟩; obtain ⟨w4, hw4⟩ : ∃ w4, w4 = w3.setCell ⟨w2.heap.size + 1, 0, none⟩ (.slice none 0 0) := ⟨_, rfl⟩; obtain ⟨c7, f7⟩ := two_alg_set w2 zeroAlg w3 hw3; have q4 := clo_none w2 w3 _ hw3 w4 hw4; have lo3 : w1.heap.size ≤ ga := (by rw [hga]; exact z.size); rw [← hw3, ← hga]; rw [← hga] at c7 f7 hw4; replace z := z.trans (q4.mono z.size); clear hw3 hga q4))
    go_ret2
    rw [HV.out]
    exact ⟨rfl, hB.trans (z.mono hB.size)⟩
end Go.Proofs.Ytidbilgnclfplaa
