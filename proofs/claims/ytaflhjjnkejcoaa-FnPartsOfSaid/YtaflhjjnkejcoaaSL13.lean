import Derived.Test.YtaflhjjnkejcoaaLC
import Derived.Test.YtaflhjjnkejcoaaSG3
import Derived.Test.YtaflhjjnkejcoaaB9
namespace Go.Proofs.Ytaflhjjnkejcoaa
open Go.RowKit

theorem prt_an {L : List Int} {T : List (List Int)} (ha : algB L T = true) {f g : Int} (hf : f ∈ prts L T) (hg : g ∈ prts L T) : an f g ∈ prts L T := by
  unfold prts at *
  rw [filtTo_mem] at *
  obtain ⟨f0, f1, hf⟩ := hf
  obtain ⟨g0, g1, hg⟩ := hg
  have a1 := an_le1 f g f0
  refine ⟨an_0 f g, by omega, ?_⟩
  have hl := alg_lat ha
  have n1 := (lat_len hl).1
  have e : ∀ x, 0 ≤ x → ib (an f g) x = (ib f x && ib g x) := fun x hx => an_ib f g x f0 g0 hx
  have key : ∀ t : Int → Int → Int, (∀ x y, El L x → El L y → 0 ≤ t x y) → opB (num L) t f = true → opB (num L) t g = true → opB (num L) t (an f g) = true := fun t ht h1 h2 => by
    unfold opB at *
    rw [all2_iff] at *
    intro x y x0 x1 y0 y1
    have p := h1 x y x0 x1 y0 y1
    have q := h2 x y x0 x1 y0 y1
    unfold opQ at *
    rw [e x x0, e y y0, e _ (ht x y ⟨x0, x1⟩ ⟨y0, y1⟩)]
    revert p q
    cases ib f x <;> cases ib f y <;> cases ib g x <;> cases ib g y <;> cases ib f (t x y) <;> cases ib g (t x y) <;> simp
  unfold prtB at *
  simp only [Bool.and_eq_true] at *
  obtain ⟨⟨p0, p1⟩, p2, p3, p4, p5⟩ := hf
  obtain ⟨⟨q0, q1⟩, q2, q3, q4, q5⟩ := hg
  refine ⟨⟨by rw [e _ (by omega), p0, q0]; rfl, by rw [e _ (by omega), p1, q1]; rfl⟩, key _ (fun x y hx hy => (mt_el hl hx hy).1) p2 q2, key _ (fun x y hx hy => (jn_el hl hx hy).1) p3 q3, key _ (fun x y hx hy => (tv_el ha hx hy).1) p4 q4, key _ (fun x y _ _ => (imp_el ha x y).1) p5 q5⟩
theorem prt_ends {L : List Int} {T : List (List Int)} (h : SomeP L T) (ha : algB L T = true) : inL (prts L T) (orI 1 (pw (num L - 1))) = true ∧ inL (prts L T) (pw (num L) - 1) = true := by
  have := sg_prt h ha
  unfold sgPrt at this
  exact Bool.and_eq_true_iff.1 this
set_option maxRecDepth 100000 in
set_option maxHeartbeats 8000000 in
/-- laws.FnPartsOf -/
theorem lawPPartsOf (a0 : Option Addr) (len0 cap0 : Nat) (w : World) (hy : RdY w a0 len0 w.heap.size) (hc : len0 ≤ cap0) (hm : len0 ≤ maxLen) :
    Calls Try.prog 12 #[.slice a0 len0 cap0] w fun e w' => e = .returned (.bool true) ∧ Below w.heap.size w w' := by
  by_cases hbig : 1048576 < len0
  · have hbig2 : (1048576 : Int) < len0 := by omega
    go_enter Try.func12, Try.ntmps12
    go_wp2
    go_ret
    exact ⟨rfl, Below.refl _ _⟩
  · have hs : len0 ≤ 1048576 := by omega
    have hs2 : ¬ (1048576 : Int) < len0 := by omega
    go_enter Try.func12, Try.ntmps12
    go_wp2_with fail
    refine (drawPartsOf_any a0 len0 cap0 w hy hc hs).mono ?_
    rintro e w1 ⟨L, T, a, ca, b, cb, rfl, hP, hr, hT, hb⟩
    have _ := hm
    clear hs hs2 hbig hy hm hc
    obtain ⟨l1, l7, t6, r6⟩ := someP_len hP
    have hM : (L.length : Int) ≤ 9223372036854775807 := by omega
    obtain ⟨g, hg⟩ : ∃ g, g = w1.heap.size := ⟨_, rfl⟩
    obtain ⟨w2, hw2⟩ : ∃ w2, w2 = w1.alloc (.cells #[.slice a L.length ca, .slice b T.length cb] 26) := ⟨_, rfl⟩
    have hB : Below w.heap.size w w2 := by rw [hw2]; exact hb.alloc hb.size _
    have hB2 : Below w1.heap.size w1 w2 := by rw [hw2]; exact (Below.refl _ _).alloc (Nat.le_refl _) _
    have hx2 : w2.heap[g]? = some (.cells #[.slice a L.length ca, .slice b T.length cb] 26 (0, 0)) := by rw [hw2, hg]; exact heap_alloc_new w1 _
    have KX := Lib.hid (show ∀ wz, Below w2.heap.size w2 wz → wz.heap[g]? = some (.cells #[.slice a L.length ca, .slice b T.length cb] 26 (0, 0)) from fun wz h => (h.block _ (lt_of_block hx2)).trans hx2)
    have K0 := Lib.hid (show ∀ wz, Below w2.heap.size w2 wz → wz.cell? ⟨g, 0, none⟩ = some (.slice a L.length ca) from fun wz h => (bx_cells (KX.out _ h)).1)
    have K1 := Lib.hid (show ∀ wz, Below w2.heap.size w2 wz → wz.cell? ⟨g, 1, none⟩ = some (.slice b T.length cb) from fun wz h => (bx_cells (KX.out _ h)).2)
    have KR := Lib.hid (show ∀ wz, Below w2.heap.size w2 wz → Rd wz a L from fun wz h => (hr.below hB2).below h)
    have KT := Lib.hid (show ∀ wz, Below w2.heap.size w2 wz → RdT wz b T from fun wz h => (hT.below hB2).below h)
    have FIN := Lib.hid (show ∀ wz, Below w2.heap.size w2 wz → Below w.heap.size w wz from fun wz h => hB.trans (h.mono hB.size))
    have z : Below w2.heap.size w2 w2 := Below.refl _ _
    have HP := Lib.hid hP
    clear hP hr hT hb hB hB2 hx2 r6
    have c0 := K0.out _ z
    have c1 := K1.out _ z
    cases ha : algB L T with
    | false =>
      obtain ⟨V, hV⟩ : ∃ V, V = algV L T (prts L T) := ⟨_, rfl⟩
      have hM2 : V.length ≤ 1073741824 := by rw [hV]; unfold algV; rw [ha]; simp
      have HI := Lib.hid (show ∀ (a b : Option Addr) (ca cb : Nat) (w : World), Rd w a L → RdT w b T → Calls Try.prog 30 #[.agg #[.slice a L.length ca, .slice b T.length cb]] w (RetSl w.heap.size V w) from fun a b ca cb w h1 h2 => by rw [hV]; exact implPartsOf_any a b ca cb L T w h1 h2)
      have HP2 := Lib.hid (show ∀ (a b : Option Addr) (ca cb : Nat) (w : World), Rd w a L → RdT w b T → Calls Try.prog 58 #[.agg #[.slice a L.length ca, .slice b T.length cb]] w (RetSl w.heap.size V w) from fun a b ca cb w h1 h2 => by rw [hV]; exact specPartsOf_any a b ca cb L T w h1 h2)
      clear hV
      go_wp2_with (first
      | go_skip
      | (refine wpList_store_row rfl 26 _ _ rfl w1.heap.size #[.slice a L.length ca, .slice b T.length cb] rfl rfl _ _ (heap_alloc_new w1 (.cells #[.slice none 0 0, .slice none 0 0] 26)) (size_Alg _ _) rfl (one_sl2 _ _ _ _ _ _) ?_; rw [World.setRow_alloc_new]; rw [← hw2, ← hg]; clear hw2 hg)
      | (refine wpList_store_row rfl 26 _ _ rfl w1.heap.size #[.slice a L.length ca, .slice (some ⟨B, off, none⟩) T.length cb] rfl rfl _ _ (heap_alloc_new w1 (.cells #[.slice none 0 0, .slice none 0 0] 26)) (size_Alg _ _) rfl (one_sl2 _ _ _ _ _ _) ?_; rw [World.setRow_alloc_new]; rw [← hw2, ← hg]; clear hw2 hg)
      | (refine wpList_load_row_w rfl 26 _ rfl g rfl _ _ _ _ (KX.out _ z) Try.underlying26 rfl (size_Alg _ _) ?_)
      | (go_at_call 30; refine (HI.out _ _ _ _ _ (KR.out _ z) (KT.out _ z)).mono ?_; rintro e wz ⟨aT, cT, rfl, oT, hb⟩; replace z := z.trans (hb.mono z.size); (try clear c0 c1); have c0 := K0.out _ z; have c1 := K1.out _ z; (try replace q1 := Q1.out _ z); (try replace q2 := Q2.out _ z); (try replace hT := hT.below hb); (try replace hU := hU.below hb); have hT : Rd wz aT V := oT.rd; clear oT)
      | (go_at_call 58; refine (HP2.out _ _ _ _ _ (KR.out _ z) (KT.out _ z)).mono ?_; rintro e wz ⟨aU, cU, rfl, oU, hb⟩; replace z := z.trans (hb.mono z.size); (try clear c0 c1); have c0 := K0.out _ z; have c1 := K1.out _ z; (try replace q1 := Q1.out _ z); (try replace q2 := Q2.out _ z); (try replace hT := hT.below hb); (try replace hU := hU.below hb); have hU : Rd wz aU V := oU.rd; clear oU)
      | (go_at_call 25; refine (equalInts_same _ _ _ _ V _ hT hU hM2).mono ?_; rintro e wz ⟨rfl, hd⟩; replace z := z.trans (hd.below _); (try clear c0 c1); have c0 := K0.out _ z; have c1 := K1.out _ z; (try replace q1 := Q1.out _ z); (try replace q2 := Q2.out _ z); (try replace hT := hd.rd hT); (try replace hU := hd.rd hU))
      | (go_at_call 21; refine (implValidAlgebra_any _ _ _ _ L T _ (KR.out _ z) (KT.out _ z)).mono ?_; rintro e wz ⟨rfl, hb⟩; replace z := z.trans (hb.mono z.size); (try clear c0 c1); have c0 := K0.out _ z; have c1 := K1.out _ z; (try replace q1 := Q1.out _ z); (try replace q2 := Q2.out _ z); (try replace hT := hT.below hb); (try replace hU := hU.below hb)))
      go_ret
      exact ⟨rfl, FIN.out _ z⟩
    | true =>
      obtain ⟨V, hV⟩ : ∃ V, V = algV L T (prts L T) := ⟨_, rfl⟩
      have HI := Lib.hid (show ∀ (a b : Option Addr) (ca cb : Nat) (w : World), Rd w a L → RdT w b T → Calls Try.prog 30 #[.agg #[.slice a L.length ca, .slice b T.length cb]] w (RetSl w.heap.size V w) from fun a b ca cb w h1 h2 => by rw [hV]; exact implPartsOf_any a b ca cb L T w h1 h2)
      have HP2 := Lib.hid (show ∀ (a b : Option Addr) (ca cb : Nat) (w : World), Rd w a L → RdT w b T → Calls Try.prog 58 #[.agg #[.slice a L.length ca, .slice b T.length cb]] w (RetSl w.heap.size V w) from fun a b ca cb w h1 h2 => by rw [hV]; exact specPartsOf_any a b ca cb L T w h1 h2)
      replace hV : V = prts L T := by rw [hV]; unfold algV; rw [ha]; rfl
      have l6 := (latB_parts (alg_lat ha)).2.1
      have l6' : (L.length : Int) ≤ 6 := l6
      have hM3 : V.length ≤ 64 := by rw [hV]; exact by have := filtTo_len (prtB L T) (pw (num L)); have := (pw_6 l6).2; unfold prts; omega
      have hM2 : V.length ≤ 1073741824 := by omega
      have HV := Lib.hid (show ∀ i k : Int, 0 ≤ i → i < V.length → 0 ≤ k → k < V.length → inL V (an (nth V i) (nth V k)) = true ∧ (0 ≤ nth V i ∧ nth V i < 64) ∧ (0 ≤ nth V k ∧ nth V k < 64) from fun i k i0 i1 k0 k1 => by
        have h1 := nth_mem' V i0 i1
        have h2 := nth_mem' V k0 k1
        rw [hV] at h1 h2
        have q1 := (filtTo_mem _ _ _).1 h1
        have q2 := (filtTo_mem _ _ _).1 h2
        have := (pw_6 l6).2
        refine ⟨by rw [inL_iff, hV]; exact prt_an ha h1 h2, ?_, ?_⟩
        · rw [hV]; exact ⟨q1.1, by omega⟩
        · rw [hV]; exact ⟨q2.1, by omega⟩)
      have p1 : 1 ≤ pw (L.length : Int) := (pw_6 l6).1
      have p64 : pw (L.length : Int) ≤ 64 := (pw_6 l6).2
      have k1 : IntKind.i64.wrap (pw (L.length : Int) - 1) = pw (L.length : Int) - 1 := IntWalk.i64_in _ (by omega)
      obtain ⟨u1, u2⟩ := prt_ends HP.out ha
      rw [← hV] at u1 u2
      replace u1 : inL V (orI 1 (pw ((L.length : Int) - 1))) = true := u1
      replace u2 : inL V (pw (L.length : Int) - 1) = true := u2
      have n1 := (lat_len (alg_lat ha)).1
      have q1 : 1 ≤ pw ((L.length : Int) - 1) := pw_pos _
      have q64 : pw ((L.length : Int) - 1) ≤ 64 := pw_mono _ 6 (by omega)
      have hor : bits BinOp.or IntKind.i64 1 (pw ((L.length : Int) - 1)) = orI 1 (pw ((L.length : Int) - 1)) := bits_orI (by omega) (by omega) (by omega) (by omega)
      have hasc : Asc V := by rw [hV]; exact filtTo_ascI _ (by have := pw_pos (num L); omega)
      have HASC := Lib.hid hasc
      clear hV l6 hasc
      go_wp2_with (first
      | go_skip
      | (refine wpList_store_row rfl 26 _ _ rfl w1.heap.size #[.slice a L.length ca, .slice b T.length cb] rfl rfl _ _ (heap_alloc_new w1 (.cells #[.slice none 0 0, .slice none 0 0] 26)) (size_Alg _ _) rfl (one_sl2 _ _ _ _ _ _) ?_; rw [World.setRow_alloc_new]; rw [← hw2, ← hg]; clear hw2 hg)
      | (refine wpList_store_row rfl 26 _ _ rfl w1.heap.size #[.slice a L.length ca, .slice (some ⟨B, off, none⟩) T.length cb] rfl rfl _ _ (heap_alloc_new w1 (.cells #[.slice none 0 0, .slice none 0 0] 26)) (size_Alg _ _) rfl (one_sl2 _ _ _ _ _ _) ?_; rw [World.setRow_alloc_new]; rw [← hw2, ← hg]; clear hw2 hg)
      | (refine wpList_load_row_w rfl 26 _ rfl g rfl _ _ _ _ (KX.out _ z) Try.underlying26 rfl (size_Alg _ _) ?_)
      | (go_at_call 30; refine (HI.out _ _ _ _ _ (KR.out _ z) (KT.out _ z)).mono ?_; rintro e wz ⟨aT, cT, rfl, oT, hb⟩; replace z := z.trans (hb.mono z.size); (try clear c0 c1); have c0 := K0.out _ z; have c1 := K1.out _ z; (try replace q1 := Q1.out _ z); (try replace q2 := Q2.out _ z); (try replace hT := hT.below hb); (try replace hU := hU.below hb); have hT : Rd wz aT V := oT.rd; clear oT)
      | (go_at_call 58; refine (HP2.out _ _ _ _ _ (KR.out _ z) (KT.out _ z)).mono ?_; rintro e wz ⟨aU, cU, rfl, oU, hb⟩; replace z := z.trans (hb.mono z.size); (try clear c0 c1); have c0 := K0.out _ z; have c1 := K1.out _ z; (try replace q1 := Q1.out _ z); (try replace q2 := Q2.out _ z); (try replace hT := hT.below hb); (try replace hU := hU.below hb); have hU : Rd wz aU V := oU.rd; clear oU)
      | (go_at_call 25; refine (equalInts_same _ _ _ _ V _ hT hU hM2).mono ?_; rintro e wz ⟨rfl, hd⟩; replace z := z.trans (hd.below _); (try clear c0 c1); have c0 := K0.out _ z; have c1 := K1.out _ z; (try replace q1 := Q1.out _ z); (try replace q2 := Q2.out _ z); (try replace hT := hd.rd hT); (try replace hU := hd.rd hU))
      | (go_at_call 21; refine (implValidAlgebra_any _ _ _ _ L T _ (KR.out _ z) (KT.out _ z)).mono ?_; rintro e wz ⟨rfl, hb⟩; replace z := z.trans (hb.mono z.size); (try clear c0 c1); have c0 := K0.out _ z; have c1 := K1.out _ z; (try replace q1 := Q1.out _ z); (try replace q2 := Q2.out _ z); (try replace hT := hT.below hb); (try replace hU := hU.below hb)))
      clear c0 c1 hU ha
      go_loopw [6, 7] (fun xv yv wr => ∃ i : Int, 0 ≤ i ∧ i ≤ V.length ∧ xv = .int .i64 i ∧ Below w2.heap.size w2 wr ∧ Rd wr aT V) (fun xv _ _ => ((V.length : Int) - intOf xv).toNat)
      case atStart => exact ⟨0, by omega, by omega, rfl, z, hT⟩
      case round =>
        obtain ⟨i, i0, i1, rfl, z, hT⟩ := hrel
        by_cases hi : i < V.length
        · go_wp2
          obtain ⟨wo, rfl⟩ : ∃ wo : World, wo = wr := ⟨_, rfl⟩
          go_loopw [7] (fun yv wr => ∃ k : Int, 0 ≤ k ∧ k ≤ i ∧ yv = .int .i64 k ∧ Below w2.heap.size w2 wr ∧ Rd wr aT V) (fun yv _ => ((V.length : Int) - intOf yv).toNat)
          case atStart => exact ⟨0, by omega, by omega, rfl, z, hT⟩
          case round =>
            obtain ⟨k, k0, k1', rfl, z, hT⟩ := hrel
            by_cases hk : k < i
            · have hk2 : k < V.length := by omega
              obtain ⟨V1, ⟨g0, g1⟩, ⟨f0, f1⟩⟩ := HV.out i k i0 hi k0 hk2
              have hbt : bits BinOp.and IntKind.i64 (nth V i) (nth V k) = an (nth V i) (nth V k) := bits_and_i64 _ _ g0 (by omega) f0 (by omega)
              have hT' := hT
              obtain ⟨b2, o2, rfl, hc2⟩ := hT' (by intro e; rw [e] at hk2; simp at hk2; omega)
              have DD := Lib.hid (hc2.at i i0 hi)
              have DE := Lib.hid (hc2.at k k0 hk2)
              clear hc2
              go_wp2
              refine region_in (Below wr.heap.size wr) (by kernel_rfl) (by kernel_rfl) (Dr.below ⟨1, rfl⟩ _) fun hne => ?_
              have r0 : ∀ s : In (Below wr.heap.size wr), s.w.cell? ⟨b2, o2 + i.toNat, none⟩ = some (.int .i64 (nth V i)) := fun s => by rw [s.h.cell (by exact block_lt_of_cell DD.out)]; exact DD.out
              have r1 : ∀ s : In (Below wr.heap.size wr), s.w.cell? ⟨b2, o2 + k.toNat, none⟩ = some (.int .i64 (nth V k)) := fun s => by rw [s.h.cell (by exact block_lt_of_cell DE.out)]; exact DE.out
              repeat (first
                | go_big_quiet_step ((first | (go_at_call 28; exact in_below _ (Nat.le_refl _) (dr_to (lawIsIn_any _ _ V _ _ (hT.below (In.h _)) hM2))))))
              refine wpQuiet_nil ?_
              intro s
              have z4 := in_trans z s
              have hs7 := s.h
              obtain ⟨w7, hw7⟩ : ∃ x : World, x = s.w := ⟨_, rfl⟩
              rw [← hw7] at z4 hs7 ⊢
              clear hw7
              clear r0 r1
              have hT4 := hT.below (show Below wr.heap.size wr w7 from hs7)
              go_wp2
              go_roundw
              case rel => exact ⟨k + 1, by omega, by omega, rfl, z4, hT4⟩
              case measure => simp [intOf]; omega
            · go_wp2
              go_roundw
              case rel => exact ⟨i + 1, by omega, by omega, rfl, z, hT⟩
              case measure => simp [intOf]; omega
        · go_wp2_with (first
          | go_skip
          | (refine wpList_store_row rfl 26 _ _ rfl w1.heap.size #[.slice a L.length ca, .slice b T.length cb] rfl rfl _ _ (heap_alloc_new w1 (.cells #[.slice none 0 0, .slice none 0 0] 26)) (size_Alg _ _) rfl (one_sl2 _ _ _ _ _ _) ?_; rw [World.setRow_alloc_new]; rw [← hw2, ← hg]; clear hw2 hg)
          | (refine wpList_store_row rfl 26 _ _ rfl w1.heap.size #[.slice a L.length ca, .slice (some ⟨B, off, none⟩) T.length cb] rfl rfl _ _ (heap_alloc_new w1 (.cells #[.slice none 0 0, .slice none 0 0] 26)) (size_Alg _ _) rfl (one_sl2 _ _ _ _ _ _) ?_; rw [World.setRow_alloc_new]; rw [← hw2, ← hg]; clear hw2 hg)
          | (refine wpList_load_row_w rfl 26 _ rfl g rfl _ _ _ _ (KX.out _ z) Try.underlying26 rfl (size_Alg _ _) ?_)
          | (go_at_call 59; refine (ascends_up _ _ V _ hT HASC.out hM2).mono ?_; rintro e wz ⟨rfl, hd⟩; replace z := z.trans (hd.below _); (try clear c0 c1); have c0 := K0.out _ z; have c1 := K1.out _ z; (try replace q1 := Q1.out _ z); (try replace q2 := Q2.out _ z); (try replace hT := hd.rd hT); (try replace hU := hd.rd hU))
          | (go_at_call 28; refine (lawIsIn_any _ _ V _ _ hT hM2).mono ?_; rintro e wz ⟨rfl, hd⟩; replace z := z.trans (hd.below _); (try clear c0 c1); have c0 := K0.out _ z; have c1 := K1.out _ z; (try replace q1 := Q1.out _ z); (try replace q2 := Q2.out _ z); (try replace hT := hd.rd hT); (try replace hU := hd.rd hU))
          | (go_at_call 37; refine (lawPower_any _ _ (by omega) (by omega)).mono ?_; rintro e wz ⟨rfl, rfl⟩))
          go_ret
          exact ⟨rfl, FIN.out _ z⟩
end Go.Proofs.Ytaflhjjnkejcoaa
