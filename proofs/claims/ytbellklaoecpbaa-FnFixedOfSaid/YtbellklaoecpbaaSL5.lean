import Derived.Test.YtbellklaoecpbaaSL0
namespace Go.Proofs.Ytbellklaoecpbaa
open Go.RowKit

theorem dr_to {f : FuncId} {args : Array Value} {w : World} {v : Value} (h : Calls Try.prog f args w fun e w' => e = .returned v ∧ Dr w w') : Calls Try.prog f args w fun e w' => e = .returned v ∧ Below w.heap.size w w' := h.mono fun _ _ h => ⟨h.1, h.2.below _⟩
theorem fix_closed {L : List Int} {T : List (List Int)} (h : algB L T = true) {x y : Int} (hx : El L x) (hy : El L y) (h1 : fixQ T x = true) (h2 : fixQ T y = true) : fixQ T (tv T x y) = true ∧ fixQ T (jn L x y) = true := by
  have hl := alg_lat h
  unfold fixQ at *
  rw [beq_iff_eq] at h1 h2
  rw [beq_iff_eq, beq_iff_eq]
  have ej := jn_el hl hx hy
  have exy := tv_el h hx hy
  refine ⟨?_, ?_⟩
  · rw [tv_assoc h hx hy exy, tv_comm h hx hy, ← tv_assoc h hy hy hx, h2, tv_comm h hy hx, ← tv_assoc h hx hx hy, h1]
  · rw [tv_jn h ej hx hy, tv_comm h ej hx, tv_comm h ej hy, tv_jn h hx hx hy, tv_jn h hy hx hy, h1, h2, jn_of_ge hl hx exy (tv_le1 h hx hy), jn_of_le hl (tv_el h hy hx) hy (tv_le1 h hy hx)]
theorem fix_all {L : List Int} {T : List (List Int)} : (((filtTo (fixQ T) (num L)).length : Int) == (L.length : Int)) = hasB 3 L T := by
  rw [Bool.eq_iff_iff, beq_iff_eq]
  show _ ↔ all2 (L.length : Int) (prQ3 L T) = true
  rw [all2_iff]
  unfold filtTo num
  rw [List.length_map]
  constructor
  · intro h x y x0 x1 _ _
    have h' : ((List.range (L.length : Int).toNat).filter fun (j : Nat) => fixQ T j).length = (List.range (L.length : Int).toNat).length := by rw [List.length_range]; omega
    rw [List.length_filter_eq_length_iff] at h'
    have := h' x.toNat (by rw [List.mem_range]; omega)
    rw [Int.toNat_of_nonneg x0] at this
    exact this
  · intro h
    have h' : ((List.range (L.length : Int).toNat).filter fun (j : Nat) => fixQ T j).length = (List.range (L.length : Int).toNat).length := by
      rw [List.length_filter_eq_length_iff]
      intro a ha
      rw [List.mem_range] at ha
      exact h a a (by omega) (by omega) (by omega) (by omega)
    rw [List.length_range] at h'
    omega
set_option maxRecDepth 100000 in
set_option maxHeartbeats 8000000 in
/-- laws.FnFixedOf -/
theorem lawPFixedOf (a0 : Option Addr) (len0 cap0 : Nat) (w : World) (hy : RdY w a0 len0 w.heap.size) (hc : len0 ≤ cap0) (hm : len0 ≤ maxLen) :
    Calls Try.prog 9 #[.slice a0 len0 cap0] w fun e w' => e = .returned (.bool true) ∧ Below w.heap.size w w' := by
  by_cases hbig : 1048576 < len0
  · have hbig2 : (1048576 : Int) < len0 := by omega
    go_enter Try.func9, Try.ntmps9
    go_wp2
    go_ret
    exact ⟨rfl, Below.refl _ _⟩
  · have hs : len0 ≤ 1048576 := by omega
    have hs2 : ¬ (1048576 : Int) < len0 := by omega
    go_enter Try.func9, Try.ntmps9
    go_wp2_with fail
    refine (drawFixedOf_any a0 len0 cap0 w hy hc hs).mono ?_
    rintro e w1 ⟨L, T, a, ca, b, cb, rfl, hP, hr, hT, hb⟩
    have _ := hm
    clear hs hs2 hbig hy hm hc
    obtain ⟨l1, l7, t6, r6⟩ := someP_len hP
    have hM : (L.length : Int) ≤ 9223372036854775807 := by omega
    obtain ⟨g, hg⟩ : ∃ g, g = w1.heap.size := ⟨_, rfl⟩
    obtain ⟨w2, hw2⟩ : ∃ w2, w2 = w1.alloc (.cells #[.slice a L.length ca, .slice b T.length cb] 26) := ⟨_, rfl⟩
    have hB : Below w.heap.size w w2 := by rw [hw2]; exact hb.alloc hb.size _
    have hB2 : Below w1.heap.size w1 w2 := by rw [hw2]; exact (Below.refl _ _).alloc (Nat.le_refl _) _
    have hx2 : w2.heap[g]? = some (.cells #[.slice a L.length ca, .slice b T.length cb] 26 (0, 0)) := by rw [hw2, hg]; exact heap_alloc_new w1 _
    have KX := Lib.hid (show ∀ wz, Below w2.heap.size w2 wz → wz.heap[g]? = some (.cells #[.slice a L.length ca, .slice b T.length cb] 26 (0, 0)) from fun wz h => (h.block _ (lt_of_block hx2)).trans hx2)
    have K0 := Lib.hid (show ∀ wz, Below w2.heap.size w2 wz → wz.cell? ⟨g, 0, none⟩ = some (.slice a L.length ca) from fun wz h => (bx_cells (KX.out _ h)).1)
    have K1 := Lib.hid (show ∀ wz, Below w2.heap.size w2 wz → wz.cell? ⟨g, 1, none⟩ = some (.slice b T.length cb) from fun wz h => (bx_cells (KX.out _ h)).2)
    have KR := Lib.hid (show ∀ wz, Below w2.heap.size w2 wz → Rd wz a L from fun wz h => (hr.below hB2).below h)
    have KT := Lib.hid (show ∀ wz, Below w2.heap.size w2 wz → RdT wz b T from fun wz h => (hT.below hB2).below h)
    have FIN := Lib.hid (show ∀ wz, Below w2.heap.size w2 wz → Below w.heap.size w wz from fun wz h => hB.trans (h.mono hB.size))
    have z : Below w2.heap.size w2 w2 := Below.refl _ _
    have HP := Lib.hid hP
    clear hP hr hT hb hB hB2 hx2 r6
    have c0 := K0.out _ z
    have c1 := K1.out _ z
    cases ha : algB L T with
    | false =>
      obtain ⟨V, hV⟩ : ∃ V, V = algI L T (fixQ T) := ⟨_, rfl⟩
      have hM2 : V.length ≤ 1073741824 := by rw [hV]; unfold algI; rw [ha]; simp
      have HI := Lib.hid (show ∀ (a b : Option Addr) (ca cb : Nat) (w : World), Rd w a L → RdT w b T → Calls Try.prog 38 #[.agg #[.slice a L.length ca, .slice b T.length cb]] w (RetSl w.heap.size V w) from fun a b ca cb w h1 h2 => by rw [hV]; exact implFixedOf_any a b ca cb L T w h1 h2)
      have HP := Lib.hid (show ∀ (a b : Option Addr) (ca cb : Nat) (w : World), Rd w a L → RdT w b T → Calls Try.prog 40 #[.agg #[.slice a L.length ca, .slice b T.length cb]] w (RetSl w.heap.size V w) from fun a b ca cb w h1 h2 => by rw [hV]; exact specFixedOf_any a b ca cb L T w h1 h2)
      clear hV
      go_wp2_with (first
      | go_skip
      | (refine wpList_store_row rfl 26 _ _ rfl w1.heap.size #[.slice a L.length ca, .slice b T.length cb] rfl rfl _ _ (heap_alloc_new w1 (.cells #[.slice none 0 0, .slice none 0 0] 26)) (size_Alg _ _) rfl (one_sl2 _ _ _ _ _ _) ?_; rw [World.setRow_alloc_new]; rw [← hw2, ← hg]; clear hw2 hg)
      | (refine wpList_store_row rfl 26 _ _ rfl w1.heap.size #[.slice a L.length ca, .slice (some ⟨B, off, none⟩) T.length cb] rfl rfl _ _ (heap_alloc_new w1 (.cells #[.slice none 0 0, .slice none 0 0] 26)) (size_Alg _ _) rfl (one_sl2 _ _ _ _ _ _) ?_; rw [World.setRow_alloc_new]; rw [← hw2, ← hg]; clear hw2 hg)
      | (refine wpList_load_row_w rfl 26 _ rfl g rfl _ _ _ _ (KX.out _ z) Try.underlying26 rfl (size_Alg _ _) ?_)
      | (go_at_call 38; refine (HI.out _ _ _ _ _ (KR.out _ z) (KT.out _ z)).mono ?_; rintro e wz ⟨aT, cT, rfl, oT, hb⟩; replace z := z.trans (hb.mono z.size); (try clear c0 c1); have c0 := K0.out _ z; have c1 := K1.out _ z; (try replace q1 := Q1.out _ z); (try replace q2 := Q2.out _ z); (try replace hT := hT.below hb); (try replace hU := hU.below hb); have hT : Rd wz aT V := oT.rd; clear oT)
      | (go_at_call 40; refine (HP.out _ _ _ _ _ (KR.out _ z) (KT.out _ z)).mono ?_; rintro e wz ⟨aU, cU, rfl, oU, hb⟩; replace z := z.trans (hb.mono z.size); (try clear c0 c1); have c0 := K0.out _ z; have c1 := K1.out _ z; (try replace q1 := Q1.out _ z); (try replace q2 := Q2.out _ z); (try replace hT := hT.below hb); (try replace hU := hU.below hb); have hU : Rd wz aU V := oU.rd; clear oU)
      | (go_at_call 39; refine (equalInts_same _ _ _ _ V _ hT hU hM2).mono ?_; rintro e wz ⟨rfl, hd⟩; replace z := z.trans (hd.below _); (try clear c0 c1); have c0 := K0.out _ z; have c1 := K1.out _ z; (try replace q1 := Q1.out _ z); (try replace q2 := Q2.out _ z); (try replace hT := hd.rd hT); (try replace hU := hd.rd hU))
      | (go_at_call 16; refine (implValidAlgebra_any _ _ _ _ L T _ (KR.out _ z) (KT.out _ z)).mono ?_; rintro e wz ⟨rfl, hb⟩; replace z := z.trans (hb.mono z.size); (try clear c0 c1); have c0 := K0.out _ z; have c1 := K1.out _ z; (try replace q1 := Q1.out _ z); (try replace q2 := Q2.out _ z); (try replace hT := hT.below hb); (try replace hU := hU.below hb)))
      go_ret
      exact ⟨rfl, FIN.out _ z⟩
    | true =>
      obtain ⟨V, hV⟩ : ∃ V, V = algI L T (fixQ T) := ⟨_, rfl⟩
      have HI := Lib.hid (show ∀ (a b : Option Addr) (ca cb : Nat) (w : World), Rd w a L → RdT w b T → Calls Try.prog 38 #[.agg #[.slice a L.length ca, .slice b T.length cb]] w (RetSl w.heap.size V w) from fun a b ca cb w h1 h2 => by rw [hV]; exact implFixedOf_any a b ca cb L T w h1 h2)
      have HP := Lib.hid (show ∀ (a b : Option Addr) (ca cb : Nat) (w : World), Rd w a L → RdT w b T → Calls Try.prog 40 #[.agg #[.slice a L.length ca, .slice b T.length cb]] w (RetSl w.heap.size V w) from fun a b ca cb w h1 h2 => by rw [hV]; exact specFixedOf_any a b ca cb L T w h1 h2)
      replace hV : V = filtTo (fixQ T) (num L) := by rw [hV]; unfold algI; rw [ha]; rfl
      have l6 := (latB_parts (alg_lat ha)).2.1
      have l6' : (L.length : Int) ≤ 6 := l6
      have hM3 : V.length ≤ 64 := by rw [hV]; exact by have := filtTo_len (fixQ T) (num L); omega
      have hM2 : V.length ≤ 1073741824 := by omega
      have htl : (T.length : Int) = L.length := shape_len (alg_shape ha)
      obtain ⟨B, off, rfl, rb, ro, rc, htab⟩ := tab_of (KT.out _ z) (alg_shape ha) (by unfold num; omega)
      have KTA := Lib.hid (show ∀ wz, Below w2.heap.size w2 wz → TabAt wz B off (num L) L.length rb ro rc T from fun wz h => htab.below h)
      have HE := Lib.hid (show ∀ i : Int, 0 ≤ i → i < V.length → 0 ≤ nth V i ∧ nth V i < L.length from fun i i0 i1 => by
        have := nth_mem' V i0 i1
        rw [hV, filtTo_mem] at this
        exact ⟨by rw [hV]; exact this.1, by rw [hV]; exact this.2.1⟩)
      have HV := Lib.hid (show ∀ i k : Int, 0 ≤ i → i < V.length → 0 ≤ k → k < V.length → inL V (tv T (nth V i) (nth V k)) = true ∧ inL V (joinOfI L (nth V i) (nth V k)) = true from fun i k i0 i1 k0 k1 => by
        have h1 := nth_mem' V i0 i1
        have h2 := nth_mem' V k0 k1
        obtain ⟨x, hx⟩ : ∃ x, x = nth V i := ⟨_, rfl⟩
        obtain ⟨y, hy⟩ : ∃ y, y = nth V k := ⟨_, rfl⟩
        rw [← hx] at h1 ⊢
        rw [← hy] at h2 ⊢
        rw [hV, filtTo_mem] at h1 h2
        have e1 : El L x := ⟨h1.1, h1.2.1⟩
        have e2 : El L y := ⟨h2.1, h2.2.1⟩
        obtain ⟨m, j⟩ := fix_closed ha e1 e2 h1.2.2 h2.2.2
        rw [join_el (alg_lat ha) e1 e2, inL_iff, inL_iff, hV, filtTo_mem, filtTo_mem]
        exact ⟨⟨(tv_el ha e1 e2).1, (tv_el ha e1 e2).2, m⟩, ⟨(jn_el (alg_lat ha) e1 e2).1, (jn_el (alg_lat ha) e1 e2).2, j⟩⟩)
      have HW := Lib.hid (show ((V.length : Int) == (L.length : Int)) = hpB ⟨#[105, 100, 101, 109, 112, 111, 116, 101, 110, 116]⟩ L T by rw [hpB_3 ha, hV]; exact fix_all)
      have tl1 : T.length ≤ L.length := by omega
      have tl2 : L.length ≤ T.length := by omega
      clear htl htab l6 hV
      go_wp2_with (first
      | go_skip
      | (refine wpList_store_row rfl 26 _ _ rfl w1.heap.size #[.slice a L.length ca, .slice b T.length cb] rfl rfl _ _ (heap_alloc_new w1 (.cells #[.slice none 0 0, .slice none 0 0] 26)) (size_Alg _ _) rfl (one_sl2 _ _ _ _ _ _) ?_; rw [World.setRow_alloc_new]; rw [← hw2, ← hg]; clear hw2 hg)
      | (refine wpList_store_row rfl 26 _ _ rfl w1.heap.size #[.slice a L.length ca, .slice (some ⟨B, off, none⟩) T.length cb] rfl rfl _ _ (heap_alloc_new w1 (.cells #[.slice none 0 0, .slice none 0 0] 26)) (size_Alg _ _) rfl (one_sl2 _ _ _ _ _ _) ?_; rw [World.setRow_alloc_new]; rw [← hw2, ← hg]; clear hw2 hg)
      | (refine wpList_load_row_w rfl 26 _ rfl g rfl _ _ _ _ (KX.out _ z) Try.underlying26 rfl (size_Alg _ _) ?_)
      | (go_at_call 38; refine (HI.out _ _ _ _ _ (KR.out _ z) (KT.out _ z)).mono ?_; rintro e wz ⟨aT, cT, rfl, oT, hb⟩; replace z := z.trans (hb.mono z.size); (try clear c0 c1); have c0 := K0.out _ z; have c1 := K1.out _ z; (try replace q1 := Q1.out _ z); (try replace q2 := Q2.out _ z); (try replace hT := hT.below hb); (try replace hU := hU.below hb); have hT : Rd wz aT V := oT.rd; clear oT)
      | (go_at_call 40; refine (HP.out _ _ _ _ _ (KR.out _ z) (KT.out _ z)).mono ?_; rintro e wz ⟨aU, cU, rfl, oU, hb⟩; replace z := z.trans (hb.mono z.size); (try clear c0 c1); have c0 := K0.out _ z; have c1 := K1.out _ z; (try replace q1 := Q1.out _ z); (try replace q2 := Q2.out _ z); (try replace hT := hT.below hb); (try replace hU := hU.below hb); have hU : Rd wz aU V := oU.rd; clear oU)
      | (go_at_call 39; refine (equalInts_same _ _ _ _ V _ hT hU hM2).mono ?_; rintro e wz ⟨rfl, hd⟩; replace z := z.trans (hd.below _); (try clear c0 c1); have c0 := K0.out _ z; have c1 := K1.out _ z; (try replace q1 := Q1.out _ z); (try replace q2 := Q2.out _ z); (try replace hT := hd.rd hT); (try replace hU := hd.rd hU))
      | (go_at_call 16; refine (implValidAlgebra_any _ _ _ _ L T _ (KR.out _ z) (KT.out _ z)).mono ?_; rintro e wz ⟨rfl, hb⟩; replace z := z.trans (hb.mono z.size); (try clear c0 c1); have c0 := K0.out _ z; have c1 := K1.out _ z; (try replace q1 := Q1.out _ z); (try replace q2 := Q2.out _ z); (try replace hT := hT.below hb); (try replace hU := hU.below hb)))
      clear c0 c1 hU ha
      go_loopw [5, 6] (fun xv yv wr => ∃ i : Int, 0 ≤ i ∧ i ≤ V.length ∧ xv = .int .i64 i ∧ Below w2.heap.size w2 wr ∧ Rd wr aT V) (fun xv _ _ => ((V.length : Int) - intOf xv).toNat)
      case atStart => exact ⟨0, by omega, by omega, rfl, z, hT⟩
      case round =>
        obtain ⟨i, i0, i1, rfl, z, hT⟩ := hrel
        by_cases hi : i < V.length
        · go_wp2
          obtain ⟨wo, rfl⟩ : ∃ wo : World, wo = wr := ⟨_, rfl⟩
          go_loopw [6] (fun yv wr => ∃ k : Int, 0 ≤ k ∧ k ≤ V.length ∧ yv = .int .i64 k ∧ Below w2.heap.size w2 wr ∧ Rd wr aT V) (fun yv _ => ((V.length : Int) - intOf yv).toNat)
          case atStart => exact ⟨0, by omega, by omega, rfl, z, hT⟩
          case round =>
            obtain ⟨k, k0, k1, rfl, z, hT⟩ := hrel
            by_cases hk : k < V.length
            · obtain ⟨p0, p1⟩ := HE.out i i0 hi
              obtain ⟨s0, s1⟩ := HE.out k k0 hk
              obtain ⟨V1, V2⟩ := HV.out i k i0 hi k0 hk
              have pT : nth V i < T.length := by omega
              have hT' := hT
              obtain ⟨b2, o2, rfl, hc2⟩ := hT' (by intro e; rw [e] at hk; simp at hk; omega)
              have d1 := hc2.at i i0 hi
              have d2 := hc2.at k k0 hk
              clear hc2
              have DD := Lib.hid d1
              have DE := Lib.hid d2
              clear d1 d2
              go_wp2
              refine region_in (Below wr.heap.size wr) (by kernel_rfl) (by kernel_rfl) (Dr.below ⟨1, rfl⟩ _) fun hne => ?_
              have r0 : ∀ s : In (Below wr.heap.size wr), s.w.cell? ⟨g, 0, none⟩ = some (.slice a L.length ca) := fun s => K0.out _ (in_trans z s)
              have r1 : ∀ s : In (Below wr.heap.size wr), s.w.cell? ⟨g, 1, none⟩ = some (.slice (some ⟨B, off, none⟩) T.length cb) := fun s => K1.out _ (in_trans z s)
              have r2 : ∀ s : In (Below wr.heap.size wr), s.w.cell? ⟨B, off + (nth V i).toNat, none⟩ = some (.slice (some ⟨rb (nth V i), ro (nth V i), none⟩) L.length (rc (nth V i))) := fun s => (KTA.out _ (in_trans z s)).row p0 p1
              have r3 : ∀ s : In (Below wr.heap.size wr), s.w.cell? ⟨rb (nth V i), ro (nth V i) + (nth V k).toNat, none⟩ = some (.int .i64 (tv T (nth V i) (nth V k))) := fun s => (KTA.out _ (in_trans z s)).cell p0 p1 s0 s1
              have r4 : ∀ s : In (Below wr.heap.size wr), s.w.cell? ⟨b2, o2 + i.toNat, none⟩ = some (.int .i64 (nth V i)) := fun s => by rw [s.h.cell (by exact block_lt_of_cell DD.out)]; exact DD.out
              have r5 : ∀ s : In (Below wr.heap.size wr), s.w.cell? ⟨b2, o2 + k.toNat, none⟩ = some (.int .i64 (nth V k)) := fun s => by rw [s.h.cell (by exact block_lt_of_cell DE.out)]; exact DE.out
              repeat (first
                | go_big_quiet_step ((first | (go_at_call 41; exact in_below _ (Nat.le_refl _) (dr_to (lawIsIn_any _ _ V _ _ (hT.below (In.h _)) hM2))) | (go_at_call 42; exact in_below _ (Nat.le_refl _) (implJoinOf_any _ _ L _ _ _ (KR.out _ (in_trans z _)))))))
              refine wpQuiet_nil ?_
              intro s
              have z4 := in_trans z s
              have hs7 := s.h
              obtain ⟨w7, hw7⟩ : ∃ x : World, x = s.w := ⟨_, rfl⟩
              rw [← hw7] at z4 hs7 ⊢
              clear hw7
              clear r0 r1 r2 r3 r4 r5
              have hT4 := hT.below (show Below wr.heap.size wr w7 from hs7)
              go_wp2
              go_roundw
              case rel => exact ⟨k + 1, by omega, by omega, rfl, z4, hT4⟩
              case measure => simp [intOf]; omega
            · go_wp2
              go_roundw
              case rel => exact ⟨i + 1, by omega, by omega, rfl, z, hT⟩
              case measure => simp [intOf]; omega
        · go_wp2
          refine region_in (Below wr.heap.size wr) (by kernel_rfl) (by kernel_rfl) (Dr.below ⟨1, rfl⟩ _) fun hne => ?_
          have r0 : ∀ s : In (Below wr.heap.size wr), s.w.cell? ⟨g, 0, none⟩ = some (.slice a L.length ca) := fun s => K0.out _ (in_trans z s)
          repeat (first
            | (go_big_quiet_want; refine quiet_load_row 26 _ rfl g rfl _ _ _ _ (fun w' ⟨s, hs⟩ => by rw [hs]; exact KX.out _ (in_trans z s)) Try.underlying26 rfl (size_Alg _ _) ?_; simp only [Act.put, List.setIfInBounds_toArray, List.set_cons_succ, List.set_cons_zero]; go_big_quiet_on)
            | go_big_quiet_step ((first | (go_at_call 34; exact in_below _ (Nat.le_refl _) (implHasProperty_any _ _ _ _ _ L T _ (KR.out _ (in_trans z _)) (KT.out _ (in_trans z _)))))))
          refine wpQuiet_nil ?_
          intro s
          have z4 := in_trans z s
          have hs7 := s.h
          obtain ⟨w7, hw7⟩ : ∃ x : World, x = s.w := ⟨_, rfl⟩
          rw [← hw7] at z4 hs7 ⊢
          clear hw7
          clear r0
          go_wp2
          go_ret
          exact ⟨ret_bool (by rw [← HW.out]; simp), FIN.out _ z4⟩
end Go.Proofs.Ytbellklaoecpbaa
