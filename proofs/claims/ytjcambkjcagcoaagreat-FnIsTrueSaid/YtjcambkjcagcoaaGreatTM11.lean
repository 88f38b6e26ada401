import Derived.Test.YtjcambkjcagcoaaGreatTM10
import Derived.Test.YtjcambkjcagcoaaGreatH10
namespace Go.Proofs.YtjcambkjcagcoaaGreat
open Go.RowKit
set_option linter.unusedVariables false

theorem results_alg_tmp2 {fn : Func} {p u u' : Tmp} (h : fn.results = #[.cell p 63, .tmp u, .tmp u']) (tmps : Array Value) (w : World) (g : Nat) (hp : tmps.getD p undef = .pointer (some ⟨g, 0, none⟩))
    (arr : Array Value) {v v' : Value} (hz : arr.size = 181) (hg : w.heap[g]? = some (.cells arr 63 (0, 0))) (hu : tmps.getD u undef = v) (hu2 : tmps.getD u' undef = v') :
    (results fn tmps).run Tryz.prog w = .ok (.tuple #[.agg arr, v, v']) w := by
  have hp' : tmps[p]?.getD undef = .pointer (some ⟨g, 0, none⟩) := by simpa using hp
  have hu' : tmps[u]?.getD undef = v := by simpa using hu
  have hu2' : tmps[u']?.getD undef = v' := by simpa using hu2
  have hl := run_loadVar_row (P := Tryz.prog) w g _ 63 _ _ _ hg Tryz.underlying63 rfl (by rw [hz]; exact info_alg)
  simp [results, h, hp', hu', hu2', asAddr, hl]
theorem info_node : (Tryz.prog.info? 89).map (fun i => (i.zero, i.size, i.bytes)) = some (some .nilIface, 1, 16) := by kernel_rfl
theorem run_make_nodes (n : Nat) (hn : n ≤ 1073741824) (w : World) :
    (Instr.makeSlice 83 (.int .i64 n) (.int .i64 n)).run Tryz.prog w = .ok (.slice (some ⟨w.heap.size, 0, none⟩) n n) (w.alloc (.cells (Array.replicate n Value.nilIface) 89)) := by
  obtain ⟨i0, hi, hz0, hz1, hz2⟩ := info_parts info_node
  have := run_make (P := Tryz.prog) w 83 89 i0 .nilIface Tryz.underlying83 hi hz0 .i64 .i64 n n (by omega) (Int.le_refl _) (by rw [hz2]; omega) (by omega)
  rw [this, hz1]
  have e : madeCells #[Value.nilIface] n = Array.replicate n Value.nilIface := by
    apply Array.ext
    · simp [madeCells]
    · intro i h1 h2
      simp [madeCells, Nat.mod_one]
  simp [Value.cells, e]
/-- the terms that are asked, in the caller's cells -/
def TmCells (w : World) (tb : Nat) (Ts : List (List Int)) : Prop := ∀ j : Nat, j < Ts.length → ∃ a c, w.cell? ⟨tb, j, none⟩ = some (.slice a (rowAt Ts j).length c) ∧ Rd w a (rowAt Ts j) ∧ (rowAt Ts j).length ≤ c ∧ (rowAt Ts j).length ≤ 1048576
theorem TmCells.below {w w' : World} {tb : Nat} {Ts : List (List Int)} (h : TmCells w tb Ts) (hb : Below w.heap.size w w') : TmCells w' tb Ts := fun j hj => by
  obtain ⟨a, c, h1, h2, h3, h4⟩ := h j hj
  exact ⟨a, c, by rw [hb.cell (by exact block_lt_of_cell h1)]; exact h1, h2.below hb, h3, h4⟩
/-- the nodes of the first terms, nothing behind them -/
def ndL (Ts : List (List Int)) (k : Nat) : List Value := (Ts.take k).map (fun t => tmV t.length t) ++ List.replicate (Ts.length - k) Value.nilIface
theorem ndL_zero (Ts : List (List Int)) : ndL Ts 0 = List.replicate Ts.length Value.nilIface := by simp [ndL]
theorem ndL_all (Ts : List (List Int)) : ndL Ts Ts.length = Ts.map fun t => tmV t.length t := by simp [ndL]
theorem ndL_len (Ts : List (List Int)) {k : Nat} (h : k ≤ Ts.length) : (ndL Ts k).length = Ts.length := by simp [ndL]; omega
theorem ndL_set (Ts : List (List Int)) {k : Nat} (h : k < Ts.length) : (ndL Ts k).set k (tmV (rowAt Ts k).length (rowAt Ts k)) = ndL Ts (k + 1) := by
  have e : rowAt Ts k = Ts[k] := by unfold rowAt; simp [h]
  unfold ndL
  rw [List.set_append_right (h := by simp; omega), List.take_add_one, List.map_append, List.append_assoc, List.getElem?_eq_getElem h, e]
  congr 1
  rw [show k - (List.map (fun t => tmV t.length t) (List.take k Ts)).length = 0 by simp; omega, show Ts.length - k = (Ts.length - (k + 1)) + 1 by omega, List.replicate_succ]
  rfl
theorem ndL_at (Ts : List (List Int)) {k : Nat} (h : k < Ts.length) : (ndL Ts k)[k]? = some Value.nilIface := by
  unfold ndL
  have e : (List.map (fun t => tmV t.length t) (List.take k Ts)).length = k := by simp; omega
  rw [List.getElem?_append_right (by omega), e, Nat.sub_self, show Ts.length - k = (Ts.length - (k + 1)) + 1 by omega, List.replicate_succ]
  rfl
/-- block b holds nodes -/
def NdAt (w : World) (b : Nat) (V : List Value) : Prop := w.heap[b]? = some (.cells V.toArray 89 (0, 0))
theorem NdAt.lt {w : World} {b : Nat} {V : List Value} (h : NdAt w b V) : b < w.heap.size := lt_of_block h
theorem NdAt.below {w w' : World} {b : Nat} {V : List Value} (h : NdAt w b V) {C : Nat} (hb : Below C w w') (hB : b < C) : NdAt w' b V := by unfold NdAt; rw [hb.block b hB]; exact h
theorem NdAt.cell {w : World} {b : Nat} {V : List Value} (h : NdAt w b V) {k : Nat} {v : Value} (hk : V[k]? = some v) : w.cell? ⟨b, k, none⟩ = some v := by rw [cell_of_row w b k _ _ _ h, List.getElem?_toArray]; exact hk
theorem NdAt.set {w : World} {b : Nat} {V : List Value} (h : NdAt w b V) (k : Nat) (v : Value) : NdAt (w.setCell ⟨b, k, none⟩ v) b (V.set k v) := by
  unfold NdAt
  rw [setCell_eq_setRow w b _ _ _ _ _ h, List.setIfInBounds_toArray]
  exact setRow_heap w b _ _ _ _ h
/-- an algebra and terms are read -/
def RetAT (L : List Int) (T : List (List Int)) (Ts : List (List Int)) (w : World) (e : Ending) (w' : World) : Prop :=
  (algB L T = true ∧ (∀ j : Nat, j < Ts.length → vtB (rowAt Ts j) = true) ∧ ∃ nb, e = .returned (.tuple #[.agg (algOf L T), .slice (some ⟨nb, 0, none⟩) Ts.length Ts.length, .bool true]) ∧ w.heap.size ≤ nb ∧ NdAt w' nb (Ts.map fun t => tmV t.length t) ∧ Below w.heap.size w w') ∨
  (¬ (algB L T = true ∧ ∀ j : Nat, j < Ts.length → vtB (rowAt Ts j) = true) ∧ e = .returned (.tuple #[.agg zeroAlg, .slice none 0 0, .bool false]) ∧ Below w.heap.size w w')
set_option maxRecDepth 100000 in
set_option maxHeartbeats 4000000 in
theorem readAT_no (a b : Option Addr) (ca cb : Nat) (L : List Int) (T : List (List Int)) (tb tc : Nat) (Ts : List (List Int)) (w : World) (hr : Rd w a L) (hT : RdT w b T) (hA : algB L T = false) :
    Calls Tryz.prog 63 #[.agg #[.slice a L.length ca, .slice b T.length cb], .slice (some ⟨tb, 0, none⟩) Ts.length tc] w (RetAT L T Ts w) := by
  obtain ⟨w1, hw1⟩ : ∃ w1, w1 = ((w.alloc (.cells #[.slice a L.length ca, .slice b T.length cb] 26)).alloc (.cells Tryz.zeroCells63 63)) := ⟨_, rfl⟩
  have hB1 : Below w.heap.size w w1 := by rw [hw1]; exact ((Below.refl _ _).alloc (Nat.le_refl _) _).alloc (by simp) _
  have hz1 : w1.heap[w.heap.size + 1]? = some (.cells zeroAlg 63 (0, 0)) := by rw [hw1]; exact heap_alloc2_new _ _ _
  have hx1 : w1.heap[w.heap.size]? = some (.cells #[.slice a L.length ca, .slice b T.length cb] 26 (0, 0)) := by rw [hw1, Below.heap_alloc _ _ _ (by simp)]; exact heap_alloc_new w _
  have KX := Lib.hid (show ∀ wz, Below w1.heap.size w1 wz → wz.heap[w.heap.size]? = some (.cells #[.slice a L.length ca, .slice b T.length cb] 26 (0, 0)) from fun wz h => (h.block _ (lt_of_block hx1)).trans hx1)
  have KZ := Lib.hid (show ∀ wz, Below w1.heap.size w1 wz → wz.heap[w.heap.size + 1]? = some (.cells zeroAlg 63 (0, 0)) from fun wz h => (h.block _ (lt_of_block hz1)).trans hz1)
  have KL := Lib.hid (show ∀ wz, Below w1.heap.size w1 wz → Rd wz a L from fun wz h => (hr.below hB1).below h)
  have KT := Lib.hid (show ∀ wz, Below w1.heap.size w1 wz → RdT wz b T from fun wz h => (hT.below hB1).below h)
  have z : Below w1.heap.size w1 w1 := Below.refl _ _
  have ls1 := lt_of_block hz1
  have HA := Lib.hid hA
  clear hr hT hx1 hA
  go_enter Tryz.func63, Tryz.ntmps63
  go_wp2_with (first
    | go_skip
    | (rw [← hw1]; clear hw1)
    | (refine wpList_load_row_w rfl 26 _ rfl w.heap.size rfl _ _ _ _ (KX.out _ (by assumption)) Tryz.underlying26 rfl (size_Alg _ _) ?_)
    | (go_at_call 43; refine (readAlgebra_no a b ca cb L T _ (KL.out _ z) (KT.out _ z) HA.out).mono ?_; rintro e w2 ⟨rfl, h2⟩; replace z := z.trans (h2.mono z.size); clear h2)
    | (refine wpList_store_row rfl 63 _ _ rfl w2.heap.size zeroAlg rfl rfl _ _ (heap_alloc_new w2 (.cells zeroAlg 63)) size_zeroAlg rfl one_zeroAlg ?_; rw [World.setRow_alloc_new]; obtain ⟨bl, hbl⟩ : ∃ bl, bl = w2.heap.size := ⟨_, rfl⟩; obtain ⟨w3, hw3⟩ : ∃ w3, w3 = w2.alloc (.cells zeroAlg 63) := ⟨_, rfl⟩; rw [← hw3, ← hbl]; replace z : Below w1.heap.size w1 w3 := (by rw [hw3]; exact z.alloc z.size _); clear hw3 hbl)
    | (refine wpList_store_row rfl 63 _ _ rfl (w.heap.size + 1) zeroAlg rfl rfl _ _ (KZ.out _ z) size_zeroAlg rfl one_zeroAlg ?_))
  refine bodyPost_ret (v := .tuple #[.agg zeroAlg, .slice none 0 0, .bool false]) (results_alg_tmp2 rfl _ _ (w.heap.size + 1) rfl _ (algA_size _ _ _ _ _ _) (setRow_heap _ _ _ _ _ _ (KZ.out _ z)) rfl rfl) rfl ?_
  exact .inr ⟨fun h => (by rw [HA.out] at h; cases h.1), rfl, below_setRow' (hB1.trans (z.mono hB1.size)) (by omega) _⟩
set_option maxRecDepth 100000 in
set_option maxHeartbeats 8000000 in
theorem readAT_alg (a b : Option Addr) (ca cb : Nat) (L : List Int) (T : List (List Int)) (tb tc : Nat) (Ts : List (List Int)) (w : World) (hr : Rd w a L) (hT : RdT w b T) (ht : TmCells w tb Ts) (hn : Ts.length ≤ 16) (hA : algB L T = true) :
    Calls Tryz.prog 63 #[.agg #[.slice a L.length ca, .slice b T.length cb], .slice (some ⟨tb, 0, none⟩) Ts.length tc] w (RetAT L T Ts w) := by
  have hmk := run_make_nodes Ts.length (by omega)
  obtain ⟨w1, hw1⟩ : ∃ w1, w1 = ((w.alloc (.cells #[.slice a L.length ca, .slice b T.length cb] 26)).alloc (.cells Tryz.zeroCells63 63)) := ⟨_, rfl⟩
  have hB1 : Below w.heap.size w w1 := by rw [hw1]; exact ((Below.refl _ _).alloc (Nat.le_refl _) _).alloc (by simp) _
  have hz1 : w1.heap[w.heap.size + 1]? = some (.cells zeroAlg 63 (0, 0)) := by rw [hw1]; exact heap_alloc2_new _ _ _
  have hx1 : w1.heap[w.heap.size]? = some (.cells #[.slice a L.length ca, .slice b T.length cb] 26 (0, 0)) := by rw [hw1, Below.heap_alloc _ _ _ (by simp)]; exact heap_alloc_new w _
  have KX := Lib.hid (show ∀ wz, Below w1.heap.size w1 wz → wz.heap[w.heap.size]? = some (.cells #[.slice a L.length ca, .slice b T.length cb] 26 (0, 0)) from fun wz h => (h.block _ (lt_of_block hx1)).trans hx1)
  have KZ := Lib.hid (show ∀ wz, Below w1.heap.size w1 wz → wz.heap[w.heap.size + 1]? = some (.cells zeroAlg 63 (0, 0)) from fun wz h => (h.block _ (lt_of_block hz1)).trans hz1)
  have KL := Lib.hid (show ∀ wz, Below w1.heap.size w1 wz → Rd wz a L from fun wz h => (hr.below hB1).below h)
  have KT := Lib.hid (show ∀ wz, Below w1.heap.size w1 wz → RdT wz b T from fun wz h => (hT.below hB1).below h)
  have z : Below w1.heap.size w1 w1 := Below.refl _ _
  have ls1 := lt_of_block hz1
  have Kt := Lib.hid (show ∀ wz, Below w1.heap.size w1 wz → TmCells wz tb Ts from fun wz h => (ht.below hB1).below h)
  have HA := Lib.hid hA
  clear hr hT hx1 hA ht
  go_enter Tryz.func63, Tryz.ntmps63
  go_wp2_with (first
    | go_skip
    | (rw [← hw1]; clear hw1)
    | (refine wpList_load_row_w rfl 26 _ rfl w.heap.size rfl _ _ _ _ (KX.out _ (by assumption)) Tryz.underlying26 rfl (size_Alg _ _) ?_)
    | (go_at_call 43; refine (readAlgebra_yes a b ca cb L T _ (KL.out _ z) (KT.out _ z) HA.out).mono ?_; rintro e w2 ⟨rfl, h2⟩; replace z := z.trans (h2.mono z.size); clear h2)
    | (refine wpList_store_row rfl 63 _ _ rfl w2.heap.size (algOf L T) rfl rfl _ _ (heap_alloc_new w2 (.cells zeroAlg 63)) (size_alg _ _ _ _ _ _) rfl (one_alg _ _ _ _ _ _) ?_; rw [World.setRow_alloc_new]; obtain ⟨bl, hbl⟩ : ∃ bl, bl = w2.heap.size := ⟨_, rfl⟩; obtain ⟨w3, hw3⟩ : ∃ w3, w3 = w2.alloc (.cells (algOf L T) 63) := ⟨_, rfl⟩; rw [← hw3, ← hbl]; have hAl : AlgAt w3 bl L T := (by rw [hw3, hbl]; exact AlgAt.new w2 L T); replace z : Below w1.heap.size w1 w3 := (by rw [hw3]; exact z.alloc z.size _); clear hw3 hbl))
  clear hmk
  obtain ⟨bt, hbt⟩ : ∃ bt, bt = w3.heap.size := ⟨_, rfl⟩
  obtain ⟨wo, hwo⟩ : ∃ wo, wo = w3.alloc (.cells (Array.replicate Ts.length Value.nilIface) 89) := ⟨_, rfl⟩
  rw [← hwo, ← hbt]
  have hN : NdAt wo bt (ndL Ts 0) := by rw [hwo, hbt, ndL_zero, ← List.toArray_replicate]; exact heap_alloc_new w3 _
  have hAo : AlgAt wo bl L T := by rw [hwo]; unfold AlgAt; rw [Below.heap_alloc _ _ _ hAl.lt]; exact hAl
  have zo : Below w1.heap.size w1 wo := by rw [hwo]; exact z.alloc z.size _
  have hlt : bl < bt := by rw [hbt]; exact hAl.lt
  have hb1 : w1.heap.size ≤ bt := by rw [hbt]; exact z.size
  clear hwo hbt hAl z
  go_loopw [27, 10, 11] (fun c _ _ wr => ∃ k : Int, 0 ≤ k ∧ k ≤ Ts.length ∧ c = .int .i64 k ∧ NdAt wr bt (ndL Ts k.toNat) ∧ (∀ j : Nat, j < k.toNat → vtB (rowAt Ts j) = true) ∧ AlgAt wr bl L T ∧ Below w1.heap.size w1 wr) (fun c _ _ _ => ((Ts.length : Int) - intOf c).toNat)
  case atStart => exact ⟨0, by omega, by omega, rfl, hN, fun j hj => absurd hj (by simp), hAo, zo⟩
  case round =>
    clear hN hAo zo
    obtain ⟨k, k0, k1, rfl, hN, hv, hAr, z⟩ := hrel
    have HV := Lib.hid hv
    clear hv
    by_cases hk : k < Ts.length
    · have hkn : k.toNat < Ts.length := by omega
      obtain ⟨ta, c, c0, r0, l0, m0⟩ := (Kt.out _ z) k.toNat hkn
      have hset := Lib.hid (ndL_set Ts hkn)
      have hcell := hN.cell (k := k.toNat) (v := Value.nilIface) (ndL_at Ts hkn)
      have hfree := frozen_of_row wr bt k.toNat _ _ hN
      obtain ⟨t, ht⟩ : ∃ t, t = rowAt Ts k.toNat := ⟨_, rfl⟩
      rw [← ht] at c0 r0 l0 m0 hset
      have HT := Lib.hid ht
      have HC := Lib.hid (readTerm_any ta c t wr r0 l0 m0)
      clear ht r0 l0 m0
      go_wp2_with fail
      refine HC.out.mono ?_
      rintro e w5 (⟨hvt, rfl, hd⟩ | ⟨hvt, rfl, hd⟩)
      · have hd' := hd.below wr.heap.size
        have z5 := z.trans (hd'.mono z.size)
        have hN5 := hN.below hd' hN.lt
        have hA5 := hAr.below hd' hAr.lt
        have c5 : w5.cell? ⟨bt, k.toNat, none⟩ = some .nilIface := by rw [hd'.cell (by exact hN.lt)]; exact hcell
        have f5 := frozen_of_row w5 bt k.toNat _ _ hN5
        obtain ⟨T1, y1, e1⟩ := tmV_if (vtB_parts hvt).2
        rw [e1] at hset ⊢
        have HVT := Lib.hid hvt
        clear hvt hd hcell hfree e1 c0
        go_wp2_with go_skip
        go_roundw
        case rel =>
          refine ⟨k + 1, by omega, by omega, rfl, ?_, fun j hj => ?_, ?_, z5.setCell (by exact hb1) _⟩
          · rw [show (k + 1).toNat = k.toNat + 1 by omega, ← hset.out]; exact hN5.set _ _
          · by_cases e : j = k.toNat
            · rw [e, ← HT.out]; exact HVT.out
            · exact HV.out j (by omega)
          · exact (heap_setCell_other w5 _ _ _ (by exact Nat.ne_of_lt hlt)).trans hA5
        case measure => simp [intOf]; omega
      · have z5 := z.trans (hd.below w1.heap.size)
        have HVT := Lib.hid hvt
        have hkz := KZ.out _ z5
        clear hvt hd hcell hfree c0
        go_wp2_with (first
          | go_skip
          | (refine wpList_store_row rfl 63 _ _ rfl (w.heap.size + 1) zeroAlg rfl rfl _ _ hkz size_zeroAlg rfl one_zeroAlg ?_))
        refine bodyPost_ret (v := .tuple #[.agg zeroAlg, .slice none 0 0, .bool false]) (results_alg_tmp2 rfl _ _ (w.heap.size + 1) rfl _ (algA_size _ _ _ _ _ _) (setRow_heap _ _ _ _ _ _ hkz) rfl rfl) rfl ?_
        exact .inr ⟨fun h => (by have := h.2 k.toNat hkn; rw [← HT.out, HVT.out] at this; cases this), rfl, below_setRow' (hB1.trans (z5.mono hB1.size)) (by omega) _⟩
    · have ek : k.toNat = Ts.length := by omega
      rw [ek, ndL_all] at hN
      have hvv := Lib.hid (show ∀ j : Nat, j < Ts.length → vtB (rowAt Ts j) = true from fun j hj => HV.out j (by omega))
      have hkz := KZ.out _ z
      clear ek
      go_wp2_with (first
        | go_skip
        | (refine wpList_load_row_w rfl 63 _ rfl bl rfl _ _ _ _ hAr Tryz.underlying63 rfl (size_alg _ _ _ _ _ _) ?_)
        | (refine wpList_store_row rfl 63 _ _ rfl (w.heap.size + 1) (algOf L T) rfl rfl _ _ hkz (size_alg _ _ _ _ _ _) rfl (one_alg _ _ _ _ _ _) ?_))
      refine bodyPost_ret (v := .tuple #[.agg (algOf L T), .slice (some ⟨bt, 0, none⟩) Ts.length Ts.length, .bool true]) (results_alg_tmp2 rfl _ _ (w.heap.size + 1) rfl _ (algA_size _ _ _ _ _ _) (setRow_heap _ _ _ _ _ _ hkz) rfl rfl) rfl ?_
      have hs := hB1.size
      refine .inl ⟨HA.out, hvv.out, bt, rfl, by omega, ?_, below_setRow' (hB1.trans (z.mono hB1.size)) (by omega) _⟩
      unfold NdAt
      rw [setRow_other _ _ _ _ (by omega)]
      exact hN
/-- impl.readAlgebraWithTerms -/
theorem readAT_any (a b : Option Addr) (ca cb : Nat) (L : List Int) (T : List (List Int)) (tb tc : Nat) (Ts : List (List Int)) (w : World) (hr : Rd w a L) (hT : RdT w b T) (ht : TmCells w tb Ts) (hn : Ts.length ≤ 16) :
    Calls Tryz.prog 63 #[.agg #[.slice a L.length ca, .slice b T.length cb], .slice (some ⟨tb, 0, none⟩) Ts.length tc] w (RetAT L T Ts w) := by
  cases h : algB L T with
  | false => exact readAT_no a b ca cb L T tb tc Ts w hr hT h
  | true => exact readAT_alg a b ca cb L T tb tc Ts w hr hT ht hn h
end Go.Proofs.YtjcambkjcagcoaaGreat
