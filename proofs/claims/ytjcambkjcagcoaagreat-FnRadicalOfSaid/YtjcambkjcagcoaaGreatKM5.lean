import Derived.Test.YtjcambkjcagcoaaGreatKM4
import Derived.Test.YtjcambkjcagcoaaGreatN7
import Derived.RangeFuncNested
import Derived.RangeFuncBound
import Derived.RangeFuncCalls
import Derived.RangeFuncBox
import Derived.RangeFuncLeaves
namespace Go.Proofs.YtjcambkjcagcoaaGreat
open Go.RowKit Go.Shelf Go.Maps
set_option linter.unusedVariables false

attribute [local go_sem] Oper.semAt_some
theorem grs_asc {L : List Int} {T : List (List Int)} : Asc (grs L T) := by
  have h := (asc_nodup (filtTo_ascI (filB L T) (k := pw (num L)) (by have := pw_pos (num L); omega)))
  have ha : Asc (fls L T) := filtTo_ascI _ (by have := pw_pos (num L); omega)
  have hp : (fls L T).Pairwise (· < ·) := by
    rw [List.pairwise_iff_getElem]
    intro i j hi hj hij
    have := asc_lt ha (a := i) (b := j) (by omega) (by omega) (by omega)
    unfold nth at this
    rw [List.getD_eq_getElem?_getD, List.getD_eq_getElem?_getD, Int.toNat_natCast, Int.toNat_natCast, List.getElem?_eq_getElem hi, List.getElem?_eq_getElem hj] at this
    simpa using this
  have hg : (grs L T).Pairwise (· < ·) := hp.sublist List.filter_sublist
  intro i i1 i2
  rw [List.pairwise_iff_getElem] at hg
  have := hg (i - 1).toNat i.toNat (by omega) (by omega) (by omega)
  unfold nth
  rw [List.getD_eq_getElem?_getD, List.getD_eq_getElem?_getD, List.getElem?_eq_getElem (show (i - 1).toNat < (grs L T).length by omega), List.getElem?_eq_getElem (show i.toNat < (grs L T).length by omega)]
  simpa using this
/-- what lies round the loop of greatestFilters -/
structure FG (L : List Int) (T : List (List Int)) (b : Nat) (w W : World) : Prop where
  bel : Below w.heap.size w W
  box : W.heap[b + 1]? = some (.cells #[.map (some b)] 128 (0, 0))
  alg : AlgAt W (b + 1 + 1) L T
/-- the map under way -/
def MapUp (b : Nat) (pre : List Int) (W : World) : Prop := ∃ (D : DataW Unit) (n : Nat), KeysAt W b n D (fun x => x ∈ pre ∧ ib x 0 = false) ∧ n ≤ pre.length
theorem fg_own {L : List Int} {T : List (List Int)} {b : Nat} {w : World} {B : Nat} (hB : b + 1 + 1 + 1 ≤ B) (hw : w.heap.size ≤ b) : OwnFrom B (fun (pre : List (Fl L T)) W => MapUp b (vals pre) W ∧ FG L T b w W) := by
  rintro s W W' row ⟨⟨D, n, hK, hn⟩, hs⟩ hg hr
  have ne : ∀ k, k < B → some k ≠ row := fun k hk e => by have := (hr k e.symm).1; omega
  exact ⟨⟨D, n, ⟨hK.1.kept hg (ne _ (by omega)), hK.2⟩, hn⟩, hs.bel.grown hg hs.bel.size (fun k e => by have := (hr k e).1; omega), (hg.block _ (lt_of_block hs.box) (ne _ (by omega))).trans hs.box, hs.alg.kept hg (ne _ (by omega))⟩
theorem mapUp_in {b : Nat} {pre : List Int} {x : Int} {W' : World} {D : DataW Unit} {n : Nat} (hD : ∀ x : Int, (Lit.int .i64 x).wf = true → (Maps.has D (.int .i64 x) = true ↔ x ∈ pre ∧ ib x 0 = false)) (hm : IsMap D) (hq : ib x 0 = false) (hn : n ≤ pre.length)
    (hown : W'.ownsMap Tryz.prog 3 (plainElem Tryz.prog 4) b (n + 1) (D.put (.int .i64 x) (.lit (.bool true)))) : MapUp b (pre ++ [x]) W' := by
  refine ⟨_, _, ⟨hown, fun z hz => ?_⟩, by rw [List.length_append]; simp; omega⟩
  show _ ↔ z ∈ pre ++ [x] ∧ ib z 0 = false
  rw [List.mem_append, List.mem_singleton]
  by_cases e : z = x
  · subst e
    rw [has_put_same (k := Lit.int .i64 z) hm trivial]
    simp [hq]
  · rw [has_put_other (fun h => e (by injection h)), hD z hz]
    simp [e]
theorem mapUp_out {b : Nat} {pre : List Int} {x : Int} {W : World} (h : MapUp b pre W) (hq : ib x 0 = true) : MapUp b (pre ++ [x]) W := by
  obtain ⟨D, n, hK, hn⟩ := h
  refine ⟨D, n, ⟨hK.1, fun z hz => ?_⟩, by rw [List.length_append]; omega⟩
  show _ ↔ z ∈ pre ++ [x] ∧ ib z 0 = false
  rw [hK.2 z hz]
  show z ∈ pre ∧ ib z 0 = false ↔ _
  rw [List.mem_append, List.mem_singleton]
  by_cases e : z = x
  · subst e; rw [hq]; simp
  · simp [e]
theorem lt_of_block_any {w : World} {k : Nat} {o : Obj} (h : w.heap[k]? = some o) : k < w.heap.size := (Array.getElem?_eq_some_iff.1 h).1
theorem own_isMap {w : World} {b n : Nat} {D : DataW Unit} {R : Value → Option (DataW Unit × List MemPlace)} {k : TypeId} {P : Program} (h : w.ownsMap P k R b n D) : IsMap D := by
  obtain ⟨es, clock, hb, F, hs, rfl⟩ := h
  exact ⟨_, rfl⟩
set_option maxHeartbeats 400000 in
/-- maps.Keys -/
theorem keysM_any (b : Nat) (w : World) :
    Calls Tryz.prog 131 #[.map (some b)] w fun e w' => e = .returned (.func (.func 164) #[] #[.pointer (some ⟨w.heap.size, 0, none⟩)]) ∧ w' = w.alloc (.cells #[.map (some b)] 128) := by
  go_enter Tryz.func131, Tryz.ntmps131
  go_wp2
  go_ret
  exact ⟨rfl, rfl⟩
set_option maxRecDepth 100000 in
set_option maxHeartbeats 4000000 in
/-- impl.algebra.greatestFilters -/
theorem greatestFilters_any (L : List Int) (T : List (List Int)) (w : World) (h : algB L T = true) :
    Calls Tryz.prog 75 #[.agg (algOf L T)] w (RetSl w.heap.size (grs L T) w) := by
  have n6 := (lat_len (alg_lat h)).2
  obtain ⟨b, hb⟩ : ∃ b, b = w.heap.size + 1 := ⟨_, rfl⟩
  obtain ⟨w3, hw3⟩ : ∃ w3, w3 = ((w.alloc (.cells (algOf L T) 63)).alloc (.map #[] 0)).alloc (.cells #[.map (some (w.heap.size + 1))] 128) := ⟨_, rfl⟩
  have z3 : w3.heap.size = w.heap.size + 1 + 1 + 1 := by rw [hw3]; simp
  have B3 : Below w.heap.size w w3 := by rw [hw3]; exact (((Below.refl _ _).alloc (Nat.le_refl _) _).alloc (by simp) _).alloc (by simp; omega) _
  have A3 : AlgAt w3 w.heap.size L T := by rw [hw3]; exact ((AlgAt.new w L T).alloc _).alloc _
  have X3 : w3.heap[w.heap.size + 1 + 1]? = some (.cells #[.map (some (w.heap.size + 1))] 128 (0, 0)) := by
    rw [hw3]
    have := heap_alloc_new ((w.alloc (.cells (algOf L T) 63)).alloc (.map #[] 0)) (.cells #[.map (some (w.heap.size + 1))] 128)
    simpa using this
  have M3 : w3.ownsMap Tryz.prog 3 (plainElem (H := Unit) Tryz.prog 4) (w.heap.size + 1) 0 (.map []) := by
    rw [hw3]
    have := World.ownsMap_made (H := Unit) (w.alloc (.cells (algOf L T) 63)) Tryz.prog 3 (plainElem Tryz.prog 4)
    rw [show (w.alloc (.cells (algOf L T) 63)).heap.size = w.heap.size + 1 by simp] at this
    exact this.alloc _
  obtain ⟨w4, hw4⟩ : ∃ w4, w4 = w3.alloc (.cells (algOf L T) 63) := ⟨_, rfl⟩
  have z4 : w4.heap.size = w.heap.size + 1 + 1 + 1 + 1 := by rw [hw4]; simp; omega
  have F4 : FG L T (w.heap.size + 1) w w4 := by
    rw [hw4]
    exact ⟨B3.alloc (by omega) _, (Below.heap_alloc _ _ _ (lt_of_block X3)).trans X3, by rw [show w.heap.size + 1 + 1 + 1 = w3.heap.size from z3.symm]; exact AlgAt.new w3 L T⟩
  have U4 : MapUp (w.heap.size + 1) (vals ([] : List (Fl L T))) w4 := by
    rw [hw4]
    refine ⟨_, 0, ⟨M3.alloc _, fun x _ => ?_⟩, Nat.zero_le _⟩
    simp [Maps.has, vals]
  have hmm := @run_makeMap Tryz.prog
  have HA := Lib.hid h
  refine (callsIn_wide (n := 8)).1 ?_
  refine callsIn_of_wp_marks Tryz.func75 rfl trivial ?_ rfl
  simp only [Tryz.ntmps75, List.size_toArray, List.length_cons, List.length_nil, Nat.reduceAdd, Nat.reduceSub, Array.replicate_succ, Array.replicate_zero, List.push_toArray, List.append_toArray, List.nil_append, List.cons_append]
  gi_wp2_with (first
    | (rw [← hw3]; clear hw3)
    | (refine wpListIn_load_row_w rfl 63 _ rfl w.heap.size rfl _ _ _ _ A3 Tryz.underlying63 rfl (size_alg _ _ _ _ _ _) ?_)
    | (refine ⟨trivial, ?_⟩; gi_at_call 71; refine (callsIn_wide.2 (filtersM_any L T _)).mono ?_; rintro e w' ⟨rfl, rfl⟩))
  rw [← hw4]
  clear hw4 hmm A3 B3 X3 M3 z3
  refine wpIn_rangeFunc_ownG rfl (by omega) (gf := 126) (lb := #[.pointer (some ⟨w.heap.size + 1 + 1 + 1, 0, none⟩)]) rfl trivial enters_filt
    (filt_stops 7 (by omega) (w.heap.size + 1 + 1 + 1) L T h w4 F4.alg) keepsA_t keepsA_b (Below.refl _ _) (fun _ => rfl)
    (fun pre W => MapUp (w.heap.size + 1) (vals pre) W ∧ FG L T (w.heap.size + 1) w W)
    (fun _ _ _ => False)
    (fg_own (by omega) (by omega))
    (fun _ _ _ _ _ hs _ _ => hs)
    ⟨U4, F4⟩
    (fun x => { tmps := #[.agg (algOf L T), .pointer (some ⟨w.heap.size, 0, none⟩), .slice none 0 0, .pointer (some ⟨w.heap.size + 1 + 1, 0, none⟩), .int .i64 x.1, .map (some (w.heap.size + 1)), .agg (algOf L T), .func (.func 126) #[] #[.pointer (some ⟨w.heap.size + 1 + 1 + 1, 0, none⟩)], .int .i64 x.1, undef, undef, undef, undef, undef, undef, undef, undef, undef, undef, undef], defers := [] }) ?assign ?body ?done ?stop
  case assign =>
    intro l x W K hK
    gi_wp2
    exact hK
  case body =>
    rintro l pre x W ⟨hU, hF⟩ hlt
    have hc := cell_of_one hF.box
    have hx := fls_mem.1 x.2
    have p64 : pw (num L) ≤ 64 := (pw_6 n6).2
    have hlen : (vals pre).length ≤ 64 := by rw [vals_len]; omega
    have hvs := Lib.hid (vals_snoc pre x)
    obtain ⟨x0, x1⟩ : 0 ≤ x.1 ∧ x.1 ≤ 63 := ⟨hx.1, by omega⟩
    cases hq : ib x.1 0 with
    | true =>
      have HQ := Lib.hid hq
      have HU := Lib.hid hU
      clear hq hU
      gi_wp2_with ((refine ⟨trivial, ?_⟩; gi_at_call 55; refine (CallsIn.inRound l (callsIn_wide.2 (isIn_any 0 x.1 W (by omega) (by omega) x0 (by omega)))).mono ?_; rw [HQ.out]; rintro e w2 ⟨rfl, rfl⟩))
      exact ⟨KeepsFrom.refl _ _, fun _ => hF.alg, by rw [hvs.out]; exact mapUp_out HU.out HQ.out, hF⟩
    | false =>
      have HQ := Lib.hid hq
      obtain ⟨D, n, hK, hn⟩ := hU
      have hown := hK.1
      have HD := Lib.hid hK.2
      have hm := own_isMap hown
      clear hq hK
      gi_wp2_with (first
        | (refine ⟨trivial, ?_⟩; gi_at_call 55; refine (CallsIn.inRound l (callsIn_wide.2 (isIn_any 0 x.1 W (by omega) (by omega) x0 (by omega)))).mono ?_; rw [HQ.out]; rintro e w2 ⟨rfl, rfl⟩)
        | (gi_at_mapUpdate; refine wpListIn_mapUpdate_own _ rfl _ _ _ 128 rfl 3 4 keyI Tryz.underlying128 _ (w.heap.size + 1) n D rfl hown (by unfold maxLen; omega) _ _ _ rfl rfl (keyOf_int_mk Tryz.underlying3 (wf_63 ⟨x0, x1⟩)) _ [] (plainElem_bool Tryz.underlying4 true) ?_; intro w5 hown5 hgrow5))
      have ne : ∀ k, w.heap.size + 1 < k → some k ≠ some (w.heap.size + 1) := fun k hk e => by injection e with e; omega
      have hF5 : FG L T (w.heap.size + 1) w w5 := ⟨hF.bel.grown hgrow5 hF.bel.size (fun k e => by injection e with e; omega), (hgrow5.block _ (lt_of_block hF.box) (ne _ (by omega))).trans hF.box, hF.alg.kept hgrow5 (ne _ (by omega))⟩
      exact ⟨KeepsFrom.of_grownBy hgrow5 (fun j e => by injection e with e; omega), fun _ => hF5.alg, by rw [hvs.out]; exact mapUp_in HD.out hm HQ.out hn hown5, hF5⟩
  case done =>
    rintro M ys W hM hys ⟨⟨D, n, hK, hn⟩, hF⟩ hKM
    have hc := cell_of_one hF.box
    have hn64 : n ≤ 64 := by
      have h1 := fls_len L T n6
      rw [← hys, vals_len] at h1
      rw [vals_len] at hn
      omega
    have hK2 := Lib.hid (show KeysAt W (w.heap.size + 1) n D (fun x => x ∈ prp L T) from ⟨hK.1, fun x hx => by rw [hK.2 x hx, hys]; exact prp_mem.symm⟩)
    have HB := Lib.hid hF.box
    have ne : ∀ k, w.heap.size + 1 < k → some k ≠ some (w.heap.size + 1) := fun k hk e => by injection e with e; omega
    have HM := Lib.hid hKM
    have HF := Lib.hid hF.bel
    have sW := hF.bel.size
    have HG := Lib.hid (fun x hx => wf_63 (prp_63 HA.out (grs_mem (f := x) |>.1 hx).1))
    clear hK hn hF hKM
    gi_wp2_with (first
      | (refine ⟨trivial, ?_⟩; gi_at_call 127; refine (callsIn_wide.2 (deleteKeys_any L T (w.heap.size + 1) n (w.heap.size + 1 + 1) D W HA.out hK2.out HB.out)).mono ?_; rintro e w5 ⟨rfl, ⟨D5, hK5⟩, hg5⟩; have HK5 := Lib.hid hK5; have b5 := (hg5.block _ (lt_of_block HB.out) (ne _ (by omega))).trans HB.out; have c5 := cell_of_one b5; have HG5 := Lib.hid hg5; have s5 := hg5.size; clear b5 hK5 hg5 hc)
      | (refine ⟨trivial, ?_⟩; gi_at_call 131; refine (callsIn_wide.2 (keysM_any (w.heap.size + 1) w5)).mono ?_; rintro e w6 ⟨rfl, rfl⟩)
      | (refine ⟨trivial, ?_⟩; gi_at_call 130; refine (callsIn_wide.2 (sortedKeys_any w5.heap.size (w.heap.size + 1) n D5 (grs L T) (w5.alloc (.cells #[.map (some (w.heap.size + 1))] 128)) (heap_alloc_new w5 _) (HK5.out.below ((Below.refl _ _).alloc (Nat.le_refl _) _)) HG.out hn64 grs_asc (grs_six HA.out))).mono ?_; rintro e w7 ⟨a7, c7, rfl, o7, h7⟩))
    have q6 : Below w5.heap.size w5 (w5.alloc (.cells #[.map (some (w.heap.size + 1))] 128)) := (Below.refl _ _).alloc (Nat.le_refl _) _
    have q7 : Below w5.heap.size w5 w7 := q6.trans (h7.mono q6.size)
    have hM5 : w5.heap[M]? = W.heap[M]? := HG5.out.block M (lt_of_block_any HM.out) (ne _ (by omega))
    have hM7 := ((q7.block M (by have := lt_of_block_any HM.out; omega)).trans hM5).trans HM.out
    have hbel7 : Below w.heap.size w w7 := (HF.out.grown HG5.out sW (fun k e => by injection e with e; omega)).trans (q7.mono (by omega))
    refine ⟨by simp, .inl ⟨_, _, rfl, run_takeDeferred hM7, ?_⟩⟩
    refine ⟨_, results_tmp rfl _ _ _, RetOwn.sl (B := w.heap.size) ⟨_, rfl, ?_, ?_⟩⟩
    · exact ownsRow_putObj (ownsRow_frm o7 (by have := q6.size; omega)) _ hM7 rfl
    · exact hbel7.trans (belowK_b (w := w) (Nat.le_refl _) w7 M _ _ (by omega) hM7 rfl rfl)
  case stop =>
    rintro D c pre W _ _ h _
    exact h.elim
end Go.Proofs.YtjcambkjcagcoaaGreat
