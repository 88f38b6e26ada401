import Derived.Test.YtpophjloedpcfaaGreatDoorTX15
namespace Go.Proofs.YtpophjloedpcfaaGreatDoor
open Go.RowKit

theorem flatten_cut : ∀ (n m : Nat) (F : List Int), F.length = n * m → ((List.range n).map fun x => (F.drop (x * m)).take m).flatten = F
  | 0, m, F, h => by
    have : F = [] := List.eq_nil_of_length_eq_zero (by simpa using h)
    simp [this]
  | n + 1, m, F, h => by
    rw [List.range_succ_eq_map, List.map_cons, List.flatten_cons, List.map_map]
    have ih := flatten_cut n m (F.drop m) (by rw [List.length_drop, h, Nat.add_mul]; omega)
    have e : ((fun x => (F.drop (x * m)).take m) ∘ Nat.succ) = fun x => ((F.drop m).drop (x * m)).take m := by
      funext x
      simp only [Function.comp, List.drop_drop]
      congr 2
      rw [Nat.succ_mul]; omega
    rw [e, ih]
    simp
theorem ctR_flatten {F : List Int} {m : Nat} (h : F.length = m * m) : (ctR F m).flatten = F := flatten_cut m m F h
set_option maxRecDepth 100000 in
set_option maxHeartbeats 4000000 in
theorem implParse_len (s : ByteArray) (w : World) (L : List Int) (hG : GV w) (hs : s.size ≤ 1048576) (h : atoL (pcs 44 (Lib.cut s.data.toList [58]).1) = some L) (hd : ((Lib.cut s.data.toList [58]).2.1.filter (fun b => b != 47)).length ≠ L.length * L.length) :
    Calls Tryz.prog 12 #[.string s] w (RetNo w) := by
  obtain ⟨w1, hw1⟩ : ∃ w1, w1 = w.alloc (.cells #[.slice none 0 0, .slice none 0 0] 26) := ⟨_, rfl⟩
  have hB : Below w.heap.size w w1 := by rw [hw1]; exact (Below.refl _ _).alloc (Nat.le_refl _) _
  have hz : w1.heap[w.heap.size]? = some (.cells #[.slice none 0 0, .slice none 0 0] 26 (0, 0)) := by rw [hw1]; exact heap_alloc_new w _
  have Kz := Lib.hid (show ∀ wz, Below w1.heap.size w1 wz → wz.heap[w.heap.size]? = some (.cells #[.slice none 0 0, .slice none 0 0] 26 (0, 0)) from fun wz h => (h.block _ (lt_of_block hz)).trans hz)
  have HG := Lib.hid (fun wz (hz : Below w1.heap.size w1 wz) => hG.below (hB.trans (hz.mono hB.size)))
  have hcs := cut_size s.data.toList
  rw [← ba_size] at hcs
  have z1 : Below w1.heap.size w1 w1 := Below.refl _ _
  have HC := Lib.hid (cutW s w1 (HG.out _ z1) hs)
  obtain ⟨x, y, fb, hcut⟩ : ∃ x y fb, Lib.cut s.data.toList [58] = (x, y, fb) := ⟨_, _, _, rfl⟩
  rw [hcut] at HC hcs h hd
  simp only at HC hcs h hd
  have hml := atoL_len h
  have hpl := pcs_len 44 x
  obtain ⟨m, hm⟩ : ∃ m, m = L.length := ⟨_, rfl⟩
  have hm1 : 1 ≤ m := by omega
  have hm2 : m ≤ 1048577 := by omega
  have HX := Lib.hid (show ∀ wz, Below w1.heap.size w1 wz → Calls Tryz.prog 35 #[.string ⟨x.toArray⟩] wz fun e w' => ∃ g, e = .returned (.tuple #[.slice (some ⟨g, 0, none⟩) m m, .bool true]) ∧ Row w' g L ∧ wz.heap.size ≤ g ∧ Below wz.heap.size wz w' from fun wz hz => Calls.mono (readNumbers_any ⟨x.toArray⟩ wz (HG.out _ hz) (by show x.length ≤ _; omega)) fun e w' ⟨hb, hr⟩ => by
    rcases hr with ⟨L', g, e1, he, hrow, hg⟩ | ⟨e1, he⟩
    · rw [show (⟨x.toArray⟩ : ByteArray).data.toList = x from rfl, h] at e1
      cases e1
      exact ⟨g, by rw [he, hm], hrow, hg, hb⟩
    · rw [show (⟨x.toArray⟩ : ByteArray).data.toList = x from rfl, h] at e1; cases e1)
  have hsz := lt_of_block hz
  have HY := Lib.hid (show ∀ wz, Below w1.heap.size w1 wz → Calls Tryz.prog 36 #[.string ⟨y.toArray⟩, .int .i64 m] wz fun e w' => e = .returned (.tuple #[.slice none 0 0, .bool false]) ∧ Below wz.heap.size wz w' from fun wz hz => readRows_no ⟨y.toArray⟩ m wz (HG.out _ hz) (by show y.length ≤ _; omega) hm2 (by rw [hm]; exact hd))
  clear hcut hcs h hz hd hml hpl hm
  go_enter Tryz.func12, Tryz.ntmps12
  go_wp2_with (first
    | go_skip
    | (rw [← hw1]; clear hw1)
    | (go_at_call 34; with_reducible refine HC.out.mono ?_; rintro e w2 ⟨rfl, h2⟩)
    | (go_at_call 35; with_reducible refine (HX.out _ h2).mono ?_; rintro e w3 ⟨g, rfl, hrow, hgw, h3⟩; have z3 := h2.trans (h3.mono h2.size); clear hrow hgw)
    | (go_at_call 36; with_reducible refine (HY.out _ z3).mono ?_; rintro e w4 ⟨rfl, h4⟩; have z4 := z3.trans (h4.mono z3.size); have z5 := z4.alloc z4.size (.cells #[.slice (some ⟨g, 0, none⟩) m m, .slice none 0 0] 26); have y5 := Kz.out _ z5)
    | (refine wpList_store_row rfl 26 _ _ rfl w.heap.size #[.slice none 0 0, .slice none 0 0] rfl rfl _ _ y5 (size_Alg _ _) rfl (one_sl2 _ _ _ _ _ _) ?_))
  exact bodyPost_ret (v := .tuple #[.agg #[.slice none 0 0, .slice none 0 0], .bool false]) (results_Alg_tmp rfl _ _ w.heap.size rfl _ _ (setRow_heap _ _ _ _ _ _ y5) rfl) rfl ⟨rfl, below_setRow' (hB.trans (z5.mono hB.size)) (Nat.le_refl _) _⟩
set_option maxRecDepth 100000 in
set_option maxHeartbeats 4000000 in
theorem implParse_other (s : ByteArray) (w : World) (L : List Int) (D : List UInt8) (hG : GV w) (hs : s.size ≤ 1048576) (h : atoL (pcs 44 (Lib.cut s.data.toList [58]).1) = some L) (hd : D = (Lib.cut s.data.toList [58]).2.1.filter (fun b => b != 47)) (hdl : D.length = L.length * L.length) (hne : (atI L (ctR (dgP D) L.length)) ≠ s) :
    Calls Tryz.prog 12 #[.string s] w (RetNo w) := by
  obtain ⟨w1, hw1⟩ : ∃ w1, w1 = w.alloc (.cells #[.slice none 0 0, .slice none 0 0] 26) := ⟨_, rfl⟩
  have hB : Below w.heap.size w w1 := by rw [hw1]; exact (Below.refl _ _).alloc (Nat.le_refl _) _
  have hz : w1.heap[w.heap.size]? = some (.cells #[.slice none 0 0, .slice none 0 0] 26 (0, 0)) := by rw [hw1]; exact heap_alloc_new w _
  have Kz := Lib.hid (show ∀ wz, Below w1.heap.size w1 wz → wz.heap[w.heap.size]? = some (.cells #[.slice none 0 0, .slice none 0 0] 26 (0, 0)) from fun wz h => (h.block _ (lt_of_block hz)).trans hz)
  have HG := Lib.hid (fun wz (hz : Below w1.heap.size w1 wz) => hG.below (hB.trans (hz.mono hB.size)))
  have hcs := cut_size s.data.toList
  rw [← ba_size] at hcs
  have z1 : Below w1.heap.size w1 w1 := Below.refl _ _
  have HC := Lib.hid (cutW s w1 (HG.out _ z1) hs)
  obtain ⟨x, y, fb, hcut⟩ : ∃ x y fb, Lib.cut s.data.toList [58] = (x, y, fb) := ⟨_, _, _, rfl⟩
  rw [hcut] at HC hcs h hd
  simp only at HC hcs h hd
  have hml := atoL_len h
  have hpl := pcs_len 44 x
  obtain ⟨m, hm⟩ : ∃ m, m = L.length := ⟨_, rfl⟩
  have hm1 : 1 ≤ m := by omega
  have hm2 : m ≤ 1048577 := by omega
  have HX := Lib.hid (show ∀ wz, Below w1.heap.size w1 wz → Calls Tryz.prog 35 #[.string ⟨x.toArray⟩] wz fun e w' => ∃ g, e = .returned (.tuple #[.slice (some ⟨g, 0, none⟩) m m, .bool true]) ∧ Row w' g L ∧ wz.heap.size ≤ g ∧ Below wz.heap.size wz w' from fun wz hz => Calls.mono (readNumbers_any ⟨x.toArray⟩ wz (HG.out _ hz) (by show x.length ≤ _; omega)) fun e w' ⟨hb, hr⟩ => by
    rcases hr with ⟨L', g, e1, he, hrow, hg⟩ | ⟨e1, he⟩
    · rw [show (⟨x.toArray⟩ : ByteArray).data.toList = x from rfl, h] at e1
      cases e1
      exact ⟨g, by rw [he, hm], hrow, hg, hb⟩
    · rw [show (⟨x.toArray⟩ : ByteArray).data.toList = x from rfl, h] at e1; cases e1)
  have hsz := lt_of_block hz
  have hF : (dgP D).length = m * m := by rw [dgP_len, hdl, hm]
  have HY := Lib.hid (show ∀ wz, Below w1.heap.size w1 wz → Calls Tryz.prog 36 #[.string ⟨y.toArray⟩, .int .i64 m] wz fun e w' => ∃ B P, e = .returned (.tuple #[.slice (some ⟨B, 0, none⟩) m m, .bool true]) ∧ w'.heap[B]? = some (.cells (winA P m m) 23 (0, 0)) ∧ Row w' P (dgP D) ∧ wz.heap.size ≤ P ∧ P < B ∧ Below wz.heap.size wz w' from fun wz hz => readRows_yes ⟨y.toArray⟩ m D wz (HG.out _ hz) (by show y.length ≤ _; omega) hd (by rw [hdl, hm]))
  obtain ⟨X, hX⟩ : ∃ X, X = atI L (ctR (dgP D) m) := ⟨_, rfl⟩
  have HA := Lib.hid (show ∀ (g B P : Nat) wz, Row wz g L → wz.heap[B]? = some (.cells (winA P m m) 23 (0, 0)) → Row wz P (dgP D) → Calls Tryz.prog 9 #[.agg #[.slice (some ⟨g, 0, none⟩) m m, .slice (some ⟨B, 0, none⟩) m m]] wz fun e w' => e = .returned (.string X) ∧ Below wz.heap.size wz w' from fun g B P wz h1 h2 h3 => by
    have := implAlgebraText_any (some ⟨g, 0, none⟩) (some ⟨B, 0, none⟩) m m L (ctR (dgP D) m) wz h1.rd (ctR_rd h2 h3 hF)
    rwa [ctR_len, ← hm, ← hX] at this)
  have q1 : (X.toList == s.toList) = false := by
    rw [ByteArray.toList_eq, ByteArray.toList_eq, hX, hm]
    simpa using fun e => hne (ba_ext e)
  clear hne hX hm
  clear hcut hcs h hz hd hml hpl hdl
  go_enter Tryz.func12, Tryz.ntmps12
  go_wp2_with (first
    | go_skip
    | (rw [← hw1]; clear hw1)
    | (go_at_call 34; with_reducible refine HC.out.mono ?_; rintro e w2 ⟨rfl, h2⟩)
    | (go_at_call 35; with_reducible refine (HX.out _ h2).mono ?_; rintro e w3 ⟨g, rfl, hrow, hgw, h3⟩; have z3 := h2.trans (h3.mono h2.size))
    | (go_at_call 36; with_reducible refine (HY.out _ z3).mono ?_; rintro e w4 ⟨B, P, rfl, hB4, hP4, hPw, hPB, h4⟩; have z4 := z3.trans (h4.mono z3.size); have hrow4 := hrow.below h4 hrow.lt)
    | ((refine wpList_load_row_w rfl 26 _ rfl w4.heap.size rfl _ _ _ _ (heap_alloc_new w4 _) Tryz.underlying26 rfl (size_Alg _ _) ?_); obtain ⟨bx, hbx⟩ : ∃ b, b = w4.heap.size := ⟨_, rfl⟩; obtain ⟨w5, hw5⟩ : ∃ x, x = w4.alloc (.cells #[.slice (some ⟨g, 0, none⟩) m m, .slice (some ⟨B, 0, none⟩) m m] 26) := ⟨_, rfl⟩; rw [← hw5, ← hbx]; have hxx : w5.heap[bx]? = some (.cells #[.slice (some ⟨g, 0, none⟩) m m, .slice (some ⟨B, 0, none⟩) m m] 26 (0, 0)) := (by rw [hw5, hbx]; exact heap_alloc_new w4 _); have h5 : Below w4.heap.size w4 w5 := (by rw [hw5]; exact (Below.refl _ _).alloc (Nat.le_refl _) _); have z5 := z4.trans (h5.mono z4.size); clear hw5 hbx)
    | (go_at_call 9; with_reducible refine (HA.out g B P w5 (hrow4.below h5 hrow4.lt) ((h5.block _ (lt_of_block hB4)).trans hB4) (hP4.below h5 hP4.lt)).mono ?_; rintro e w6 ⟨rfl, h6⟩; have z6 := z5.trans (h6.mono z5.size); have y6 := Kz.out _ z6; have hxx6 := (h6.block _ (lt_of_block hxx)).trans hxx)
    | (refine wpList_store_row rfl 26 _ _ rfl w.heap.size #[.slice none 0 0, .slice none 0 0] rfl rfl _ _ y6 (size_Alg _ _) rfl (one_sl2 _ _ _ _ _ _) ?_))
  exact bodyPost_ret (v := .tuple #[.agg #[.slice none 0 0, .slice none 0 0], .bool false]) (results_Alg_tmp rfl _ _ w.heap.size rfl _ _ (setRow_heap _ _ _ _ _ _ y6) rfl) rfl ⟨rfl, below_setRow' (hB.trans (z6.mono hB.size)) (Nat.le_refl _) _⟩
set_option maxRecDepth 100000 in
set_option maxHeartbeats 4000000 in
theorem implParse_good (s : ByteArray) (w : World) (L : List Int) (D : List UInt8) (hG : GV w) (hs : s.size ≤ 1048576) (h : atoL (pcs 44 (Lib.cut s.data.toList [58]).1) = some L) (hd : D = (Lib.cut s.data.toList [58]).2.1.filter (fun b => b != 47)) (hdl : D.length = L.length * L.length) (hal : algB L (ctR (dgP D) L.length) = true) (heq : atI L (ctR (dgP D) L.length) = s) :
    Calls Tryz.prog 12 #[.string s] w (RetGAbW L (ctR (dgP D) L.length) true w) := by
  obtain ⟨w1, hw1⟩ : ∃ w1, w1 = w.alloc (.cells #[.slice none 0 0, .slice none 0 0] 26) := ⟨_, rfl⟩
  have hB : Below w.heap.size w w1 := by rw [hw1]; exact (Below.refl _ _).alloc (Nat.le_refl _) _
  have hz : w1.heap[w.heap.size]? = some (.cells #[.slice none 0 0, .slice none 0 0] 26 (0, 0)) := by rw [hw1]; exact heap_alloc_new w _
  have Kz := Lib.hid (show ∀ wz, Below w1.heap.size w1 wz → wz.heap[w.heap.size]? = some (.cells #[.slice none 0 0, .slice none 0 0] 26 (0, 0)) from fun wz h => (h.block _ (lt_of_block hz)).trans hz)
  have HG := Lib.hid (fun wz (hz : Below w1.heap.size w1 wz) => hG.below (hB.trans (hz.mono hB.size)))
  have hcs := cut_size s.data.toList
  rw [← ba_size] at hcs
  have z1 : Below w1.heap.size w1 w1 := Below.refl _ _
  have HC := Lib.hid (cutW s w1 (HG.out _ z1) hs)
  obtain ⟨x, y, fb, hcut⟩ : ∃ x y fb, Lib.cut s.data.toList [58] = (x, y, fb) := ⟨_, _, _, rfl⟩
  rw [hcut] at HC hcs h hd
  simp only at HC hcs h hd
  have hml := atoL_len h
  have hpl := pcs_len 44 x
  obtain ⟨m, hm⟩ : ∃ m, m = L.length := ⟨_, rfl⟩
  have hm1 : 1 ≤ m := by omega
  have hm2 : m ≤ 1048577 := by omega
  have HX := Lib.hid (show ∀ wz, Below w1.heap.size w1 wz → Calls Tryz.prog 35 #[.string ⟨x.toArray⟩] wz fun e w' => ∃ g, e = .returned (.tuple #[.slice (some ⟨g, 0, none⟩) m m, .bool true]) ∧ Row w' g L ∧ wz.heap.size ≤ g ∧ Below wz.heap.size wz w' from fun wz hz => Calls.mono (readNumbers_any ⟨x.toArray⟩ wz (HG.out _ hz) (by show x.length ≤ _; omega)) fun e w' ⟨hb, hr⟩ => by
    rcases hr with ⟨L', g, e1, he, hrow, hg⟩ | ⟨e1, he⟩
    · rw [show (⟨x.toArray⟩ : ByteArray).data.toList = x from rfl, h] at e1
      cases e1
      exact ⟨g, by rw [he, hm], hrow, hg, hb⟩
    · rw [show (⟨x.toArray⟩ : ByteArray).data.toList = x from rfl, h] at e1; cases e1)
  have hsz := lt_of_block hz
  have hF : (dgP D).length = m * m := by rw [dgP_len, hdl, hm]
  have HY := Lib.hid (show ∀ wz, Below w1.heap.size w1 wz → Calls Tryz.prog 36 #[.string ⟨y.toArray⟩, .int .i64 m] wz fun e w' => ∃ B P, e = .returned (.tuple #[.slice (some ⟨B, 0, none⟩) m m, .bool true]) ∧ w'.heap[B]? = some (.cells (winA P m m) 23 (0, 0)) ∧ Row w' P (dgP D) ∧ wz.heap.size ≤ P ∧ P < B ∧ Below wz.heap.size wz w' from fun wz hz => readRows_yes ⟨y.toArray⟩ m D wz (HG.out _ hz) (by show y.length ≤ _; omega) hd (by rw [hdl, hm]))
  obtain ⟨X, hX⟩ : ∃ X, X = atI L (ctR (dgP D) m) := ⟨_, rfl⟩
  have HA := Lib.hid (show ∀ (g B P : Nat) wz, Row wz g L → wz.heap[B]? = some (.cells (winA P m m) 23 (0, 0)) → Row wz P (dgP D) → Calls Tryz.prog 9 #[.agg #[.slice (some ⟨g, 0, none⟩) m m, .slice (some ⟨B, 0, none⟩) m m]] wz fun e w' => e = .returned (.string X) ∧ Below wz.heap.size wz w' from fun g B P wz h1 h2 h3 => by
    have := implAlgebraText_any (some ⟨g, 0, none⟩) (some ⟨B, 0, none⟩) m m L (ctR (dgP D) m) wz h1.rd (ctR_rd h2 h3 hF)
    rwa [ctR_len, ← hm, ← hX] at this)
  have q1 : (X.toList == s.toList) = true := by
    rw [hX, hm, heq]; simp
  have HFL := Lib.hid (show (ctR (dgP D) m).flatten = dgP D from ctR_flatten hF)
  have HT := Lib.hid (show (ctR (dgP D) m).length = m ∧ (∀ j : Nat, j < m → (rowAt (ctR (dgP D) m) j).length = m) ∧ m ≤ 6 ∧ L.length = m from ⟨ctR_len _ _, fun j hj => ctR_rowlen hj hF, by have := (lat_len (algB_parts hal).1).2; have e : num L = L.length := rfl; omega, hm.symm⟩)
  have HR := Lib.hid hm
  clear hal heq hX hm
  clear hcut hcs h hz hd hml hpl hdl
  go_enter Tryz.func12, Tryz.ntmps12
  go_wp2_with (first
    | go_skip
    | (rw [← hw1]; clear hw1)
    | (go_at_call 34; with_reducible refine HC.out.mono ?_; rintro e w2 ⟨rfl, h2⟩)
    | (go_at_call 35; with_reducible refine (HX.out _ h2).mono ?_; rintro e w3 ⟨g, rfl, hrow, hgw, h3⟩; have z3 := h2.trans (h3.mono h2.size))
    | (go_at_call 36; with_reducible refine (HY.out _ z3).mono ?_; rintro e w4 ⟨B, P, rfl, hB4, hP4, hPw, hPB, h4⟩; have z4 := z3.trans (h4.mono z3.size); have hrow4 := hrow.below h4 hrow.lt)
    | ((refine wpList_load_row_w rfl 26 _ rfl w4.heap.size rfl _ _ _ _ (heap_alloc_new w4 _) Tryz.underlying26 rfl (size_Alg _ _) ?_); obtain ⟨bx, hbx⟩ : ∃ b, b = w4.heap.size := ⟨_, rfl⟩; obtain ⟨w5, hw5⟩ : ∃ x, x = w4.alloc (.cells #[.slice (some ⟨g, 0, none⟩) m m, .slice (some ⟨B, 0, none⟩) m m] 26) := ⟨_, rfl⟩; rw [← hw5, ← hbx]; have hxx : w5.heap[bx]? = some (.cells #[.slice (some ⟨g, 0, none⟩) m m, .slice (some ⟨B, 0, none⟩) m m] 26 (0, 0)) := (by rw [hw5, hbx]; exact heap_alloc_new w4 _); have h5 : Below w4.heap.size w4 w5 := (by rw [hw5]; exact (Below.refl _ _).alloc (Nat.le_refl _) _); have z5 := z4.trans (h5.mono z4.size); clear hw5 hbx)
    | (go_at_call 9; with_reducible refine (HA.out g B P w5 (hrow4.below h5 hrow4.lt) ((h5.block _ (lt_of_block hB4)).trans hB4) (hP4.below h5 hP4.lt)).mono ?_; rintro e w6 ⟨rfl, h6⟩; have z6 := z5.trans (h6.mono z5.size); have y6 := Kz.out _ z6; have hxx6 := (h6.block _ (lt_of_block hxx)).trans hxx)
    | (refine wpList_store_row rfl 26 _ _ rfl w.heap.size #[.slice (some ⟨g, 0, none⟩) m m, .slice (some ⟨B, 0, none⟩) m m] rfl rfl _ _ y6 (size_Alg _ _) rfl (one_sl2 _ _ _ _ _ _) ?_)
    | (refine wpList_load_row_w rfl 26 _ rfl bx rfl _ _ _ _ hxx6 Tryz.underlying26 rfl (size_Alg _ _) ?_))
  refine bodyPost_ret (v := .tuple #[.agg #[.slice (some ⟨g, 0, none⟩) m m, .slice (some ⟨B, 0, none⟩) m m], .bool true]) (results_Alg_tmp rfl _ _ w.heap.size rfl _ _ (setRow_heap _ _ _ _ _ _ y6) rfl) rfl ?_
  obtain ⟨t1, t2, t3, t4⟩ := HT.out
  have hs1 := hB.size
  have hs3 := z3.size
  have hs4 := h4.size
  have hs46 : Below w4.heap.size w4 w6 := h5.trans (h6.mono h5.size)
  have hs6 := hs46.size
  have lg := hrow.lt
  have lg4 := hrow4.lt
  have lB := lt_of_block hB4
  have hg1 : w1.heap.size ≤ g := Nat.le_trans h2.size hgw
  have hPw1 : w1.heap.size ≤ P := Nat.le_trans hs3 hPw
  have r6 := (hrow4.below hs46 lg4).rowOther #[.slice (some ⟨g, 0, none⟩) m m, .slice (some ⟨B, 0, none⟩) m m] (G := w.heap.size) (by omega)
  have p6 := (hP4.below hs46 hP4.lt).rowOther #[.slice (some ⟨g, 0, none⟩) m m, .slice (some ⟨B, 0, none⟩) m m] (G := w.heap.size) (by omega)
  have b6 : (w6.setRow w.heap.size #[.slice (some ⟨g, 0, none⟩) m m, .slice (some ⟨B, 0, none⟩) m m]).heap[B]? = some (.cells (winA P m m) 23 (0, 0)) := by rw [setRow_other w6 w.heap.size B _ (by omega)]; exact (hs46.block _ lB).trans hB4
  refine ⟨_, _, _, _, _, _, rfl, ⟨g, g + 1, P, w4.heap.size, by omega, by rw [setRow_size]; omega, by omega, by rw [setRow_size]; omega, .inl (by omega), ?_, ?_⟩, below_setRow' (hB.trans (z6.mono hB.size)) (Nat.le_refl _) _⟩
  · have := GS.row (lo := g) (hi := g + 1) r6 (Nat.le_refl _) (Nat.lt_succ_self _) (by unfold maxLen; omega)
    rwa [t4] at this
  · rw [t4]
    exact .inr ⟨B, P, m, rfl, t1, t2, t3, by omega, lB, Nat.le_refl _, hP4.lt, by omega, b6, by rw [HFL.out]; exact p6⟩
/-- impl.ParseAlgebra -/
theorem implParseAlgebra_any (s : ByteArray) (w : World) (hG : GV w) (hs : s.size ≤ 1048576) :
    Calls Tryz.prog 12 #[.string s] w (RetGAbW (pL s) (pT s) (pB s) w) := by
  have zero : pO s = none → Calls Tryz.prog 12 #[.string s] w (RetNo w) → Calls Tryz.prog 12 #[.string s] w (RetGAbW (pL s) (pT s) (pB s) w) := fun h hc => by
    obtain ⟨e1, e2, e3⟩ := pP_no h
    rw [e1, e2, e3]
    exact Calls.mono hc fun e w' ⟨he, hb⟩ => ⟨none, 0, 0, none, 0, 0, he, GAW.zero _ _ hb.size _, hb⟩
  cases h : atoL (pcs 44 (Lib.cut s.data.toList [58]).1) with
  | none =>
    refine zero (pO_no fun L T h1 h2 => ?_) (implParse_bad s w hG hs h)
    obtain ⟨q1, q2, _, _⟩ := at_prog h1
    rw [h2] at q1
    rw [q1] at h
    rw [q2] at h; cases h
  | some L =>
    by_cases hd : ((Lib.cut s.data.toList [58]).2.1.filter (fun b => b != 47)).length = L.length * L.length
    · have key : ∀ M U, algB M U = true → atI M U = s → M = L ∧ U = ctR (dgP ((Lib.cut s.data.toList [58]).2.1.filter (fun b => b != 47))) L.length := fun M U h1 h2 => by
        obtain ⟨q1, q2, q3, q4⟩ := at_prog h1
        rw [h2] at q1
        rw [q1] at h ⊢
        simp only at h ⊢
        rw [q2] at h
        cases h
        exact ⟨rfl, q4.symm⟩
      by_cases he : atI L (ctR (dgP ((Lib.cut s.data.toList [58]).2.1.filter (fun b => b != 47))) L.length) = s
      · cases ha : algB L (ctR (dgP ((Lib.cut s.data.toList [58]).2.1.filter (fun b => b != 47))) L.length) with
        | true =>
          obtain ⟨e1, e2, e3⟩ := pP_yes (pO_yes ha he)
          rw [e1, e2, e3]
          exact implParse_good s w L _ hG hs h rfl hd ha he
        | false =>
          rw [atI_f ha] at he
          subst he
          have : atoL (pcs 44 (Lib.cut (ByteArray.mk #[]).data.toList [58]).1) = none := by kernel_rfl
          rw [this] at h; cases h
      · refine zero (pO_no fun M U h1 h2 => ?_) (implParse_other s w L _ hG hs h rfl hd he)
        obtain ⟨rfl, rfl⟩ := key M U h1 h2
        exact he h2
    · refine zero (pO_no fun M U h1 h2 => ?_) (implParse_len s w L hG hs h hd)
      obtain ⟨q1, q2, q3, q4⟩ := at_prog h1
      rw [h2] at q1
      rw [q1] at h hd
      simp only at h hd
      rw [q2] at h
      cases h
      exact hd q3
end Go.Proofs.YtpophjloedpcfaaGreatDoor
