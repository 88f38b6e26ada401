import Derived.Test.YtidbilgnclfplaaTP1
import Derived.Test.YtidbilgnclfplaaTM4
import Derived.Test.YtidbilgnclfplaaZ8
import Derived.Lib.Strings
import Derived.Lib.Bytealg
namespace Go.Proofs.Ytidbilgnclfplaa
open Go.RowKit
set_option linter.unusedVariables false

set_option maxHeartbeats 1000000 in
set_option maxRecDepth 100000 in
theorem litIndex_any (s : ByteArray) (c : UInt8) (w : World) :
    Calls Try.prog 156 #[.string s, .int .u8 (c.toNat : Int)] w fun e w' => e = .returned (.int .i64 (Lib.indexByte s.data.toList c)) ∧ w = w' := by
  have hc : ((c.toNat : Int).toNat).toUInt8 = c := by simp
  have hr := Lib.run_indexByteString (P := Try.prog) s (c.toNat : Int) w
  rw [hc] at hr
  go_enter Try.func156, Try.ntmps156
  go_wp2
  rw [run_callFunc_extern Try.func158 (by kernel_rfl) (by kernel_rfl) (by kernel_rfl) (e := Extern.BytealgIndexByte.indexByte) (by kernel_rfl), hr]
  simp only [Result.andThen]
  rw [Oper.upon_value]
  go_wp2
  go_ret
  exact ⟨rfl, rfl⟩
set_option maxHeartbeats 1000000 in
theorem strIndex_any (s : ByteArray) (c : UInt8) (w : World) :
    Calls Try.prog 141 #[.string s, .int .u8 (c.toNat : Int)] w fun e w' => e = .returned (.int .i64 (Lib.indexByte s.data.toList c)) ∧ w = w' := by
  go_enter Try.func141, Try.ntmps141
  go_wp2_with (go_at_call 156; refine (litIndex_any _ _ _).mono ?_; rintro e w' ⟨rfl, rfl⟩)
  go_ret
  exact ⟨rfl, rfl⟩
theorem ix_all : ∀ n : Fin 256, (let c := UInt8.ofNat n.1; let i := Lib.indexByte [120, 121, 122] c; let j := Lib.indexByte [48, 49, 45, 38, 124, 42, 62] c; -1 ≤ i ∧ i ≤ 2 ∧ -1 ≤ j ∧ j ≤ 6 ∧ (0 ≤ i → ltN c = i) ∧ (i < 0 → 0 ≤ j → ltN c = 10 + j) ∧ (i < 0 → j < 0 → ltN c = -1)) := by decide +kernel
theorem ix_one (c : UInt8) : ∃ i j : Int, Lib.indexByte [120, 121, 122] c = i ∧ Lib.indexByte [48, 49, 45, 38, 124, 42, 62] c = j ∧ -1 ≤ i ∧ i ≤ 2 ∧ -1 ≤ j ∧ j ≤ 6 ∧ (0 ≤ i → ltN c = i) ∧ (i < 0 → 0 ≤ j → ltN c = 10 + j) ∧ (i < 0 → j < 0 → ltN c = -1) := by
  have h := ix_all ⟨c.toNat, c.toNat_lt⟩
  have e : UInt8.ofNat c.toNat = c := by simp
  simp only [e] at h
  exact ⟨_, _, rfl, rfl, h⟩
set_option maxRecDepth 100000 in
set_option maxHeartbeats 1000000 in
/-- impl.numberOf -/
theorem numberOf_any (c : UInt8) (w : World) : Calls Try.prog 115 #[.int .u8 (c.toNat : Int)] w fun e w' => e = .returned (.int .i64 (ltN c)) ∧ w = w' := by
  obtain ⟨i, j, e1, e2, i0, i1, j0, j1, h1, h2, h3⟩ := ix_one c
  have HI1 := Lib.hid (show ∀ w : World, Calls Try.prog 141 #[.string ⟨#[120, 121, 122]⟩, .int .u8 (c.toNat : Int)] w fun e w' => e = .returned (.int .i64 i) ∧ w = w' from fun w => by rw [← e1]; exact strIndex_any ⟨#[120, 121, 122]⟩ c w)
  have HI2 := Lib.hid (show ∀ w : World, Calls Try.prog 141 #[.string ⟨#[48, 49, 45, 38, 124, 42, 62]⟩, .int .u8 (c.toNat : Int)] w fun e w' => e = .returned (.int .i64 j) ∧ w = w' from fun w => by rw [← e2]; exact strIndex_any ⟨#[48, 49, 45, 38, 124, 42, 62]⟩ c w)
  have H1 := Lib.hid h1
  have H2 := Lib.hid h2
  have H3 := Lib.hid h3
  clear e1 e2 h1 h2 h3
  go_enter Try.func115, Try.ntmps115
  go_wp2_with fail
  refine (HI1.out _).mono ?_
  rintro e w' ⟨rfl, rfl⟩
  by_cases hi : 0 ≤ i
  · have hi2 : i ≥ 0 := hi
    go_wp2
    go_ret
    exact ⟨by rw [H1.out hi]; rfl, rfl⟩
  · have hi2 : ¬ i ≥ 0 := hi
    go_wp2_with fail
    refine (HI2.out _).mono ?_
    rintro e w' ⟨rfl, rfl⟩
    by_cases hj : 0 ≤ j
    · have hj2 : j ≥ 0 := hj
      go_wp2
      go_ret
      exact ⟨by rw [H2.out (by omega) hj]; rfl, rfl⟩
    · have hj2 : ¬ j ≥ 0 := hj
      go_wp2
      go_ret
      exact ⟨by rw [H3.out (by omega) (by omega)]; rfl, rfl⟩
/-- a reader of a text -/
def RdP (w : World) (g : Nat) (s : ByteArray) (b : Int) : Prop := w.heap[g]? = some (.cells #[.string s, .int .i64 b] 108 (0, 0))
theorem rdP_cells {w : World} {g : Nat} {s : ByteArray} {b : Int} (h : RdP w g s b) : w.cell? ⟨g, 0, none⟩ = some (.string s) ∧ w.cell? ⟨g, 1, none⟩ = some (.int .i64 b) ∧ w.frozen? ⟨g, 0, none⟩ = false ∧ w.frozen? ⟨g, 1, none⟩ = false :=
  ⟨by rw [cell_of_row w g 0 _ _ _ h]; rfl, by rw [cell_of_row w g 1 _ _ _ h]; rfl, frozen_of_row w g 0 _ _ h, frozen_of_row w g 1 _ _ h⟩
theorem rdP_set {w : World} {g : Nat} {s s' : ByteArray} {b : Int} (h : RdP w g s b) : RdP (w.setCell ⟨g, 0, none⟩ (.string s')) g s' b := by
  unfold RdP
  rw [heap_setCell_same w g 0 _ _ _ h]; rfl
theorem rdP_setB {w : World} {g : Nat} {s : ByteArray} {b b' : Int} (h : RdP w g s b) : RdP (w.setCell ⟨g, 1, none⟩ (.int .i64 b')) g s b' := by
  unfold RdP
  rw [heap_setCell_same w g 1 _ _ _ h]; rfl
/-- the byte ahead, 0 if there is none -/
def hdY (l : List UInt8) : UInt8 := l.headD 0
set_option maxRecDepth 100000 in
set_option maxHeartbeats 2000000 in
/-- impl.next -/
theorem next_any (g : Nat) (s : ByteArray) (b : Int) (w : World) (h : RdP w g s b) (hs : s.size ≤ 9223372036854775807) :
    Calls Try.prog 114 #[.pointer (some ⟨g, 0, none⟩)] w fun e w' => e = .returned (.int .u8 ((hdY s.data.toList).toNat : Int)) ∧ ∃ s', RdP w' g s' b ∧ s'.data.toList = s.data.toList.tail ∧ w.grownBy w' (some g) := by
  obtain ⟨c0, c1, f0, f1⟩ := rdP_cells h
  cases hl : s.data.toList with
  | nil =>
    have hne : (s.toList == []) = true := by rw [ByteArray.toList_eq, hl]; rfl
    go_enter Try.func114, Try.ntmps114
    go_wp2
    go_ret
    exact ⟨rfl, s, h, by rw [hl]; rfl, grown_refl _ _⟩
  | cons x l =>
    have hne : (s.toList == []) = false := by rw [ByteArray.toList_eq, hl]; rfl
    have hsz : s.size = l.length + 1 := by
      have := txt_size s
      rw [hl] at this
      simp at this
      omega
    go_enter Try.func114, Try.ntmps114
    go_wp2
    go_ret
    have e0 : s[0] = x := by
      have h1 : s[0] = s.data.toList[0]'(by rw [hl]; simp) := rfl
      rw [h1]
      simp [hl]
    refine ⟨by rw [e0]; rfl, s.extract 1 (l.length + 1), rdP_set h, ?_, rdr_grown w g 0 _⟩
    rw [Lib.extract_data, hl]
    show List.take (l.length + 1 - 1) l = l
    rw [Nat.add_sub_cancel, List.take_length]
/-- a term is read off, or there is an error -/
def RetPs (g : Nat) (o : Option (List Int × List UInt8)) (b : Int) (w : World) (e : Ending) (w' : World) : Prop :=
  ∃ s' b', RdP w' g s' b' ∧ s'.size ≤ 9223372036854775807 ∧ w.grownBy w' (some g) ∧
    ((∃ t r, o = some (t, r) ∧ b + t.length ≤ 15 ∧ e = .returned (.tuple #[tmV t.length t, .nilIface]) ∧ s'.data.toList = r ∧ b' = b + t.length) ∨
     ((∀ t r, o = some (t, r) → 15 < b + t.length) ∧ ∃ T y, e = .returned (.tuple #[.nilIface, .iface T y])))
/-- the program's term, with some numbers left -/
def TermP (g m : Nat) : Prop := ∀ (s : ByteArray) (b : Int) (w : World), RdP w g s b → s.size ≤ 9223372036854775807 → 0 ≤ b → b + m = 15 → Calls Try.prog 91 #[.pointer (some ⟨g, 0, none⟩)] w (RetPs g (rdA s.data.toList) b w)
theorem tail_size {s s' : ByteArray} (h : s'.data.toList = s.data.toList.tail) (hs : s.size ≤ 9223372036854775807) : s'.size ≤ 9223372036854775807 := by
  have h1 := txt_size s
  have h2 := txt_size s'
  rw [h, List.length_tail] at h2
  omega
theorem rd_iface {o : List UInt8} {t : List Int} {r : List UInt8} (h : rdA o = some (t, r)) : ∃ T y, tmV t.length t = .iface T y := tmV_if (rdT_term _ _ _ _ h).1
def rdO (l : List UInt8) : Option (List Int × List UInt8) := match rdA l with | none => none | some p => some (12 :: p.1, p.2)
theorem tmV_not {t : List Int} : tmV (12 :: t).length (12 :: t) = .iface 118 (.agg #[tmV t.length t]) := by
  rw [List.length_cons]
  exact tmV_opp (by decide) rfl
theorem tmV_com {x : Int} {a c : List Int} (hx : isSg x = true) (ha : tmR a.length a = some []) (hc : tmR c.length c = some []) : tmV (x :: (a ++ c)).length (x :: (a ++ c)) = .iface 120 (.agg #[.int .i64 x, tmV a.length a, tmV c.length c]) := by
  obtain ⟨g1, g2⟩ := sg_leaf hx
  have m1 : tmR (a ++ c).length (a ++ c) = some c := by
    have := tmR_app a.length a [] c ha
    exact tmR_mono _ _ _ _ this (by simp)
  have f1 : tmV (a ++ c).length (a ++ c) = tmV a.length a := by
    rw [tmV_mono a.length _ (a ++ c) c (tmR_app a.length a [] c ha) (by simp), tmV_app a.length a [] c ha]
  have f2 : tmV (a ++ c).length c = tmV c.length c := tmV_mono _ _ _ _ hc (by simp)
  rw [List.length_cons, tmV_sign g1 g2, m1, f1]
  show Value.iface _ (.agg #[_, _, tmV (a ++ c).length c]) = _
  rw [f2]
set_option maxRecDepth 100000 in
set_option maxHeartbeats 2000000 in
/-- impl.opposite -/
theorem opposite_any (g m : Nat) (hT : TermP g m) (s : ByteArray) (b : Int) (w : World) (h : RdP w g s (b + 1)) (hs : s.size ≤ 9223372036854775807) (b0 : 0 ≤ b) (hb : b + 1 + m = 15) :
    Calls Try.prog 118 #[.pointer (some ⟨g, 0, none⟩)] w (RetPs g (rdO s.data.toList) b w) := by
  have HT := Lib.hid (hT s (b + 1) w h hs (by omega) hb)
  have HO := Lib.hid (show rdO s.data.toList = (match rdA s.data.toList with | none => none | some p => some (12 :: p.1, p.2)) from rfl)
  obtain ⟨o, ho⟩ : ∃ o, o = rdA s.data.toList := ⟨_, rfl⟩
  obtain ⟨q, hq⟩ : ∃ q, q = rdO s.data.toList := ⟨_, rfl⟩
  rw [← ho, ← hq] at HO
  rw [← hq]
  rw [← ho] at HT
  have HX := Lib.hid ho
  clear h hT ho hq
  go_enter Try.func118, Try.ntmps118
  go_wp2_with fail
  refine HT.out.mono ?_
  rintro e w2 ⟨s', b', hR, hsz, hg, (⟨t, r, rfl, hl, rfl, hr, rfl⟩ | ⟨hno, T, y, rfl⟩)⟩
  · obtain ⟨T1, y1, e1⟩ := rd_iface HX.out.symm
    have HE := Lib.hid (show Value.iface 118 (.agg #[.iface T1 y1]) = tmV (12 :: t).length (12 :: t) by rw [tmV_not, e1])
    rw [e1]
    clear e1
    go_wp2
    go_ret2
    refine ⟨s', _, hR, hsz, hg, .inl ⟨12 :: t, r, HO.out, by rw [List.length_cons]; omega, by rw [← HE.out]; rfl, hr, by rw [List.length_cons]; omega⟩⟩
  · go_wp2
    go_ret2
    refine ⟨s', _, hR, hsz, hg, .inr ⟨fun t r ht => ?_, T, y, rfl⟩⟩
    rw [HO.out] at ht
    cases o with
    | none => cases ht
    | some p =>
      have := hno p.1 p.2 rfl
      injection ht with ht
      injection ht with ht _
      rw [← ht, List.length_cons]
      omega
end Go.Proofs.Ytidbilgnclfplaa
