import Derived.Test.YtidbilgnclfplaaTD1
import Derived.Test.YtidbilgnclfplaaTP1
import Derived.Test.YtidbilgnclfplaaTM12
namespace Go.Proofs.Ytidbilgnclfplaa
open Go.RowKit
set_option linter.unusedVariables false

/-- an append that a guard lets by -/
theorem wpList_append_own_w {P : Program} {ops : Array Oper} {rest : List Oper} {o : Oper} {a : Act} (w : World) {Q : Exit → Act → World → Prop} (hw : Region.wanted o (yielded ops a.tmps) = true) (s x : Operand) (t : TypeId)
    (ho : o.op = .call { callee := .builtin .append, args := #[s, x], argTypes := #[t, t] })
    (base : Nat) (e : TypeId) (i : TypeInfo) (z : Value) (size bytes : Nat) (ht : P.underlying t = some (.slice e)) (hi : P.info? e = some i) (hz : i.zero = some z)
    (hsize : i.size = size) (hby : i.bytes = bytes) (hzs : z.cells.size = size) (hsz : 0 < size)
    (v : Value) (n : Nat) (xs : List Value) (hs : a.eval s = v) (hown : w.ownsRow base e size v n xs)
    (ad : Addr) (m c : Nat) (news : List Value) (hx : a.eval x = .slice (some ad) m c) (hl : news.length = m * size) (hnews : ∀ j u, news[j]? = some u → w.cell? (ad.add j) = some u) (h1 : ∀ u ∈ news, u.oneCell' = true)
    (h63 : n + m ≤ maxLen) (hbytes : (n + m) * bytes ≤ 140737488355328) (hbase : base ≤ w.heap.size)
    (h : ∀ v' w', w'.ownsRow base e size v' (n + m) (xs ++ news) → w.grownBy w' v.ownBlock → (v' = .slice none 0 0 ↔ v = .slice none 0 0 ∧ m = 0) → wpList P ops Q rest (a.put o.dst v') w') : wpList P ops Q (o :: rest) a w := by
  unfold wpList
  rw [if_pos hw]
  exact .inl (wp_append_own w s x t ho base e i z size bytes ht hi hz hsize hby hzs hsz v n xs hs hown ad m c news hx hl hnews h1 h63 hbytes hbase h)
theorem vtB_not {t : List Int} (h : vtB t = true) (hl : t.length < 15) : vtB (12 :: t) = true := by
  obtain ⟨_, e⟩ := vtB_parts h
  unfold vtB
  rw [List.length_cons, tmR_opp (by decide) rfl, e, decide_eq_true (by omega)]
  rfl
theorem vtB_some {t : List Int} (h : vtB t = true) : 1 ≤ t.length ∧ t ≠ [] := by
  obtain ⟨_, e⟩ := vtB_parts h
  have := tmR_len e
  simp only [List.length_nil] at this
  exact ⟨this, fun e => by rw [e] at this; simp at this⟩
theorem ttI_ne {t : List Int} (h : vtB t = true) : 1 ≤ (ttI t).size := by
  obtain ⟨_, e⟩ := vtB_parts h
  unfold ttI
  rw [if_pos h]
  have := txI_ge _ _ _ e
  have := (vtB_some h).1
  simp only [List.length_nil] at *
  omega
/-- numbers are drawn -/
def RetDrN (w : World) (e : Ending) (w' : World) : Prop := ∃ (L : List Int) (a : Option Addr) (c : Nat), e = .returned (.slice a L.length c) ∧ Rd w' a L ∧ L.length ≤ c ∧ L.length ≤ 16 ∧ Below w.heap.size w w'
set_option maxRecDepth 100000 in
set_option maxHeartbeats 2000000 in
/-- spec.DrawValidTerm -/
theorem drawValidTerm_any (a : Option Addr) (n cap : Nat) (w : World) (hy : RdY w a n w.heap.size) (hc : n ≤ cap) (hm : n ≤ 1048576) :
    Calls Try.prog 36 #[.slice a n cap] w (RetDrN w) := by
  go_enter Try.func36, Try.ntmps36
  go_wp2_with fail
  refine (newReader_any a n cap w hy hc hm).mono ?_
  rintro e w1 ⟨rfl, hb1, hr1⟩
  go_wp2_with fail
  refine (someTerm_any w.heap.size w.heap.size 0 w1 hr1 (by omega)).mono ?_
  rintro e w2 ⟨L, va, vc, rfl, hry, hcp, hl, hg, hr⟩
  go_wp2
  go_ret
  exact ⟨L, va, vc, rfl, hry.rd, hcp, hl, hb1.trans (grown_below hg (Nat.le_refl _) hb1.size)⟩
set_option maxRecDepth 100000 in
set_option maxHeartbeats 2000000 in
/-- spec.DrawTermText -/
theorem drawTermText_any (a : Option Addr) (n cap : Nat) (w : World) (hy : RdY w a n w.heap.size) (hc : n ≤ cap) (hm : n ≤ 1048576) :
    Calls Try.prog 40 #[.slice a n cap] w (RetDrN w) := by
  go_enter Try.func40, Try.ntmps40
  go_wp2_with fail
  refine (newReader_any a n cap w hy hc hm).mono ?_
  rintro e w1 ⟨rfl, hb1, hr1⟩
  go_wp2_with fail
  refine (someTerm_any w.heap.size w.heap.size 0 w1 hr1 (by omega)).mono ?_
  rintro e w2 ⟨L, va, vc, rfl, hry, hcp, hl, hg, hr⟩
  go_wp2
  go_ret
  exact ⟨L, va, vc, rfl, hry.rd, hcp, hl, hb1.trans (grown_below hg (Nat.le_refl _) hb1.size)⟩
set_option maxRecDepth 100000 in
set_option maxHeartbeats 4000000 in
/-- laws.FnValidTerm -/
theorem lawPValidTerm (a0 : Option Addr) (len0 cap0 : Nat) (w : World) (hy : RdY w a0 len0 w.heap.size) (hc : len0 ≤ cap0) (hm : len0 ≤ maxLen) :
    Calls Try.prog 9 #[.slice a0 len0 cap0] w fun e w' => e = .returned (.bool true) ∧ Below w.heap.size w w' := by
  by_cases hbig : 1048576 < len0
  · have hbig2 : (1048576 : Int) < len0 := by omega
    go_enter Try.func9, Try.ntmps9
    go_wp2
    go_ret
    exact ⟨rfl, Below.refl _ _⟩
  · have hs : len0 ≤ 1048576 := by omega
    have hs2 : ¬ (1048576 : Int) < len0 := by omega
    obtain ⟨i0, hi, hz0, hz1, hz2⟩ := info_parts info_int
    go_enter Try.func9, Try.ntmps9
    go_wp2_with fail
    refine (drawValidTerm_any a0 len0 cap0 w hy hc hs).mono ?_
    rintro e w1 ⟨L, a, c, rfl, hr, hcp, hl, hb⟩
    have _ := hm
    clear hs hs2 hbig hy hm hc
    have KT := Lib.hid (show ∀ wz, Below w1.heap.size w1 wz → Rd wz a L from fun wz h => hr.below h)
    have z : Below w1.heap.size w1 w1 := Below.refl _ _
    have hB := hb
    clear hr hb
    cases hv : vtB L with
    | false =>
      go_wp2_with (first | go_skip | (go_at_call 37; refine (implValidTerm_any _ _ L _ (KT.out _ z) (by omega) hcp).mono ?_; rw [hv]; rintro e w2 ⟨rfl, hb⟩; replace z := z.trans (hb.mono z.size)) | (go_at_call 38; refine (specValidTerm_any _ _ L _ (KT.out _ z) (by omega)).mono ?_; rw [hv]; rintro e w3 ⟨rfl, hb⟩; replace z := z.trans (hb.mono z.size)))
      go_ret
      exact ⟨rfl, hB.trans (z.mono hB.size)⟩
    | true =>
      obtain ⟨X, hX⟩ : ∃ X, X = ttI L := ⟨_, rfl⟩
      have hsz := ttI_ne hv
      rw [← hX] at hsz
      have hnl : X.toList ≠ [] := fun e => by
        have h2 : X.toList.length = X.size := by rw [ByteArray.toList_eq]; simp
        rw [e] at h2
        simp at h2
        omega
      have hne : (X.toList == []) = false := by rw [beq_eq_false_iff_ne]; exact hnl
      have hne2 : (X.toList != []) = true := by rw [bne, hne]; rfl
      have HX := Lib.hid hX
      obtain ⟨v1, v2⟩ := vtB_some hv
      obtain ⟨ab, ao, rfl⟩ := rd_some (KT.out _ z) v2
      clear hX hsz
      by_cases h15 : L.length = 15
      · have q15 : ((L.length : Int) == 15) = true := by rw [h15]; rfl
        have HL := Lib.hid h15
        clear h15
        go_wp2_with (first | go_skip | (go_at_call 37; refine (implValidTerm_any _ _ L _ (KT.out _ z) (by omega) hcp).mono ?_; rw [hv]; rintro e w2 ⟨rfl, hb⟩; replace z := z.trans (hb.mono z.size)) | (go_at_call 38; refine (specValidTerm_any _ _ L _ (KT.out _ z) (by omega)).mono ?_; rw [hv]; rintro e w3 ⟨rfl, hb⟩; replace z := z.trans (hb.mono z.size)) | (go_at_call 39; refine (implTermText_any _ _ L _ (KT.out _ z) (by omega) hcp).mono ?_; rw [← HX.out]; rintro e w4 ⟨rfl, hb⟩; replace z := z.trans (hb.mono z.size)))
        go_ret
        exact ⟨rfl, hB.trans (z.mono hB.size)⟩
      · have q15 : ((L.length : Int) == 15) = false := by rw [beq_eq_false_iff_ne]; omega
        have l15 := (vtB_parts hv).1
        have hvn := vtB_not hv (by omega)
        go_wp2_with (first | go_skip | (go_at_call 37; refine (implValidTerm_any va vc R _ ho5.rd hRl (ownCapT ho5)).mono ?_; rw [hRv]; rintro e w6 ⟨rfl, hb⟩; replace z := zA.trans (hb.mono zA.size)) | (go_at_call 37; refine (implValidTerm_any _ _ L _ (KT.out _ z) (by omega) hcp).mono ?_; rw [hv]; rintro e w2 ⟨rfl, hb⟩; replace z := z.trans (hb.mono z.size)) | (go_at_call 38; refine (specValidTerm_any _ _ L _ (KT.out _ z) (by omega)).mono ?_; rw [hv]; rintro e w3 ⟨rfl, hb⟩; replace z := z.trans (hb.mono z.size)) | (go_at_call 39; refine (implTermText_any _ _ L _ (KT.out _ z) (by omega) hcp).mono ?_; rw [← HX.out]; rintro e w4 ⟨rfl, hb⟩; replace z := z.trans (hb.mono z.size)) | (at_builtin; refine wpList_append_own_w _ rfl _ _ 22 rfl w1.heap.size 3 i0 (.int .i64 0) 1 8 Try.underlying22 hi hz0 hz1 hz2 rfl (by decide) _ _ _ rfl (Own.row (L := [12]) (heap_alloc_new _ _) z.size (by unfold maxLen; simp)) ⟨ab, ao, none⟩ L.length c (L.map fun x => Value.int .i64 x) rfl (by simp) (old_newsZ _ (rd_cells (KT.out _ z))) (fun x hx => by simp at hx; obtain ⟨y, _, rfl⟩ := hx; rfl) (by unfold maxLen; first | omega | (simp; omega)) (by first | omega | (simp; omega)) (by have := z.size; simp; omega) ?_; intro v5 w5 hown hgrow _; have ho5 : Own w1.heap.size w5 v5 ([12] ++ L) := (by unfold Own; rw [List.map_append, List.length_append]; exact hown); have zA : Below w1.heap.size w1 w5 := (z.alloc z.size _).grown hgrow (by have := z.size; simp; omega) (fun q hq => (by have := (World.ownsRow.lt (Own.row (L := [12]) (heap_alloc_new _ (.cells #[.int .i64 12] 3)) z.size (by unfold maxLen; simp)) q hq).1; exact this)); clear hown hgrow; obtain ⟨R, hR⟩ : ∃ R, R = [12] ++ L := ⟨_, rfl⟩; rw [← hR] at ho5; have hRv : vtB R = true := (by rw [hR]; exact hvn); have hRl : R.length ≤ 1048576 := (by rw [hR]; simp; omega); clear hR; obtain ⟨va, vc, rfl, _⟩ := ho5.slice))
        go_ret
        exact ⟨rfl, hB.trans (z.mono hB.size)⟩
end Go.Proofs.Ytidbilgnclfplaa
