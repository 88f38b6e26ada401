import Derived.Test.YtpophjloedpcfaaGreatDoorTX10
import Derived.Test.YtpophjloedpcfaaGreatDoorTX5
import Derived.Test.YtpophjloedpcfaaGreatDoorL5
import Derived.Test.YtpophjloedpcfaaGreatDoorI5
namespace Go.Proofs.YtpophjloedpcfaaGreatDoor
open Go.RowKit

/-- the library's variables hold what their types say -/
structure GV (w : World) : Prop where
  ml : ∃ m, w.cell? ⟨2, 0, none⟩ = some (.int .i64 m)
  es : ∃ ev, w.cell? ⟨3, 0, none⟩ = some ev ∧ (ev = .nilIface ∨ ∃ te pe, ev = .iface te pe)
  er : ∃ ev, w.cell? ⟨4, 0, none⟩ = some ev ∧ (ev = .nilIface ∨ ∃ te pe, ev = .iface te pe)
theorem GV.below {w w' : World} (h : GV w) (hb : Below w.heap.size w w') : GV w' := by
  obtain ⟨⟨m, h1⟩, ⟨a, h2, h3⟩, ⟨b, h4, h5⟩⟩ := h
  exact ⟨⟨m, by rw [hb.cell (by exact block_lt_of_cell h1)]; exact h1⟩, ⟨a, by rw [hb.cell (by exact block_lt_of_cell h2)]; exact h2, h3⟩, ⟨b, by rw [hb.cell (by exact block_lt_of_cell h4)]; exact h4, h5⟩⟩
/-- strconv.Atoi -/
theorem atoiW (s : ByteArray) (w : World) (hG : GV w) (hs : s.size ≤ 1048576) :
    Calls Tryz.prog 73 #[.string s] w fun e w' => Below w.heap.size w w' ∧ ((∃ v, Lib.atoiAll s.data.toList = .ok v ∧ e = .returned (.tuple #[.int .i64 v, .nilIface])) ∨ ((∀ v, Lib.atoiAll s.data.toList ≠ .ok v) ∧ ∃ x T q, e = .returned (.tuple #[.int .i64 x, .iface T (.pointer (some q))]))) := by
  cases h : Lib.atoiAll s.data.toList with
  | ok v =>
    have := Any.strconv_Atoi_ok Tryz.laysC172 s (by omega) v h w
    refine Calls.mono this fun e w' ⟨he, hw⟩ => ⟨?_, .inl ⟨v, rfl, he⟩⟩
    rcases hw with rfl | ⟨t, rfl⟩
    · exact Below.refl _ _
    · exact Lib.bytesWorld_below _ _ _
  | range =>
    obtain ⟨ev, h1, h2⟩ := hG.er
    have := Any.strconv_Atoi_range Tryz.laysC172 s (by omega) h ev w h1 h2
    exact Calls.mono this fun e w' ⟨N, he, _, _, hb⟩ => ⟨hb, .inr ⟨fun v hv => (by cases hv), _, _, _, he⟩⟩
  | _ =>
    obtain ⟨ev, h1, h2⟩ := hG.es
    have := Any.strconv_Atoi_syntax Tryz.laysC172 s (by omega) h ev w h1 h2
    exact Calls.mono this fun e w' ⟨N, he, _, _, hb⟩ => ⟨hb, .inr ⟨fun v hv => (by cases hv), _, _, _, he⟩⟩
/-- strings.Split by one byte -/
theorem splitW (s : ByteArray) (c : UInt8) (w : World) (hG : GV w) (hs : s.size ≤ 1048576) :
    Calls Tryz.prog 72 #[.string s, .string ⟨#[c]⟩] w fun e w' => ∃ Q : List ByteArray, Q.map (·.data.toList) = pcs c s.data.toList ∧ e = .returned (.slice (some ⟨w.heap.size, 0, none⟩) Q.length Q.length) ∧ StR w' w.heap.size Q ∧ Below w.heap.size w w' := by
  obtain ⟨m, hm⟩ := hG.ml
  have h1 : 1 ≤ (ByteArray.mk #[c]).size := Nat.le_refl 1
  have := Any.strings_Split Tryz.lays146 (by kernel_rfl) s ⟨#[c]⟩ m w (by omega) hm h1
  refine Calls.mono this fun e w' ⟨he, hw⟩ => ⟨Lib.splitB ⟨#[c]⟩ 0 (Lib.countB s ⟨#[c]⟩) s, split_pcs c s, ?_, ?_, ?_⟩
  · rw [he, Lib.splitB_all _ h1 0 _ s rfl]
  · rw [hw]; exact heap_alloc_new w _
  · rw [hw]; exact (Below.refl _ _).alloc (Nat.le_refl _) _
theorem pcs_len (c : UInt8) : ∀ s : List UInt8, (pcs c s).length ≤ s.length + 1 ∧ 1 ≤ (pcs c s).length
  | [] => by simp [pcs]
  | x :: r => by
    have ih := pcs_len c r
    by_cases h : x = c
    · subst h; rw [pcs_hit]; simp; omega
    · cases e : pcs c r with
      | nil => exact absurd e (pcs_ne c r)
      | cons p q => rw [e] at ih; rw [pcs_miss h e]; simp at ih ⊢; omega
theorem pcs_size {c : UInt8} : ∀ {s p : List UInt8}, p ∈ pcs c s → p.length ≤ s.length
  | [], p, h => by simp [pcs] at h; simp [h]
  | x :: r, p, h => by
    by_cases hx : x = c
    · subst hx
      rw [pcs_hit] at h
      rcases List.mem_cons.1 h with rfl | h
      · simp
      · have := pcs_size h; simp; omega
    · cases e : pcs c r with
      | nil => exact absurd e (pcs_ne c r)
      | cons p' q =>
        rw [pcs_miss hx e] at h
        rcases List.mem_cons.1 h with rfl | h
        · have := pcs_size (s := r) (p := p') (by rw [e]; simp)
          simp; omega
        · have := pcs_size (s := r) (p := p) (by rw [e]; simp [h])
          simp; omega
theorem atoL_snoc : ∀ {P : List (List UInt8)} {L : List Int} {p : List UInt8} {v : Int}, atoL P = some L → Lib.atoiAll p = .ok v → atoL (P ++ [p]) = some (L ++ [v])
  | [], L, p, v, h, hv => by
    have : L = [] := by simpa [atoL] using h.symm
    subst this
    rw [List.nil_append, atoL, hv]; rfl
  | q :: r, L, p, v, h, hv => by
    rw [atoL] at h
    cases e : Lib.atoiAll q with
    | ok u =>
      rw [e] at h
      simp only at h
      cases e2 : atoL r with
      | none => rw [e2] at h; cases h
      | some q2 =>
        rw [e2] at h
        simp only [Option.some.injEq] at h
        subst h
        rw [List.cons_append, atoL, e, atoL_snoc e2 hv]; rfl
    | _ => rw [e] at h; cases h
theorem atoL_stop : ∀ {P : List (List UInt8)} {p : List UInt8} {R : List (List UInt8)}, (∀ v, Lib.atoiAll p ≠ .ok v) → atoL (P ++ p :: R) = none
  | [], p, R, h => by
    rw [List.nil_append, atoL]
    cases e : Lib.atoiAll p with
    | ok v => exact absurd e (h v)
    | _ => rfl
  | q :: r, p, R, h => by
    rw [List.cons_append, atoL, atoL_stop h]
    cases Lib.atoiAll q <;> rfl
/-- numbers so far, and zeros -/
def zfill (L : List Int) (n : Nat) : List Int := L ++ List.replicate (n - L.length) 0
theorem zfill_len {L : List Int} {n : Nat} (h : L.length ≤ n) : (zfill L n).length = n := by unfold zfill; simp; omega
theorem zfill_set {L : List Int} {n : Nat} (v : Int) (h : L.length < n) : (zfill L n).set L.length v = zfill (L ++ [v]) n := by
  unfold zfill
  rw [List.set_append_right (h := Nat.le_refl _), Nat.sub_self, show n - L.length = (n - (L ++ [v]).length) + 1 by simp; omega, List.replicate_succ, List.set_cons_zero, List.append_assoc]; rfl
theorem zfill_all {L : List Int} {n : Nat} (h : L.length = n) : zfill L n = L := by unfold zfill; rw [h]; simp
theorem Row.cellM {w : World} {b : Nat} {L : List Int} (h : Row w b L) {j : Nat} (hj : j < L.length) : w.cell? ⟨b, j, none⟩ = some (.int .i64 (nth L j)) := by
  rw [cell_of_row w b j _ _ _ h]; exact IL_get L j hj
theorem StR.other {w : World} {b : Nat} {S : List ByteArray} (h : StR w b S) {p : Addr} (v : Value) (hp : b ≠ p.block) : StR (w.setCell p v) b S := by
  unfold StR; rw [heap_setCell_other w p b v hp]; exact h
theorem StR.cellN {w : World} {b : Nat} {S : List ByteArray} (h : StR w b S) {j : Nat} (hj : j < S.length) : w.cell? ⟨b, j, none⟩ = some (.string S[j]) := h.cell (List.getElem?_eq_getElem hj)
/-- what readNumbers hands back -/
def RetNs (O : Option (List Int)) (w : World) (e : Ending) (w' : World) : Prop :=
  Below w.heap.size w w' ∧ ((∃ L g, O = some L ∧ e = .returned (.tuple #[.slice (some ⟨g, 0, none⟩) L.length L.length, .bool true]) ∧ Row w' g L ∧ w.heap.size ≤ g) ∨ (O = none ∧ e = .returned (.tuple #[.slice none 0 0, .bool false])))
set_option maxRecDepth 100000 in
set_option maxHeartbeats 4000000 in
/-- impl.readNumbers -/
theorem readNumbers_any (s : ByteArray) (w : World) (hG : GV w) (hs : s.size ≤ 1048576) :
    Calls Tryz.prog 35 #[.string s] w (RetNs (atoL (pcs 44 s.data.toList)) w) := by
  have HS := Lib.hid (splitW s 44 w hG hs)
  have hpl := pcs_len 44 s.data.toList
  rw [← ba_size] at hpl
  have HP := Lib.hid (fun p (hp : p ∈ pcs 44 s.data.toList) => pcs_size hp)
  go_enter Tryz.func35, Tryz.ntmps35
  go_wp2_with fail
  refine HS.out.mono ?_
  rintro e w2 ⟨Q, hQ, rfl, hQr, h2⟩
  obtain ⟨b0, hb0⟩ : ∃ b, b = w.heap.size := ⟨_, rfl⟩
  rw [← hb0] at hQr ⊢
  have hql : Q.length = (pcs 44 s.data.toList).length := by rw [← hQ, List.length_map]
  have hq1 : 1 ≤ Q.length := by omega
  have hq2 : Q.length ≤ 1048577 := by omega
  have hq2i : (Q.length : Int) ≤ 1048577 := by omega
  have hmk := run_make_ints Q.length (by omega)
  obtain ⟨g, hg⟩ : ∃ g, g = w2.heap.size := ⟨_, rfl⟩
  obtain ⟨w3, hw3⟩ : ∃ w3, w3 = w2.alloc (.cells (IL (List.replicate Q.length 0)) 3) := ⟨_, rfl⟩
  have hR3 : Row w3 g (zfill [] Q.length) := by rw [hw3, hg]; exact heap_alloc_new w2 _
  have h3 : Below w.heap.size w w3 := by rw [hw3]; exact h2.alloc h2.size _
  have hgw : w.heap.size ≤ g := by rw [hg]; exact h2.size
  have hbg : b0 < g := by rw [hb0, hg]; exact Nat.lt_of_lt_of_le (by have := hQr.lt; omega) (Nat.le_refl _)
  have hQ3 : StR w3 b0 Q := by rw [hw3]; exact hQr.below ((Below.refl _ _).alloc (Nat.le_refl _) _) hQr.lt
  have HG := Lib.hid (fun wz (hz : Below w.heap.size w wz) => hG.below hz)
  have HQ := Lib.hid hQ
  have HL := Lib.hid hql
  clear hQ hQr h2 hpl hG hql hb0
  go_wp2_with (first | (rw [← hw3]; clear hw3))
  try rw [← hg]
  clear hmk hg
  go_loopw [6, 7, 8, 9, 17] (fun _ _ _ _ iv wr => ∃ (n : Nat) (L : List Int), n ≤ Q.length ∧ iv = .int .i64 (n : Int) ∧ L.length = n ∧ Row wr g (zfill L Q.length) ∧ atoL ((pcs 44 s.data.toList).take n) = some L ∧ Below w.heap.size w wr ∧ StR wr b0 Q) (fun _ _ _ _ iv _ => ((Q.length : Int) - intOf iv).toNat)
  case atStart => exact ⟨0, [], by omega, rfl, rfl, hR3, rfl, h3, hQ3⟩
  case round =>
    obtain ⟨n, L, hn, rfl, hLn, hrow, hat, hb, hq⟩ := hrel
    clear hR3 h3 hQ3
    by_cases hlt : n < Q.length
    · have hlti : (n : Int) < Q.length := by omega
      have c0 := hq.cellN hlt
      have hpn : (pcs 44 s.data.toList)[n]? = some (Q[n]).data.toList := by rw [← HQ.out, List.getElem?_map, List.getElem?_eq_getElem hlt]; rfl
      have hps : (Q[n]).size ≤ 1048576 := by
        have := HP.out _ (List.mem_of_getElem? hpn)
        rw [← ba_size, ← ba_size] at this; omega
      obtain ⟨p, hp⟩ : ∃ p, p = Q[n] := ⟨_, rfl⟩
      rw [← hp] at c0 hpn hps
      have HA := Lib.hid (atoiW p wr (HG.out wr hb) hps)
      have HT := Lib.hid hat
      have HPN := Lib.hid hpn
      have HLN := Lib.hid hLn
      have HR := Lib.hid hrow
      clear hat hpn hps hp hLn hrow
      go_wp2_with fail
      refine HA.out.mono ?_
      rintro e w5 ⟨h5, (⟨v, hv, rfl⟩ | ⟨hv, x, T, q, rfl⟩)⟩
      · have hq5 := hq.below h5 hq.lt
        have hr5 := HR.out.below h5 HR.out.lt
        have hzl := zfill_len (L := L) (n := Q.length) (by rw [HLN.out]; omega)
        have c1 := hr5.cellM (j := n) (by omega)
        have f1 := hr5.free n
        have hset := zfill_set (L := L) (n := Q.length) v (by rw [HLN.out]; omega)
        rw [HLN.out] at hset
        have HS2 := Lib.hid hset
        have HV := Lib.hid hv
        clear hset hzl hv
        go_wp2
        go_roundw
        case rel =>
          refine ⟨n + 1, L ++ [v], by omega, by simp, by simp [HLN.out], by rw [← HS2.out]; exact hr5.set _ _, ?_, (hb.trans (h5.mono hb.size)).setCell (by simp; omega) _, hq5.other _ (by simp; omega)⟩
          rw [List.take_add_one, HPN.out]
          exact atoL_snoc HT.out HV.out
        case measure => simp [intOf]; omega
      · have HN := Lib.hid (show atoL (pcs 44 s.data.toList) = none by
          rw [← List.take_append_drop n (pcs 44 s.data.toList), List.drop_eq_getElem?_toList_append, HPN.out]
          exact atoL_stop hv)
        clear hv
        go_wp2
        go_ret2
        exact ⟨hb.trans (h5.mono hb.size), .inr ⟨HN.out, rfl⟩⟩
    · have e : n = Q.length := by omega
      rw [e, HL.out, List.take_of_length_le (Nat.le_refl _)] at hat
      rw [zfill_all (by omega)] at hrow
      have HT := Lib.hid hat
      have HE := Lib.hid (show Q.length = L.length by omega)
      have hge : ¬ (n : Int) < Q.length := by omega
      have HR := Lib.hid hrow
      clear hat e hLn hrow
      go_wp2
      go_ret2
      exact ⟨hb, .inl ⟨L, g, HT.out, by rw [HE.out]; rfl, HR.out, hgw⟩⟩
end Go.Proofs.YtpophjloedpcfaaGreatDoor
