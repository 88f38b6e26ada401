import Derived.Test.YtnmhbbekmepinaaSS1
import Derived.Test.YtnmhbbekmepinaaP7
import Derived.Test.YtnmhbbekmepinaaY1
import Derived.Deep.RegionHeld3
namespace Go.Proofs.Ytnmhbbekmepinaa
open Go.RowKit
set_option linter.unusedVariables false

theorem inRange_isS (n a b : Int) (w : World) {r : Bool} (h : (decide (a ≤ n) && decide (n ≤ b)) = r) :
    Calls Try.prog 123 #[.int .i64 n, .int .i64 a, .int .i64 b] w fun e w' => e = .returned (.bool r) ∧ w = w' := by
  subst h; exact inRange_any n a b w

set_option maxHeartbeats 1000000 in
/-- spec.validSizes -/
theorem validSizes_any (a : Option Addr) (ca : Nat) (S : List Int) (w : World) (hr : Rd w a S) (hl : S.length ≤ 1048576) :
    Calls Try.prog 108 #[.slice a S.length ca] w fun e w' => e = .returned (.bool (szB 5 S)) ∧ w = w' := by
  have HQ := Lib.hid (show szB 5 S = szB 5 (S.drop (0 : Int).toNat) from rfl)
  go_enter Try.func108, Try.ntmps108
  go_wp2
  go_loopw [3, 4] (fun s c wr => ∃ k v : Int, 0 ≤ k ∧ k ≤ S.length ∧ c = .int .i64 k ∧ s = .int .i64 (6 - v) ∧ szB 5 S = szB v (S.drop k.toNat) ∧ 0 ≤ v ∧ v ≤ 5 ∧ w = wr) (fun _ c _ => ((S.length : Int) - intOf c).toNat)
  case atStart => exact ⟨0, 5, by omega, by omega, rfl, rfl, HQ.out, by omega, by omega, rfl⟩
  case round =>
    obtain ⟨k, v, k0, k1, rfl, rfl, hv, v0, v5, rfl⟩ := hrel
    have HV := Lib.hid hv
    clear hv HQ
    by_cases hk : k < S.length
    · obtain ⟨sb, so, rfl, hc⟩ := hr (by intro e; rw [e] at hk; simp at hk; omega)
      have d0 := hc.at k k0 hk
      have hd := Lib.hid (drop_next S k0 hk)
      obtain ⟨s, hs⟩ : ∃ s, s = nth S k := ⟨_, rfl⟩
      rw [← hs] at d0 hd
      have HU := Lib.hid (show szB v (s :: S.drop (k + 1).toNat) = (decide (1 ≤ s) && (decide (s ≤ v) && szB (v - s) (S.drop (k + 1).toNat))) from rfl)
      clear hs hc
      have kk : IntKind.i64.wrap (k + 1) = k + 1 := IntWalk.i64_in _ (by omega)
      by_cases h1 : 1 ≤ s ∧ s ≤ 5
      · have h1' : (decide (1 ≤ s) && decide (s ≤ 5)) = true := by rw [decide_eq_true h1.1, decide_eq_true h1.2]; rfl
        have kv : IntKind.i64.wrap (6 - v + s) = 6 - v + s := IntWalk.i64_in _ (by omega)
        by_cases h2 : v < s
        · have h2' : 6 - v + s > 6 := by omega
          have h2d : decide (6 - v + s > 6) = true := decide_eq_true h2'
          go_wp2_with (go_at_call 123; refine (inRange_isS s 1 5 _ h1').mono ?_; rintro e w2 ⟨rfl, rfl⟩)
          go_ret
          refine ⟨ret_bool ?_, rfl⟩
          rw [HV.out, hd.out, HU.out, decide_eq_false (show ¬ s ≤ v by omega), Bool.false_and, Bool.and_false]
        · have h2' : ¬ 6 - v + s > 6 := by omega
          have h2d : decide (6 - v + s > 6) = false := decide_eq_false h2'
          have HN := Lib.hid (show szB 5 S = szB (v - s) (S.drop (k + 1).toNat) by rw [HV.out, hd.out, HU.out, decide_eq_true h1.1, decide_eq_true (show s ≤ v by omega)]; rfl)
          go_wp2_with (go_at_call 123; refine (inRange_isS s 1 5 _ h1').mono ?_; rintro e w2 ⟨rfl, rfl⟩)
          go_roundw
          case rel => exact ⟨k + 1, v - s, by omega, by omega, rfl, by rw [show 6 - (v - s) = 6 - v + s by omega], HN.out, by omega, by omega, by trivial⟩
          case measure => simp [intOf]; omega
      · have h1' : (decide (1 ≤ s) && decide (s ≤ 5)) = false := by
          rw [Bool.eq_false_iff, Ne, Bool.and_eq_true, decide_eq_true_eq, decide_eq_true_eq]; exact h1
        go_wp2_with (go_at_call 123; refine (inRange_isS s 1 5 _ h1').mono ?_; rintro e w2 ⟨rfl, rfl⟩)
        go_ret
        refine ⟨ret_bool ?_, rfl⟩
        rw [HV.out, hd.out, HU.out]
        by_cases h2 : 1 ≤ s
        · rw [decide_eq_false (show ¬ s ≤ v by omega), Bool.false_and, Bool.and_false]
        · rw [decide_eq_false h2, Bool.false_and]
    · have e : k = S.length := by omega
      have HN := Lib.hid (show szB 5 S = true by rw [HV.out, e, Int.toNat_natCast, List.drop_length]; rfl)
      go_wp2
      go_ret
      exact ⟨ret_bool (by rw [HN.out]), rfl⟩
theorem rowsAt_rdT {B : Nat} {w : World} {b : Option Addr} {n c : Nat} {T : List (List Int)} (h : RowsAt B w (.slice b n c) T) : RdT w b T := by
  obtain ⟨b', c', e, hr⟩ := h.rd
  injection e with e _ _
  rw [e]; exact hr
theorem set2_otherS (w : World) (n : Nat) (x y : Value) : ∀ k, k ≠ n → ((w.setCell ⟨n, 0, none⟩ x).setCell ⟨n, 1, none⟩ y).heap[k]? = w.heap[k]? := fun k hk => by
  rw [heap_setCell_other _ ⟨n, 1, none⟩ _ _ (by simpa using hk), heap_setCell_other _ ⟨n, 0, none⟩ _ _ (by simpa using hk)]
theorem set2_sameS {w : World} {n : Nat} {a b x y : Value} (h : w.heap[n]? = some (.cells #[a, b] 27 (0, 0))) : ((w.setCell ⟨n, 0, none⟩ x).setCell ⟨n, 1, none⟩ y).heap[n]? = some (.cells #[x, y] 27 (0, 0)) := by
  rw [heap_setCell_same _ n 1 _ _ _ (show (w.setCell ⟨n, 0, none⟩ x).heap[n]? = some (.cells #[x, b] 27 (0, 0)) from by rw [heap_setCell_same w n 0 _ _ _ h]; rfl)]
  rfl
theorem frozen_of_cell {w : World} {G : Nat} {x y : Value} (h : w.heap[G]? = some (.cells #[x, y] 27 (0, 0))) : w.frozen? ⟨G, 0, none⟩ = false ∧ w.frozen? ⟨G, 1, none⟩ = false := by
  unfold World.frozen?
  simp [h]
theorem su_facts {s : Int} (h1 : 1 ≤ s) (h5 : s ≤ 5) : algB (suL s) (suT s) = true ∧ ((suL s).length : Int) = s + 1 := by
  have h : s = 1 ∨ s = 2 ∨ s = 3 ∨ s = 4 ∨ s = 5 := by omega
  rcases h with rfl | rfl | rfl | rfl | rfl <;> exact ⟨by decide +kernel, by decide +kernel⟩
/-- one more chain below -/
theorem sk_dropS (S : List Int) (h : szB 5 S = true) {i : Int} (i0 : 0 ≤ i) (i1 : i < S.length) : 1 ≤ nth S i ∧ nth S i ≤ 5 ∧ szB 5 (S.drop (i + 1).toNat) = true ∧ stOk (suL (nth S i)) (suT (nth S i)) (skA (S.drop (i + 1).toNat)).1 (skA (S.drop (i + 1).toNat)).2 = true ∧ skA (S.drop i.toNat) = (stL (suL (nth S i)) (suT (nth S i)) (skA (S.drop (i + 1).toNat)).1 (skA (S.drop (i + 1).toNat)).2, stT (suL (nth S i)) (suT (nth S i)) (skA (S.drop (i + 1).toNat)).1 (skA (S.drop (i + 1).toNat)).2) := by
  have key : ∀ (n : Nat) (S : List Int), szB 5 S = true → szB 5 (S.drop n) = true := fun n => by
    induction n with
    | zero => intro S h; exact h
    | succ n ih =>
      intro S h
      cases S with
      | nil => exact h
      | cons s r => exact ih r (szB_mono r (by have := szB_cons h; omega) (szB_cons h).2.2)
  have h2 := key i.toNat S h
  rw [drop_next S i0 i1] at h2 ⊢
  obtain ⟨a1, a5, _⟩ := szB_cons h2
  obtain ⟨b1, b2, b3, b4⟩ := sk_cons h2
  have b2' := b2
  rw [(sk_yes b1).1, (sk_yes b1).2] at b2'
  exact ⟨a1, a5, b1, b2', rfl⟩
theorem enters_smS : Enters 161 := enters_of Try.func161 (by kernel_rfl) rfl
theorem enters_stS : Enters 162 := enters_of Try.func162 (by kernel_rfl) rfl
def BoxS (lo G : Nat) (w1 : World) (L : List Int) (T : List (List Int)) (wr : World) : Prop := ∃ (a : Option Addr) (n c : Nat) (b : Option Addr) (m d : Nat), wr.heap[G]? = some (.cells #[.slice a n c, .slice b m d] 27 (0, 0)) ∧ OA lo wr (.slice a n c) (.slice b m d) L T ∧ G < wr.heap.size ∧ Below w1.heap.size w1 wr
set_option maxRecDepth 100000 in
set_option maxHeartbeats 4000000 in
/-- spec.stackOf -/
theorem specStackOfL_any (a : Option Addr) (ca : Nat) (S : List Int) (w : World) (hr : Rd w a S) (h : szB 5 S = true) : Calls Try.prog 109 #[.slice a S.length ca] w (RetRd (skA S).1 (skA S).2 w) := by
  have hl5 : (S.length : Int) ≤ 5 := by have := szB_tot S (by omega) h; omega
  obtain ⟨w1, hw1⟩ : ∃ w1, w1 = w.alloc (.cells #[.slice none 0 0, .slice none 0 0] 27) := ⟨_, rfl⟩
  have hB : Below w.heap.size w w1 := by rw [hw1]; exact (Below.refl _ _).alloc (Nat.le_refl _) _
  have hz : w1.heap[w.heap.size]? = some (.cells #[.slice none 0 0, .slice none 0 0] 27 (0, 0)) := by rw [hw1]; exact heap_alloc_new w _
  have Kz := Lib.hid (show ∀ wz, Below w1.heap.size w1 wz → wz.heap[w.heap.size]? = some (.cells #[.slice none 0 0, .slice none 0 0] 27 (0, 0)) from fun wz h => (h.block _ (lt_of_block hz)).trans hz)
  have hsz : w.heap.size < w1.heap.size := lt_of_block hz
  have KR := Lib.hid (show ∀ wz, Below w1.heap.size w1 wz → Rd wz a S from fun wz h => (hr.below hB).below h)
  have z1 : Below w1.heap.size w1 w1 := Below.refl _ _
  clear hz hr
  have HS := Lib.hid h
  have kl : IntKind.i64.wrap ((S.length : Int) - 1) = (S.length : Int) - 1 := IntWalk.i64_in _ (by omega)
  clear h
  go_enter Try.func109, Try.ntmps109
  go_wp2_with (first
    | (rw [← hw1]; clear hw1)
    | (go_at_call 161; refine (specSum_any 1 _ (by omega) (by omega)).mono ?_; rintro e w2 ⟨pa, pc, pb, pd, rfl, po, pr, hb2⟩; have z2 := z1.trans (hb2.mono z1.size))
    | (refine wpList_store_row rfl 27 _ _ rfl w2.heap.size #[.slice pa (chainTo 1 1).length pc, .slice pb (tabL (sumP 1) 1).length pd] rfl rfl _ _ (heap_alloc_new w2 (.cells #[.slice none 0 0, .slice none 0 0] 27)) (size_Alg _ _) rfl (one_sl2 _ _ _ _ _ _) ?_; rw [World.setRow_alloc_new]; obtain ⟨G, hG⟩ : ∃ g : Nat, g = w2.heap.size := ⟨_, rfl⟩; obtain ⟨w3, hw3⟩ : ∃ x : World, x = w2.alloc (.cells #[.slice pa (chainTo 1 1).length pc, .slice pb (tabL (sumP 1) 1).length pd] 27) := ⟨_, rfl⟩; rw [← hw3, ← hG]; have qw3 : Below w2.heap.size w2 w3 := (by rw [hw3]; exact (Below.refl _ _).alloc (Nat.le_refl _) _); have hxG : w3.heap[G]? = some (.cells #[.slice pa (chainTo 1 1).length pc, .slice pb (tabL (sumP 1) 1).length pd] 27 (0, 0)) := (by rw [hw3, hG]; exact heap_alloc_new w2 _); have KG := Lib.hid (show ∀ wz, Below w3.heap.size w3 wz → wz.heap[G]? = some (.cells #[.slice pa (chainTo 1 1).length pc, .slice pb (tabL (sumP 1) 1).length pd] 27 (0, 0)) from fun wz h => (h.block _ (lt_of_block hxG)).trans hxG); have z3 : Below w1.heap.size w1 w3 := z2.trans (qw3.mono z2.size); have lG : w2.heap.size ≤ G := Nat.le_of_eq hG.symm; have l3 : G < w3.heap.size := lt_of_block hxG; clear hw3 hG hxG))
  have hoa3 : OA w.heap.size w3 (.slice pa (chainTo 1 1).length pc) (.slice pb (tabL (sumP 1) 1).length pd) (chainTo 1 1) (tabL (sumP 1) 1) := OA.below (oa_of (by have := hB.size; omega) po pr) qw3
  have KZ3 := Lib.hid (show ∀ wz, Below w1.heap.size w1 wz → wz.heap[w.heap.size]? = some (.cells #[.slice none 0 0, .slice none 0 0] 27 (0, 0)) from Kz.out)
  have HD0 := Lib.hid (show skA (S.drop ((S.length : Int) - 1 + 1).toNat) = (chainTo 1 1, tabL (sumP 1) 1) by rw [show ((S.length : Int) - 1 + 1).toNat = S.length by omega, List.drop_length]; rfl)
  have lo1 : w1.heap.size ≤ G := by have := z2.size; omega
  have KG0 := Lib.hid (fun wz h => KG.out wz h)
  clear po pr hb2 qw3 KG
  go_loopw [4] (fun c wr => ∃ i : Int, -1 ≤ i ∧ i < S.length ∧ c = .int .i64 i ∧ BoxS w.heap.size G w1 (skA (S.drop (i + 1).toNat)).1 (skA (S.drop (i + 1).toNat)).2 wr) (fun c _ => (intOf c + 1).toNat)
  case atStart => exact ⟨(S.length : Int) - 1, by omega, by omega, rfl, by rw [HD0.out]; exact ⟨_, _, _, _, _, _, (KG0.out _ (Below.refl _ _)), hoa3, l3, z3⟩⟩
  case round =>
    obtain ⟨i, i0, i1, rfl, ⟨pa', pn, pc', pb', pm, pd', hbx, hoa, lG', z4⟩⟩ := hrel
    clear z3 z2 hoa3 l3 lG
    by_cases hi : 0 ≤ i
    · obtain ⟨s1, s5, hdr, hok, hnx⟩ := sk_dropS S HS.out hi i1
      obtain ⟨sb, so, rfl, hcc⟩ := (KR.out _ z4) (by intro e; rw [e] at i1; simp at i1; omega)
      have d0 := hcc.at i hi i1
      have HF := Lib.hid (skF _ hdr)
      have HNX := Lib.hid hnx
      obtain ⟨s, hs⟩ : ∃ s, s = nth S i := ⟨_, rfl⟩
      rw [← hs] at d0 s1 s5 hok HNX
      obtain ⟨ML, hML⟩ : ∃ ML, ML = (skA (S.drop (i + 1).toNat)).1 := ⟨_, rfl⟩
      obtain ⟨MT, hMT⟩ : ∃ MT, MT = (skA (S.drop (i + 1).toNat)).2 := ⟨_, rfl⟩
      rw [← hML, ← hMT] at hok HF HNX hoa
      obtain ⟨hsa, hsl⟩ := su_facts s1 s5
      have hmb : algB ML MT = true := HF.out.alg
      have h6 : ((suL s).length : Int) - 1 + ML.length ≤ 6 := by
        unfold stOk at hok
        exact of_decide_eq_true (Bool.and_eq_true_iff.1 (Bool.and_eq_true_iff.1 hok).2).2
      obtain ⟨_, eL, eT⟩ := st_yes hsa hmb h6
      have HX := Lib.hid (show (skA (S.drop (i - 1 + 1).toNat)).1 = upL (stG (suL s) ML (((suL s).length : Int) - 1)) (((suL s).length : Int) - 1 + ML.length) ∧ (skA (S.drop (i - 1 + 1).toNat)).2 = tabL (stP (suT s) MT (((suL s).length : Int) - 1)) (((suL s).length : Int) - 1 + ML.length) from by rw [show i - 1 + 1 = i by omega, HNX.out]; exact ⟨eL, eT⟩)
      have HST := Lib.hid (show ∀ (a b a2 b2 : Option Addr) (ca cb ca2 cb2 : Nat) (w : World), Rd w a (suL s) → RdT w b (suT s) → Rd w a2 ML → RdT w b2 MT → Calls Try.prog 162 #[.agg #[.slice a (suL s).length ca, .slice b (suT s).length cb], .agg #[.slice a2 ML.length ca2, .slice b2 MT.length cb2]] w (RetRd (upL (stG (suL s) ML (((suL s).length : Int) - 1)) (((suL s).length : Int) - 1 + ML.length)) (tabL (stP (suT s) MT (((suL s).length : Int) - 1)) (((suL s).length : Int) - 1 + ML.length)) w) from fun a b a2 b2 ca cb ca2 cb2 w q1 q2 q3 q4 => specStackS_any a b ca cb (suL s) (suT s) a2 b2 ca2 cb2 ML MT w q1 q2 q3 q4 hsa hmb h6)
      obtain ⟨XL, hXL⟩ : ∃ X, X = upL (stG (suL s) ML (((suL s).length : Int) - 1)) (((suL s).length : Int) - 1 + ML.length) := ⟨_, rfl⟩
      obtain ⟨XT, hXT⟩ : ∃ X, X = tabL (stP (suT s) MT (((suL s).length : Int) - 1)) (((suL s).length : Int) - 1 + ML.length) := ⟨_, rfl⟩
      rw [← hXL, ← hXT] at HX HST
      obtain ⟨rfl, rfl, hrM, htM⟩ := ra_partsS hoa.ra
      have KM := Lib.hid (show ∀ wz, Below wr.heap.size wr wz → Rd wz pa' ML ∧ RdT wz pb' MT ∧ wz.heap[G]? = some (.cells #[.slice pa' ML.length pc', .slice pb' MT.length pd'] 27 (0, 0)) from fun wz hz => ⟨hrM.below hz, htM.below hz, (hz.block _ lG').trans hbx⟩)
      have KD := Lib.hid (show ∀ wz, Below wr.heap.size wr wz → wz.cell? ⟨sb, so + i.toNat, none⟩ = some (.int .i64 s) from fun wz h => (h.cell (by exact block_lt_of_cell d0)).trans d0)
      have ks : IntKind.i64.wrap (s + 1) = s + 1 := IntWalk.i64_in _ (by omega)
      have ki : IntKind.i64.wrap (i - 1) = i - 1 := IntWalk.i64_in _ (by omega)
      have SLc := Lib.hid (show suL s = chainTo (s + 1) (s + 1) ∧ suT s = tabL (sumP (s + 1)) (s + 1) from ⟨rfl, rfl⟩)
      have HSU := Lib.hid (show ∀ w : World, Calls Try.prog 161 #[.int .i64 (s + 1)] w (RetRd (suL s) (suT s) w) from fun w => specSum_any (s + 1) w (by omega) (by omega))
      clear hs hML hMT hok hnx hdr HF HNX eL eT hXL hXT hoa hrM htM hcc SLc hsl hsa hmb h6 hbx
      have sr := z4.size
      obtain ⟨e0, e1⟩ := bx_cells (KM.out _ (Below.refl _ _)).2.2
      go_wp2
      go_region_with (first
        | (go_at_call 161; refine (HSU.out _).mono ?_; rintro e w5 ⟨qa, qc, qb, qd, rfl, qo, qr, hb5⟩; have y5 : Below wr.heap.size wr w5 := (Below.refl wr.heap.size wr).drew.trans (hb5.mono (Below.refl wr.heap.size wr).drew.size); have QO := Lib.hid qo.rd; have QT := Lib.hid (rowsAt_rdT qr); obtain ⟨f0, f1⟩ := bx_cells (KM.out _ y5).2.2; clear qo qr hb5)
        | (go_at_call 162; refine (HST.out _ _ _ _ _ _ _ _ w5 QO.out QT.out (KM.out _ y5).1 (KM.out _ y5).2.1).mono ?_; rintro e w6 ⟨fa, fc, fb, fd, rfl, fo, fr, hb6⟩; have y6 : Below wr.heap.size wr w6 := y5.trans (hb6.mono y5.size); have FO := Lib.hid fo; have FR := Lib.hid fr; obtain ⟨h0, h1⟩ := bx_cells (KM.out _ y6).2.2; have g0 := frozen_of_cell (KM.out _ y6).2.2; clear fo fr hb6))
      all_goals
        obtain ⟨wf, hwf⟩ : ∃ wf : World, wf = (w6.setCell ⟨G, 0, none⟩ (.slice fa XL.length fc)).setCell ⟨G, 1, none⟩ (.slice fb XT.length fd) := ⟨_, rfl⟩
        have hk : ∀ k, k ≠ G → wf.heap[k]? = w6.heap[k]? := by rw [hwf]; exact set2_otherS w6 G _ _
        have l6 := y6.size
        have l5 := y5.size
        have hbF : Below w1.heap.size w1 wf := by rw [hwf]; exact ((z4.trans (y6.mono sr)).setCell lo1 _).setCell lo1 _
        have hGF : wf.heap[G]? = some (.cells #[.slice fa XL.length fc, .slice fb XT.length fd] 27 (0, 0)) := by rw [hwf]; exact set2_sameS (KM.out _ y6).2.2
        have hOA : OA w.heap.size wf (.slice fa XL.length fc) (.slice fb XT.length fd) XL XT := OA.other (oa_of (by have := hB.size; omega) FO.out FR.out) (KM.out _ y6).2.2 (by decide) (by decide) hk
        have HF := Lib.hid (show BoxS w.heap.size G w1 (skA (S.drop (i - 1 + 1).toNat)).1 (skA (S.drop (i - 1 + 1).toNat)).2 wf by rw [HX.out.1, HX.out.2]; exact ⟨fa, _, fc, fb, _, fd, hGF, hOA, lt_of_block hGF, hbF⟩)
        rw [← hwf]
        clear hwf hk l6 l5 hbF hGF hOA h0 h1 g0
        go_wp2
        go_roundw
        case rel => exact ⟨i - 1, by omega, by omega, rfl, HF.out⟩
        case measure => simp [intOf]; omega
    · have e : i = -1 := by omega
      subst e
      rw [show (-1 + 1 : Int).toNat = 0 from rfl, List.drop_zero] at hoa
      obtain ⟨rfl, rfl, _, _⟩ := ra_partsS hoa.ra
      go_wp2_with (first
        | (refine wpList_load_row_w rfl 27 _ rfl G rfl _ _ _ _ hbx Try.underlying27 rfl (size_Alg _ _) ?_)
        | (refine wpList_store_row rfl 27 _ _ rfl w.heap.size #[.slice pa' (skA S).1.length pc', .slice pb' (skA S).2.length pd'] rfl rfl _ _ (Kz.out _ z4) (size_Alg _ _) rfl (one_sl2 _ _ _ _ _ _) ?_))
      refine bodyPost_ret (results_cell_row rfl _ _ w.heap.size _ _ _ _ rfl (setRow_heap _ _ _ _ _ _ (Kz.out _ z4)) Try.underlying27 rfl (size_Alg _ _)) rfl ?_
      have hk : ∀ k, k ≠ w.heap.size → (wr.setRow w.heap.size #[.slice pa' (skA S).1.length pc', .slice pb' (skA S).2.length pd']).heap[k]? = wr.heap[k]? := fun k hk => setRow_other wr _ k _ hk
      have hoa' := OA.other hoa (Kz.out _ z4) (by decide) (by decide) hk
      obtain ⟨xa, xc, xb, xd, e1, e2, o1, o2⟩ := hoa'
      injection e1 with e1a _ e1c
      injection e2 with e2a _ e2c
      subst e1a e1c e2a e2c
      exact ⟨_, _, _, _, rfl, o1, o2, below_setRow' (hB.trans (z4.mono hB.size)) (Nat.le_refl _) _⟩
set_option maxRecDepth 100000 in
set_option maxHeartbeats 4000000 in
/-- spec.StackOfSums -/
theorem specStackOfSums_any (a : Option Addr) (ca : Nat) (S : List Int) (w : World) (hr : Rd w a S) (hl : S.length ≤ 1048576) : Calls Try.prog 39 #[.slice a S.length ca] w (RetSAb (skL S) (skT S) (szB 5 S) w) := by
  obtain ⟨w1, hw1⟩ : ∃ w1, w1 = w.alloc (.cells #[.slice none 0 0, .slice none 0 0] 27) := ⟨_, rfl⟩
  have hB : Below w.heap.size w w1 := by rw [hw1]; exact (Below.refl _ _).alloc (Nat.le_refl _) _
  have hz : w1.heap[w.heap.size]? = some (.cells #[.slice none 0 0, .slice none 0 0] 27 (0, 0)) := by rw [hw1]; exact heap_alloc_new w _
  have Kz := Lib.hid (show ∀ wz, Below w1.heap.size w1 wz → wz.heap[w.heap.size]? = some (.cells #[.slice none 0 0, .slice none 0 0] 27 (0, 0)) from fun wz h => (h.block _ (lt_of_block hz)).trans hz)
  have hsz : w.heap.size < w1.heap.size := lt_of_block hz
  have KR := Lib.hid (show ∀ wz, Below w1.heap.size w1 wz → Rd wz a S from fun wz h => (hr.below hB).below h)
  have z1 : Below w1.heap.size w1 w1 := Below.refl _ _
  clear hz hr
  have VS := Lib.hid (validSizes_any a ca S w1 (KR.out _ z1) hl)
  cases h : szB 5 S with
  | false =>
    have HN := Lib.hid (sk_no h)
    rw [h] at VS
    clear h
    go_enter Try.func39, Try.ntmps39
    go_wp2_with (first
      | (rw [← hw1]; clear hw1)
      | (go_at_call 108; refine VS.out.mono ?_; rintro e w2 ⟨rfl, rfl⟩)
      | (refine wpList_store_row rfl 27 _ _ rfl (w.heap.size) #[.slice none 0 0, .slice none 0 0] rfl rfl _ _ (Kz.out _ z1) (size_Alg _ _) rfl (one_sl2 _ _ _ _ _ _) ?_))
    refine bodyPost_ret (v := .tuple #[.agg #[.slice none 0 0, .slice none 0 0], .bool false]) (results_Alg_tmp rfl _ _ (w.heap.size) rfl _ _ (setRow_heap _ _ _ _ _ _ (Kz.out _ z1)) rfl) rfl ?_
    rw [HN.out.1, HN.out.2]
    exact ⟨_, _, _, _, _, _, rfl, OA.zero _ _, below_setRow' hB (Nat.le_refl _) _⟩
  | true =>
    have HN := Lib.hid (sk_yes h)
    have HK := Lib.hid (specStackOfL_any a ca S w1 (KR.out _ z1) h)
    rw [h] at VS
    rw [← HN.out.1, ← HN.out.2] at HK
    clear h
    go_enter Try.func39, Try.ntmps39
    go_wp2_with (first
      | (rw [← hw1]; clear hw1)
      | (go_at_call 108; refine VS.out.mono ?_; rintro e w2 ⟨rfl, rfl⟩)
      | (go_at_call 109; refine HK.out.mono ?_; rintro e w3 ⟨pa, pc, pb, pd, rfl, po, pr, hb3⟩; have z3 := z1.trans (hb3.mono z1.size))
      | (refine wpList_store_row rfl 27 _ _ rfl (w.heap.size) #[.slice pa (skL S).length pc, .slice pb (skT S).length pd] rfl rfl _ _ (Kz.out _ z3) (size_Alg _ _) rfl (one_sl2 _ _ _ _ _ _) ?_))
    refine bodyPost_ret (v := .tuple #[.agg #[.slice pa (skL S).length pc, .slice pb (skT S).length pd], .bool true]) (results_Alg_tmp rfl _ _ (w.heap.size) rfl _ _ (setRow_heap _ _ _ _ _ _ (Kz.out _ z3)) rfl) rfl ?_
    have hk : ∀ k, k ≠ w.heap.size → (w3.setRow w.heap.size #[.slice pa (skL S).length pc, .slice pb (skT S).length pd]).heap[k]? = w3.heap[k]? := fun k hk => setRow_other w3 _ k _ hk
    exact ⟨_, _, _, _, _, _, rfl, OA.other (oa_of hB.size po pr) (Kz.out _ z3) (by decide) (by decide) hk, below_setRow' (hB.trans (z3.mono hB.size)) (Nat.le_refl _) _⟩
end Go.Proofs.Ytnmhbbekmepinaa
