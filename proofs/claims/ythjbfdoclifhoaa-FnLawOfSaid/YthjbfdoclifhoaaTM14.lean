import Derived.Test.YthjbfdoclifhoaaTM12
import Derived.Test.YthjbfdoclifhoaaTP2
import Derived.Test.YthjbfdoclifhoaaG9
namespace Go.Proofs.Ythjbfdoclifhoaa
open Go.RowKit
set_option linter.unusedVariables false

/-- a term is the greatest element -/
def hdB (L : List Int) (T : List (List Int)) (t N : List Int) : Bool := vlI L T N t.length t == num L - 1
set_option maxRecDepth 100000 in
set_option maxHeartbeats 4000000 in
/-- impl.holds -/
theorem holds_any (L : List Int) (T : List (List Int)) (ba : Nat) (t N : List Int) (nb no cn : Nat) (hN3 : N.length = 3) (h : algB L T = true) (hNe : ∀ i, 0 ≤ i → i < 3 → El L (nth N i)) (hv : vtB t = true) (w : World) (hal : AlgAt w ba L T) (hr : Rd w (some ⟨nb, no, none⟩) N) (T1 : TypeId) (y1 : Value) (e1 : tmV t.length t = .iface T1 y1) :
    Calls Try.prog 36 #[.pointer (some ⟨ba, 0, none⟩), .iface T1 y1, .slice (some ⟨nb, no, none⟩) 3 cn] w fun e w' => e = .returned (.bool (hdB L T t N)) ∧ Below w.heap.size w w' := by
  have l6 : (L.length : Int) ≤ 6 := (lat_len (alg_lat h)).2
  have HS := Lib.hid (show ∀ wz, AlgAt wz ba L T → Rd wz (some ⟨nb, no, none⟩) N → Calls Try.prog 59 #[.pointer (some ⟨ba, 0, none⟩), .iface T1 y1, .slice (some ⟨nb, no, none⟩) 3 cn] wz fun e w' => e = .returned (.int .i64 (vlI L T N t.length t)) ∧ Below wz.heap.size wz w' from fun wz h1 h2 => by
    have := value_any L T ba N nb no cn hN3 h hNe t.length t [] wz (vtB_parts hv).2 h1 h2
    rwa [e1, hN3] at this)
  have Q := Lib.hid (show ∀ wz, Below w.heap.size w wz → AlgAt wz ba L T ∧ Rd wz (some ⟨nb, no, none⟩) N from fun wz hz => ⟨hal.below hz hal.lt, hr.below hz⟩)
  have HQ := Lib.hid (show hdB L T t N = (vlI L T N t.length t == (L.length : Int) - 1) from rfl)
  obtain ⟨V, hV⟩ : ∃ V, V = vlI L T N t.length t := ⟨_, rfl⟩
  rw [← hV] at HS HQ
  clear hal hr h hNe hv e1 hN3 hV
  go_enter Try.func36, Try.ntmps36
  go_wp2
  refine region_in (Below w.heap.size w) (by kernel_rfl) (by kernel_rfl) (Dr.below ⟨1, rfl⟩ _) fun hne => ?_
  repeat (first
    | (go_big_quiet_want; refine quiet_load_mid 56 _ rfl ba 0 rfl (latOf L) _ (fun w' ⟨s, hs⟩ => by rw [hs]; exact (Q.out _ s.h).1.lat) Try.underlying56 rfl (size_latOf L) ?_; simp only [Act.put, List.setIfInBounds_toArray, List.set_cons_succ, List.set_cons_zero]; go_big_quiet_on)
    | go_big_quiet_step ((first | (go_at_call 59; exact in_below _ (Nat.le_refl _) (HS.out _ (Q.out _ (In.h _)).1 (Q.out _ (In.h _)).2)) | (go_at_call 29; exact in_below _ (Nat.le_refl _) (greatest_any L _ l6)))))
  refine wpQuiet_nil ?_
  intro s
  have hs7 := s.h
  obtain ⟨w7, hw7⟩ : ∃ x : World, x = s.w := ⟨_, rfl⟩
  rw [← hw7] at hs7 ⊢
  clear hw7
  go_wp2
  go_ret
  exact ⟨ret_bool (by rw [HQ.out]), hs7⟩
/-- elements for the names are handed back, or none -/
def RetFN (r : Option (List Int)) (w : World) (e : Ending) (w' : World) : Prop :=
  (∃ v nb, r = some v ∧ v.length = 3 ∧ e = .returned (.tuple #[.slice (some ⟨nb, 0, none⟩) 3 3, .bool true]) ∧ w.heap.size ≤ nb ∧ Row w' nb v ∧ Below w.heap.size w w') ∨
  (r = none ∧ e = .returned (.tuple #[.slice none 0 0, .bool false]) ∧ Below w.heap.size w w')
set_option maxRecDepth 100000 in
set_option maxHeartbeats 8000000 in
/-- impl.firstNames at whatever closure -/
theorem firstNames_any (f : Nat) (env : Array Value) (L : List Int) (T : List (List Int)) (p : List Int → Bool) (w : World) (n1 : 1 ≤ L.length) (n6 : L.length ≤ 6) (he : Enters f)
    (H : ∀ (x y z : Int) (nb : Nat) (wr : World), 0 ≤ x → x < L.length → 0 ≤ y → y < L.length → 0 ≤ z → z < L.length → Below w.heap.size w wr → Row wr nb [x, y, z] → Calls Try.prog f (#[.slice (some ⟨nb, 0, none⟩) 3 3] ++ env) wr fun e w' => e = .returned (.bool (p [x, y, z])) ∧ Below wr.heap.size wr w') :
    Calls Try.prog 57 #[.agg (algOf L T), .func (.func f) #[] env] w (RetFN (f3 L.length p) w) := by
  have HH := Lib.hid H; clear H
  have HE := Lib.hid (show ∀ (args : Array Value) (w : World), (callFunc f args).run Try.prog w = .ok (.enter f args) w from he); clear he
  obtain ⟨w1, hw1⟩ : ∃ w1, w1 = w.alloc (.cells (algOf L T) 58) := ⟨_, rfl⟩
  have hB : Below w.heap.size w w1 := by rw [hw1]; exact (Below.refl _ _).alloc (Nat.le_refl _) _
  have hA1 : AlgAt w1 w.heap.size L T := by rw [hw1]; exact AlgAt.new w L T
  have KA := Lib.hid (show ∀ wz, Below w1.heap.size w1 wz → wz.cell? ⟨w.heap.size, 0, none⟩ = some (.int .i64 L.length) from fun wz hz => (hA1.below hz hA1.lt).size)
  have z : Below w1.heap.size w1 w1 := Below.refl _ _
  have c0 := KA.out _ z
  clear hA1
  go_enter Try.func57, Try.ntmps57
  go_wp2_with (rw [← hw1]; clear hw1)
  clear c0
  go_loopw [6, 7, 8, 9, 13] (fun _ _ _ _ c wr => ∃ x : Int, 0 ≤ x ∧ x ≤ L.length ∧ c = .int .i64 x ∧ (∀ a : Int, 0 ≤ a → a < x → f3x L.length p a = none) ∧ Below w1.heap.size w1 wr) (fun _ _ _ _ c _ => (6 - intOf c).toNat)
  case atStart => exact ⟨0, by omega, by omega, rfl, fun a a0 a1 => by omega, z⟩
  case round =>
    clear z
    obtain ⟨x, x0, x1, rfl, hx, z⟩ := hrel
    have HX := Lib.hid hx
    clear hx
    by_cases hxn : x < L.length
    · have c0 := KA.out _ z
      go_wp2
      clear c0
      obtain ⟨w3, rfl⟩ : ∃ w3 : World, w3 = wr := ⟨_, rfl⟩
      go_loopw [7, 8, 9, 19] (fun _ _ _ c wr => ∃ y : Int, 0 ≤ y ∧ y ≤ L.length ∧ c = .int .i64 y ∧ (∀ b : Int, 0 ≤ b → b < y → f3y L.length p x b = none) ∧ Below w1.heap.size w1 wr) (fun _ _ _ c _ => (6 - intOf c).toNat)
      case atStart => exact ⟨0, by omega, by omega, rfl, fun a a0 a1 => by omega, z⟩
      case round =>
        clear z
        obtain ⟨y, y0, y1, rfl, hy, z⟩ := hrel
        have HY := Lib.hid hy
        clear hy
        by_cases hyn : y < L.length
        · have c0 := KA.out _ z
          go_wp2
          clear c0
          obtain ⟨w4, rfl⟩ : ∃ w4 : World, w4 = wr := ⟨_, rfl⟩
          go_loopw [8, 9, 25] (fun _ _ c wr => ∃ q : Int, 0 ≤ q ∧ q ≤ L.length ∧ c = .int .i64 q ∧ (∀ b : Int, 0 ≤ b → b < q → f3z p x y b = none) ∧ Below w1.heap.size w1 wr) (fun _ _ c _ => (6 - intOf c).toNat)
          case atStart => exact ⟨0, by omega, by omega, rfl, fun a a0 a1 => by omega, z⟩
          case round =>
            clear z
            obtain ⟨q, q0, q1, rfl, hq, z⟩ := hrel
            have HZ := Lib.hid hq
            clear hq
            by_cases hqn : q < L.length
            · obtain ⟨wn, hwn⟩ : ∃ wn, wn = wr.alloc (.cells #[.int .i64 x, .int .i64 y, .int .i64 q] 3) := ⟨_, rfl⟩
              obtain ⟨nb, hnb⟩ : ∃ nb, nb = wr.heap.size := ⟨_, rfl⟩
              have hrow : Row wn nb [x, y, q] := by rw [hwn, hnb]; exact heap_alloc_new wr _
              have zn : Below w1.heap.size w1 wn := by rw [hwn]; exact z.alloc z.size _
              have hlo : w1.heap.size ≤ nb := by rw [hnb]; exact z.size
              have hC := HH.out x y q nb wn x0 hxn y0 hyn q0 hqn (hB.trans (zn.mono hB.size)) hrow
              cases hv : p [x, y, q] with
              | false =>
                rw [hv] at hC
                have HV := Lib.hid (f3z_none hv)
                have HC := Lib.hid hC; clear hC hv
                go_wp2_with (first | (rw [← hwn, ← hnb]; clear hwn hnb) | (rw [HE.out]; refine (HC.out).mono ?_; rintro e w5 ⟨rfl, h5⟩))
                go_roundw
                case rel => exact ⟨q + 1, by omega, by omega, rfl, fun b b0 b1 => by
                  by_cases e : b = q
                  · rw [e]; exact HV.out
                  · exact HZ.out b b0 (by omega), zn.trans (h5.mono zn.size)⟩
                case measure => simp [intOf]; omega
              | true =>
                rw [hv] at hC
                have HF := Lib.hid (show f3 L.length p = some [x, y, q] from fsI_some x0 hxn (fsI_some y0 hyn (fsI_some q0 hqn (f3z_some hv) HZ.out) HY.out) HX.out)
                have HC := Lib.hid hC; clear hC hv
                go_wp2_with (first | (rw [← hwn, ← hnb]; clear hwn hnb) | (rw [HE.out]; refine (HC.out).mono ?_; rintro e w5 ⟨rfl, h5⟩))
                go_ret2
                have hs := hB.size
                exact .inl ⟨_, nb, HF.out, rfl, rfl, by omega, hrow.below h5 hrow.lt, hB.trans ((zn.trans (h5.mono zn.size)).mono hB.size)⟩
            · have ht := Lib.hid (show f3y L.length p x y = none from fsI_none fun i i0 i1 => HZ.out i i0 (by omega))
              go_wp2
              go_roundw
              case rel => exact ⟨y + 1, by omega, by omega, rfl, fun b b0 b1 => by
                by_cases e : b = y
                · rw [e]; exact ht.out
                · exact HY.out b b0 (by omega), z⟩
              case measure => simp [intOf]; omega
        · have ht := Lib.hid (show f3x L.length p x = none from fsI_none fun i i0 i1 => HY.out i i0 (by omega))
          go_wp2
          go_roundw
          case rel => exact ⟨x + 1, by omega, by omega, rfl, fun b b0 b1 => by
            by_cases e : b = x
            · rw [e]; exact ht.out
            · exact HX.out b b0 (by omega), z⟩
          case measure => simp [intOf]; omega
    · have ht := Lib.hid (show f3 L.length p = none from fsI_none fun i i0 i1 => HX.out i i0 (by omega))
      go_wp2
      go_ret2
      exact .inr ⟨ht.out, rfl, hB.trans (z.mono hB.size)⟩
theorem enters_fa1 : Enters 58 := enters_of Try.func58 (by kernel_rfl) rfl
set_option maxRecDepth 100000 in
set_option maxHeartbeats 2000000 in
theorem isForAll1_any (f : Nat) (env : Array Value) (g nb : Nat) (v : Bool) (w : World) (he : Enters f) (hg : w.cell? ⟨g, 0, none⟩ = some (.func (.func f) #[] env))
    (H : Calls Try.prog f (#[.slice (some ⟨nb, 0, none⟩) 3 3] ++ env) w fun e w' => e = .returned (.bool v) ∧ Below w.heap.size w w') :
    Calls Try.prog 58 #[.slice (some ⟨nb, 0, none⟩) 3 3, .pointer (some ⟨g, 0, none⟩)] w fun e w' => e = .returned (.bool (!v)) ∧ Below w.heap.size w w' := by
  have HC := Lib.hid H; clear H
  have HE := Lib.hid (show ∀ (args : Array Value) (w : World), (callFunc f args).run Try.prog w = .ok (.enter f args) w from he); clear he
  go_enter Try.func58, Try.ntmps58
  go_wp2_with (rw [HE.out]; refine (HC.out).mono ?_; rintro e w5 ⟨rfl, h5⟩)
  go_ret
  exact ⟨ret_bool rfl, h5⟩
set_option maxRecDepth 100000 in
set_option maxHeartbeats 4000000 in
/-- impl.isForAll at whatever closure -/
theorem isForAll_any (f : Nat) (env : Array Value) (L : List Int) (T : List (List Int)) (p : List Int → Bool) (w : World) (n1 : 1 ≤ L.length) (n6 : L.length ≤ 6) (he : Enters f)
    (H : ∀ (x y z : Int) (nb : Nat) (wr : World), 0 ≤ x → x < L.length → 0 ≤ y → y < L.length → 0 ≤ z → z < L.length → Below w.heap.size w wr → Row wr nb [x, y, z] → Calls Try.prog f (#[.slice (some ⟨nb, 0, none⟩) 3 3] ++ env) wr fun e w' => e = .returned (.bool (p [x, y, z])) ∧ Below wr.heap.size wr w') :
    Calls Try.prog 34 #[.agg (algOf L T), .func (.func f) #[] env] w fun e w' => e = .returned (.bool (f3 L.length (fun N => !(p N))).isNone) ∧ Below w.heap.size w w' := by
  obtain ⟨w1, hw1⟩ : ∃ w1, w1 = (w.alloc (.cells (algOf L T) 58)).alloc (.cells #[.func (.func f) #[] env] 37) := ⟨_, rfl⟩
  have hB : Below w.heap.size w w1 := by rw [hw1]; exact ((Below.refl _ _).alloc (Nat.le_refl _) _).alloc (by simp) _
  have hA1 : AlgAt w1 w.heap.size L T := by rw [hw1]; unfold AlgAt; rw [Below.heap_alloc _ _ _ (by simp)]; exact heap_alloc_new w _
  have hf1 : w1.heap[w.heap.size + 1]? = some (.cells #[.func (.func f) #[] env] 37 (0, 0)) := by rw [hw1]; exact heap_alloc2_new _ _ _
  have KF := Lib.hid (show ∀ wz, Below w1.heap.size w1 wz → wz.cell? ⟨w.heap.size + 1, 0, none⟩ = some (.func (.func f) #[] env) from fun wz hz => cell_of_one ((hz.block _ (lt_of_block hf1)).trans hf1))
  have HC := Lib.hid (firstNames_any 58 #[.pointer (some ⟨w.heap.size + 1, 0, none⟩)] L T (fun N => !(p N)) w1 n1 n6 enters_fa1 fun x y z nb wr x0 x1 y0 y1 z0 z1 hb hrow => isForAll1_any f env (w.heap.size + 1) nb (p [x, y, z]) wr he (KF.out _ hb) (H x y z nb wr x0 x1 y0 y1 z0 z1 (hB.trans (hb.mono hB.size)) hrow))
  obtain ⟨r, hr⟩ : ∃ r, r = f3 L.length (fun N => !(p N)) := ⟨_, rfl⟩
  rw [← hr] at HC
  have HR := Lib.hid hr
  clear hf1 H he hr
  go_enter Try.func34, Try.ntmps34
  go_wp2_with (first
    | (rw [← hw1]; clear hw1)
    | (refine wpList_load_row_w rfl 58 _ rfl w.heap.size rfl _ _ _ _ hA1 Try.underlying58 rfl (size_alg _ _ _ _ _ _) ?_))
  refine HC.out.mono ?_
  rintro e w5 (⟨v, nb, hv, _, rfl, _, _, h5⟩ | ⟨hv, rfl, h5⟩)
  · clear HC hA1
    go_wp2
    go_ret
    exact ⟨ret_bool (by rw [← HR.out, hv]; rfl), hB.trans (h5.mono hB.size)⟩
  · clear HC hA1
    go_wp2
    go_ret
    exact ⟨ret_bool (by rw [← HR.out, hv]; rfl), hB.trans (h5.mono hB.size)⟩
end Go.Proofs.Ythjbfdoclifhoaa
