import Derived.Test.YtidbilgnclfplaaTF1
import Derived.Test.YtidbilgnclfplaaTP5
import Derived.Test.YtidbilgnclfplaaSL0
namespace Go.Proofs.Ytidbilgnclfplaa
open Go.RowKit
set_option linter.unusedVariables false

set_option maxRecDepth 100000 in
set_option maxHeartbeats 4000000 in
/-- laws.FnTermText -/
theorem lawPTermText (a0 : Option Addr) (len0 cap0 : Nat) (w : World) (hy : RdY w a0 len0 w.heap.size) (hc : len0 ≤ cap0) (hm : len0 ≤ maxLen) :
    Calls Try.prog 10 #[.slice a0 len0 cap0] w fun e w' => e = .returned (.bool true) ∧ Below w.heap.size w w' := by
  by_cases hbig : 1048576 < len0
  · have hbig2 : (1048576 : Int) < len0 := by omega
    go_enter Try.func10, Try.ntmps10
    go_wp2
    go_ret
    exact ⟨rfl, Below.refl _ _⟩
  · have hs : len0 ≤ 1048576 := by omega
    have hs2 : ¬ (1048576 : Int) < len0 := by omega
    go_enter Try.func10, Try.ntmps10
    go_wp2_with fail
    refine (drawTermText_any a0 len0 cap0 w hy hc hs).mono ?_
    rintro e w1 ⟨L, a, c, rfl, hr, hcp, hl, hb⟩
    have _ := hm
    clear hs hs2 hbig hy hm hc
    have KT := Lib.hid (show ∀ wz, Below w1.heap.size w1 wz → Rd wz a L from fun wz h => hr.below h)
    have z : Below w1.heap.size w1 w1 := Below.refl _ _
    have hB := hb
    clear hr hb
    obtain ⟨X, hX⟩ : ∃ X, X = ttI L := ⟨_, rfl⟩
    have HX := Lib.hid hX
    cases hv : vtB L with
    | false =>
      have hX0 : X = ⟨#[]⟩ := by rw [hX]; unfold ttI; rw [hv]; rfl
      clear hX hv
      subst hX0
      go_wp2_with (first | go_skip | (go_at_call 39; refine (implTermText_any _ _ L _ (KT.out _ z) (by omega) hcp).mono ?_; rw [← HX.out]; rintro e w2 ⟨rfl, hb⟩; replace z := z.trans (hb.mono z.size)) | (go_at_call 41; refine (specTermText_any _ _ L _ (KT.out _ z) (by omega)).mono ?_; rw [← HX.out]; rintro e w2 ⟨rfl, hb⟩; replace z := z.trans (hb.mono z.size)))
      go_ret
      exact ⟨rfl, hB.trans (z.mono hB.size)⟩
    | true =>
      have hXe : X = txI L.length L := by rw [hX]; unfold ttI; rw [hv]; rfl
      have HP := Lib.hid (show ptI X = some L by rw [hXe]; exact ptI_text hv)
      have hsz := ttI_ne hv
      rw [← hX] at hsz
      have hX45 : X.size ≤ 1048576 := by have := (ptI_some HP.out).2.2.2.2; omega
      have hnl : X.toList ≠ [] := fun e => by
        have h2 : X.toList.length = X.size := by rw [ByteArray.toList_eq]; simp
        rw [e] at h2
        simp at h2
        omega
      have hne : (X.toList == []) = false := by rw [beq_eq_false_iff_ne]; exact hnl
      have hne2 : (X.toList != []) = true := by rw [bne, hne]; rfl
      have HC := Lib.hid (show ∀ wz : World, Calls Try.prog 17 #[.string X] wz (RetGsb L true wz) from fun wz => by
        have := implParseTerm_any X wz hX45
        rwa [HP.out] at this)
      clear hX hXe hsz hv
      go_wp2_with (first | go_skip | (go_at_call 39; refine (implTermText_any _ _ L _ (KT.out _ z) (by omega) hcp).mono ?_; rw [← HX.out]; rintro e w2 ⟨rfl, hb⟩; replace z := z.trans (hb.mono z.size)) | (go_at_call 41; refine (specTermText_any _ _ L _ (KT.out _ z) (by omega)).mono ?_; rw [← HX.out]; rintro e w2 ⟨rfl, hb⟩; replace z := z.trans (hb.mono z.size)) | (go_at_call 17; refine (HC.out _).mono ?_; rintro e w4 ⟨ba, bn, bc, rfl, gb, hb⟩; replace z := z.trans (hb.mono z.size)) | (go_at_call 42; obtain ⟨⟨qa, qc, qe⟩, qo, qk⟩ := gb; rw [qe] at qo; injection qe with qe1 qe2 qe3; subst qe1 qe2 qe3; refine (equalIntsA_is _ _ _ _ L L _ qo.rd (KT.out _ z) (by omega) (eqL_same L)).mono ?_; rintro e w5 ⟨rfl, hb⟩; replace z := z.trans (hb.mono z.size)))
      go_ret
      exact ⟨rfl, hB.trans (z.mono hB.size)⟩
end Go.Proofs.Ytidbilgnclfplaa
