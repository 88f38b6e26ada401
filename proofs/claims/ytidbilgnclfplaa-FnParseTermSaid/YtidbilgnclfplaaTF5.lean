import Derived.Test.YtidbilgnclfplaaTD5
import Derived.Test.YtidbilgnclfplaaTP7
import Derived.Test.YtidbilgnclfplaaTF1
import Derived.Test.YtidbilgnclfplaaSL0
namespace Go.Proofs.Ytidbilgnclfplaa
open Go.RowKit
set_option linter.unusedVariables false

set_option maxRecDepth 100000 in
set_option maxHeartbeats 4000000 in
/-- laws.FnParseTerm -/
theorem lawPParseTerm (a0 : Option Addr) (len0 cap0 : Nat) (w : World) (hy : RdY w a0 len0 w.heap.size) (hc : len0 ≤ cap0) (hm : len0 ≤ maxLen) :
    Calls Try.prog 11 #[.slice a0 len0 cap0] w fun e w' => e = .returned (.bool true) ∧ Below w.heap.size w w' := by
  by_cases hbig : 1048576 < len0
  · have hbig2 : (1048576 : Int) < len0 := by omega
    go_enter Try.func11, Try.ntmps11
    go_wp2
    go_ret
    exact ⟨rfl, Below.refl _ _⟩
  · have hs : len0 ≤ 1048576 := by omega
    have hs2 : ¬ (1048576 : Int) < len0 := by omega
    go_enter Try.func11, Try.ntmps11
    go_wp2_with fail
    refine (drawParseTerm_any a0 len0 cap0 w hy hc hs).mono ?_
    rintro e w1 ⟨s, rfl, hss, hb⟩
    have _ := hm
    clear hs hs2 hbig hy hm hc
    have z : Below w1.heap.size w1 w1 := Below.refl _ _
    have hB := hb
    clear hb
    cases hp : ptI s with
    | none =>
      have HI := Lib.hid (show ∀ wz : World, Calls Try.prog 17 #[.string s] wz (RetGsb [] false wz) from fun wz => by
        have := implParseTerm_any s wz (by omega)
        rwa [hp] at this)
      have HS := Lib.hid (show ∀ wz : World, Calls Try.prog 16 #[.string s] wz (RetSsb [] false wz) from fun wz => by
        have := specParseTerm_any s wz (by omega)
        rwa [hp] at this)
      clear hp hss
      go_wp2_with fail
      refine (HI.out _).mono ?_
      rintro e w2 ⟨ba, bn, bc, rfl, ⟨⟨qa, qc, qe⟩, qo, qk⟩, hb2⟩
      rw [qe] at qo
      injection qe with qe1 qe2 qe3
      subst qe1 qe2 qe3
      replace z := z.trans (hb2.mono z.size)
      have KG := Lib.hid (show ∀ wz, Below w2.heap.size w2 wz → Rd wz ba [] from fun wz hz => (qo.below hz).rd)
      clear qo qk hb2
      go_wp2_with fail
      refine (HS.out _).mono ?_
      rintro e w3 ⟨ca, cn, cc, rfl, ⟨ra, rc, re, hr⟩, hb3⟩
      injection re with re1 re2 re3
      subst re1 re2 re3
      replace z := z.trans (hb3.mono z.size)
      go_wp2_with (first | go_skip | (go_at_call 42; refine (equalIntsA_is _ _ _ _ [] [] _ (KG.out _ hb3) hr (by simp) (eqL_same [])).mono ?_; rintro e w4 ⟨rfl, hb4⟩; replace z := z.trans (hb4.mono z.size); replace hb3 := hb3.trans (hb4.mono hb3.size); replace hr := hr.below hb4))
      go_ret
      exact ⟨rfl, hB.trans (z.mono hB.size)⟩
    | some t =>
      obtain ⟨_, l15, hv, htx, _⟩ := ptI_some hp
      have HTT := Lib.hid (show ttI t = s by unfold ttI; rw [if_pos hv]; exact htx)
      have HV := Lib.hid hv
      have HI := Lib.hid (show ∀ wz : World, Calls Try.prog 17 #[.string s] wz (RetGsb t true wz) from fun wz => by
        have := implParseTerm_any s wz (by omega)
        rwa [hp] at this)
      have HS := Lib.hid (show ∀ wz : World, Calls Try.prog 16 #[.string s] wz (RetSsb t true wz) from fun wz => by
        have := specParseTerm_any s wz (by omega)
        rwa [hp] at this)
      clear hp hss hv htx
      go_wp2_with fail
      refine (HI.out _).mono ?_
      rintro e w2 ⟨ba, bn, bc, rfl, ⟨⟨qa, qc, qe⟩, qo, qk⟩, hb2⟩
      rw [qe] at qo
      injection qe with qe1 qe2 qe3
      subst qe1 qe2 qe3
      have qcap := ownCapT qo
      replace z := z.trans (hb2.mono z.size)
      have KG := Lib.hid (show ∀ wz, Below w2.heap.size w2 wz → Rd wz ba t from fun wz hz => (qo.below hz).rd)
      clear qo qk hb2
      go_wp2_with fail
      refine (HS.out _).mono ?_
      rintro e w3 ⟨ca, cn, cc, rfl, ⟨ra, rc, re, hr⟩, hb3⟩
      injection re with re1 re2 re3
      subst re1 re2 re3
      replace z := z.trans (hb3.mono z.size)
      go_wp2_with (first | go_skip | (go_at_call 42; refine (equalIntsA_is _ _ _ _ t t _ (KG.out _ hb3) hr (by omega) (eqL_same t)).mono ?_; rintro e w4 ⟨rfl, hb4⟩; replace z := z.trans (hb4.mono z.size); replace hb3 := hb3.trans (hb4.mono hb3.size); replace hr := hr.below hb4) | (go_at_call 39; refine (implTermText_any _ _ t _ (KG.out _ hb3) (by omega) qcap).mono ?_; rw [HTT.out]; rintro e w5 ⟨rfl, hb4⟩; replace z := z.trans (hb4.mono z.size); replace hb3 := hb3.trans (hb4.mono hb3.size)) | (go_at_call 37; refine (implValidTerm_any _ _ t _ (KG.out _ hb3) (by omega) qcap).mono ?_; rw [HV.out]; rintro e w6 ⟨rfl, hb4⟩; replace z := z.trans (hb4.mono z.size)))
      go_ret
      exact ⟨rfl, hB.trans (z.mono hB.size)⟩
end Go.Proofs.Ytidbilgnclfplaa
