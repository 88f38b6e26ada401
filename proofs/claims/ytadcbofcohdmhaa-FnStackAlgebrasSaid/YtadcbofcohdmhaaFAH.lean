import Derived.Test.YtadcbofcohdmhaaSL0
import Derived.Test.YtadcbofcohdmhaaPR3
namespace Go.Proofs.Ytadcbofcohdmhaa
open Go.RowKit

theorem hpB_3 {L : List Int} {T : List (List Int)} (h : algB L T = true) : hpB ⟨#[105, 100, 101, 109, 112, 111, 116, 101, 110, 116]⟩ L T = hasB 3 L T := hp_3 (by decide +kernel) (by decide +kernel) (by decide +kernel) (by decide +kernel) h
theorem hpB_1 {L : List Int} {T : List (List Int)} (h : algB L T = true) : hpB ⟨#[100, 105, 118, 105, 115, 105, 98, 108, 101]⟩ L T = hasB 1 L T := hp_1 (by decide +kernel) (by decide +kernel) h
theorem hpB_2 {L : List Int} {T : List (List Int)} (h : algB L T = true) : hpB ⟨#[105, 110, 118, 111, 108, 117, 116, 105, 118, 101]⟩ L T = hasB 2 L T := hp_2 (by decide +kernel) (by decide +kernel) (by decide +kernel) h
theorem hpB_0 {L : List Int} {T : List (List Int)} (h : algB L T = true) : hpB ⟨#[112, 114, 101, 108, 105, 110, 101, 97, 114]⟩ L T = hasB 0 L T := hp_0 (by decide +kernel) h
end Go.Proofs.Ytadcbofcohdmhaa
