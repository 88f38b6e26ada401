import Derived.Test.YtpophjloedpcfaaGreatDoorTX10
import Derived.Test.YtpophjloedpcfaaGreatDoorTX2
import Derived.Test.YtpophjloedpcfaaGreatDoorTX5
import Derived.Test.YtpophjloedpcfaaGreatDoorL5
import Derived.Test.YtpophjloedpcfaaGreatDoorG3
namespace Go.Proofs.YtpophjloedpcfaaGreatDoor
open Go.RowKit

/-- a slice of strings of the call's own -/
def OwnT (B : Nat) (w : World) (v : Value) (S : List (List UInt8)) : Prop := w.ownsRow B 9 1 v S.length (S.map fun p => Value.string ⟨p.toArray⟩)
theorem OwnT.nothing (B : Nat) (w : World) : OwnT B w (.slice none 0 0) [] := World.ownsRow_nil _ _ _ _
theorem OwnT.slice {B : Nat} {w : World} {v : Value} {S : List (List UInt8)} (h : OwnT B w v S) : ∃ a cap, v = .slice a S.length cap ∧ ∀ (j : Nat) (p : List UInt8), S[j]? = some p → ∃ g, a = some ⟨g, 0, none⟩ ∧ w.cell? ⟨g, j, none⟩ = some (.string ⟨p.toArray⟩) := by
  rcases h.2 with ⟨e, hn⟩ | ⟨g, cap, cur, e, _⟩
  · have hv : S = [] := List.eq_nil_of_length_eq_zero hn
    subst hv
    exact ⟨none, 0, e, fun j p hp => by simp at hp⟩
  · refine ⟨some ⟨g, 0, none⟩, cap, e, fun j p hp => ⟨g, rfl, ?_⟩⟩
    have h2 := h
    unfold OwnT at h2
    rw [e] at h2
    have hj : j < S.length := (List.getElem?_eq_some_iff.1 hp).1
    rw [World.ownsRow.cellAt h2 j (by omega), List.getElem?_map, hp]; rfl
theorem by_at (s : ByteArray) {i : Nat} (h : i < s.size) : s.data.toList[i]? = some s[i] := by
  rw [Array.getElem?_toList, Array.getElem?_eq_getElem h]; rfl
theorem take_snoc (s : ByteArray) {i : Nat} (h : i < s.size) : s.data.toList.take (i + 1) = s.data.toList.take i ++ [s[i]] := by
  rw [List.take_add_one, by_at s h]; rfl
theorem extr_list (s : ByteArray) (a b : Nat) : (s.extract a b).data.toList = (s.data.toList.take b).drop a := by
  rw [ByteArray.data_extract, Array.toList_extract, List.extract_eq_take_drop, List.drop_take]
theorem extr_mk (s : ByteArray) (a b : Nat) : s.extract a b = ⟨((s.data.toList.take b).drop a).toArray⟩ := by
  apply ba_ext; rw [extr_list]
set_option maxRecDepth 100000 in
set_option maxHeartbeats 2000000 in
/-- spec.splitAt -/
theorem splitAt_any (s : ByteArray) (c : UInt8) (k : Int) (hk : k = (c.toNat : Int)) (w : World) (hs : s.size ≤ 1048576) :
    Calls Tryz.prog 81 #[.string s, .int .u8 k] w fun e w' => ∃ v, e = .returned v ∧ OwnT w.heap.size w' v (pcs c s.data.toList) ∧ Below w.heap.size w w' := by
  subst hk
  obtain ⟨i0, hi, hz0, hz1, hz2⟩ := info_parts info_str
  have hsz : s.data.toList.length = s.size := (ba_size s).symm
  have hss : (s.size : Int) ≤ 1048576 := by omega
  go_enter Tryz.func81, Tryz.ntmps81
  go_wp2
  go_loopw [5, 6, 7] (fun v f i wr => ∃ (a n : Nat) (O : List (List UInt8)), n ≤ s.size ∧ a ≤ n ∧ O.length ≤ n ∧ i = .int .i64 (n : Int) ∧ f = .int .i64 (a : Int) ∧ OwnT w.heap.size wr v O ∧ pcs c (s.data.toList.take n) = O ++ [(s.data.toList.take n).drop a] ∧ Below w.heap.size w wr) (fun _ _ i _ => ((s.size : Int) - intOf i).toNat)
  case atStart =>
    refine ⟨0, 0, [], by omega, Nat.le_refl _, Nat.le_refl _, rfl, rfl, ?_, rfl, (Below.refl _ _).alloc (Nat.le_refl _) _⟩
    exact ⟨by simp, .inr ⟨w.heap.size, 0, #[], rfl, Nat.le_refl _, heap_alloc_new w _, Nat.le_refl _, by unfold maxLen; omega, by simp, by simp⟩⟩
  case round =>
    obtain ⟨a, n, O, hn, han, hO, rfl, rfl, hown, hp, hbel⟩ := hrel
    by_cases hlt : n < s.size
    · have hlt2 : (n : Int) < s.size := by omega
      have hts := Lib.hid (take_snoc s hlt)
      have hsn := Lib.hid (pcs_snoc (c := c) s[n] hp)
      have hdr := Lib.hid (show (s.data.toList.take (n + 1)).drop a = (s.data.toList.take n).drop a ++ [s[n]] by rw [take_snoc s hlt, List.drop_append_of_le_length (by rw [List.length_take]; omega)])
      have HP := Lib.hid hp
      have HE := Lib.hid (extr_mk s a n)
      clear hp
      obtain ⟨x, hx⟩ : ∃ x, s[n] = x := ⟨_, rfl⟩
      rw [hx] at hts hsn hdr
      by_cases hc : x = c
      · subst hc
        have HS := Lib.hid (hsn.out.trans (if_pos rfl))
        clear hsn hdr
        go_wp2_with (at_builtin; refine wpList_append_own _ rfl _ _ 35 rfl w.heap.size 9 i0 (.string ⟨#[]⟩) 1 16 Tryz.underlying35 hi hz0 hz1 hz2 rfl (by decide) _ _ _ rfl (World.ownsRow.alloc hown _) ⟨wr.heap.size, 0, none⟩ 1 1 [.string (s.extract a n)] rfl rfl (cell_one_new _ _ _) (fun x hx => by simp at hx; subst hx; rfl) (by unfold maxLen; omega) (by omega) (by have := hbel.size; simp; omega) ?_; intro v' w2 hown1 hgrow _)
        go_roundw
        case rel =>
          refine ⟨n + 1, n + 1, O ++ [(s.data.toList.take n).drop a], by omega, Nat.le_refl _, by simp; omega, rfl, rfl, ?_, ?_, (hbel.alloc hbel.size _).grown hgrow (by have := hbel.size; simp; omega) (fun q hq => (World.ownsRow.lt hown q hq).1)⟩
          · unfold OwnT
            rw [List.map_append, List.length_append, List.map_cons, List.map_nil, ← HE.out]
            exact hown1
          · rw [hts.out, HS.out]
            congr 1
            rw [List.drop_of_length_le]
            rw [List.length_append, List.length_take, List.length_singleton]; omega
        case measure => simp [intOf]; omega
      · have hne : ¬ ((x.toNat : Int) = (c.toNat : Int)) := fun e => hc (UInt8.toNat_inj.1 (Int.ofNat_inj.1 e))
        have HS := Lib.hid (hsn.out.trans (if_neg hc))
        clear hsn
        go_wp2
        go_roundw
        case rel => exact ⟨a, n + 1, O, by omega, by omega, by omega, rfl, rfl, hown, by rw [hts.out, HS.out, ← hts.out, hdr.out], hbel⟩
        case measure => simp [intOf]; omega
    · have e : n = s.size := by omega
      subst e
      have hts := Lib.hid (show s.data.toList.take s.size = s.data.toList from List.take_of_length_le (by rw [hsz]; exact Nat.le_refl _))
      rw [hts.out] at hp
      have HP := Lib.hid hp
      have HE := Lib.hid (show s.extract a s.size = ⟨(s.data.toList.drop a).toArray⟩ by rw [extr_mk, hts.out])
      clear hp
      go_wp2_with (at_builtin; refine wpList_append_own _ rfl _ _ 35 rfl w.heap.size 9 i0 (.string ⟨#[]⟩) 1 16 Tryz.underlying35 hi hz0 hz1 hz2 rfl (by decide) _ _ _ rfl (World.ownsRow.alloc hown _) ⟨wr.heap.size, 0, none⟩ 1 1 [.string (s.extract a s.size)] rfl rfl (cell_one_new _ _ _) (fun x hx => by simp at hx; subst hx; rfl) (by unfold maxLen; omega) (by omega) (by have := hbel.size; simp; omega) ?_; intro v' w2 hown1 hgrow _)
      go_ret
      refine ⟨_, rfl, ?_, (hbel.alloc hbel.size _).grown hgrow (by have := hbel.size; simp; omega) (fun q hq => (World.ownsRow.lt hown q hq).1)⟩
      rw [HP.out]
      unfold OwnT
      rw [List.map_append, List.length_append, List.map_cons, List.map_nil, ← HE.out]
      exact hown1
end Go.Proofs.YtpophjloedpcfaaGreatDoor
