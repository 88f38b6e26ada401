import Derived.Test.YtmlbdlobdnhimaaH4
import Derived.Test.YtmlbdlobdnhimaaG0
import Derived.Laws.CopyOwn
namespace Go.Proofs.Ytmlbdlobdnhimaa
open Go.RowKit

/-- the rows of a table up to one -/
def timTo (L : List Int) (T : List (List Int)) (k : Int) (x y : Int) : Int := if x < k ∧ y < num L then tv T x y else 0
def timA (L : List Int) (T : List (List Int)) : Int → Int → Int := if shapeB L T then timG L T else zeroI
theorem timA_t {L : List Int} {T : List (List Int)} (h : shapeB L T = true) : timA L T = timG L T := by unfold timA; rw [if_pos h]
theorem timA_f {L : List Int} {T : List (List Int)} (h : shapeB L T = false) : timA L T = zeroI := by unfold timA; rw [if_neg (by rw [h]; decide)]
theorem timTo_zero (L : List Int) (T : List (List Int)) (x y : Int) (x0 : 0 ≤ x) : iv zeroI x y = iv (timTo L T 0) x y := by
  unfold iv timTo; rw [if_neg (by omega)]; rfl
theorem rowOk_with {L : List Int} {T : List (List Int)} {x : Int} (h : ((rowAt T x).length : Int) = L.length) : rowOk L T x = withB L (rowAt T x) := by
  have hn : num L = L.length := rfl
  unfold rowOk withB
  rw [decide_eq_true (by rw [hn]; exact h), Bool.true_and, h, hn]
  refine allI_congr fun y y0 y1 => ?_
  unfold cellOk inE tv
  rw [hn]
  congr 1
  exact decide_eq_decide.2 (by omega)
theorem copy_tab {L : List Int} {T : List (List Int)} {x : Int} (x0 : 0 ≤ x) (x1 : x < 6) (h6 : num L ≤ 6) (h : ((rowAt T x).length : Int) = L.length) :
    ((tab2 (iv (timTo L T x))).toList.take (x.toNat * 6) ++ (((rowAt T x).map fun v => Value.int .i64 v) ++ (tab2 (iv (timTo L T x))).toList.drop (x.toNat * 6 + ((rowAt T x).map fun v => Value.int .i64 v).length))).toArray = tab2 (iv (timTo L T (x + 1))) := by
  have hn : num L = L.length := rfl
  apply Array.ext
  · simp [tab2]; omega
  · intro i h1 h2
    rw [tab2_size] at h2
    have a1 : ∀ g : Int → Int → Value, (tab2 g)[i]'(by rw [tab2_size]; exact h2) = g ((i / 6 : Nat) : Int) ((i % 6 : Nat) : Int) := fun g => by simp [tab2]
    rw [a1]
    simp only [List.getElem_toArray]
    by_cases c1 : i < x.toNat * 6
    · rw [List.getElem_append_left (by simp [tab2]; omega)]
      simp only [List.getElem_take, Array.getElem_toList, a1]
      unfold iv timTo
      congr 1
      by_cases c2 : ((i % 6 : Nat) : Int) < num L
      · rw [if_pos ⟨by omega, c2⟩, if_pos ⟨by omega, c2⟩]
      · rw [if_neg (by omega), if_neg (by omega)]
    · rw [List.getElem_append_right (by simp [tab2]; omega)]
      have hl : ((tab2 (iv (timTo L T x))).toList.take (x.toNat * 6)).length = x.toNat * 6 := by simp [tab2]; omega
      by_cases c3 : i < x.toNat * 6 + L.length
      · rw [List.getElem_append_left (by rw [hl]; simp; omega)]
        simp only [List.getElem_map, hl]
        unfold iv timTo
        congr 1
        have e1 : ((i / 6 : Nat) : Int) = x := by omega
        have e2 : ((i % 6 : Nat) : Int) = ((i - x.toNat * 6 : Nat) : Int) := by omega
        rw [if_pos ⟨by omega, by omega⟩, e1, e2]
        unfold tv nth
        rw [Int.toNat_natCast]
        have : i - x.toNat * 6 < (rowAt T x).length := by omega
        simp [this]
      · rw [List.getElem_append_right (by rw [hl]; simp; omega)]
        simp only [List.getElem_drop, Array.getElem_toList, List.length_map]
        have e0 : x.toNat * 6 + (rowAt T x).length + (i - ((tab2 (iv (timTo L T x))).toList.take (x.toNat * 6)).length - (rowAt T x).length) = i := by rw [hl]; omega
        simp only [e0, a1]
        unfold iv timTo
        congr 1
        rw [if_neg (by omega), if_neg (by omega)]
/-- the results of a function that hands back a table and a bool -/
theorem results_tab_tmp {fn : Func} {p u : Tmp} (h : fn.results = #[.cell p 56, .tmp u]) (tmps : Array Value) (w : World) (g : Nat) (hp : tmps.getD p undef = .pointer (some ⟨g, 0, none⟩))
    (f : Int → Int → Value) {v : Value} (hg : w.heap[g]? = some (.cells (tab2 f) 56 (0, 0))) (hu : tmps.getD u undef = v) :
    (results fn tmps).run Try.prog w = .ok (.tuple #[.agg (tab2 f), v]) w := by
  have hp' : tmps[p]?.getD undef = .pointer (some ⟨g, 0, none⟩) := by simpa using hp
  have hu' : tmps[u]?.getD undef = v := by simpa using hu
  have hl := run_loadVar_row (P := Try.prog) w g _ 56 _ _ _ hg Try.underlying56 rfl (size_table f)
  simp [results, h, hp', hu', asAddr, hl]
theorem info_int1 : (Try.prog.info? 3).map (·.size) = some 1 := by kernel_rfl
theorem lit36 : (#[.int .i64 0, .int .i64 0, .int .i64 0, .int .i64 0, .int .i64 0, .int .i64 0, .int .i64 0, .int .i64 0, .int .i64 0, .int .i64 0, .int .i64 0, .int .i64 0, .int .i64 0, .int .i64 0, .int .i64 0, .int .i64 0, .int .i64 0, .int .i64 0, .int .i64 0, .int .i64 0, .int .i64 0, .int .i64 0, .int .i64 0, .int .i64 0, .int .i64 0, .int .i64 0, .int .i64 0, .int .i64 0, .int .i64 0, .int .i64 0, .int .i64 0, .int .i64 0, .int .i64 0, .int .i64 0, .int .i64 0, .int .i64 0] : Array Value) = tab2 (iv zeroI) := rfl
theorem built_table : Try.prog.built 56 [] = some (tab2 (iv zeroI)) := by kernel_rfl

/-- 'copy' of a row into the table -/
theorem copy_row_step {ops : Array Oper} {rest : List Oper} {o : Oper} {a : Act} {w : World} {Q : Exit → Act → World → Prop} (hgd : o.guard = none) (d s : Operand)
    (ho : o.op = .call { callee := .builtin .copy, args := #[d, s], argTypes := #[23, 23] }) {g rb ro rc : Nat} {L : List Int} {T : List (List Int)} {k : Int}
    (hd : a.eval d = .slice (some ⟨g, k.toNat * 6, none⟩) 6 6) (hs : a.eval s = .slice (some ⟨rb, ro, none⟩) (rowAt T k).length rc)
    (ht : Blk w g 56 (iv (timTo L T k))) (hcs : Cells w rb ro (rowAt T k)) (k0 : 0 ≤ k) (k6 : k < 6) (n6 : num L ≤ 6) (hrl : ((rowAt T k).length : Int) = L.length)
    (h : wpList Try.prog ops Q rest (a.put o.dst (goInt (rowAt T k).length)) (w.setRow g (tab2 (iv (timTo L T (k + 1)))))) : wpList Try.prog ops Q (o :: rest) a w := by
  have hn : num L = L.length := rfl
  have hl : ((rowAt T k).map fun v => Value.int .i64 v).length = (rowAt T k).length := List.length_map _
  refine wpList_copy_own hgd d s _ _ ho 3 Try.underlying23 info_int1 g (k.toNat * 6) 6 6 ⟨rb, ro, none⟩ _ _ hd hs _ 56 ht.heap ((rowAt T k).map fun v => Value.int .i64 v) ?_ ?_ ?_ ?_ ?_
  · rw [hl]; exact (Nat.min_eq_left (by omega)).symm
  · intro j v hj
    rw [Addr.add_mid]
    simp only [List.getElem?_map, Option.map_eq_some_iff] at hj
    obtain ⟨u, hu, rfl⟩ := hj
    obtain ⟨q1, q2⟩ := List.getElem?_eq_some_iff.1 hu
    rw [hcs j q1]; unfold nth; simp [q1, q2]
  · rw [tab2_size, hl]; omega
  · intro v hv
    simp only [List.mem_map] at hv
    obtain ⟨u, _, rfl⟩ := hv; rfl
  · rw [copy_tab k0 k6 n6 hrl, hl]; exact h

end Go.Proofs.Ytmlbdlobdnhimaa
