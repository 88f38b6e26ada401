import Derived.Test.YtpophjloedpcfaaGreatDoorRows
import Derived.Test.YtpophjloedpcfaaGreatDoorTX12
import Derived.Stop.LaidErr
import Derived.LaidSub
import Derived.Shelf.Vars
namespace Go.Proofs.YtpophjloedpcfaaGreatDoor
open Go.RowKit

/-- what a row lists gives what the library's variables hold -/
theorem gv_of {l : List (String × DataW Unit)} {W : World} (h : laidMet Tryz.prog l W) (hS : W.ShapedOpen Tryz.prog)
    (hes : (l.filter fun x => x.1 == "strconv.ErrSyntax") = [("strconv.ErrSyntax", Rows.laid_strconv_ErrSyntax)])
    (her : (l.filter fun x => x.1 == "strconv.ErrRange") = [("strconv.ErrRange", Rows.laid_strconv_ErrRange)]) : GV W := by
  have h1 := h.filter fun x => x.1 == "strconv.ErrSyntax"
  have h2 := h.filter fun x => x.1 == "strconv.ErrRange"
  rw [hes] at h1
  rw [her] at h2
  have gE : Tryz.prog.globalNamed "strconv.ErrSyntax" = some 3 := by kernel_rfl
  have gR : Tryz.prog.globalNamed "strconv.ErrRange" = some 4 := by kernel_rfl
  have row : ∀ u, Tryz.prog.typeName? 3 u = some ("*" ++ "errors.errorString") → u = 229 := fun u hu =>
    typeName_ptr_named (nm := "errors.errorString") (by kernel_rfl) (by kernel_rfl) (by decide) u hu
  obtain ⟨a0, s0, hv0, -, -, -⟩ := laid_sentinel h1 gE (by kernel_rfl) Tryz.underlying83 row Tryz.underlying229 Tryz.underlying231 rfl rfl Tryz.underlying9 (by kernel_rfl) (by kernel_rfl)
  obtain ⟨a1, s1, hv1, -, -, -⟩ := laid_sentinel h2 gR (by kernel_rfl) Tryz.underlying83 row Tryz.underlying229 Tryz.underlying231 rfl rfl Tryz.underlying9 (by kernel_rfl) (by kernel_rfl)
  refine ⟨cell_of_shapedOpen_int (zero := #[.int .i64 0]) (t := 3) hS (of_decide_eq_true (by kernel_rfl)) (by kernel_rfl) rfl (by kernel_rfl) (by kernel_rfl) Tryz.underlying3, ⟨_, by have h0 := World.var?_cell gE hv0 0; simpa using h0, .inr ⟨_, _, rfl⟩⟩, ⟨_, by have h0 := World.var?_cell gR hv1 0; simpa using h0, .inr ⟨_, _, rfl⟩⟩⟩
end Go.Proofs.YtpophjloedpcfaaGreatDoor
