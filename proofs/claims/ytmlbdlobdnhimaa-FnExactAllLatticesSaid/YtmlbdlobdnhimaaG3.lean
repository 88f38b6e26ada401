import Derived.Test.YtmlbdlobdnhimaaG2
import Derived.BigQuiet
import Derived.Deep.RegionWith
namespace Go.Proofs.Ytmlbdlobdnhimaa
open Go.RowKit

theorem Dr.cell {w w' : World} (h : Dr w w') {p : Addr} {v : Value} (hc : w.cell? p = some v) : w'.cell? p = some v := by
  obtain ⟨n, rfl⟩ := h; exact hc

end Go.Proofs.Ytmlbdlobdnhimaa
