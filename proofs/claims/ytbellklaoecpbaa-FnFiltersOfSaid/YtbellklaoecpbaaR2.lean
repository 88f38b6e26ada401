import Derived.Test.YtbellklaoecpbaaH4
import Derived.Test.YtbellklaoecpbaaR1
namespace Go.Proofs.Ytbellklaoecpbaa
open Go.RowKit

theorem fit_join {L : List Int} (h : latB L = true) : FitG L.length (tabJ L) := fun x y x0 x1 y0 y1 => by
  unfold tabJ; rw [tabT_join h x0 x1 y0 y1]; exact lat_jn h x0 x1 y0 y1
theorem fit_meet {L : List Int} (h : latB L = true) : FitG L.length (tabM L) := fun x y x0 x1 y0 y1 => by
  unfold tabM; rw [tabT_meet h x0 x1 y0 y1]; exact lat_mt h x0 x1 y0 y1
end Go.Proofs.Ytbellklaoecpbaa
