/- Pairs: how slices of them are compared. -/
import Derived.Test.YtmikdkdgpomiaaaDoorPrs
import Derived.Deep.DrawnRows
namespace Go.Proofs.YtmikdkdgpomiaaaDoor
open Go.RowKit
attribute [local go_sem ↓] Go.wp_at_zero Go.wp_at_succ

def eqPrs (xs ys : List Pr) : Bool := decide (xs.map Pr.tup = ys.map Pr.tup)
theorem map_tupP_inj {xs ys : List Pr} (h : xs.map Pr.tup = ys.map Pr.tup) : xs = ys := List.map_inj_right (fun _ _ e => Pr.tup_inj e) |>.1 h
theorem eqPrs_eq {xs ys : List Pr} (h : eqPrs xs ys = true) : xs = ys := map_tupP_inj (by simpa [eqPrs] using h)
theorem eqPrs_self (xs : List Pr) : eqPrs xs xs = true := by simp [eqPrs]

end Go.Proofs.YtmikdkdgpomiaaaDoor
