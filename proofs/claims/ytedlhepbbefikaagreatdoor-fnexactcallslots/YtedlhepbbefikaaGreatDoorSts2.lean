/- Statements: how slices of them are compared. -/
import Derived.Test.YtedlhepbbefikaaGreatDoorSts
import Derived.Deep.DrawnRows
namespace Go.Proofs.YtedlhepbbefikaaGreatDoor
open Go.RowKit
attribute [local go_sem ↓] Go.wp_at_zero Go.wp_at_succ

def eqSts (xs ys : List St) : Bool := decide (xs.map St.tup = ys.map St.tup)
theorem map_tup_inj {xs ys : List St} (h : xs.map St.tup = ys.map St.tup) : xs = ys := List.map_inj_right (fun _ _ e => St.tup_inj e) |>.1 h
theorem eqSts_eq {xs ys : List St} (h : eqSts xs ys = true) : xs = ys := map_tup_inj (by simpa [eqSts] using h)
theorem eqSts_self (xs : List St) : eqSts xs xs = true := by simp [eqSts]

end Go.Proofs.YtedlhepbbefikaaGreatDoor
