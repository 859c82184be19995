/- Statements: how the law copies, sizes and compares slices of them. -/
import Derived.Test.YtmikdkdgpomiaaaDoorLeaf
namespace Go.Proofs.YtmikdkdgpomiaaaDoor
open Go.RowKit

/-- A struct of three numbers as a value. -/
abbrev stV (x : St) : Value := .agg #[.int .i64 x.op, .int .i64 x.key, .int .i64 x.num]

def St.tup (x : St) : Int × Int × Int := (x.op, x.key, x.num)
theorem St.tup_inj {x y : St} (h : x.tup = y.tup) : x = y := by cases x; cases y; simp_all [St.tup]
def eqSt (a b : St) : Bool := decide (a.tup = b.tup)

set_option maxHeartbeats 400000 in
theorem eqSt_any (x y : St) (w : World) :
    Calls Tryd.prog 38 #[.agg #[.int .i64 x.op, .int .i64 x.key, .int .i64 x.num], .agg #[.int .i64 y.op, .int .i64 y.key, .int .i64 y.num]] w fun e w' => e = .returned (.bool (eqSt x y)) ∧ Below w.heap.size w w' := by
  obtain ⟨a, b, c⟩ := x
  obtain ⟨a', b', c'⟩ := y
  go_enter Tryd.func38, Tryd.ntmps38
  go_wp2
  all_goals
    go_ret
    refine ⟨by simp_all [eqSt, St.tup], ?_⟩
  all_goals repeat (first | exact Below.refl _ _ | (refine Below.alloc ?_ (by simp <;> omega) _))

theorem Tryd.infoSt : (Tryd.prog.info? 45).map (fun i => (i.zero, i.size, i.bytes)) = some (some (.agg #[.int .i64 0, .int .i64 0, .int .i64 0]), 3, 24) := by kernel_rfl

end Go.Proofs.YtmikdkdgpomiaaaDoor
