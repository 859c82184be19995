/- Statements: how the law copies, sizes and compares slices of them. -/
import Derived.Test.YtedlhepbbefikaaGreatDoorLeaf
namespace Go.Proofs.YtedlhepbbefikaaGreatDoor
open Go.RowKit

/-- A struct of three numbers as a value. -/
abbrev stV (x : St) : Value := .agg #[.int .i64 x.op, .int .i64 x.key, .int .i64 x.num]

def St.tup (x : St) : Int × Int × Int := (x.op, x.key, x.num)
theorem St.tup_inj {x y : St} (h : x.tup = y.tup) : x = y := by cases x; cases y; simp_all [St.tup]
def eqSt (a b : St) : Bool := decide (a.tup = b.tup)

theorem Tryz.infoSt : (Tryz.prog.info? 35).map (fun i => (i.zero, i.size, i.bytes)) = some (some (.agg #[.int .i64 0, .int .i64 0, .int .i64 0]), 3, 24) := by kernel_rfl

end Go.Proofs.YtedlhepbbefikaaGreatDoor
