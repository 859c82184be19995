/- Pairs: how the law copies, sizes and compares slices of them. -/
import Derived.Test.YtmikdkdgpomiaaaDoorLeaf
import Derived.Test.YtmikdkdgpomiaaaDoorBase2
namespace Go.Proofs.YtmikdkdgpomiaaaDoor
open Go.RowKit

/-- A struct of three numbers as a value. -/
abbrev prV (x : Pr) : Value := .agg #[.int .i64 x.key, .int .i64 x.val]

def Pr.tup (x : Pr) : Int × Int := (x.key, x.val)
theorem Pr.tup_inj {x y : Pr} (h : x.tup = y.tup) : x = y := by cases x; cases y; simp_all [Pr.tup]
def eqPr (a b : Pr) : Bool := decide (a.tup = b.tup)

theorem Tryd.infoPr : (Tryd.prog.info? 199).map (fun i => (i.zero, i.size, i.bytes)) = some (some (.agg #[.int .i64 0, .int .i64 0]), 2, 16) := by kernel_rfl

end Go.Proofs.YtmikdkdgpomiaaaDoor
