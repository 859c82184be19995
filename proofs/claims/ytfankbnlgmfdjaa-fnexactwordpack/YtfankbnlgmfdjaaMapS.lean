/- Maps: the specification's answers. -/
import Derived.Test.YtfankbnlgmfdjaaMapM
import Derived.Laws.CopyOwn
import Derived.Deep.RegionLaw
namespace Go.Proofs.Ytfankbnlgmfdjaa
open Go.RowKit

theorem Try.infoI1 : (Try.prog.info? 3).map (fun i => (i.zero, i.size, i.bytes)) = some (some (.int .i64 0), 1, 8) := by kernel_rfl

end Go.Proofs.Ytfankbnlgmfdjaa
