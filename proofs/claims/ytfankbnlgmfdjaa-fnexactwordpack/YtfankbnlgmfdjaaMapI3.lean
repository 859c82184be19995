/- Maps: the program's answers. -/
import Derived.Test.YtfankbnlgmfdjaaMapI2
namespace Go.Proofs.Ytfankbnlgmfdjaa
open Go.RowKit

end Go.Proofs.Ytfankbnlgmfdjaa
