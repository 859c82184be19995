/- Maps: the program's moves, and its map at first. -/
import Derived.Test.YtfankbnlgmfdjaaMapI3
import Derived.Test.YtfankbnlgmfdjaaMapS3
namespace Go.Proofs.Ytfankbnlgmfdjaa
open Go.RowKit

end Go.Proofs.Ytfankbnlgmfdjaa
