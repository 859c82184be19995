/- Maps: the program's moves, and its map at first. -/
import Derived.Test.YtpcbpliigplgoaaMapI3
import Derived.Test.YtpcbpliigplgoaaMapS3
namespace Go.Proofs.Ytpcbpliigplgoaa
open Go.RowKit

end Go.Proofs.Ytpcbpliigplgoaa
