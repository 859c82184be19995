/- When pairs are in form: the program's answer. -/
import Derived.Test.YtmikdkdgpomiaaaDoorForm
namespace Go.Proofs.YtmikdkdgpomiaaaDoor
open Go.RowKit
attribute [local go_sem ↓] Go.wp_at_zero Go.wp_at_succ

end Go.Proofs.YtmikdkdgpomiaaaDoor
