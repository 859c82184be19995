/- The small functions: what each call answers. -/
import Derived.Test.YtmikdkdgpomiaaaDoorLeafA
namespace Go.Proofs.YtmikdkdgpomiaaaDoor
open Go.RowKit

set_option maxHeartbeats 400000 in
theorem l1Val_any (n : Int) (w : World) :
    Calls Tryd.prog 28 #[.int .i64 n] w fun e w' => e = .returned (.bool (valB n)) ∧ w' = w := by
  go_enter Tryd.func28, Tryd.ntmps28
  go_wp2_with (go_at_call 27; refine (l6In_any _ _ _ _).mono ?_; rintro e w' ⟨rfl, rfl⟩)
  go_ret
  exact ⟨rfl, rfl⟩

set_option maxHeartbeats 400000 in
theorem isValue_any (n : Int) (w : World) :
    Calls Tryd.prog 53 #[.int .i64 n] w fun e w' => e = .returned (.bool (valB n)) ∧ w' = w := by
  by_cases h1 : -9999 ≤ n <;> by_cases h2 : n ≤ 9999
  all_goals
    go_enter Tryd.func53, Tryd.ntmps53
    go_wp2
    go_ret
    exact ⟨by simp [valB, inB, h1, h2], rfl⟩

end Go.Proofs.YtmikdkdgpomiaaaDoor
