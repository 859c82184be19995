/- The small functions: what each call answers. -/
import Derived.Test.YtedlhepbbefikaaGreatDoorLeafA
namespace Go.Proofs.YtedlhepbbefikaaGreatDoor
open Go.RowKit

set_option maxHeartbeats 400000 in
theorem l1Val_any (n : Int) (w : World) :
    Calls Tryz.prog 72 #[.int .i64 n] w fun e w' => e = .returned (.bool (valB n)) ∧ w' = w := by
  go_enter Tryz.func72, Tryz.ntmps72
  go_wp2_with (go_at_call 39; refine (l6In_any _ _ _ _).mono ?_; rintro e w' ⟨rfl, rfl⟩)
  go_ret
  exact ⟨rfl, rfl⟩

set_option maxHeartbeats 400000 in
theorem isValue_any (n : Int) (w : World) :
    Calls Tryz.prog 85 #[.int .i64 n] w fun e w' => e = .returned (.bool (valB n)) ∧ w' = w := by
  by_cases h1 : -9999 ≤ n <;> by_cases h2 : n ≤ 9999
  all_goals
    go_enter Tryz.func85, Tryz.ntmps85
    go_wp2
    go_ret
    exact ⟨by simp [valB, inB, h1, h2], rfl⟩

end Go.Proofs.YtedlhepbbefikaaGreatDoor
