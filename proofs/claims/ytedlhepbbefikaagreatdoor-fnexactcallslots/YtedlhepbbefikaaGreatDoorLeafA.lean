/- The smallest functions: what each call answers. -/
import Derived.Test.YtedlhepbbefikaaGreatDoorLeafI
namespace Go.Proofs.YtedlhepbbefikaaGreatDoor
open Go.RowKit

def valB (n : Int) : Bool := inB n (-9999) 9999
def keyB (n : Int) : Bool := inB n 0 31

set_option maxHeartbeats 400000 in
theorem isKey_any (n : Int) (w : World) :
    Calls Tryz.prog 31 #[.int .i64 n] w fun e w' => e = .returned (.bool (keyB n)) ∧ w' = w := by
  by_cases h1 : 0 ≤ n <;> by_cases h2 : n < 32
  all_goals
    go_enter Tryz.func31, Tryz.ntmps31
    go_wp2
    go_ret
    exact ⟨by simp [keyB, inB, h1]; omega, rfl⟩

end Go.Proofs.YtedlhepbbefikaaGreatDoor
