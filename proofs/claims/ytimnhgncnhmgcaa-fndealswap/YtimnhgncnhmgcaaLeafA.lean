/- The smallest functions: what each call answers. -/
import Derived.Test.YtimnhgncnhmgcaaRows
import Derived.Test.YtimnhgncnhmgcaaBase
namespace Go.Proofs.Ytimnhgncnhmgcaa
open Go.RowKit

def inB (n lo hi : Int) : Bool := decide (lo ≤ n) && decide (n ≤ hi)
def valB (n : Int) : Bool := inB n (-9999) 9999
def keyB (n : Int) : Bool := inB n 0 31

set_option maxHeartbeats 400000 in
theorem l6In_any (n lo hi : Int) (w : World) :
    Calls Try.prog 54 #[.int .i64 n, .int .i64 lo, .int .i64 hi] w fun e w' => e = .returned (.bool (inB n lo hi)) ∧ w' = w := by
  by_cases h1 : lo ≤ n <;> by_cases h2 : n ≤ hi
  all_goals
    go_enter Try.func54, Try.ntmps54
    go_wp2
    go_ret
    exact ⟨by simp [inB, h1, h2], rfl⟩

set_option maxHeartbeats 400000 in
theorem isKey_any (n : Int) (w : World) :
    Calls Try.prog 75 #[.int .i64 n] w fun e w' => e = .returned (.bool (keyB n)) ∧ w' = w := by
  by_cases h1 : 0 ≤ n <;> by_cases h2 : n < 32
  all_goals
    go_enter Try.func75, Try.ntmps75
    go_wp2
    go_ret
    exact ⟨by simp [keyB, inB, h1]; omega, rfl⟩

end Go.Proofs.Ytimnhgncnhmgcaa
