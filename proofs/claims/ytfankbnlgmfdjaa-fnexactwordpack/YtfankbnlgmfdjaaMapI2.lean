/- Maps: the program's answers, its look at a map. -/
import Derived.Test.YtfankbnlgmfdjaaMapI
namespace Go.Proofs.Ytfankbnlgmfdjaa
open Go.RowKit

def zeros8 : Array Value := #[.int .i64 0, .int .i64 0, .int .i64 0, .int .i64 0, .int .i64 0, .int .i64 0, .int .i64 0, .int .i64 0]
/-- Each is one cell. -/
structure OneC (cs : Array Value) : Prop where
  all : cs.all (·.oneCell') = true

theorem zeros8_one : OneC zeros8 := ⟨by simp [zeros8, Value.oneCell']⟩
theorem arr_one (xs : List Int) : OneC (arr xs) := ⟨by simp [arr, Value.oneCell']⟩

end Go.Proofs.Ytfankbnlgmfdjaa
