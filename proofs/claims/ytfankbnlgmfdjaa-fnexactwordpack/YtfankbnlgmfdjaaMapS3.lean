/- Maps: the specification's map at first, and a move. -/
import Derived.Test.YtfankbnlgmfdjaaMapS2
namespace Go.Proofs.Ytfankbnlgmfdjaa
open Go.RowKit

theorem moveC_bad {v : Int} {xs : List Int} (s t : Int) (h : mapOk v xs = false) : moveC v xs s t = 9 ∧ moveV v xs s t = 0 ∧ moveL v xs s t = [] := by simp [moveC, moveV, moveL, h]
theorem moveC_ok {v : Int} {xs : List Int} {s t : Int} (h : mapOk v xs = true) (hc : moveCode v xs s t ≠ 0) : moveC v xs s t = moveCode v xs s t ∧ moveV v xs s t = v ∧ moveL v xs s t = xs := by simp [moveC, moveV, moveL, h, hc]
theorem moveC_done {v : Int} {xs : List Int} {s t : Int} (h : mapOk v xs = true) (hc : moveCode v xs s t = 0) : moveC v xs s t = 0 ∧ moveV v xs s t = v + 1 ∧ moveL v xs s t = xs.set s.toNat t := by simp [moveC, moveV, moveL, h, hc]
theorem code_9 {v : Int} {xs : List Int} {s t : Int} (h : (slB s && hsB t) = false) : moveCode v xs s t = 9 := by simp only [moveCode, h]; rfl
theorem code_2 {v : Int} {xs : List Int} {s t : Int} (h1 : slB s = true) (h2 : hsB t = true) (h : v = 99) : moveCode v xs s t = 2 := by simp [moveCode, h1, h2, h]
theorem code_3 {v : Int} {xs : List Int} {s t : Int} (h1 : slB s = true) (h2 : hsB t = true) (h : v ≠ 99) (h3 : xs.getD s.toNat 0 = t) : moveCode v xs s t = 3 := by
  simp only [moveCode, h1, h2, h, h3]; simp
theorem code_0 {v : Int} {xs : List Int} {s t : Int} (h1 : slB s = true) (h2 : hsB t = true) (h : v ≠ 99) (h3 : xs.getD s.toNat 0 ≠ t) : moveCode v xs s t = 0 := by
  simp only [moveCode, h1, h2, h, h3]; simp

end Go.Proofs.Ytfankbnlgmfdjaa
