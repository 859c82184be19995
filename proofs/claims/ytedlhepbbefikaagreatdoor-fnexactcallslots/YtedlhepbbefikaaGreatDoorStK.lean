/- Statements: how the laws mark them, and look whether the marks are held. -/
import Derived.Test.YtedlhepbbefikaaGreatDoorSts2
import Derived.Test.YtedlhepbbefikaaGreatDoorHkA
namespace Go.Proofs.YtedlhepbbefikaaGreatDoor
open Go.RowKit

/-- The marks from k on. -/
def smarks (k : Int) (n : Nat) : List St := (List.range n).map fun (i : Nat) => ⟨k + 3 * (i : Int), k + 3 * (i : Int) + 1, k + 3 * (i : Int) + 1 + 1⟩
theorem smarks_at (k : Int) (n i : Nat) (h : i < n) : (smarks k n).getD i St.z = ⟨k + 3 * (i : Int), k + 3 * (i : Int) + 1, k + 3 * (i : Int) + 1 + 1⟩ := by simp [smarks, List.getD, h]
/-- Marks lie in it. -/
def MarkedS (w : World) (v : Value) (n : Nat) (k : Int) : Prop := ∃ a cap, v = .slice a n cap ∧ (n = 0 ∨ ∃ g, a = some ⟨g, 0, none⟩ ∧ StCells w g 0 n (smarks k n))
theorem MarkedS.kept {w w' : World} {v : Value} {n : Nat} {k : Int} (h : MarkedS w v n k) (hb : Below w.heap.size w w') : MarkedS w' v n k := by
  obtain ⟨a, cap, hv, h1⟩ := h
  refine ⟨a, cap, hv, ?_⟩
  rcases h1 with h1 | ⟨g, ha, hc⟩
  · exact .inl h1
  · exact .inr ⟨g, ha, hc.kept hb⟩

end Go.Proofs.YtedlhepbbefikaaGreatDoor
