/- Calls: what they are. -/
import Derived.Test.YtedlhepbbefikaaGreatDoorResK
namespace Go.Proofs.YtedlhepbbefikaaGreatDoor
open Go.RowKit

/-- A call. -/
structure Cl where
  sess : Int
  num : Int
  kind : Int
  text : List UInt8
  slot : Int
  dst : Int
def clC (c : Cl) : Array Value := #[.int .i64 c.sess, .int .i64 c.num, .int .i64 c.kind, .string ⟨c.text.toArray⟩, .int .i64 c.slot, .int .i64 c.dst]

theorem Box.cells6 {w : World} {g : Nat} {T : TypeId} {c : Cl} (h : Box w g T (clC c)) :
    w.cell? ⟨g, 0, none⟩ = some (.int .i64 c.sess) ∧ w.cell? ⟨g, 1, none⟩ = some (.int .i64 c.num) ∧ w.cell? ⟨g, 2, none⟩ = some (.int .i64 c.kind) ∧ w.cell? ⟨g, 3, none⟩ = some (.string ⟨c.text.toArray⟩) ∧ w.cell? ⟨g, 4, none⟩ = some (.int .i64 c.slot) ∧ w.cell? ⟨g, 5, none⟩ = some (.int .i64 c.dst) :=
  ⟨h.cell 0, h.cell 1, h.cell 2, h.cell 3, h.cell 4, h.cell 5⟩

end Go.Proofs.YtedlhepbbefikaaGreatDoor
