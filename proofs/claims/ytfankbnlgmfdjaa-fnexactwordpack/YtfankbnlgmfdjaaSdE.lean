/- What was said, and books: how the laws compare, copy and size them. -/
import Derived.Test.YtfankbnlgmfdjaaSdT
namespace Go.Proofs.Ytfankbnlgmfdjaa
open Go.RowKit

theorem Box.five {w : World} {g : Nat} {T : TypeId} {a b c d e : Value} (h : Box w g T #[a, b, c, d, e]) :
    w.cell? ⟨g, 0, none⟩ = some a ∧ w.cell? ⟨g, 1, none⟩ = some b ∧ w.cell? ⟨g, 2, none⟩ = some c ∧ w.cell? ⟨g, 3, none⟩ = some d ∧ w.cell? ⟨g, 4, none⟩ = some e := ⟨h.cell 0, h.cell 1, h.cell 2, h.cell 3, h.cell 4⟩

end Go.Proofs.Ytfankbnlgmfdjaa
