/- Books: how the laws copy and compare them. -/
import Derived.Test.YtfankbnlgmfdjaaSdB
namespace Go.Proofs.Ytfankbnlgmfdjaa
open Go.RowKit

theorem Box.setO {w : World} {g : Nat} {T : TypeId} {cs : Array Value} (h : Box w g T cs) {b : Nat} (hne : g ≠ b) (j : Nat) (u : Value) : Box (w.setCell ⟨b, j, none⟩ u) g T cs := ⟨(heap_setCell_other _ _ _ _ hne).trans h.row⟩
theorem Box.setC {w : World} {g : Nat} {T : TypeId} {cs : Array Value} (h : Box w g T cs) (j : Nat) (u : Value) : Box (w.setCell ⟨g, j, none⟩ u) g T (cs.setIfInBounds j u) := ⟨heap_setCell_same _ _ _ _ _ _ h.row⟩
theorem Box.free5 {w : World} {g : Nat} {T : TypeId} {cs : Array Value} (h : Box w g T cs) : w.frozen? ⟨g, 0, none⟩ = false ∧ w.frozen? ⟨g, 1, none⟩ = false ∧ w.frozen? ⟨g, 2, none⟩ = false ∧ w.frozen? ⟨g, 3, none⟩ = false ∧ w.frozen? ⟨g, 4, none⟩ = false := ⟨h.free 0, h.free 1, h.free 2, h.free 3, h.free 4⟩
theorem Box.made3 (w : World) (A B C : Obj) {T : TypeId} {cs : Array Value} (hC : C = .cells cs T) : Box (((w.alloc A).alloc B).alloc C) (w.heap.size + 1 + 1) T cs := by
  subst hC
  exact ⟨heap_alloc3_new _ _ _ _⟩
theorem Box.made2 (w : World) (A B C : Obj) {T : TypeId} {cs : Array Value} (hB : B = .cells cs T) : Box (((w.alloc A).alloc B).alloc C) (w.heap.size + 1) T cs := by
  subst hB
  exact ⟨(heap_alloc_old _ _ (by simp)).trans (heap_alloc2_new _ _ _)⟩

end Go.Proofs.Ytfankbnlgmfdjaa
