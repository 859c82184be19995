/- The specification puts a hold in order. -/
import Derived.Test.YtefbmbdemlcajaaLkS1
namespace Go.Proofs.Ytefbmbdemlcajaa
open Go.RowKit

/-- Block g is a box that holds these cells. -/
structure Bx (w : World) (g : Nat) (T : TypeId) (cs : Array Value) : Prop where
  row : w.heap[g]? = some (.cells cs T (0, 0))
theorem Bx.lt {w : World} {g : Nat} {T : TypeId} {cs : Array Value} (h : Bx w g T cs) : g < w.heap.size := (Array.getElem?_eq_some_iff.1 h.row).1
theorem Bx.cell {w : World} {g : Nat} {T : TypeId} {cs : Array Value} (h : Bx w g T cs) (j : Nat) : w.cell? ⟨g, j, none⟩ = cs[j]? := cell_of_row w _ j _ _ _ h.row
theorem Bx.free {w : World} {g : Nat} {T : TypeId} {cs : Array Value} (h : Bx w g T cs) (j : Nat) : w.frozen? ⟨g, j, none⟩ = false := frozen_of_row w _ j _ _ h.row
theorem Bx.far {w w' : World} {g : Nat} {T : TypeId} {cs : Array Value} {row : Option Nat} (h : Bx w g T cs) (hg : w.grownBy w' row) (hne : some g ≠ row) : Bx w' g T cs := ⟨(hg.block g h.lt hne).trans h.row⟩
theorem Bx.made (w : World) (T : TypeId) (cs : Array Value) : Bx (w.alloc (.cells cs T)) w.heap.size T cs := ⟨heap_alloc_new _ _⟩
theorem Bx.allocK {w : World} {g : Nat} {T : TypeId} {cs : Array Value} {o : Obj} (h : Bx w g T cs) : Bx (w.alloc o) g T cs := ⟨(heap_alloc_old _ _ h.lt).trans h.row⟩
theorem Bx.kept {w w' : World} {g : Nat} {T : TypeId} {cs : Array Value} (h : Bx w g T cs) (hb : Below w.heap.size w w') : Bx w' g T cs := ⟨(hb.block g h.lt).trans h.row⟩

theorem putS_A {h x : Hd} {s : List Hd × Bool} (h1 : s.2 = true) : putStep h s x = (s.1 ++ [x], true) := by simp [putStep, h1]
theorem putS_B {h x : Hd} {s : List Hd × Bool} (h1 : s.2 = false) (h2 : h.stamp < x.stamp) : putStep h s x = (s.1 ++ [h] ++ [x], true) := by simp [putStep, h1, h2]
theorem putS_C {h x : Hd} {s : List Hd × Bool} (h1 : s.2 = false) (h2 : ¬ h.stamp < x.stamp) : putStep h s x = (s.1 ++ [x], false) := by simp [putStep, h1, h2]

end Go.Proofs.Ytefbmbdemlcajaa
