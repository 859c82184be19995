/- The specification's copy of a lock. -/
import Derived.Test.YtefbmbdemlcajaaLkS2
import Derived.Test.YtefbmbdemlcajaaAppK2
import Derived.Deep.RegionHeld3
import Derived.Test.YtefbmbdemlcajaaResK
namespace Go.Proofs.Ytefbmbdemlcajaa
open Go.RowKit

theorem ownsRow_madeS {base e size : Nat} (w : World) (H : Nat) (hH : w.heap.size = H) (hb : base ≤ w.heap.size) : (w.alloc (.cells #[] e)).ownsRow base e size (.slice (some ⟨H, 0, none⟩) 0 0) 0 [] := by
  subst hH; exact World.ownsRow_made w #[] 0 hb (by simp [maxLen]) (by simp)

theorem Bx.drewK {w : World} {g : Nat} {T : TypeId} {cs : Array Value} (h : Bx w g T cs) : Bx w.drew g T cs := ⟨h.row⟩

theorem RowAt.drewK {α : Type} {enc : α → List Value} {w : World} {v : Value} {xs : List α} (h : RowAt enc w v xs) : RowAt enc w.drew v xs := h.kept ((Below.refl _ _).drew)
theorem RowAt.allocK {α : Type} {enc : α → List Value} {w : World} {v : Value} {xs : List α} {o : Obj} (h : RowAt enc w v xs) : RowAt enc (w.alloc o) v xs := h.kept ((Below.refl _ _).alloc (Nat.le_refl _) o)

theorem Bx.three {w : World} {g : Nat} {T : TypeId} {a b c : Value} (h : Bx w g T #[a, b, c]) : w.cell? ⟨g, 0, none⟩ = some a ∧ w.cell? ⟨g, 1, none⟩ = some b ∧ w.cell? ⟨g, 2, none⟩ = some c := ⟨h.cell 0, h.cell 1, h.cell 2⟩
theorem Bx.setK {w : World} {g g' j : Nat} {T : TypeId} {cs : Array Value} {u : Value} (h : Bx w g T cs) (hne : g' ≠ g) : Bx (w.setCell ⟨g', j, none⟩ u) g T cs := ⟨(Below.heap_setCell _ _ _ _ (by show g ≠ g'; omega)).trans h.row⟩

theorem hd_one (hs : List Hd) : ∀ u ∈ hs.flatMap hdE, u.oneCell' = true := fun u hu => by
  simp only [List.mem_flatMap] at hu
  obtain ⟨h, _, hh⟩ := hu
  simp [hdE] at hh
  rcases hh with rfl | rfl | rfl | rfl <;> rfl

end Go.Proofs.Ytefbmbdemlcajaa
