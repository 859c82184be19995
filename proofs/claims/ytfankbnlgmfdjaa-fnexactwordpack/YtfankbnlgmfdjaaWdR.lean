/- How the laws copy words: into rows that may be written. -/
import Derived.Test.YtfankbnlgmfdjaaWdT
namespace Go.Proofs.Ytfankbnlgmfdjaa
open Go.RowKit

/-- A row of one's own of just these numbers, that may be written. -/
structure InsAtR (w : World) (g : Nat) (xs : List Int) : Prop where
  at_ : InsAt w (.slice (some ⟨g, 0, none⟩) xs.length xs.length) xs
  room : Room w g xs.length
  lt : g < w.heap.size
theorem InsAtR.kept {w w' : World} {g : Nat} {xs : List Int} (h : InsAtR w g xs) (hb : Below w.heap.size w w') : InsAtR w' g xs := ⟨h.at_.kept hb, h.room.kept hb, Nat.lt_of_lt_of_le h.lt hb.size⟩
theorem InsAtR.set {w : World} {g' : Nat} {xs : List Int} (h : InsAtR w g' xs) {g : Nat} (hne : (Value.slice (some ⟨g', 0, none⟩) xs.length xs.length).ownBlock ≠ some g) (j : Nat) (u : Value) : InsAtR (w.setCell ⟨g, j, none⟩ u) g' xs := ⟨h.at_.set hne j u, h.room.set _ _, by simpa using h.lt⟩
structure PrsAtR (w : World) (g : Nat) (ps : List Pr) : Prop where
  at_ : PrsAt w (.slice (some ⟨g, 0, none⟩) ps.length ps.length) ps
  room : Room w g (ps.length * 2)
  lt : g < w.heap.size
theorem PrsAtR.kept {w w' : World} {g : Nat} {ps : List Pr} (h : PrsAtR w g ps) (hb : Below w.heap.size w w') : PrsAtR w' g ps := ⟨h.at_.kept hb, h.room.kept hb, Nat.lt_of_lt_of_le h.lt hb.size⟩
theorem PrsAtR.setFar {w : World} {g' : Nat} {ps : List Pr} (h : PrsAtR w g' ps) {g : Nat} (hne : (Value.slice (some ⟨g', 0, none⟩) ps.length ps.length).ownBlock ≠ some g) (j : Nat) (u : Value) : PrsAtR (w.setCell ⟨g, j, none⟩ u) g' ps := ⟨h.at_.setFar hne j u, h.room.set _ _, by simpa using h.lt⟩

theorem toInsR_any (v : Value) (xs : List Int) (w : World) (hv : InsAt w v xs) (hn : xs.length ≤ 1048576) :
    Calls Try.prog 60 #[v] w fun e w' => ∃ g, e = .returned (.slice (some ⟨g, 0, none⟩) xs.length xs.length) ∧ w.heap.size ≤ g ∧ InsAtR w' g xs ∧ Below w.heap.size w w' :=
  (toIns_any v xs w hv hn).mono fun _ _ ⟨h1, h2, h3, h4, h5⟩ => ⟨_, h1, Nat.le_refl _, ⟨h2, h3, h4⟩, h5⟩
theorem toPrsR_any (v : Value) (ps : List Pr) (w : World) (hv : PrsAt w v ps) (hn : ps.length ≤ 1048576) :
    Calls Try.prog 61 #[v] w fun e w' => ∃ g, e = .returned (.slice (some ⟨g, 0, none⟩) ps.length ps.length) ∧ w.heap.size ≤ g ∧ PrsAtR w' g ps ∧ Below w.heap.size w w' :=
  (toPrs_any v ps w hv hn).mono fun _ _ ⟨h1, h2, h3, h4, h5⟩ => ⟨_, h1, Nat.le_refl _, ⟨h2, h3, h4⟩, h5⟩

end Go.Proofs.Ytfankbnlgmfdjaa
