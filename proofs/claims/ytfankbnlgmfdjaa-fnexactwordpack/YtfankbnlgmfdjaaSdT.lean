/- What was said: how the laws copy and compare it. -/
import Derived.Test.YtfankbnlgmfdjaaSd
namespace Go.Proofs.Ytfankbnlgmfdjaa
open Go.RowKit

/-- The first k of xs lie in block g, their rows elsewhere. -/
def SdOwn (w : World) (g k : Nat) (xs : List Sd) : Prop := ∀ i, i < k →
  w.cell? ⟨g, i * 4, none⟩ = some (.int .i64 (xs.getD i Sd.z).ses) ∧
  w.cell? ⟨g, i * 4 + 1, none⟩ = some (.int .i64 (xs.getD i Sd.z).num) ∧
  w.cell? ⟨g, i * 4 + 2, none⟩ = some (.int .i64 (xs.getD i Sd.z).code) ∧
  ∃ u, w.cell? ⟨g, i * 4 + 3, none⟩ = some u ∧ (∀ q, u.ownBlock = some q → g < q) ∧ InsAt w u (xs.getD i Sd.z).vals

theorem SdOwn.kept {w w' : World} {g k : Nat} {xs : List Sd} (h : SdOwn w g k xs) (hb : Below w.heap.size w w') : SdOwn w' g k xs := fun i hi => by
  obtain ⟨h0, h1, h2, u, h3, h4, h5⟩ := h i hi
  exact ⟨cell_kept hb h0, cell_kept hb h1, cell_kept hb h2, u, cell_kept hb h3, h4, h5.kept hb⟩

theorem SdOwn.cells {w : World} {g k : Nat} {xs : List Sd} (h : SdOwn w g k xs) : SdCells w g 0 k xs := fun i hi => by
  obtain ⟨h0, h1, h2, u, h3, h4, h5⟩ := h i hi
  simp only [Nat.zero_add]
  exact ⟨h0, h1, h2, u, h3, h5⟩

theorem SdOwn.lowSet {w : World} {g k : Nat} {xs : List Sd} (h : SdOwn w g k xs) {b : Nat} (hb : b < g) (j : Nat) (v : Value) : SdOwn (w.setCell ⟨b, j, none⟩ v) g k xs := fun i hi => by
  obtain ⟨h0, h1, h2, u, h3, h4, h5⟩ := h i hi
  have hne : u.ownBlock ≠ some b := fun e => by have := h4 b e; omega
  refine ⟨?_, ?_, ?_, u, ?_, h4, h5.set hne _ _⟩
  · rw [cell_set_far (by omega)]; exact h0
  · rw [cell_set_far (by omega)]; exact h1
  · rw [cell_set_far (by omega)]; exact h2
  · rw [cell_set_far (by omega)]; exact h3

theorem SdOwn.push {w : World} {g m k : Nat} {xs : List Sd} (h : SdOwn w g k xs) (hr : Room w g m) (hk : k * 4 + 4 ≤ m) {x : Sd} (hx : xs.getD k Sd.z = x) {u : Value} (hu : InsAt w u x.vals) (hlo : ∀ q, u.ownBlock = some q → g < q) :
    SdOwn ((((w.setCell ⟨g, k * 4, none⟩ (.int .i64 x.ses)).setCell ⟨g, k * 4 + 1, none⟩ (.int .i64 x.num)).setCell ⟨g, k * 4 + 2, none⟩ (.int .i64 x.code)).setCell ⟨g, k * 4 + 3, none⟩ u) g (k + 1) xs := by
  intro i hi
  have hne : u.ownBlock ≠ some g := fun e => by have := hlo g e; omega
  by_cases e : i = k
  · subst e; subst hx
    have r1 := hr.set ⟨g, i * 4, none⟩ (.int .i64 (xs.getD i Sd.z).ses)
    have r2 := r1.set ⟨g, i * 4 + 1, none⟩ (.int .i64 (xs.getD i Sd.z).num)
    have r3 := r2.set ⟨g, i * 4 + 2, none⟩ (.int .i64 (xs.getD i Sd.z).code)
    obtain ⟨u0, c0⟩ := (hr (i * 4) (by omega)).1
    obtain ⟨u1, c1⟩ := (r1 (i * 4 + 1) (by omega)).1
    obtain ⟨u2, c2⟩ := (r2 (i * 4 + 2) (by omega)).1
    obtain ⟨u3, c3⟩ := (r3 (i * 4 + 3) (by omega)).1
    refine ⟨?_, ?_, ?_, u, World.cell?_setCell_same _ _ _ c3, hlo, (((hu.set hne _ _).set hne _ _).set hne _ _).set hne _ _⟩
    · rw [cell_set_far (by omega), cell_set_far (by omega), cell_set_far (by omega)]; exact World.cell?_setCell_same _ _ _ c0
    · rw [cell_set_far (by omega), cell_set_far (by omega)]; exact World.cell?_setCell_same _ _ _ c1
    · rw [cell_set_far (by omega)]; exact World.cell?_setCell_same _ _ _ c2
  · obtain ⟨h0, h1, h2, v, h3, h4, h5⟩ := h i (by omega)
    have h4' : v.ownBlock ≠ some g := fun e => by have := h4 g e; omega
    refine ⟨?_, ?_, ?_, v, ?_, h4, (((h5.set h4' _ _).set h4' _ _).set h4' _ _).set h4' _ _⟩
    · rw [cell_set_far (by omega), cell_set_far (by omega), cell_set_far (by omega), cell_set_far (by omega)]; exact h0
    · rw [cell_set_far (by omega), cell_set_far (by omega), cell_set_far (by omega), cell_set_far (by omega)]; exact h1
    · rw [cell_set_far (by omega), cell_set_far (by omega), cell_set_far (by omega), cell_set_far (by omega)]; exact h2
    · rw [cell_set_far (by omega), cell_set_far (by omega), cell_set_far (by omega), cell_set_far (by omega)]; exact h3

theorem SdOwn.at {w : World} {g : Nat} {xs : List Sd} (h : SdOwn w g xs.length xs) (hn : xs.length ≤ 1048576) : SdsAt w (.slice (some ⟨g, 0, none⟩) xs.length xs.length) xs :=
  ⟨_, _, rfl, Nat.le_refl _, by unfold maxLen; omega, .inr ⟨g, 0, rfl, h.cells⟩⟩

end Go.Proofs.Ytfankbnlgmfdjaa
