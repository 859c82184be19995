/- Books: how the laws size, copy and compare them. -/
import Derived.Test.YtfankbnlgmfdjaaSdE
namespace Go.Proofs.Ytfankbnlgmfdjaa
open Go.RowKit

theorem PrsAt.shape {w : World} {v : Value} {ps : List Pr} (h : PrsAt w v ps) : ∃ a cap, v = .slice a ps.length cap ∧ ps.length ≤ maxLen := by
  obtain ⟨a, cap, hv, h1, h2, _⟩ := h
  exact ⟨a, cap, hv, by omega⟩
theorem SdsAt.shape {w : World} {v : Value} {xs : List Sd} (h : SdsAt w v xs) : ∃ a cap, v = .slice a xs.length cap ∧ xs.length ≤ maxLen := by
  obtain ⟨a, cap, hv, h1, h2, _⟩ := h
  exact ⟨a, cap, hv, by omega⟩

theorem grownBy_setOne (w : World) (g j : Nat) (u : Value) : w.grownBy (w.setCell ⟨g, j, none⟩ u) (some g) := grownBy_set (grownBy_refl w (some g)) j u
theorem PrsAt.setFar {w : World} {v : Value} {ps : List Pr} (h : PrsAt w v ps) {g : Nat} (hne : v.ownBlock ≠ some g) (j : Nat) (u : Value) : PrsAt (w.setCell ⟨g, j, none⟩ u) v ps := h.far (grownBy_setOne w g j u) (.inr hne)

/-- What books hold. -/
structure BkAt (w : World) (u st sd : Value) (L : List Int) (ps : List Pr) (ss : List Sd) : Prop where
  ins : InsAt w u L
  prs : PrsAt w st ps
  sds : SdsAt w sd ss
theorem BkAt.kept {w w' : World} {u st sd : Value} {L : List Int} {ps : List Pr} {ss : List Sd} (h : BkAt w u st sd L ps ss) (hb : Below w.heap.size w w') : BkAt w' u st sd L ps ss := ⟨h.ins.kept hb, h.prs.kept hb, h.sds.kept hb⟩

/-- Small enough to be copied. -/
structure BkFit (L : List Int) (ps : List Pr) (ss : List Sd) : Prop where
  l : L.length ≤ 1048576
  p : ps.length ≤ 1048576
  s : ss.length ≤ 1048576
  f : SdFit ss

end Go.Proofs.Ytfankbnlgmfdjaa
