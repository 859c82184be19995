/- Pairs: how the law marks them, and looks whether the marks are held; how a key's value is looked up. -/
import Derived.Test.YtmikdkdgpomiaaaDoorPrs2
namespace Go.Proofs.YtmikdkdgpomiaaaDoor
open Go.RowKit

/-- The marks from k on. -/
def marks (k : Int) (n : Nat) : List Pr := (List.range n).map fun (i : Nat) => ⟨k + 2 * (i : Int), k + 2 * (i : Int) + 1⟩

theorem marks_length (k : Int) (n : Nat) : (marks k n).length = n := by simp [marks]
theorem marks_at (k : Int) (n i : Nat) (h : i < n) : (marks k n).getD i Pr.z = ⟨k + 2 * (i : Int), k + 2 * (i : Int) + 1⟩ := by simp [marks, List.getD, h]

/-- A key's value, 0 if it has none. -/
def getP : List Pr → Int → Int
  | [], _ => 0
  | p :: r, k => if p.key = k then p.val else getP r k

theorem getP_drop_hit {ps : List Pr} {j : Nat} {k : Int} (hj : j < ps.length) (h : (ps.getD j Pr.z).key = k) : getP (ps.drop j) k = (ps.getD j Pr.z).val := by
  have : ps.drop j = ps.getD j Pr.z :: ps.drop (j + 1) := by
    rw [List.drop_eq_getElem_cons hj]; simp [List.getD, hj]
  rw [this]; simp only [getP, h, if_true]

theorem getP_drop_miss {ps : List Pr} {j : Nat} {k : Int} (hj : j < ps.length) (h : ¬ (ps.getD j Pr.z).key = k) : getP (ps.drop j) k = getP (ps.drop (j + 1)) k := by
  have : ps.drop j = ps.getD j Pr.z :: ps.drop (j + 1) := by
    rw [List.drop_eq_getElem_cons hj]; simp [List.getD, hj]
  rw [this]; simp only [getP, h, if_false]

end Go.Proofs.YtmikdkdgpomiaaaDoor
