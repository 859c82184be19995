/- How the specification sets a key in pairs: the walk. -/
import Derived.Test.YtmikdkdgpomiaaaDoorCh
namespace Go.Proofs.YtmikdkdgpomiaaaDoor
open Go.RowKit

theorem setFold_step {k v : Int} {ps : List Pr} {j : Nat} (hj : j < ps.length) : setFold k v (ps.take (j + 1)) = setStep k v (setFold k v (ps.take j)) (ps.getD j Pr.z) := by
  rw [take_succ_getD ps Pr.z j hj, setFold_append]; rfl

theorem setFold_length (k v : Int) (ps : List Pr) : (setFold k v ps).1.length ≤ 2 * ps.length := by
  have : ∀ (ps : List Pr) (s : List Pr × Bool), (ps.foldl (setStep k v) s).1.length ≤ s.1.length + 2 * ps.length := by
    intro ps
    induction ps with
    | nil => intro s; simp
    | cons p r ih =>
      intro s
      have h1 := ih (setStep k v s p)
      have h2 : (setStep k v s p).1.length ≤ s.1.length + 2 := by
        unfold setStep; dsimp only; repeat' split
        all_goals simp
      simp only [List.foldl_cons, List.length_cons]; omega
  simpa [setFold] using this ps ([], false)

theorem st_A1 {k v : Int} {s : List Pr × Bool} {x : Pr} (h1 : s.2 = true) (h2 : x.key = k) : setStep k v s x = s := by simp [setStep, h1, h2]
theorem st_A2 {k v : Int} {s : List Pr × Bool} {x : Pr} (h1 : s.2 = true) (h2 : ¬ x.key = k) : setStep k v s x = (s.1 ++ [x], s.2) := by simp [setStep, h1, h2]
theorem st_B1 {k v : Int} {s : List Pr × Bool} {x : Pr} (h1 : s.2 = false) (h3 : x.key = k) : setStep k v s x = (s.1 ++ [⟨k, v⟩], true) := by simp [setStep, h1, h3]
theorem st_B2 {k v : Int} {s : List Pr × Bool} {x : Pr} (h1 : s.2 = false) (h2 : k ≤ x.key) (h3 : ¬ x.key = k) : setStep k v s x = (s.1 ++ [⟨k, v⟩] ++ [x], true) := by simp [setStep, h1, h2, h3]
theorem st_B3 {k v : Int} {s : List Pr × Bool} {x : Pr} (h1 : s.2 = false) (h2 : ¬ k ≤ x.key) (h3 : ¬ x.key = k) : setStep k v s x = (s.1 ++ [x], s.2) := by simp [setStep, h1, h2, h3]

end Go.Proofs.YtmikdkdgpomiaaaDoor
