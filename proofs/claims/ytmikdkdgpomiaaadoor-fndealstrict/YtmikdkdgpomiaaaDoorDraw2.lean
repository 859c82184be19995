/- How inputs are drawn: the reader is opened; pairs are drawn. -/
import Derived.Test.YtmikdkdgpomiaaaDoorDraw1
import Derived.Test.YtmikdkdgpomiaaaDoorSpecRun
namespace Go.Proofs.YtmikdkdgpomiaaaDoor
open Go.RowKit
attribute [local go_sem ↓] Go.wp_at_zero Go.wp_at_succ

def lack : Bool → Nat
  | true => 0
  | false => 1

theorem setP_length (ps : List Pr) (k v : Int) : (setP ps k v).length ≤ ps.length + 1 := by
  have key : ∀ (l : List Pr) (s : List Pr × Bool), (l.foldl (setStep k v) s).1.length + lack (l.foldl (setStep k v) s).2 ≤ s.1.length + lack s.2 + l.length := by
    intro l
    induction l with
    | nil => intro s; exact Nat.le_refl _
    | cons p r ih =>
      intro s
      have h1 := ih (setStep k v s p)
      have h2 : (setStep k v s p).1.length + lack (setStep k v s p).2 ≤ s.1.length + lack s.2 + 1 := by
        obtain ⟨L, d⟩ := s
        unfold setStep; dsimp only
        cases d <;> by_cases h1 : k ≤ p.key <;> by_cases h2 : p.key = k <;> simp [h1, h2, lack]
      simp only [List.foldl_cons, List.length_cons] at h1 ⊢; omega
  have h := key ps ([], false)
  cases hd : (setFold k v ps).2
  · have e : setP ps k v = (setFold k v ps).1 ++ [⟨k, v⟩] := by simp [setP, hd]
    rw [e, List.length_append]
    change (setFold k v ps).1.length + lack (setFold k v ps).2 ≤ 0 + 1 + ps.length at h
    rw [hd] at h; simp only [lack, List.length_cons, List.length_nil] at h ⊢; omega
  · have e : setP ps k v = (setFold k v ps).1 := by simp [setP, hd]
    rw [e]
    change (setFold k v ps).1.length + lack (setFold k v ps).2 ≤ 0 + 1 + ps.length at h
    rw [hd] at h; simp only [lack] at h; omega

end Go.Proofs.YtmikdkdgpomiaaaDoor
