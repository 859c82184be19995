/- What is got, one behind the other. -/
import Derived.Test.YtimnhgncnhmgcaaDealF
namespace Go.Proofs.Ytimnhgncnhmgcaa
open Go.RowKit

theorem filter_getD_at {α : Type} (d : α) (p : α → Bool) (l : List α) (k : Nat) (h : k < l.length) (hp : p (l.getD k d) = true) : ((l.take k).filter p).length < (l.filter p).length ∧ (l.filter p).getD ((l.take k).filter p).length d = l.getD k d := by
  induction l generalizing k with
  | nil => simp at h
  | cons a r ih =>
    cases k with
    | zero => simp only [List.getD_cons_zero] at hp; simp [hp]
    | succ k =>
      simp only [List.getD_cons_succ] at hp ⊢
      obtain ⟨h1, h2⟩ := ih k (by simpa using h) hp
      rw [List.take_succ_cons, List.filter_cons, List.filter_cons]
      cases ha : p a
      · simp only [Bool.false_eq_true, if_false]; exact ⟨h1, h2⟩
      · simp only [if_true, List.length_cons, List.getD_cons_succ]; exact ⟨by omega, h2⟩

theorem gets_at {D : List St} {ps : List Pr} {k : Nat} (h : k < D.length) (h1 : (D.getD k St.z).op = 1) :
    gets (D.take k) < (List.map (fun x => getP ps x.key) (List.filter (fun x => x.op == 1) D)).length ∧ (List.map (fun x => getP ps x.key) (List.filter (fun x => x.op == 1) D)).getD (gets (D.take k)) 0 = getP ps (D.getD k St.z).key := by
  obtain ⟨a, b⟩ := filter_getD_at St.z (fun x => x.op == 1) D k h (by simpa using h1)
  refine ⟨by simpa [gets] using a, ?_⟩
  have a' : gets (D.take k) < (List.filter (fun x => x.op == 1) D).length := a
  have b' : (List.filter (fun x => x.op == 1) D).getD (gets (D.take k)) St.z = D.getD k St.z := b
  generalize gets (D.take k) = j at *
  rw [← b']
  simp [List.getD, a']

end Go.Proofs.Ytimnhgncnhmgcaa
