/- The plain mathematics of the laws on deals. -/
import Derived.Test.YtimnhgncnhmgcaaDeal4
import Derived.Test.YtimnhgncnhmgcaaLawRun
namespace Go.Proofs.Ytimnhgncnhmgcaa

theorem stepM_err {x : St} {s : Sta} {k : Int} (h : stepM x s = .error k) : k = 1 ∨ k = 2 := by
  unfold stepM at h
  repeat' split at h
  all_goals (cases h; try simp)

theorem runM_errs {ss : List St} {s : Sta} {k : Int} (h : runM ss s = .error k) : k = 1 ∨ k = 2 := by
  induction ss generalizing s with
  | nil => cases h
  | cons x r ih =>
    simp only [runM] at h
    cases hst : stepM x s with
    | error k' => rw [hst] at h; cases h; exact stepM_err hst
    | ok s' => rw [hst] at h; exact ih h

theorem dealM_err {ss : List St} {ps : List Pr} {k : Int} (h : dealM ss ps = .error k) : k = 1 ∨ k = 2 ∨ k = 9 := by
  unfold dealM at h; split at h
  · rcases runM_errs h with h | h <;> simp [h]
  · cases h; simp

theorem dealM_ok {ss : List St} {ps : List Pr} {s : Sta} (h : dealM ss ps = .ok s) : dealOk ss = true ∧ inForm ps = true ∧ runM ss (startM ps) = .ok s := by
  unfold dealM at h; split at h
  · rename_i h1; simp only [Bool.and_eq_true] at h1; exact ⟨h1.1, h1.2, h⟩
  · cases h

theorem dealM_run {ss : List St} {ps : List Pr} (h1 : dealOk ss = true) (h2 : inForm ps = true) : dealM ss ps = runM ss (startM ps) := by
  unfold dealM; rw [h1, h2]; rfl

theorem code_ok {R : Except Int Sta} {s : Sta} (h : R = .ok s) : codeM R = 0 := by rw [h]; rfl

/-- Either a code that is none of 0, and nothing; or done. -/
theorem dealM_cases (ss : List St) (ps : List Pr) : (codeM (dealM ss ps) ≠ 0 ∧ gotM (dealM ss ps) = [] ∧ chM (dealM ss ps) = [] ∧ ∃ k, dealM ss ps = .error k) ∨ (codeM (dealM ss ps) = 0 ∧ ∃ s, dealM ss ps = .ok s) := by
  cases h : dealM ss ps with
  | error k => left; refine ⟨?_, rfl, rfl, k, rfl⟩; have := dealM_err h; simp only [codeM]; omega
  | ok s => right; exact ⟨rfl, s, rfl⟩

/-- How many of the statements get. -/
def gets (ss : List St) : Nat := (ss.filter fun x => x.op == 1).length

theorem gets_cons (x : St) (r : List St) : gets (x :: r) = gets r + if x.op = 1 then 1 else 0 := by
  unfold gets; rw [List.filter_cons]; by_cases h : x.op = 1 <;> simp [h]

theorem gets_append (a b : List St) : gets (a ++ b) = gets a + gets b := by simp [gets]

theorem take_snoc_getD {α : Type} {xs : List α} (d : α) {k : Nat} (h : k < xs.length) : xs.take (k + 1) = xs.take k ++ [xs.getD k d] := by
  rw [List.take_succ_eq_append_getElem h]; simp [List.getD, h]

theorem gets_take {ss : List St} {k : Nat} (h : k < ss.length) : gets (ss.take (k + 1)) = gets (ss.take k) + if (ss.getD k St.z).op = 1 then 1 else 0 := by
  rw [take_snoc_getD St.z h, gets_append, gets_cons]; simp [gets]

theorem gets_le (ss : List St) : gets ss ≤ ss.length := List.length_filter_le _ _

theorem runM_gets {ss : List St} {s s' : Sta} (h : runM ss s = .ok s') : s'.g.length = s.g.length + gets ss := by
  induction ss generalizing s with
  | nil => cases h; simp [gets]
  | cons x r ih =>
    simp only [runM] at h
    cases hst : stepM x s with
    | error k' => rw [hst] at h; cases h
    | ok s1 =>
      rw [hst] at h
      have h1 := ih h
      rw [gets_cons]
      have : s1.g.length = s.g.length + if x.op = 1 then 1 else 0 := by
        unfold stepM at hst
        repeat' split at hst
        all_goals (cases hst; try simp [*])
      omega

theorem first_need {ss : List St} {ps : List Pr} {s : Sta} (h : dealM ss ps = .ok s) (hl : 0 < ss.length) (h4 : (ss.getD 0 St.z).op = 4) : ¬ getP ps (ss.getD 0 St.z).key < (ss.getD 0 St.z).num := by
  obtain ⟨ho, hi, hr⟩ := dealM_ok h
  have hs := stOk_parts (dealOk_at ho hl)
  cases ss with
  | nil => simp at hl
  | cons x r =>
    simp only [List.getD_cons_zero] at *
    intro hlt
    simp only [runM] at hr
    have e : stepM x (startM ps) = .error 1 := step_refused h4 (by
      show getP ps (x.key.toNat : Int) < x.num
      rw [show (x.key.toNat : Int) = x.key by omega]; exact hlt)
    rw [e] at hr; cases hr

/-- Statements that only look: what is there stays, what is got is what is there. -/
theorem runM_looks {ss : List St} {s : Sta} (hl : ∀ x ∈ ss, x.op = 1 ∨ x.op = 4) :
    (runM ss s = .error 1) ∨ runM ss s = .ok ⟨s.f, s.c, s.g ++ (ss.filter fun x => x.op == 1).map fun x => s.f x.key.toNat⟩ := by
  induction ss generalizing s with
  | nil => right; simp [runM]
  | cons x r ih =>
    have hr : ∀ y ∈ r, y.op = 1 ∨ y.op = 4 := fun y hy => hl y (by simp [hy])
    rcases hl x (by simp) with h1 | h4
    · simp only [runM, step_get h1]
      rcases ih (s := ⟨s.f, s.c, s.g ++ [s.f x.key.toNat]⟩) hr with h | h
      · exact .inl h
      · right; rw [h]; simp [h1]
    · by_cases hn : s.f x.key.toNat < x.num
      · left; simp only [runM, step_refused h4 hn]
      · simp only [runM, step_needed h4 hn]
        rcases ih (s := s) hr with h | h
        · exact .inl h
        · right; rw [h]; simp [h4]

/-- Statements that only need. -/
theorem runM_needs {ss : List St} {s : Sta} (hl : ∀ x ∈ ss, x.op = 4) : runM ss s = if ss.all (fun x => decide (x.num ≤ s.f x.key.toNat)) = true then .ok s else .error 1 := by
  induction ss with
  | nil => rfl
  | cons x r ih =>
    have h4 := hl x (by simp)
    by_cases hn : s.f x.key.toNat < x.num
    · have e : ((x :: r).all fun y => decide (y.num ≤ s.f y.key.toNat)) = false := by
        rw [List.all_cons]
        have : decide (x.num ≤ s.f x.key.toNat) = false := by simp; omega
        rw [this, Bool.false_and]
      rw [e]; simp only [runM, step_refused h4 hn]; rfl
    · have e : ((x :: r).all fun y => decide (y.num ≤ s.f y.key.toNat)) = (r.all fun y => decide (y.num ≤ s.f y.key.toNat)) := by
        rw [List.all_cons]
        have : decide (x.num ≤ s.f x.key.toNat) = true := by simp; omega
        rw [this, Bool.true_and]
      rw [e]; simp only [runM, step_needed h4 hn]; exact ih (fun y hy => hl y (by simp [hy]))

end Go.Proofs.Ytimnhgncnhmgcaa
