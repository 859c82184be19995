/- What comes of statements that only put. -/
import Derived.Test.YtimnhgncnhmgcaaDealF
import Derived.Test.YtimnhgncnhmgcaaPutM
namespace Go.Proofs.Ytimnhgncnhmgcaa
open Go.RowKit

theorem chTo_congr {f g : Nat → Int} {c d : Nat → Bool} (M : Nat) (hc : ∀ q, q < M → c q = d q) (hf : ∀ q, q < M → c q = true → f q = g q) : chTo f c M = chTo g d M := by
  induction M with
  | zero => rfl
  | succ M ih =>
    simp only [chTo]
    rw [ih (fun q h => hc q (by omega)) (fun q h => hf q (by omega)), hc M (by omega)]
    cases hd : d M
    · rfl
    · rw [hf M (by omega) (by rw [hc M (by omega)]; exact hd)]

theorem runM_vals {ss : List St} {s s' : Sta} (hv : ∀ q, valB (s.f q) = true) (h : runM ss s = .ok s') : ∀ q, valB (s'.f q) = true := by
  induction ss generalizing s with
  | nil => cases h; exact hv
  | cons x r ih =>
    simp only [runM] at h
    cases hst : stepM x s with
    | error k' => rw [hst] at h; cases h
    | ok s1 =>
      rw [hst] at h
      refine ih (s := s1) ?_ h
      by_cases h1 : x.op = 1
      · rw [step_get h1] at hst; cases hst; exact hv
      by_cases h4 : x.op = 4
      · by_cases hn : s.f x.key.toNat < x.num
        · rw [step_refused h4 hn] at hst; cases hst
        · rw [step_needed h4 hn] at hst; cases hst; exact hv
      · unfold stepM at hst; rw [if_neg h1, if_neg h4] at hst
        generalize (if x.op = 3 then s.f x.key.toNat + x.num else x.num) = nv at hst
        by_cases hval : valB nv = true
        · rw [if_pos hval] at hst; cases hst; exact fun q => upd_val hv hval q
        · rw [if_neg hval] at hst; cases hst

/-- What a deal that is done changes is in form. -/
theorem inForm_ch {ss : List St} {ps : List Pr} {s : Sta} (h : dealM ss ps = .ok s) : inForm (chTo s.f s.c 32) = true := by
  obtain ⟨_, hi, hr⟩ := dealM_ok h
  have hv := runM_vals (fun q => start_val hi q) hr
  refine inForm_of (chTo_length _ _ 32) (chTo_pairwise _ _ 32) (fun p hp => ?_)
  obtain ⟨q, hq, _, rfl⟩ := chTo_mem hp
  exact ⟨by simp, by simp; omega, hv q⟩

theorem runM_puts {ss : List St} {s t s' : Sta} (hl : ∀ x ∈ ss, x.op = 2) (hc : s.c = t.c) (hf : ∀ q, s.c q = true → s.f q = t.f q) (h : runM ss s = .ok s') :
    ∃ t', runM ss t = .ok t' ∧ s'.c = t'.c ∧ ∀ q, s'.c q = true → s'.f q = t'.f q := by
  induction ss generalizing s t with
  | nil => cases h; exact ⟨t, rfl, hc, hf⟩
  | cons x r ih =>
    have h2 := hl x (by simp)
    cases hv : valB x.num
    · simp only [runM] at h
      have : stepM x s = .error 2 := by simp [stepM, h2, hv]
      rw [this] at h; cases h
    · simp only [runM, step_put h2 hv] at h ⊢
      refine ih (fun y hy => hl y (by simp [hy])) (by simp [hc]) (fun q hq => ?_) h
      by_cases e : q = x.key.toNat
      · subst e; simp [upd_same]
      · simp only [upd_other _ _ _ _ e] at hq ⊢; exact hf q hq

/-- A deal that only puts does the same, whatever was there. -/
theorem puts_same {D : List St} {ps ps' : List Pr} {s : Sta} (hl : ∀ x ∈ D, x.op = 2) (h : dealM D ps = .ok s) (hi' : inForm ps' = true) : codeM (dealM D ps') = 0 ∧ chM (dealM D ps') = chM (dealM D ps) := by
  obtain ⟨ho, hi, hr⟩ := dealM_ok h
  obtain ⟨t, h1, h2, h3⟩ := runM_puts (s := startM ps) (t := startM ps') hl rfl (fun q hq => by simp [startM] at hq) hr
  rw [h, dealM_run ho hi', h1]
  exact ⟨rfl, (chTo_congr 32 (fun q _ => by rw [h2]) (fun q _ hq => h3 q hq)).symm⟩

end Go.Proofs.Ytimnhgncnhmgcaa
