/- A deal is done statement by statement: the plain mathematics. -/
import Derived.Test.YtimnhgncnhmgcaaDealP
namespace Go.Proofs.Ytimnhgncnhmgcaa
open Go.RowKit

theorem runM_append (a b : List St) (s : Sta) : runM (a ++ b) s = match runM a s with | .ok s' => runM b s' | .error k => .error k := by
  induction a generalizing s with
  | nil => rfl
  | cons x r ih =>
    simp only [List.cons_append, runM]
    cases stepM x s with
    | error k => rfl
    | ok s' => exact ih s'

theorem dealOk_part {D E : List St} (h : dealOk D = true) (h1 : 1 ≤ E.length) (h2 : E.length ≤ D.length) (hs : ∀ x ∈ E, x ∈ D) : dealOk E = true := by
  have hl := dealOk_len h
  unfold dealOk at h ⊢
  simp only [Bool.and_eq_true, decide_eq_true_eq] at h ⊢
  refine ⟨⟨h1, by omega⟩, ?_⟩
  rw [List.all_eq_true]; intro x hx
  exact (List.all_eq_true.1 h.2) x (hs x hx)

/-- A step sets one key, or none. -/
theorem stepM_set {x : St} {s s' : Sta} (h : stepM x s = .ok s') : (s'.f = s.f ∧ s'.c = s.c) ∨ ∃ v, s'.f = upd s.f x.key.toNat v ∧ s'.c = upd s.c x.key.toNat true ∧ s'.g = s.g := by
  by_cases h1 : x.op = 1
  · rw [step_get h1] at h; cases h; exact .inl ⟨rfl, rfl⟩
  by_cases h4 : x.op = 4
  · by_cases hn : s.f x.key.toNat < x.num
    · rw [step_refused h4 hn] at h; cases h
    · rw [step_needed h4 hn] at h; cases h; exact .inl ⟨rfl, rfl⟩
  · unfold stepM at h; rw [if_neg h1, if_neg h4] at h
    generalize (if x.op = 3 then s.f x.key.toNat + x.num else x.num) = nv at h
    by_cases hval : valB nv = true
    · rw [if_pos hval] at h; cases h; exact .inr ⟨nv, rfl, rfl, rfl⟩
    · rw [if_neg hval] at h; cases h

theorem runM_unch {ss : List St} {s s' : Sta} (h : runM ss s = .ok s') (q : Nat) (hq : s'.c q = false) : s.c q = false ∧ s'.f q = s.f q := by
  induction ss generalizing s with
  | nil => cases h; exact ⟨hq, rfl⟩
  | cons x r ih =>
    simp only [runM] at h
    cases hst : stepM x s with
    | error k => rw [hst] at h; cases h
    | ok s1 =>
      rw [hst] at h
      obtain ⟨h1, h2⟩ := ih h
      rcases stepM_set hst with ⟨a, b⟩ | ⟨v, a, b, _⟩
      · rw [b] at h1; rw [a] at h2; exact ⟨h1, h2⟩
      · rw [b] at h1
        by_cases e : q = x.key.toNat
        · subst e; rw [upd_same] at h1; cases h1
        · rw [upd_other _ _ _ _ e] at h1; rw [a, upd_other _ _ _ _ e] at h2; exact ⟨h1, h2⟩

theorem lastP_chTo (n : Int) (f : Nat → Int) (c : Nat → Bool) (M q : Nat) : lastP n (chTo f c M) q = if q < M ∧ c q = true then f q else n := by
  induction M with
  | zero => simp [chTo, lastP]
  | succ M ih =>
    have hap : lastP n (chTo f c (M + 1)) q = (if c M = true then [(⟨M, f M⟩ : Pr)] else []).foldl (fun n p => if p.key = (q : Int) then p.val else n) (lastP n (chTo f c M) q) := by
      simp only [chTo, lastP, List.foldl_append]
    rw [hap, ih]
    cases hc : c M
    · simp only [Bool.false_eq_true, if_false, List.foldl_nil]
      by_cases h : q < M ∧ c q = true
      · rw [if_pos h, if_pos ⟨by omega, h.2⟩]
      · have hno : ¬ (q < M + 1 ∧ c q = true) := by
          rintro ⟨h1, h2⟩
          rcases Nat.lt_or_ge q M with h3 | h3
          · exact h ⟨h3, h2⟩
          · have : q = M := by omega
            subst this; rw [hc] at h2; cases h2
        rw [if_neg h, if_neg hno]
    · simp only [if_true, List.foldl_cons, List.foldl_nil]
      by_cases e : q = M
      · subst e; rw [if_pos rfl, if_pos ⟨by omega, hc⟩]
      · rw [if_neg (by omega)]
        by_cases h : q < M ∧ c q = true
        · rw [if_pos h, if_pos ⟨by omega, h.2⟩]
        · rw [if_neg h, if_neg (fun h' => h ⟨by omega, h'.2⟩)]

/-- The rest of a deal, by what the first part has left: another desk, on which nothing was done yet. -/
structure Cont (c1 : Nat → Bool) (g1 : List Int) (s t : Sta) : Prop where
  f : ∀ q, q < 32 → s.f q = t.f q
  c : ∀ q, s.c q = (c1 q || t.c q)
  g : s.g = g1 ++ t.g

theorem Cont.step {c1 : Nat → Bool} {g1 : List Int} {s t s' : Sta} (h : Cont c1 g1 s t) {x : St} (hx : x.key.toNat < 32) (hs : stepM x s = .ok s') : ∃ t', stepM x t = .ok t' ∧ Cont c1 g1 s' t' := by
  have hf := h.f _ hx
  by_cases h1 : x.op = 1
  · rw [step_get h1] at hs ⊢; cases hs; exact ⟨_, rfl, h.f, h.c, by simp [h.g, hf]⟩
  by_cases h4 : x.op = 4
  · by_cases hn : s.f x.key.toNat < x.num
    · rw [step_refused h4 hn] at hs; cases hs
    · rw [step_needed h4 hn] at hs; cases hs; exact ⟨t, step_needed h4 (by rw [← hf]; exact hn), h⟩
  · unfold stepM at hs ⊢; rw [if_neg h1, if_neg h4] at hs ⊢
    rw [hf] at hs
    generalize (if x.op = 3 then t.f x.key.toNat + x.num else x.num) = nv at hs ⊢
    by_cases hval : valB nv = true
    · rw [if_pos hval] at hs ⊢; cases hs
      refine ⟨_, rfl, fun q hq => ?_, fun q => ?_, h.g⟩
      · by_cases e : q = x.key.toNat
        · subst e; simp [upd_same]
        · simp only [upd_other _ _ _ _ e]; exact h.f q hq
      · by_cases e : q = x.key.toNat
        · subst e; simp [upd_same]
        · simp only [upd_other _ _ _ _ e]; exact h.c q
    · rw [if_neg hval] at hs; cases hs

theorem Cont.run {c1 : Nat → Bool} {g1 : List Int} {ss : List St} (hk : ∀ x ∈ ss, x.key.toNat < 32) {s t s' : Sta} (h : Cont c1 g1 s t) (hs : runM ss s = .ok s') : ∃ t', runM ss t = .ok t' ∧ Cont c1 g1 s' t' := by
  induction ss generalizing s t with
  | nil => cases hs; exact ⟨t, rfl, h⟩
  | cons x r ih =>
    simp only [runM] at hs ⊢
    cases hst : stepM x s with
    | error k => rw [hst] at hs; cases hs
    | ok s1 =>
      rw [hst] at hs
      obtain ⟨t1, h1, h2⟩ := h.step (hk x (by simp)) hst
      rw [h1]; exact ih (fun y hy => hk y (by simp [hy])) h2 hs

theorem step_fin {D : List St} {ps : List Pr} {s : Sta} {C : Nat} (h : dealM D ps = .ok s) (h1 : 1 ≤ C) (h2 : C < D.length) :
    codeM (dealM (D.take C) ps) = 0 ∧ codeM (dealM (D.drop C) (putP ps (chM (dealM (D.take C) ps)))) = 0 ∧
    gotM (dealM (D.take C) ps) ++ gotM (dealM (D.drop C) (putP ps (chM (dealM (D.take C) ps)))) = gotM (dealM D ps) ∧
    putP (putP ps (chM (dealM (D.take C) ps))) (chM (dealM (D.drop C) (putP ps (chM (dealM (D.take C) ps))))) = putP ps (chM (dealM D ps)) := by
  obtain ⟨ho, hi, hr⟩ := dealM_ok h
  have hl := dealOk_len ho
  have hoa : dealOk (D.take C) = true := dealOk_part ho (by simp; omega) (by simp; omega) (fun x hx => List.mem_of_mem_take hx)
  have hob : dealOk (D.drop C) = true := dealOk_part ho (by simp; omega) (by simp) (fun x hx => List.mem_of_mem_drop hx)
  have hsp : runM (D.take C ++ D.drop C) (startM ps) = .ok s := by rw [List.take_append_drop]; exact hr
  rw [runM_append] at hsp
  cases hA : runM (D.take C) (startM ps) with
  | error k => rw [hA] at hsp; cases hsp
  | ok s1 =>
    rw [hA] at hsp
    have hB : runM (D.drop C) s1 = .ok s := hsp
    have hAm : dealM (D.take C) ps = .ok s1 := by rw [dealM_run hoa hi]; exact hA
    have hc1 := inForm_ch hAm
    have hnow : putP ps (chTo s1.f s1.c 32) = putTo ps (chTo s1.f s1.c 32) 32 := by unfold putP; rw [hi, hc1]; rfl
    have hin : inForm (putP ps (chTo s1.f s1.c 32)) = true := by rw [hnow]; exact inForm_putTo hi hc1
    have hget : ∀ q : Nat, q < 32 → getP (putP ps (chTo s1.f s1.c 32)) q = s1.f q := fun q hq => by
      rw [hnow, getP_putTo _ _ hq]; show lastP (getP ps q) (chTo s1.f s1.c 32) q = _
      rw [lastP_chTo]
      cases hc : s1.c q
      · rw [if_neg (by simp)]; exact (runM_unch hA q hc).2.symm
      · rw [if_pos ⟨hq, rfl⟩]
    have hcont : Cont s1.c s1.g s1 (startM (putP ps (chTo s1.f s1.c 32))) := ⟨fun q hq => (hget q hq).symm, fun q => by simp [startM], by simp [startM]⟩
    obtain ⟨s2, hs2, hcs⟩ := hcont.run (fun x hx => by have := mem_parts hob hx; omega) hB
    have hBm : dealM (D.drop C) (putP ps (chTo s1.f s1.c 32)) = .ok s2 := by rw [dealM_run hob hin]; exact hs2
    have hch1 : chM (dealM (D.take C) ps) = chTo s1.f s1.c 32 := by rw [hAm]; rfl
    rw [hch1, hAm, hBm, h]
    refine ⟨rfl, rfl, hcs.g.symm, ?_⟩
    show putP (putP ps (chTo s1.f s1.c 32)) (chTo s2.f s2.c 32) = putP ps (chTo s.f s.c 32)
    have hc2 := inForm_ch hBm
    have hc := inForm_ch h
    have e1 : putP (putP ps (chTo s1.f s1.c 32)) (chTo s2.f s2.c 32) = putTo (putP ps (chTo s1.f s1.c 32)) (chTo s2.f s2.c 32) 32 := by
      conv => lhs; unfold putP
      rw [show inForm (if (inForm ps && inForm (chTo s1.f s1.c 32)) = true then putTo ps (chTo s1.f s1.c 32) 32 else []) = true from hin, hc2]; rfl
    have e2 : putP ps (chTo s.f s.c 32) = putTo ps (chTo s.f s.c 32) 32 := by unfold putP; rw [hi, hc]; rfl
    rw [e1, e2, putTo_chTo, putTo_chTo]
    have hval : ∀ q : Nat, q < 32 → putVal (putP ps (chTo s1.f s1.c 32)) (chTo s2.f s2.c 32) q = putVal ps (chTo s.f s.c 32) q := fun q hq => by
      show lastP (getP (putP ps (chTo s1.f s1.c 32)) q) (chTo s2.f s2.c 32) q = lastP (getP ps q) (chTo s.f s.c 32) q
      rw [lastP_chTo, lastP_chTo, hget q hq, hcs.f q hq]
      have hcq := hcs.c q
      cases hb : s2.c q
      · have hu := (runM_unch hs2 q hb).2
        have hu2 : s2.f q = s1.f q := by rw [hu]; exact hget q hq
        rw [if_neg (by simp)]
        cases ha : s1.c q
        · rw [ha, hb] at hcq; rw [hcq, if_neg (by simp)]; exact (runM_unch hA q ha).2
        · rw [ha] at hcq; rw [hcq, if_pos ⟨hq, by simp⟩, hu2]
      · rw [hb, Bool.or_true] at hcq; rw [hcq, if_pos ⟨hq, rfl⟩, if_pos ⟨hq, rfl⟩]
    exact chTo_congr 32 (fun q hq => by rw [hval q hq]) (fun q hq _ => hval q hq)

end Go.Proofs.Ytimnhgncnhmgcaa
