/- What is put: a key reads as the last one said, and putting again changes nothing. -/
import Derived.Test.YtimnhgncnhmgcaaLo
import Derived.Test.YtimnhgncnhmgcaaSpecRun
import Derived.Test.YtimnhgncnhmgcaaLawPut
namespace Go.Proofs.Ytimnhgncnhmgcaa
open Go.RowKit

theorem putTo_chTo (a b : List Pr) (m : Nat) : putTo a b m = chTo (fun q => putVal a b q) (fun q => decide (putVal a b q ≠ 0)) m := by
  induction m with
  | zero => rfl
  | succ m ih =>
    simp only [putTo, chTo, ih, putOne, decide_eq_true_eq]
    by_cases h : putVal a b m = 0 <;> simp [h]

theorem getP_putTo (a b : List Pr) {k m : Nat} (h : k < m) : getP (putTo a b m) k = putVal a b k := by
  rw [putTo_chTo, getP_chTo]
  by_cases hz : putVal a b k = 0 <;> simp [h, hz]

theorem chTo_pairwise (f : Nat → Int) (c : Nat → Bool) (m : Nat) : (chTo f c m).Pairwise (fun p q => p.key < q.key) := by
  induction m with
  | zero => exact List.Pairwise.nil
  | succ m ih =>
    simp only [chTo]
    rw [List.pairwise_append]
    refine ⟨ih, ?_, ?_⟩
    · split <;> simp
    · intro p hp q hq
      obtain ⟨i, hi, _, rfl⟩ := chTo_mem hp
      split at hq
      · simp at hq; subst hq; show (i : Int) < (m : Int); omega
      · cases hq

theorem lastP_val {n : Int} {ps : List Pr} {k : Int} (hn : valB n = true) (h : ∀ p ∈ ps, valB p.val = true) : valB (lastP n ps k) = true := by
  induction ps generalizing n with
  | nil => exact hn
  | cons p r ih =>
    show valB (lastP (if p.key = k then p.val else n) r k) = true
    apply ih
    · split
      · exact h p (List.mem_cons_self ..)
      · exact hn
    · exact fun q hq => h q (List.mem_cons_of_mem _ hq)

theorem inForm_of {ps : List Pr} (hl : ps.length ≤ 32) (hp : ps.Pairwise (fun p q => p.key < q.key)) (hm : ∀ p ∈ ps, 0 ≤ p.key ∧ p.key ≤ 31 ∧ valB p.val = true) : inForm ps = true := by
  simp only [inForm, Bool.and_eq_true, decide_eq_true_eq]
  refine ⟨hl, List.all_eq_true.2 fun i hi => ?_⟩
  have hi' := List.mem_range.1 hi
  have ge : ∀ j, (hj : j < ps.length) → ps.getD j Pr.z = ps[j] := fun j hj => by simp [List.getD, hj]
  obtain ⟨h1, h2, h3⟩ := hm ps[i] (List.getElem_mem hi')
  rw [prAt, ge i hi', h3]
  have hk : inB ps[i].key 0 31 = true := by simp [inB, h1, h2]
  rw [hk]
  by_cases h0 : 0 < i
  · rw [ge (i - 1) (by omega)]
    have := List.pairwise_iff_getElem.1 hp (i - 1) i (by omega) hi' (by omega)
    have hq : decide (ps[i].key ≤ ps[i - 1].key) = false := by simp; omega
    rw [hq]; simp
  · have : decide (0 < i) = false := by simp; omega
    rw [this]; simp

theorem inForm_putTo {a b : List Pr} (ha : inForm a = true) (hb : inForm b = true) : inForm (putTo a b 32) = true := by
  refine inForm_of (putTo_length a b 32) (by rw [putTo_chTo]; exact chTo_pairwise _ _ _) ?_
  intro p hp
  rw [putTo_chTo] at hp
  obtain ⟨q, hq, _, rfl⟩ := chTo_mem hp
  refine ⟨?_, ?_, ?_⟩
  · show 0 ≤ (q : Int); omega
  · show (q : Int) ≤ 31; omega
  · exact lastP_val (start_val ha q) (fun p hp => (inForm_mem hb hp).2.2)

theorem lastP_two (ps : List Pr) (k : Int) : (∀ n, lastP n ps k = n) ∨ (∃ c, ∀ n, lastP n ps k = c) := by
  induction ps with
  | nil => exact .inl fun _ => rfl
  | cons p r ih =>
    have step : ∀ n, lastP n (p :: r) k = lastP (if p.key = k then p.val else n) r k := fun _ => rfl
    rcases ih with h | ⟨c, h⟩
    · by_cases hp : p.key = k
      · exact .inr ⟨p.val, fun n => by rw [step, if_pos hp, h]⟩
      · exact .inl fun n => by rw [step, if_neg hp, h]
    · exact .inr ⟨c, fun n => by rw [step, h]⟩

theorem lastP_twice (n : Int) (ps : List Pr) (k : Int) : lastP (lastP n ps k) ps k = lastP n ps k := by
  rcases lastP_two ps k with h | ⟨c, h⟩
  · rw [h]
  · rw [h, h]

theorem putTo_again (a b : List Pr) (M m : Nat) (h : m ≤ M) : putTo (putTo a b M) b m = putTo a b m := by
  induction m with
  | zero => rfl
  | succ m ih =>
    have : putVal (putTo a b M) b m = putVal a b m := by
      show lastP (getP (putTo a b M) m) b m = _
      rw [getP_putTo a b (by omega)]; exact lastP_twice _ _ _
    simp only [putTo, putOne, this, ih (by omega)]

/-- Put again: nothing changes. -/
theorem putP_again {a b : List Pr} (h : putP a b ≠ []) : putP (putP a b) b = putP a b ∧ ∀ k : Nat, k < 32 → getP (putP a b) k = putVal a b k := by
  cases hc : (inForm a && inForm b)
  · simp [putP, hc] at h
  · have hp : putP a b = putTo a b 32 := by unfold putP; rw [hc]; rfl
    simp only [Bool.and_eq_true] at hc
    rw [hp]
    refine ⟨?_, fun k hk => getP_putTo a b hk⟩
    unfold putP
    rw [inForm_putTo hc.1 hc.2, hc.2]
    exact putTo_again a b 32 32 (Nat.le_refl _)

end Go.Proofs.Ytimnhgncnhmgcaa
