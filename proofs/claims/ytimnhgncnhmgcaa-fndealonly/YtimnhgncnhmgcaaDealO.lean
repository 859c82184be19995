/- A deal hangs on the keys that it names alone: the plain mathematics. -/
import Derived.Test.YtimnhgncnhmgcaaDealP
namespace Go.Proofs.Ytimnhgncnhmgcaa
open Go.RowKit

def namedB (D : List St) (k : Int) : Bool := D.any fun x => x.key == k
def ownP (D : List St) (ps : List Pr) : List Pr := ps.filter fun p => namedB D p.key

theorem getP_filter {ps : List Pr} {f : Int → Bool} {k : Int} (h : f k = true) : getP (ps.filter fun p => f p.key) k = getP ps k := by
  induction ps with
  | nil => rfl
  | cons p r ih =>
    rw [List.filter_cons]
    by_cases e : p.key = k
    · have : f p.key = true := by rw [e]; exact h
      rw [if_pos this]; simp [getP, e]
    · cases hf : f p.key
      · simp only [Bool.false_eq_true, if_false, getP, if_neg e]; exact ih
      · simp only [if_true, getP, if_neg e]; exact ih

theorem inForm_own {D : List St} {ps : List Pr} (h : inForm ps = true) : inForm (ownP D ps) = true := by
  refine inForm_of ?_ ((inForm_pairwise h).filter _) (fun p hp => inForm_mem h (List.mem_filter.1 hp).1)
  have h1 : ps.length ≤ 32 := by rw [inForm_chTo h]; exact chTo_length _ _ 32
  exact Nat.le_trans (List.length_filter_le _ _) h1

/-- Two desks that agree on what is named. -/
structure Same (D : List St) (s t : Sta) : Prop where
  c : s.c = t.c
  g : s.g = t.g
  f : ∀ q : Nat, namedB D q = true → s.f q = t.f q
  n : ∀ q : Nat, s.c q = true → namedB D q = true

theorem Same.set {D : List St} {s t : Sta} (h : Same D s t) {k : Nat} (hk : namedB D k = true) (v : Int) : Same D ⟨upd s.f k v, upd s.c k true, s.g⟩ ⟨upd t.f k v, upd t.c k true, t.g⟩ := by
  refine ⟨by simp [h.c], h.g, fun q hq => ?_, fun q hq => ?_⟩
  · by_cases e : q = k
    · subst e; simp [upd_same]
    · simp only [upd_other _ _ _ _ e]; exact h.f q hq
  · by_cases e : q = k
    · subst e; exact hk
    · simp only [upd_other _ _ _ _ e] at hq; exact h.n q hq

theorem Same.step {D : List St} {s t : Sta} (h : Same D s t) {x : St} (hx : namedB D (x.key.toNat : Int) = true) :
    (∃ k, stepM x s = .error k ∧ stepM x t = .error k) ∨ ∃ s' t', stepM x s = .ok s' ∧ stepM x t = .ok t' ∧ Same D s' t' := by
  have hf := h.f _ hx
  by_cases h1 : x.op = 1
  · right; rw [step_get h1, step_get h1]
    exact ⟨_, _, rfl, rfl, h.c, by simp [h.g, hf], h.f, h.n⟩
  by_cases h4 : x.op = 4
  · by_cases hn : s.f x.key.toNat < x.num
    · left; exact ⟨1, step_refused h4 hn, step_refused h4 (by rw [← hf]; exact hn)⟩
    · right; exact ⟨s, t, step_needed h4 hn, step_needed h4 (by rw [← hf]; exact hn), h⟩
  · unfold stepM; rw [if_neg h1, if_neg h4, if_neg h1, if_neg h4, hf]
    generalize (if x.op = 3 then t.f x.key.toNat + x.num else x.num) = v
    by_cases hv : valB v = true
    · right; rw [if_pos hv, if_pos hv]; exact ⟨_, _, rfl, rfl, h.set hx v⟩
    · left; rw [if_neg hv, if_neg hv]; exact ⟨2, rfl, rfl⟩

theorem Same.run {D : List St} {ss : List St} (hs : ∀ x ∈ ss, namedB D (x.key.toNat : Int) = true) {s t : Sta} (h : Same D s t) :
    (∃ k, runM ss s = .error k ∧ runM ss t = .error k) ∨ ∃ s' t', runM ss s = .ok s' ∧ runM ss t = .ok t' ∧ Same D s' t' := by
  induction ss generalizing s t with
  | nil => right; exact ⟨s, t, rfl, rfl, h⟩
  | cons x r ih =>
    rcases h.step (hs x (by simp)) with ⟨k, h1, h2⟩ | ⟨s', t', h1, h2, h3⟩
    · left; simp only [runM, h1, h2]; exact ⟨k, rfl, rfl⟩
    · simp only [runM, h1, h2]; exact ih (fun y hy => hs y (by simp [hy])) h3

theorem only_fin {D : List St} {ps : List Pr} (h9 : codeM (dealM D ps) ≠ 9) :
    codeM (dealM D (ownP D ps)) = codeM (dealM D ps) ∧ gotM (dealM D (ownP D ps)) = gotM (dealM D ps) ∧ chM (dealM D (ownP D ps)) = chM (dealM D ps) ∧ ∀ p ∈ chM (dealM D (ownP D ps)), namedB D p.key = true := by
  obtain ⟨ho, hi⟩ := dealM_nine h9
  rw [dealM_run ho hi, dealM_run ho (inForm_own hi)]
  have hst : Same D (startM (ownP D ps)) (startM ps) := ⟨rfl, rfl, fun q hq => getP_filter (f := namedB D) hq, fun q hq => by simp [startM] at hq⟩
  have hnm : ∀ x ∈ D, namedB D (x.key.toNat : Int) = true := fun x hx => by
    have := mem_parts ho hx
    rw [show (x.key.toNat : Int) = x.key by omega]
    exact List.any_eq_true.2 ⟨x, hx, by simp⟩
  rcases hst.run hnm with ⟨k, h1, h2⟩ | ⟨s, t, h1, h2, h3⟩
  · rw [h1, h2]; exact ⟨rfl, rfl, rfl, fun p hp => by simp [chM] at hp⟩
  · rw [h1, h2]
    have he : chTo s.f s.c 32 = chTo t.f t.c 32 := chTo_congr 32 (fun q _ => by rw [h3.c]) (fun q _ hq => h3.f q (h3.n q hq))
    refine ⟨rfl, h3.g, he, fun p hp => ?_⟩
    obtain ⟨q, _, hq, rfl⟩ := chTo_mem hp
    exact h3.n q hq

theorem any_take_getD {D : List St} {p : St → Bool} {k : Nat} (h : k < D.length) : (D.take (k + 1)).any p = ((D.take k).any p || p (D.getD k St.z)) := by
  rw [take_snoc_getD St.z h, List.any_append]; simp

theorem own_take {D : List St} {ps : List Pr} {k : Nat} (h : k < ps.length) : ownP D (ps.take (k + 1)) = ownP D (ps.take k) ++ (if namedB D (ps.getD k Pr.z).key = true then [ps.getD k Pr.z] else []) := by
  unfold ownP
  rw [take_snoc_getD Pr.z h, List.filter_append]
  generalize ps.getD k Pr.z = x
  cases hp : namedB D x.key <;> simp [hp]

end Go.Proofs.Ytimnhgncnhmgcaa
