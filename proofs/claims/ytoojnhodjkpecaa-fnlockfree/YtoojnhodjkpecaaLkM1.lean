/- Both say the same of a lock: plain mathematics. -/
import Derived.Test.YtoojnhodjkpecaaLkI5
namespace Go.Proofs.Ytoojnhodjkpecaa
open Go.RowKit

theorem all_range_getD {p : Hd → Bool} {hs : List Hd} : ((List.range hs.length).all fun i => p (hs.getD i Hd.z)) = hs.all p := by
  rw [Bool.eq_iff_iff, List.all_eq_true, List.all_eq_true]
  constructor
  · intro h x hx
    obtain ⟨i, hi, rfl⟩ := List.getElem_of_mem hx
    have := h i (by simpa using hi)
    simpa [List.getD, hi] using this
  · intro h i hi
    have hi' : i < hs.length := by simpa using hi
    have := h hs[i] (List.getElem_mem hi')
    simpa [List.getD, hi'] using this

theorem all_and {α : Type} {p q : α → Bool} (l : List α) : (l.all fun x => p x && q x) = (l.all p && l.all q) := by
  induction l with
  | nil => rfl
  | cons a r ih => simp only [List.all_cons, ih]; cases p a <;> cases q a <;> simp

/-- Ascending: a place ahead has the lesser stamp. -/
theorem asc_lt {hs : List Hd} (h : ascB hs = true) : ∀ j i, i < j → j < hs.length → (hs.getD i Hd.z).stamp < (hs.getD j Hd.z).stamp := by
  intro j
  induction j with
  | zero => intro i hi; omega
  | succ j ih =>
    intro i hi hj
    have h1 : (hs.getD j Hd.z).stamp < (hs.getD (j + 1) Hd.z).stamp := by
      have := List.all_eq_true.1 h (j + 1) (by simpa using hj)
      simpa using this
    by_cases e : i = j
    · subst e; exact h1
    · have := ih i (by omega) (by omega); omega

theorem meet0_eq {H : List Hd} (ha : ascB H = true) :
    ((List.range H.length).all fun i => decide (i = 0) || !meetB (H.getD 0 Hd.z) (H.getD i Hd.z)) = heldOkB H := by
  have hne : ∀ i j, i < H.length → j < H.length → i ≠ j → (H.getD i Hd.z).stamp ≠ (H.getD j Hd.z).stamp := fun i j hi hj hij => by
    rcases Nat.lt_or_gt_of_ne hij with h | h
    · have := asc_lt ha j i h hj; omega
    · have := asc_lt ha i j h hi; omega
  rw [Bool.eq_iff_iff]
  constructor
  · intro h
    have hs : ∀ i, i < H.length → i ≠ 0 → (H.getD 0 Hd.z).share = true ∧ (H.getD i Hd.z).share = true := fun i hi h0 => by
      have h1 := List.all_eq_true.1 h i (by simpa using hi)
      have h2 := hne 0 i (by omega) hi (Ne.symm h0)
      simp only [meetB] at h1
      have h3 : ((H.getD 0 Hd.z).stamp != (H.getD i Hd.z).stamp) = true := by simpa using h2
      rw [h3] at h1
      simpa [h0] using h1
    unfold heldOkB
    rw [List.all_eq_true]
    intro x hx
    obtain ⟨i, hi, rfl⟩ := List.getElem_of_mem hx
    have : H.any (meetB H[i]) = false := by
      rw [List.any_eq_false]
      intro y hy
      obtain ⟨j, hj, rfl⟩ := List.getElem_of_mem hy
      have gi : H.getD i Hd.z = H[i] := by simp [List.getD, hi]
      have gj : H.getD j Hd.z = H[j] := by simp [List.getD, hj]
      simp only [meetB]
      by_cases hij : i = j
      · subst hij; simp
      · have si : H[i].share = true := by
          by_cases e : i = 0
          · subst e; have := (hs j hj (Ne.symm hij)).1; rwa [gi] at this
          · have := (hs i hi e).2; rwa [gi] at this
        have sj : H[j].share = true := by
          by_cases e : j = 0
          · subst e; have := (hs i hi hij).1; rwa [gj] at this
          · have := (hs j hj e).2; rwa [gj] at this
        simp [si, sj]
    rw [this]; rfl
  · intro h
    rw [List.all_eq_true]
    intro i hi
    have hi' : i < H.length := by simpa using hi
    have h0 : 0 < H.length := by omega
    have h1 := List.all_eq_true.1 h (H.getD 0 Hd.z) (by simp [List.getD, h0])
    have h2 : H.any (meetB (H.getD 0 Hd.z)) = false := by simpa using h1
    rw [List.any_eq_false] at h2
    have h3 := h2 (H.getD i Hd.z) (by simp [List.getD, hi'])
    rw [Bool.not_eq_true] at h3
    rw [h3]; simp

theorem heldAll_eq (H : List Hd) : (List.range H.length).all (heldAt H) = (holdsB H && heldOkB H) := by
  have e1 : ∀ i, heldAt H i = (holdOkB (H.getD i Hd.z) && ((decide (i = 0) || decide ((H.getD (i - 1) Hd.z).stamp < (H.getD i Hd.z).stamp)) && (decide (i = 0) || !meetB (H.getD 0 Hd.z) (H.getD i Hd.z)))) := fun i => by
    unfold heldAt; cases decide (i = 0) <;> simp
  rw [show heldAt H = _ from funext e1, all_and, all_and, all_range_getD]
  unfold holdsB
  cases ha : ascB H
  · have : ((List.range H.length).all fun i => decide (i = 0) || decide ((H.getD (i - 1) Hd.z).stamp < (H.getD i Hd.z).stamp)) = false := ha
    rw [this]; simp
  · have : ((List.range H.length).all fun i => decide (i = 0) || decide ((H.getD (i - 1) Hd.z).stamp < (H.getD i Hd.z).stamp)) = true := ha
    rw [this, meet0_eq ha]; simp

theorem notFirm_eq (W H : List Hd) : (W.all (fun h => !h.firm) && W.all (fun x => H.all fun h => h.stamp != x.stamp)) = waitsOkB W H := by
  rw [← all_and]
  unfold waitsOkB
  congr 1
  funext x
  have : H.any (sameB x) = !(H.all fun h => h.stamp != x.stamp) := by
    induction H with
    | nil => rfl
    | cons a r ih =>
      rw [List.any_cons, List.all_cons, ih, Bool.not_and]
      congr 1
      simp only [sameB, bne, Bool.not_not]
      rw [Bool.eq_iff_iff]; simp; exact eq_comm
  rw [this]; simp

theorem waitsAll_eq (H W : List Hd) : (List.range W.length).all (waitsAt H W) = (holdsB W && waitsOkB W H) := by
  have e1 : ∀ i, waitsAt H W i = (holdOkB (W.getD i Hd.z) && ((!(W.getD i Hd.z).firm && (H.all fun h => h.stamp != (W.getD i Hd.z).stamp)) && (decide (i = 0) || decide ((W.getD (i - 1) Hd.z).stamp < (W.getD i Hd.z).stamp)))) := fun i => by
    unfold waitsAt
    cases holdOkB (W.getD i Hd.z) <;> cases (W.getD i Hd.z).firm <;> cases (decide (i = 0) || decide ((W.getD (i - 1) Hd.z).stamp < (W.getD i Hd.z).stamp)) <;> simp
  rw [show waitsAt H W = _ from funext e1, all_and, all_and, all_and, all_range_getD, all_range_getD (p := fun x => !x.firm), all_range_getD (p := fun x => H.all fun h => h.stamp != x.stamp), notFirm_eq]
  unfold holdsB
  have : ((List.range W.length).all fun i => decide (i = 0) || decide ((W.getD (i - 1) Hd.z).stamp < (W.getD i Hd.z).stamp)) = ascB W := rfl
  rw [this]
  cases W.all holdOkB <;> cases waitsOkB W H <;> simp

theorem lockOk_eq (l : Lk) : lockOkI l = lockOkB l := by
  unfold lockOkI lockOkB
  rw [heldAll_eq, waitsAll_eq]
  cases inB l.slot 0 7 <;> cases decide (l.held.length + l.waits.length ≤ 16) <;> cases holdsB l.held <;> cases holdsB l.waits <;> cases heldOkB l.held <;> simp

end Go.Proofs.Ytoojnhodjkpecaa
