/- The program lets go of a lock. -/
import Derived.Test.YtoojnhodjkpecaaLkID
namespace Go.Proofs.Ytoojnhodjkpecaa
open Go.RowKit Go.Shelf

def freeStepI (s : Lk × List Hd) (x : Hd) : Lk × List Hd := (letInL s.1 x, if letInC s.1 x = true then s.2 ++ [x] else s.2)
def freeTo (l : Lk) (s t : Int) (k : Nat) : Lk × List Hd := ((withoutL l.waits s t).take k).foldl freeStepI (⟨l.slot, withoutL l.held s t, []⟩, [])
def freeL (l : Lk) (s t : Int) : Lk := if lockOkB l = true then (freeTo l s t (withoutL l.waits s t).length).1 else ⟨0, [], []⟩
def freeG (l : Lk) (s t : Int) : List Hd := if lockOkB l = true then (freeTo l s t (withoutL l.waits s t).length).2 else []

theorem freeTo_step (l : Lk) (s t : Int) (k : Nat) (h : k < (withoutL l.waits s t).length) : freeTo l s t (k + 1) = freeStepI (freeTo l s t k) ((withoutL l.waits s t).getD k Hd.z) := by
  unfold freeTo
  rw [List.take_succ_eq_append_getElem h, List.foldl_append]; simp [List.getD, h]
theorem insAt_length {α : Type} (hs : List α) (i : Nat) (x : α) : (insAt hs i x).length = hs.length + 1 := by
  simp [insAt]; omega
theorem letIn_length (l : Lk) (x : Hd) : (letInL l x).held.length + (letInL l x).waits.length = l.held.length + l.waits.length + 1 := by
  unfold letInL
  split <;> simp [putI, insAt_length] <;> omega
theorem freeTo_length (l : Lk) (s t : Int) (k : Nat) (h : k ≤ (withoutL l.waits s t).length) : (freeTo l s t k).1.held.length + (freeTo l s t k).1.waits.length = (withoutL l.held s t).length + k ∧ (freeTo l s t k).2.length ≤ k := by
  induction k with
  | zero => simp [freeTo]
  | succ k ih =>
    have h1 := ih (by omega)
    rw [freeTo_step l s t k (by omega)]
    constructor
    · simp only [freeStepI]
      rw [letIn_length]; omega
    · simp only [freeStepI]
      split <;> (try simp) <;> omega
theorem letIn_slot (l : Lk) (x : Hd) : (letInL l x).slot = l.slot := by
  unfold letInL
  split <;> rfl
theorem without_length (hs : List Hd) (s t : Int) : (withoutL hs s t).length ≤ hs.length := List.length_filter_le _ _

theorem free_le (l : Lk) (s t : Int) : (freeL l s t).held.length ≤ 1048576 ∧ (freeL l s t).waits.length ≤ 1048576 ∧ (freeG l s t).length ≤ 1048576 := by
  unfold freeL freeG
  split
  · rename_i h
    have h1 := (lockOk_parts h).2.1
    have h2 := freeTo_length l s t _ (Nat.le_refl _)
    have h3 := without_length l.held s t
    have h4 := without_length l.waits s t
    omega
  · simp

end Go.Proofs.Ytoojnhodjkpecaa
