/- Which statements a law picks, and what comes of those. -/
import Derived.Test.YtimnhgncnhmgcaaLawWhole
namespace Go.Proofs.Ytimnhgncnhmgcaa
open Go.RowKit

def isNeed (x : St) : Bool := x.op == 4
def isPut (x : St) : Bool := x.op == 2
def isLook (x : St) : Bool := x.op == 1 || x.op == 4
def isMake (x : St) : Bool := x.op == 2 || x.op == 3
def needF (ss : List St) : List St := ss.filter isNeed
def putF (ss : List St) : List St := ss.filter isPut
def lookF (ss : List St) : List St := ss.filter isLook
def makeF (ss : List St) : List St := ss.filter isMake
theorem needF_mem (ss : List St) : ∀ x ∈ needF ss, x.op = 4 := fun x h => by simpa [isNeed] using (List.mem_filter.1 h).2
theorem putF_mem (ss : List St) : ∀ x ∈ putF ss, x.op = 2 := fun x h => by simpa [isPut] using (List.mem_filter.1 h).2
theorem lookF_mem (ss : List St) : ∀ x ∈ lookF ss, x.op = 1 ∨ x.op = 4 := fun x h => by simpa [isLook] using (List.mem_filter.1 h).2
theorem makeF_mem (ss : List St) : ∀ x ∈ makeF ss, x.op = 2 ∨ x.op = 3 := fun x h => by simpa [isMake] using (List.mem_filter.1 h).2

theorem code_eq {a : Int} : (a == a) = true := by simp

theorem mem_parts {D : List St} (h : dealOk D = true) {x : St} (hx : x ∈ D) : 1 ≤ x.op ∧ x.op ≤ 4 ∧ 0 ≤ x.key ∧ x.key ≤ 31 ∧ valB x.num = true := by
  obtain ⟨i, hi, rfl⟩ := List.getElem_of_mem hx
  have := stOk_parts (dealOk_at h hi)
  simpa [List.getD, hi] using this

theorem dealM_nine {D : List St} {ps : List Pr} (h : codeM (dealM D ps) ≠ 9) : dealOk D = true ∧ inForm ps = true := by
  unfold dealM at h
  split at h
  · rename_i h1; simpa using h1
  · exact absurd rfl h

/-- What comes of statements that only need. -/
theorem needs_fin {D : List St} {ps : List Pr} (hl : ∀ x ∈ D, x.op = 4) (h9 : codeM (dealM D ps) ≠ 9) :
    gotM (dealM D ps) = [] ∧ chM (dealM D ps) = [] ∧ (codeM (dealM D ps) == 0) = D.all (fun x => decide (x.num ≤ getP ps x.key)) := by
  obtain ⟨ho, hi⟩ := dealM_nine h9
  have hall : D.all (fun x => decide (x.num ≤ (startM ps).f x.key.toNat)) = D.all (fun x => decide (x.num ≤ getP ps x.key)) := by
    rw [Bool.eq_iff_iff]; simp only [List.all_eq_true]
    constructor
    · intro h x hx; have := h x hx; have hp := mem_parts ho hx
      rw [show x.key = (x.key.toNat : Int) by omega]; exact this
    · intro h x hx; have := h x hx; have hp := mem_parts ho hx
      rw [show x.key = (x.key.toNat : Int) by omega] at this; exact this
  rw [dealM_run ho hi, runM_needs hl, hall]
  cases hB : D.all (fun x => decide (x.num ≤ getP ps x.key))
  · exact ⟨rfl, rfl, rfl⟩
  · exact ⟨rfl, chTo_none _ 32, rfl⟩

/-- What comes of statements that only look. -/
theorem looks_fin {D : List St} {ps : List Pr} (hl : ∀ x ∈ D, x.op = 1 ∨ x.op = 4) :
    chM (dealM D ps) = [] ∧ codeM (dealM D ps) ≠ 2 ∧ (codeM (dealM D ps) = 0 → gotM (dealM D ps) = (D.filter fun x => x.op == 1).map fun x => getP ps x.key) := by
  by_cases h9 : codeM (dealM D ps) = 9
  · rcases dealM_cases D ps with ⟨_, _, h2, _⟩ | ⟨h0, _⟩
    · exact ⟨h2, by omega, fun h => by omega⟩
    · omega
  · obtain ⟨ho, hi⟩ := dealM_nine h9
    rw [dealM_run ho hi]
    rcases runM_looks (s := startM ps) hl with h | h
    · rw [h]; exact ⟨rfl, by simp [codeM], fun h => by simp [codeM] at h⟩
    · rw [h]
      refine ⟨chTo_none _ 32, by simp [codeM], fun _ => ?_⟩
      simp only [gotM, startM, List.nil_append]
      apply List.map_congr_left
      intro x hx
      have hp := mem_parts ho (List.mem_filter.1 hx).1
      rw [show (x.key.toNat : Int) = x.key by omega]

theorem filter_take_getD {D : List St} {p : St → Bool} {k : Nat} (h : k < D.length) : (D.take (k + 1)).filter p = (D.take k).filter p ++ (if p (D.getD k St.z) = true then [D.getD k St.z] else []) := by
  rw [take_snoc_getD St.z h, List.filter_append]
  generalize D.getD k St.z = x
  cases hp : p x <;> simp [hp]

theorem all_take_getD {D : List St} {p : St → Bool} {k : Nat} (h : k < D.length) : (D.take (k + 1)).all p = ((D.take k).all p && p (D.getD k St.z)) := by
  rw [take_snoc_getD St.z h, List.all_append]; simp

end Go.Proofs.Ytimnhgncnhmgcaa
