/- Maps: plain notions. -/
import Derived.Test.YtedlhepbbefikaaGreatDoorIntsK
import Derived.Test.YtedlhepbbefikaaGreatDoorLeafA
namespace Go.Proofs.YtedlhepbbefikaaGreatDoor
open Go.RowKit

def hsB (n : Int) : Bool := inB n 0 2
def slB (n : Int) : Bool := inB n 0 7
/-- A map is ok. -/
def mapOk (v : Int) (xs : List Int) : Bool := inB v 1 99 && decide (xs.length = 8) && xs.all hsB
def slotOf (k : Int) : Int := if keyB k = true then k * 8 / 32 else -1
def houseOf (v : Int) (xs : List Int) (k : Int) : Int := if (mapOk v xs && keyB k) = true then xs.getD (k * 8 / 32).toNat 0 else -1
/-- The code of a move, in a map that is ok. -/
def moveCode (v : Int) (xs : List Int) (s t : Int) : Int :=
  if (slB s && hsB t) = true then (if v = 99 then 2 else if xs.getD s.toNat 0 = t then 3 else 0) else 9
def moveC (v : Int) (xs : List Int) (s t : Int) : Int := if mapOk v xs = true then moveCode v xs s t else 9
def moveV (v : Int) (xs : List Int) (s t : Int) : Int := if mapOk v xs = true then (if moveCode v xs s t = 0 then v + 1 else v) else 0
def moveL (v : Int) (xs : List Int) (s t : Int) : List Int := if mapOk v xs = true then (if moveCode v xs s t = 0 then xs.set s.toNat t else xs) else []
/-- The owners at first. -/
def startL (n : Nat) : List Int := (List.range n).map fun (i : Nat) => (i : Int) % 3

theorem startL_succ (n : Nat) : startL (n + 1) = startL n ++ [(n : Int) % 3] := by simp [startL, List.range_succ]
theorem startL_length (n : Nat) : (startL n).length = n := by simp [startL]

theorem mapOk_len {v : Int} {xs : List Int} (h : mapOk v xs = true) : xs.length = 8 := by
  simp only [mapOk, Bool.and_eq_true, decide_eq_true_eq] at h; exact h.1.2
theorem mapOk_ver {v : Int} {xs : List Int} (h : mapOk v xs = true) : 1 ≤ v ∧ v ≤ 99 := by
  simp only [mapOk, Bool.and_eq_true, inB, decide_eq_true_eq] at h; exact h.1.1
theorem mapOk_all {v : Int} {xs : List Int} (h : mapOk v xs = true) : xs.all hsB = true := by
  simp only [mapOk, Bool.and_eq_true] at h; exact h.2
theorem mapOk_mk {v : Int} {xs : List Int} (h1 : inB v 1 99 = true) (h2 : xs.length = 8) (h3 : xs.all hsB = true) : mapOk v xs = true := by
  simp only [mapOk, h1, h2, h3]; rfl
theorem mapOk_no1 {v : Int} {xs : List Int} (h1 : inB v 1 99 = false) : mapOk v xs = false := by simp only [mapOk, h1, Bool.false_and]
theorem mapOk_no2 {v : Int} {xs : List Int} (h2 : xs.length ≠ 8) : mapOk v xs = false := by simp [mapOk, h2]
theorem mapOk_no3 {v : Int} {xs : List Int} (h3 : xs.all hsB = false) : mapOk v xs = false := by simp only [mapOk, h3, Bool.and_false]

theorem keyB_bounds {k : Int} (h : keyB k = true) : 0 ≤ k ∧ k ≤ 31 := by simpa [keyB, inB] using h
theorem slB_bounds {k : Int} (h : slB k = true) : 0 ≤ k ∧ k ≤ 7 := by simpa [slB, inB] using h
theorem hsB_bounds {k : Int} (h : hsB k = true) : 0 ≤ k ∧ k ≤ 2 := by simpa [hsB, inB] using h

end Go.Proofs.YtedlhepbbefikaaGreatDoor
