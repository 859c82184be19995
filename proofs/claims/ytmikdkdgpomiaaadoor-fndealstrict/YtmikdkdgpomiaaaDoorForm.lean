/- When pairs are in form: the specification's answer and the program's. -/
import Derived.Test.YtmikdkdgpomiaaaDoorPrs3
import Derived.Deep.DrawnRows
namespace Go.Proofs.YtmikdkdgpomiaaaDoor
open Go.RowKit
attribute [local go_sem ↓] Go.wp_at_zero Go.wp_at_succ

/-- Pair i stands rightly behind the one ahead of it. -/
def prAt (ps : List Pr) (i : Nat) : Bool := inB (ps.getD i Pr.z).key 0 31 && valB (ps.getD i Pr.z).val && !(decide (0 < i) && decide ((ps.getD i Pr.z).key ≤ (ps.getD (i - 1) Pr.z).key))
def inForm (ps : List Pr) : Bool := decide (ps.length ≤ 32) && (List.range ps.length).all (prAt ps)

theorem inForm_false {ps : List Pr} {i : Nat} (hi : i < ps.length) (h : prAt ps i = false) : inForm ps = false := by
  have : (List.range ps.length).all (prAt ps) = false := by
    rw [List.all_eq_false]; exact ⟨i, List.mem_range.2 hi, by rw [h]; simp⟩
  simp [inForm, this]

theorem range_all_step {n : Nat} {p : Nat → Bool} (h : (List.range n).all p = true) (e : p n = true) : (List.range (n + 1)).all p = true := by
  rw [List.range_succ, List.all_append, h, List.all_cons, e]; rfl

theorem prAt_key {ps : List Pr} {i : Nat} (h : inB (ps.getD i Pr.z).key 0 31 = false) : prAt ps i = false := by simp only [prAt, h, Bool.false_and]
theorem prAt_val {ps : List Pr} {i : Nat} (h : valB (ps.getD i Pr.z).val = false) : prAt ps i = false := by simp only [prAt, h, Bool.and_false, Bool.false_and]
theorem prAt_zero {ps : List Pr} (h1 : inB (ps.getD 0 Pr.z).key 0 31 = true) (h2 : valB (ps.getD 0 Pr.z).val = true) : prAt ps 0 = true := by simp only [prAt, h1, h2]; simp
theorem prAt_up {ps : List Pr} {m : Nat} (h1 : inB (ps.getD (m + 1) Pr.z).key 0 31 = true) (h2 : valB (ps.getD (m + 1) Pr.z).val = true) (h : ¬ (ps.getD (m + 1) Pr.z).key ≤ (ps.getD m Pr.z).key) : prAt ps (m + 1) = true := by
  simp only [prAt, h1, h2, Nat.add_sub_cancel, decide_eq_false h]; simp
theorem prAt_down {ps : List Pr} {m : Nat} (h : (ps.getD (m + 1) Pr.z).key ≤ (ps.getD m Pr.z).key) : prAt ps (m + 1) = false := by
  have : decide (0 < m + 1) = true := by simp
  simp only [prAt, Nat.add_sub_cancel, decide_eq_true h, this]; simp

end Go.Proofs.YtmikdkdgpomiaaaDoor
