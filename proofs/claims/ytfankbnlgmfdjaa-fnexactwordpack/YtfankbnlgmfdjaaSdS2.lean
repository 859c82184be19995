/- When books are ok: the specification's answer (what was said, and all). -/
import Derived.Test.YtfankbnlgmfdjaaSdS
namespace Go.Proofs.Ytfankbnlgmfdjaa
open Go.RowKit
attribute [local go_sem ↓] Go.wp_at_zero Go.wp_at_succ

theorem saidB_false {ss : List Sd} {i : Nat} (hi : i < ss.length) (h : sdAt ss i = false) : saidB ss = false := by
  rw [saidB, List.all_eq_false]; exact ⟨i, List.mem_range.2 hi, by rw [h]; simp⟩
theorem sdAt_1 {ss : List Sd} {i : Nat} (h : inB (ss.getD i Sd.z).ses 0 2 = false) : sdAt ss i = false := by simp only [sdAt, h, Bool.false_and]
theorem sdAt_2 {ss : List Sd} {i : Nat} (h : inB (ss.getD i Sd.z).num 1 99 = false) : sdAt ss i = false := by simp only [sdAt, h, Bool.and_false, Bool.false_and]
theorem sdAt_3 {ss : List Sd} {i : Nat} (h : inB (ss.getD i Sd.z).code 0 9 = false) : sdAt ss i = false := by simp only [sdAt, h, Bool.and_false, Bool.false_and]
theorem sdAt_4 {ss : List Sd} {i : Nat} (h : valsB (ss.getD i Sd.z).vals = false) : sdAt ss i = false := by simp only [sdAt, h, Bool.and_false, Bool.false_and]
theorem sdAt_zero {ss : List Sd} (h1 : inB (ss.getD 0 Sd.z).ses 0 2 = true) (h2 : inB (ss.getD 0 Sd.z).num 1 99 = true) (h3 : inB (ss.getD 0 Sd.z).code 0 9 = true) (h4 : valsB (ss.getD 0 Sd.z).vals = true) : sdAt ss 0 = true := by simp only [sdAt, h1, h2, h3, h4]; simp
theorem sdAt_up {ss : List Sd} {m : Nat} (h1 : inB (ss.getD (m + 1) Sd.z).ses 0 2 = true) (h2 : inB (ss.getD (m + 1) Sd.z).num 1 99 = true) (h3 : inB (ss.getD (m + 1) Sd.z).code 0 9 = true) (h4 : valsB (ss.getD (m + 1) Sd.z).vals = true) (h : ¬ (ss.getD (m + 1) Sd.z).ses ≤ (ss.getD m Sd.z).ses) : sdAt ss (m + 1) = true := by
  simp only [sdAt, h1, h2, h3, h4, Nat.add_sub_cancel, decide_eq_false h]; simp
theorem sdAt_down {ss : List Sd} {m : Nat} (h : (ss.getD (m + 1) Sd.z).ses ≤ (ss.getD m Sd.z).ses) : sdAt ss (m + 1) = false := by
  have : decide (0 < m + 1) = true := by simp
  simp only [sdAt, Nat.add_sub_cancel, decide_eq_true h, this]; simp

end Go.Proofs.Ytfankbnlgmfdjaa
