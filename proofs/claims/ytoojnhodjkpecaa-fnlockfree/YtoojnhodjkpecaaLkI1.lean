/- The program's small functions on holds. -/
import Derived.Test.YtoojnhodjkpecaaHd
import Derived.Lib.QuietBelow
namespace Go.Proofs.Ytoojnhodjkpecaa
open Go.RowKit

theorem inB_lt (n lo hi : Int) : inB n lo (hi - 1) = (decide (lo ≤ n) && decide (n < hi)) := by
  have : decide (n ≤ hi - 1) = decide (n < hi) := by apply decide_eq_decide.2; omega
  simp [inB, this]

set_option maxHeartbeats 400000 in
theorem isSlot_any (n : Int) (w : World) :
    Calls Try.prog 56 #[.int .i64 n] w fun e w' => e = .returned (.bool (inB n 0 7)) ∧ w' = w := by
  by_cases h1 : 0 ≤ n <;> by_cases h2 : n < 8
  all_goals
    go_enter Try.func56, Try.ntmps56
    go_wp2
    go_ret
    exact ⟨ret_bool (by rw [show inB n 0 7 = _ from inB_lt n 0 8]; simp [h1, h2]), rfl⟩

set_option maxHeartbeats 400000 in
theorem isStamp_any (n : Int) (w : World) :
    Calls Try.prog 63 #[.int .i64 n] w fun e w' => e = .returned (.bool (inB n 1 9999)) ∧ w' = w := by
  by_cases h1 : 1 ≤ n <;> by_cases h2 : n ≤ 9999
  all_goals
    go_enter Try.func63, Try.ntmps63
    go_wp2
    go_ret
    exact ⟨ret_bool (by simp [inB, h1, h2]), rfl⟩

set_option maxHeartbeats 1000000 in
theorem inForm_any (h : Hd) (w : World) : Calls Try.prog 49 #[hdV h] w fun e w' => e = .returned (.bool (holdOkB h)) ∧ Below w.heap.size w w' := by
  obtain ⟨s, t, sh, fm⟩ := h
  have hfin : holdOkB ⟨s, t, sh, fm⟩ = (inB s 1 9999 && inB t 1 9999) := rfl
  have HF := hide hfin
  clear hfin
  unfold hdV
  cases t1 : inB s 1 9999 <;> cases t2 : inB t 1 9999
  all_goals
    go_enter Try.func49, Try.ntmps49
    go_wp2_with (go_at_call 63; refine (isStamp_any _ _).mono ?_; rintro e w' ⟨rfl, rfl⟩)
    go_ret
    refine ⟨ret_bool ?_, (Below.refl _ _).alloc (Nat.le_refl _) _⟩
    rw [unhide HF, t1, t2]; try rfl

theorem stampOf_any (h : Hd) (w : World) : Calls Try.prog 73 #[hdV h] w fun e w' => e = .returned (.int .i64 h.stamp) ∧ Below w.heap.size w w' := by
  obtain ⟨s, t, sh, fm⟩ := h
  unfold hdV
  go_enter Try.func73, Try.ntmps73
  go_wp2
  go_ret
  exact ⟨rfl, (Below.refl _ _).alloc (Nat.le_refl _) _⟩

set_option maxHeartbeats 1000000 in
theorem meets_any (a b : Hd) (w : World) : Calls Try.prog 70 #[hdV a, hdV b] w fun e w' => e = .returned (.bool (meetB a b)) ∧ Below w.heap.size w w' := by
  obtain ⟨s, t, sh, fm⟩ := a
  obtain ⟨s', t', sh', fm'⟩ := b
  have hfin : meetB ⟨s, t, sh, fm⟩ ⟨s', t', sh', fm'⟩ = ((s != s') && !(sh && sh')) := rfl
  have HF := hide hfin
  clear hfin
  unfold hdV
  cases t1 : (s != s') <;> cases sh <;> cases sh'
  all_goals
    go_enter Try.func70, Try.ntmps70
    go_wp2_with fail
    go_ret
    refine ⟨ret_bool ?_, ((Below.refl _ _).alloc (Nat.le_refl _) _).alloc (by simp) _⟩
    rw [unhide HF, t1]; try rfl

def sameB (a b : Hd) : Bool := a.stamp == b.stamp
set_option maxHeartbeats 1000000 in
theorem sameStamp_any (a b : Hd) (w : World) : Calls Try.prog 65 #[hdV a, hdV b] w fun e w' => e = .returned (.bool (sameB a b)) ∧ Below w.heap.size w w' := by
  obtain ⟨s, t, sh, fm⟩ := a
  obtain ⟨s', t', sh', fm'⟩ := b
  have hfin : sameB ⟨s, t, sh, fm⟩ ⟨s', t', sh', fm'⟩ = (s == s') := rfl
  have HF := hide hfin
  clear hfin
  unfold hdV
  go_enter Try.func65, Try.ntmps65
  go_wp2_with fail
  go_ret
  exact ⟨ret_bool (unhide HF).symm, ((Below.refl _ _).alloc (Nat.le_refl _) _).alloc (by simp) _⟩

end Go.Proofs.Ytoojnhodjkpecaa
