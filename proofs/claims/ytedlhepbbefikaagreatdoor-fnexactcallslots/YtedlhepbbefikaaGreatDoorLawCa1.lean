/- The law FnExactCallOk answers true. -/
import Derived.Test.YtedlhepbbefikaaGreatDoorCaK
namespace Go.Proofs.YtedlhepbbefikaaGreatDoor
open Go.RowKit

set_option maxHeartbeats 1000000 in
theorem szCallC_any (c : Cl) (L : Int) (w : World) (h0 : 0 ≤ L) (h1 : L ≤ 1048576) (ht : c.text.length ≤ maxLen) :
    Calls Tryz.prog 13 #[.agg (clC c), .int .i64 L] w fun e w' => e = .returned (.int .i64 (if L - (c.text.length : Int) < 0 then -1 else L - (c.text.length : Int))) ∧ Below w.heap.size w w' := by
  obtain ⟨sess, num, kind, text, slot, dst⟩ := c
  simp only [clC] at *
  unfold maxLen at ht
  by_cases h : L - (text.length : Int) < 0
  all_goals
    go_enter Tryz.func13, Tryz.ntmps13
    go_wp2_with fail
    go_ret
    exact ⟨ret_int (by first | rw [if_pos h] | rw [if_neg h] | simp), (Below.refl _ _).alloc (Nat.le_refl _) _⟩

set_option maxRecDepth 100000 in
set_option maxHeartbeats 1000000 in
theorem toCallC_any (c : Cl) (w : World) :
    Calls Tryz.prog 14 #[.agg (clC c)] w fun e w' => e = .returned (.agg (clC c)) ∧ Below w.heap.size w w' := by
  obtain ⟨sess, num, kind, text, slot, dst⟩ := c
  simp only [clC]
  go_enter Tryz.func14, Tryz.ntmps14
  go_wp2
  refine bodyPost_ret (v := .agg #[.int .i64 sess, .int .i64 num, .int .i64 kind, .string ⟨text.toArray⟩, .int .i64 slot, .int .i64 dst]) (by simp [results, Tryz.results14, go_sem]) rfl ⟨rfl, ?_⟩
  repeat (first | exact Below.refl _ _ | (refine Below.alloc ?_ (by simp <;> omega) _) | (refine Below.setCell ?_ (by simp <;> omega) _))

end Go.Proofs.YtedlhepbbefikaaGreatDoor
