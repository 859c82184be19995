/- The law FnExactCallOk answers true. -/
import Derived.Test.YtmikdkdgpomiaaaDoorCaK
namespace Go.Proofs.YtmikdkdgpomiaaaDoor
open Go.RowKit

set_option maxHeartbeats 1000000 in
theorem szCallC_any (c : Cl) (L : Int) (w : World) (h0 : 0 ≤ L) (h1 : L ≤ 1048576) (ht : c.text.length ≤ maxLen) :
    Calls Tryd.prog 19 #[.agg (clC c), .int .i64 L] w fun e w' => e = .returned (.int .i64 (if L - (c.text.length : Int) < 0 then -1 else L - (c.text.length : Int))) ∧ Below w.heap.size w w' := by
  obtain ⟨sess, num, kind, text, slot, dst⟩ := c
  simp only [clC] at *
  unfold maxLen at ht
  by_cases h : L - (text.length : Int) < 0
  all_goals
    go_enter Tryd.func19, Tryd.ntmps19
    go_wp2_with fail
    go_ret
    exact ⟨ret_int (by first | rw [if_pos h] | rw [if_neg h] | simp), (Below.refl _ _).alloc (Nat.le_refl _) _⟩

set_option maxRecDepth 100000 in
set_option maxHeartbeats 1000000 in
theorem toCallC_any (c : Cl) (w : World) :
    Calls Tryd.prog 21 #[.agg (clC c)] w fun e w' => e = .returned (.agg (clC c)) ∧ Below w.heap.size w w' := by
  obtain ⟨sess, num, kind, text, slot, dst⟩ := c
  simp only [clC]
  go_enter Tryd.func21, Tryd.ntmps21
  go_wp2
  refine bodyPost_ret (v := .agg #[.int .i64 sess, .int .i64 num, .int .i64 kind, .string ⟨text.toArray⟩, .int .i64 slot, .int .i64 dst]) (by simp [results, Tryd.results21, go_sem]) rfl ⟨rfl, ?_⟩
  repeat (first | exact Below.refl _ _ | (refine Below.alloc ?_ (by simp <;> omega) _) | (refine Below.setCell ?_ (by simp <;> omega) _))

theorem Box.cells6 {w : World} {g : Nat} {T : TypeId} {c : Cl} (h : Box w g T (clC c)) :
    w.cell? ⟨g, 0, none⟩ = some (.int .i64 c.sess) ∧ w.cell? ⟨g, 1, none⟩ = some (.int .i64 c.num) ∧ w.cell? ⟨g, 2, none⟩ = some (.int .i64 c.kind) ∧ w.cell? ⟨g, 3, none⟩ = some (.string ⟨c.text.toArray⟩) ∧ w.cell? ⟨g, 4, none⟩ = some (.int .i64 c.slot) ∧ w.cell? ⟨g, 5, none⟩ = some (.int .i64 c.dst) :=
  ⟨h.cell 0, h.cell 1, h.cell 2, h.cell 3, h.cell 4, h.cell 5⟩

set_option maxRecDepth 100000 in
set_option maxHeartbeats 2000000 in
theorem lawCallOk_any (c : Cl) (w : World) (hg : GW w) (ht : c.text.length ≤ maxLen) :
    Calls Tryd.prog 6 #[.agg (clC c)] w fun e w' => e = .returned (.bool true) ∧ Below w.heap.size w w' := by
  have HSZ := hide (fun ww => szCallC_any c 1048576 ww (by omega) (by omega) ht)
  have HTO := hide (fun ww => toCallC_any c ww)
  have HSP := hide (fun ww => sCallOk_any c ww)
  have HIM := hide (fun ww h => iCallOk_any c ww h)
  have HG := hide hg
  have bA : Below w.heap.size w (w.alloc (.cells (clC c) 35)) := (Below.refl _ _).alloc (Nat.le_refl _) _
  have HA := hide bA
  have HX := hide (Box.made w 35 (clC c))
  have HC6 := hide (fun ww (h : Box ww w.heap.size 35 (clC c)) => h.cells6)
  have hbb : (callB c != callB c) = false := by simp
  generalize callB c = B at *
  obtain ⟨sess, num, kind, text, slot, dst⟩ := c
  simp only [clC] at *
  clear hg bA ht
  go_enter Tryd.func6, Tryd.ntmps6
  go_wp2_with fail
  refine (unhide HSZ _).mono ?_; rintro e w1 ⟨rfl, hb1⟩
  have HB1 := hide ((unhide HA).trans (hb1.mono (unhide HA).size))
  have HX1 := hide ((unhide HX).kept hb1)
  clear hb1
  by_cases hneg : (1048576 : Int) - (text.length : Int) < 0
  · rw [if_pos hneg]
    go_wp2_with fail
    go_ret
    exact ⟨rfl, unhide HB1⟩
  rw [if_neg hneg]
  obtain ⟨q0, q1, q2, q3, q4, q5⟩ := unhide HC6 _ (unhide HX1)
  go_wp2_with fail
  refine (unhide HTO _).mono ?_; rintro e w2 ⟨rfl, hb2⟩
  have HB2 := hide ((unhide HB1).trans (hb2.mono (unhide HB1).size))
  have HX2 := hide ((unhide HX1).kept hb2)
  clear hb2 q0 q1 q2 q3 q4 q5
  go_wp2_with fail
  refine (unhide HSP _).mono ?_; rintro e w3 ⟨rfl, hb3⟩
  have HB3 := hide ((unhide HB2).trans (hb3.mono (unhide HB2).size))
  have HX3 := hide ((unhide HX2).kept hb3)
  clear hb3
  obtain ⟨q0, q1, q2, q3, q4, q5⟩ := unhide HC6 _ (unhide HX3)
  go_wp2_with fail
  refine (unhide HTO _).mono ?_; rintro e w4 ⟨rfl, hb4⟩
  have HB4 := hide ((unhide HB3).trans (hb4.mono (unhide HB3).size))
  clear hb4 q0 q1 q2 q3 q4 q5
  go_wp2_with fail
  refine (unhide HIM _ ((unhide HG).kept (unhide HB4))).mono ?_; rintro e w5 ⟨rfl, hb5⟩
  go_wp2_with fail
  go_ret
  exact ⟨rfl, (unhide HB4).trans (hb5.mono (unhide HB4).size)⟩

end Go.Proofs.YtmikdkdgpomiaaaDoor
