/- The law FnExactGateStart answers true. -/
import Derived.Test.YtliageaiiciplaaGsN
namespace Go.Proofs.Ytliageaiiciplaa
open Go.RowKit

set_option maxRecDepth 100000 in
set_option maxHeartbeats 4000000 in
theorem lawGateStart_any (w : World) :
    Calls Try.prog 3 #[] w fun e w' => e = .returned (.bool true) ∧ Below w.heap.size w w' := by
  have HSP := hide (fun ww => sGateStart_any ww)
  have HIM := hide (fun ww => iGateStart_any ww)
  go_enter Try.func3, Try.ntmps3
  go_wp2_with fail
  refine (unhide HSP _).mono ?_; rintro e w1 ⟨rfl, b1⟩
  have HXA := hide (Box.made w1 26 #[.bool true, .int .i64 1, .int .i64 1, .slice none 0 0, .slice none 0 0, .slice none 0 0])
  have HB1 := hide (b1.trans (((Below.refl w1.heap.size w1).alloc (Nat.le_refl _) (.cells #[.bool true, .int .i64 1, .int .i64 1, .slice none 0 0, .slice none 0 0, .slice none 0 0] 26)).mono b1.size))
  have hz1 := b1.size
  clear b1
  go_wp2_with fail
  refine (unhide HIM _).mono ?_; rintro e w2 ⟨rfl, b2⟩
  have z2 := b2.size
  simp at z2
  have HXA2 := hide (((unhide HXA).kept b2).kept ((Below.refl w2.heap.size w2).alloc (Nat.le_refl _) (.cells #[.bool true, .int .i64 1, .int .i64 1, .slice none 0 0, .slice none 0 0, .slice none 0 0] 26)))
  have HXB := hide (Box.made w2 26 #[.bool true, .int .i64 1, .int .i64 1, .slice none 0 0, .slice none 0 0, .slice none 0 0])
  have HB2 := hide (((unhide HB1).trans (b2.mono (unhide HB1).size)).trans (((Below.refl w2.heap.size w2).alloc (Nat.le_refl _) (.cells #[.bool true, .int .i64 1, .int .i64 1, .slice none 0 0, .slice none 0 0, .slice none 0 0] 26)).mono (by have := (unhide HB1).size; simp at this; omega)))
  clear b2
  have hlt12 : w1.heap.size < w2.heap.size := by omega
  have p0 := (unhide HXA2).cell 0
  have p1 := (unhide HXA2).cell 1
  have p2 := (unhide HXA2).cell 2
  have p3 := (unhide HXA2).cell 3
  have p4 := (unhide HXA2).cell 4
  have p5 := (unhide HXA2).cell 5
  simp only [List.getElem?_toArray, List.getElem?_cons_zero, List.getElem?_cons_succ] at p0 p1 p2 p3 p4 p5
  go_wp2_with fail
  refine (eqGate0_any _).mono ?_; rintro e w3 ⟨rfl, b3⟩
  have HXA3 := hide ((unhide HXA2).kept b3)
  have HXB3 := hide ((unhide HXB).kept b3)
  have HB3 := hide ((unhide HB2).trans (b3.mono (unhide HB2).size))
  have z3 := b3.size
  simp at z3
  clear b3
  clear p0 p1 p2 p3 p4 p5
  have q0 := (unhide HXB3).cell 0
  have q1 := (unhide HXB3).cell 1
  have q2 := (unhide HXB3).cell 2
  have q3 := (unhide HXB3).cell 3
  have q4 := (unhide HXB3).cell 4
  have q5 := (unhide HXB3).cell 5
  simp only [List.getElem?_toArray, List.getElem?_cons_zero, List.getElem?_cons_succ] at q0 q1 q2 q3 q4 q5
  go_wp2_with fail
  refine (markGate0_any _).mono ?_; rintro e w4 ⟨rfl, b4⟩
  have HXA4 := hide ((unhide HXA3).kept b4)
  have HXB4 := hide ((unhide HXB3).kept b4)
  have HB4 := hide ((unhide HB3).trans (b4.mono (unhide HB3).size))
  have z4 := b4.size
  clear b4
  clear q0 q1 q2 q3 q4 q5
  have q0 := (unhide HXB4).cell 0
  have q1 := (unhide HXB4).cell 1
  have q2 := (unhide HXB4).cell 2
  have q3 := (unhide HXB4).cell 3
  have q4 := (unhide HXB4).cell 4
  have q5 := (unhide HXB4).cell 5
  simp only [List.getElem?_toArray, List.getElem?_cons_zero, List.getElem?_cons_succ] at q0 q1 q2 q3 q4 q5
  go_wp2_with fail
  refine (heldGate0_any _).mono ?_; rintro e w5 ⟨rfl, b5⟩
  have HXA5 := hide ((unhide HXA4).kept b5)
  have HXB5 := hide ((unhide HXB4).kept b5)
  have HB5 := hide ((unhide HB4).trans (b5.mono (unhide HB4).size))
  have z5 := b5.size
  clear b5
  clear q0 q1 q2 q3 q4 q5
  go_wp2_with fail
  refine (unhide HIM _).mono ?_; rintro e w6 ⟨rfl, b6⟩
  have z6 := b6.size
  have HXA6 := hide (((unhide HXA5).kept b6).kept ((Below.refl w6.heap.size w6).alloc (Nat.le_refl _) (.cells #[.bool true, .int .i64 1, .int .i64 1, .slice none 0 0, .slice none 0 0, .slice none 0 0] 26)))
  have HXB6 := hide (((unhide HXB5).kept b6).kept ((Below.refl w6.heap.size w6).alloc (Nat.le_refl _) (.cells #[.bool true, .int .i64 1, .int .i64 1, .slice none 0 0, .slice none 0 0, .slice none 0 0] 26)))
  have HXC := hide (Box.made w6 26 #[.bool true, .int .i64 1, .int .i64 1, .slice none 0 0, .slice none 0 0, .slice none 0 0])
  have HB6 := hide (((unhide HB5).trans (b6.mono (unhide HB5).size)).trans (((Below.refl w6.heap.size w6).alloc (Nat.le_refl _) (.cells #[.bool true, .int .i64 1, .int .i64 1, .slice none 0 0, .slice none 0 0, .slice none 0 0] 26)).mono (by have := (unhide HB5).size; omega)))
  clear b6
  have l6 : w1.heap.size < w6.heap.size := by omega
  have l7 : w2.heap.size < w6.heap.size := by omega
  have p0 := (unhide HXA6).cell 0
  have p1 := (unhide HXA6).cell 1
  have p2 := (unhide HXA6).cell 2
  have p3 := (unhide HXA6).cell 3
  have p4 := (unhide HXA6).cell 4
  have p5 := (unhide HXA6).cell 5
  simp only [List.getElem?_toArray, List.getElem?_cons_zero, List.getElem?_cons_succ] at p0 p1 p2 p3 p4 p5
  go_wp2_with fail
  refine (eqGate0_any _).mono ?_; rintro e w7 ⟨rfl, b7⟩
  have HXB7 := hide ((unhide HXB6).kept b7)
  have HB7 := hide ((unhide HB6).trans (b7.mono (unhide HB6).size))
  clear b7
  clear p0 p1 p2 p3 p4 p5
  have q0 := (unhide HXB7).cell 0
  have q1 := (unhide HXB7).cell 1
  have q2 := (unhide HXB7).cell 2
  have q3 := (unhide HXB7).cell 3
  have q4 := (unhide HXB7).cell 4
  have q5 := (unhide HXB7).cell 5
  simp only [List.getElem?_toArray, List.getElem?_cons_zero, List.getElem?_cons_succ] at q0 q1 q2 q3 q4 q5
  go_wp2_with fail
  refine (heldGate0_any _).mono ?_; rintro e w8 ⟨rfl, b8⟩
  go_wp2_with fail
  go_ret
  exact ⟨rfl, (unhide HB7).trans (b8.mono (unhide HB7).size)⟩

end Go.Proofs.Ytliageaiiciplaa
