/- The law FnExactHouseStart answers true. -/
import Derived.Test.YtefbmbdemlcajaaHsI3
namespace Go.Proofs.Ytefbmbdemlcajaa
open Go.RowKit

theorem HsRes.yes {i : Int} (hi : hsB i = true) (e : Ending) (w : World) (base : Nat) (h : HsRes e w base i) : ∃ g c, e = .returned (.agg #[.int .i64 i, .bool true, .slice none 0 0, .int .i64 0, .slice (some ⟨g, 0, none⟩) 8 c, .slice none 0 0]) ∧ base ≤ g ∧ L8 w g 0 := by
  rcases h with ⟨-, h⟩ | ⟨h, -⟩
  · exact h
  · rw [hi] at h; cases h
theorem HsRes.no {i : Int} (hi : hsB i = false) (e : Ending) (w : World) (base : Nat) (h : HsRes e w base i) : e = .returned (.agg #[.int .i64 0, .bool false, .slice none 0 0, .int .i64 0, .slice none 0 0, .slice none 0 0]) := by
  rcases h with ⟨h, -⟩ | ⟨-, h⟩
  · rw [hi] at h; cases h
  · exact h

set_option maxRecDepth 100000 in
set_option maxHeartbeats 4000000 in
theorem lawHouseStart_any (i : Int) (w : World) :
    Calls Try.prog 3 #[.int .i64 i] w fun e w' => e = .returned (.bool true) ∧ Below w.heap.size w w' := by
  have HSP := hide (fun ww => sHouseStart_any i ww)
  have HIM := hide (fun ww => iHouseStart_any i ww)
  cases hi : hsB i
  · have HT := hide (HsRes.no hi)
    clear hi
    go_enter Try.func3, Try.ntmps3
    go_wp2_with fail
    refine (unhide HSP _).mono ?_; rintro e w1 ⟨hr, b1⟩
    obtain rfl := unhide HT _ _ _ hr
    clear hr
    have HXA := hide (Box.made w1 26 #[.int .i64 0, .bool false, .slice none 0 0, .int .i64 0, .slice none 0 0, .slice none 0 0])
    have HB1 := hide (b1.trans (((Below.refl w1.heap.size w1).alloc (Nat.le_refl _) (.cells #[.int .i64 0, .bool false, .slice none 0 0, .int .i64 0, .slice none 0 0, .slice none 0 0] 26)).mono b1.size))
    have hz1 := b1.size
    clear b1
    go_wp2_with fail
    refine (unhide HIM _).mono ?_; rintro e w2 ⟨hr, b2⟩
    obtain rfl := unhide HT _ _ _ hr
    clear hr
    have z2 := b2.size
    simp at z2
    have HXA2 := hide (((unhide HXA).kept b2).kept ((Below.refl w2.heap.size w2).alloc (Nat.le_refl _) (.cells #[.int .i64 0, .bool false, .slice none 0 0, .int .i64 0, .slice none 0 0, .slice none 0 0] 26)))
    have HXB := hide (Box.made w2 26 #[.int .i64 0, .bool false, .slice none 0 0, .int .i64 0, .slice none 0 0, .slice none 0 0])
    have HB2 := hide (((unhide HB1).trans (b2.mono (unhide HB1).size)).trans (((Below.refl w2.heap.size w2).alloc (Nat.le_refl _) (.cells #[.int .i64 0, .bool false, .slice none 0 0, .int .i64 0, .slice none 0 0, .slice none 0 0] 26)).mono (by have := (unhide HB1).size; simp at this; omega)))
    clear b2
    have hlt12 : w1.heap.size < w2.heap.size := by omega
    have p0 := (unhide HXA2).cell 0
    have p1 := (unhide HXA2).cell 1
    have p2 := (unhide HXA2).cell 2
    have p3 := (unhide HXA2).cell 3
    have p4 := (unhide HXA2).cell 4
    have p5 := (unhide HXA2).cell 5
    simp only [List.getElem?_toArray, List.getElem?_cons_zero, List.getElem?_cons_succ] at p0 p1 p2 p3 p4 p5
    go_wp2_with fail
    refine (eqHouse0_any 0 false _ _ _ (fun ww hb => (eqLockS_nil ww).mono (by rintro e w' ⟨rfl, rfl⟩; exact ⟨rfl, Below.refl _ _⟩))).mono ?_; rintro e w3 ⟨rfl, b3⟩
    have HXA3 := hide ((unhide HXA2).kept b3)
    have HXB3 := hide ((unhide HXB).kept b3)
    have HB3 := hide ((unhide HB2).trans (b3.mono (unhide HB2).size))
    have z3 := b3.size
    simp at z3
    clear b3
    clear p0 p1 p2 p3 p4 p5
    have q0 := (unhide HXB3).cell 0
    have q1 := (unhide HXB3).cell 1
    have q2 := (unhide HXB3).cell 2
    have q3 := (unhide HXB3).cell 3
    have q4 := (unhide HXB3).cell 4
    have q5 := (unhide HXB3).cell 5
    simp only [List.getElem?_toArray, List.getElem?_cons_zero, List.getElem?_cons_succ] at q0 q1 q2 q3 q4 q5
    go_wp2_with fail
    refine (markHouse0_any 0 false _).mono ?_; rintro e w4 ⟨rfl, b4⟩
    have HXA4 := hide ((unhide HXA3).kept b4)
    have HXB4 := hide ((unhide HXB3).kept b4)
    have HB4 := hide ((unhide HB3).trans (b4.mono (unhide HB3).size))
    have z4 := b4.size
    clear b4
    clear q0 q1 q2 q3 q4 q5
    have q0 := (unhide HXB4).cell 0
    have q1 := (unhide HXB4).cell 1
    have q2 := (unhide HXB4).cell 2
    have q3 := (unhide HXB4).cell 3
    have q4 := (unhide HXB4).cell 4
    have q5 := (unhide HXB4).cell 5
    simp only [List.getElem?_toArray, List.getElem?_cons_zero, List.getElem?_cons_succ] at q0 q1 q2 q3 q4 q5
    go_wp2_with fail
    refine (heldHouse0_any 0 false _).mono ?_; rintro e w5 ⟨rfl, b5⟩
    have HXA5 := hide ((unhide HXA4).kept b5)
    have HXB5 := hide ((unhide HXB4).kept b5)
    have HB5 := hide ((unhide HB4).trans (b5.mono (unhide HB4).size))
    have z5 := b5.size
    clear b5
    clear q0 q1 q2 q3 q4 q5
    go_wp2_with fail
    refine (unhide HIM _).mono ?_; rintro e w6 ⟨hr, b6⟩
    obtain rfl := unhide HT _ _ _ hr
    clear hr
    have z6 := b6.size
    have HXA6 := hide (((unhide HXA5).kept b6).kept ((Below.refl w6.heap.size w6).alloc (Nat.le_refl _) (.cells #[.int .i64 0, .bool false, .slice none 0 0, .int .i64 0, .slice none 0 0, .slice none 0 0] 26)))
    have HXB6 := hide (((unhide HXB5).kept b6).kept ((Below.refl w6.heap.size w6).alloc (Nat.le_refl _) (.cells #[.int .i64 0, .bool false, .slice none 0 0, .int .i64 0, .slice none 0 0, .slice none 0 0] 26)))
    have HXC := hide (Box.made w6 26 #[.int .i64 0, .bool false, .slice none 0 0, .int .i64 0, .slice none 0 0, .slice none 0 0])
    have HB6 := hide (((unhide HB5).trans (b6.mono (unhide HB5).size)).trans (((Below.refl w6.heap.size w6).alloc (Nat.le_refl _) (.cells #[.int .i64 0, .bool false, .slice none 0 0, .int .i64 0, .slice none 0 0, .slice none 0 0] 26)).mono (by have := (unhide HB5).size; omega)))
    clear b6
    have l6 : w1.heap.size < w6.heap.size := by omega
    have l7 : w2.heap.size < w6.heap.size := by omega
    have p0 := (unhide HXA6).cell 0
    have p1 := (unhide HXA6).cell 1
    have p2 := (unhide HXA6).cell 2
    have p3 := (unhide HXA6).cell 3
    have p4 := (unhide HXA6).cell 4
    have p5 := (unhide HXA6).cell 5
    simp only [List.getElem?_toArray, List.getElem?_cons_zero, List.getElem?_cons_succ] at p0 p1 p2 p3 p4 p5
    go_wp2_with fail
    refine (eqHouse0_any 0 false _ _ _ (fun ww hb => (eqLockS_nil ww).mono (by rintro e w' ⟨rfl, rfl⟩; exact ⟨rfl, Below.refl _ _⟩))).mono ?_; rintro e w7 ⟨rfl, b7⟩
    have HXB7 := hide ((unhide HXB6).kept b7)
    have HB7 := hide ((unhide HB6).trans (b7.mono (unhide HB6).size))
    clear b7
    clear p0 p1 p2 p3 p4 p5
    have q0 := (unhide HXB7).cell 0
    have q1 := (unhide HXB7).cell 1
    have q2 := (unhide HXB7).cell 2
    have q3 := (unhide HXB7).cell 3
    have q4 := (unhide HXB7).cell 4
    have q5 := (unhide HXB7).cell 5
    simp only [List.getElem?_toArray, List.getElem?_cons_zero, List.getElem?_cons_succ] at q0 q1 q2 q3 q4 q5
    go_wp2_with fail
    refine (heldHouse0_any 0 false _).mono ?_; rintro e w8 ⟨rfl, b8⟩
    go_wp2_with fail
    go_ret
    exact ⟨rfl, (unhide HB7).trans (b8.mono (unhide HB7).size)⟩
  · have HT := hide (HsRes.yes hi)
    clear hi
    go_enter Try.func3, Try.ntmps3
    go_wp2_with fail
    refine (unhide HSP _).mono ?_; rintro e w1 ⟨hr, b1⟩
    obtain ⟨g1, c1, rfl, hg1, hl1⟩ := unhide HT _ _ _ hr
    clear hr
    have HXA := hide (Box.made w1 26 #[.int .i64 i, .bool true, .slice none 0 0, .int .i64 0, .slice (some ⟨g1, 0, none⟩) 8 c1, .slice none 0 0])
    have HB1 := hide (b1.trans (((Below.refl w1.heap.size w1).alloc (Nat.le_refl _) (.cells #[.int .i64 i, .bool true, .slice none 0 0, .int .i64 0, .slice (some ⟨g1, 0, none⟩) 8 c1, .slice none 0 0] 26)).mono b1.size))
    have HL1 := hide (hl1.kept ((Below.refl w1.heap.size w1).alloc (Nat.le_refl _) (.cells #[.int .i64 i, .bool true, .slice none 0 0, .int .i64 0, .slice (some ⟨g1, 0, none⟩) 8 c1, .slice none 0 0] 26)))
    have lt1 := hl1.lt
    clear hl1
    have hz1 := b1.size
    clear b1
    go_wp2_with fail
    refine (unhide HIM _).mono ?_; rintro e w2 ⟨hr, b2⟩
    obtain ⟨g2, c2, rfl, hg2, hl2⟩ := unhide HT _ _ _ hr
    clear hr
    have z2 := b2.size
    simp at z2
    simp at hg2
    have HXA2 := hide (((unhide HXA).kept b2).kept ((Below.refl w2.heap.size w2).alloc (Nat.le_refl _) (.cells #[.int .i64 i, .bool true, .slice none 0 0, .int .i64 0, .slice (some ⟨g2, 0, none⟩) 8 c2, .slice none 0 0] 26)))
    have HXB := hide (Box.made w2 26 #[.int .i64 i, .bool true, .slice none 0 0, .int .i64 0, .slice (some ⟨g2, 0, none⟩) 8 c2, .slice none 0 0])
    have HB2 := hide (((unhide HB1).trans (b2.mono (unhide HB1).size)).trans (((Below.refl w2.heap.size w2).alloc (Nat.le_refl _) (.cells #[.int .i64 i, .bool true, .slice none 0 0, .int .i64 0, .slice (some ⟨g2, 0, none⟩) 8 c2, .slice none 0 0] 26)).mono (by have := (unhide HB1).size; simp at this; omega)))
    have HL12 := hide (((unhide HL1).kept b2).kept ((Below.refl w2.heap.size w2).alloc (Nat.le_refl _) (.cells #[.int .i64 i, .bool true, .slice none 0 0, .int .i64 0, .slice (some ⟨g2, 0, none⟩) 8 c2, .slice none 0 0] 26)))
    have HL2 := hide (hl2.kept ((Below.refl w2.heap.size w2).alloc (Nat.le_refl _) (.cells #[.int .i64 i, .bool true, .slice none 0 0, .int .i64 0, .slice (some ⟨g2, 0, none⟩) 8 c2, .slice none 0 0] 26)))
    have lt2 := hl2.lt
    clear hl2
    clear b2
    have hlt12 : w1.heap.size < w2.heap.size := by omega
    have p0 := (unhide HXA2).cell 0
    have p1 := (unhide HXA2).cell 1
    have p2 := (unhide HXA2).cell 2
    have p3 := (unhide HXA2).cell 3
    have p4 := (unhide HXA2).cell 4
    have p5 := (unhide HXA2).cell 5
    simp only [List.getElem?_toArray, List.getElem?_cons_zero, List.getElem?_cons_succ] at p0 p1 p2 p3 p4 p5
    go_wp2_with fail
    refine (eqHouse0_any i true _ _ _ (fun ww hb => eqLocks8_any g2 g1 c2 c1 0 ww ((unhide HL2).kept hb) ((unhide HL12).kept hb))).mono ?_; rintro e w3 ⟨rfl, b3⟩
    have HXA3 := hide ((unhide HXA2).kept b3)
    have HXB3 := hide ((unhide HXB).kept b3)
    have HB3 := hide ((unhide HB2).trans (b3.mono (unhide HB2).size))
    have HL13 := hide ((unhide HL12).kept b3)
    have HL23 := hide ((unhide HL2).kept b3)
    have z3 := b3.size
    simp at z3
    clear b3
    clear p0 p1 p2 p3 p4 p5
    have q0 := (unhide HXB3).cell 0
    have q1 := (unhide HXB3).cell 1
    have q2 := (unhide HXB3).cell 2
    have q3 := (unhide HXB3).cell 3
    have q4 := (unhide HXB3).cell 4
    have q5 := (unhide HXB3).cell 5
    simp only [List.getElem?_toArray, List.getElem?_cons_zero, List.getElem?_cons_succ] at q0 q1 q2 q3 q4 q5
    go_wp2_with fail
    refine (markHouse8_any i true g2 c2 _ (unhide HL23)).mono ?_; rintro e w4 ⟨rfl, hg4, hl4⟩
    have HXA4 := hide ((unhide HXA3).far hg4 (by simp; omega))
    have HXB4 := hide ((unhide HXB3).far hg4 (by simp; omega))
    have HL14 := hide ((unhide HL13).far hg4 (by simp; omega))
    have HL24 := hide hl4
    have HB4 : Hid (Below w.heap.size w w4) := Below.grown (unhide HB3) hg4 (unhide HB3).size (fun x hx => by simp at hx; omega)
    have z4 := hg4.size
    clear hg4 hl4
    clear q0 q1 q2 q3 q4 q5
    have q0 := (unhide HXB4).cell 0
    have q1 := (unhide HXB4).cell 1
    have q2 := (unhide HXB4).cell 2
    have q3 := (unhide HXB4).cell 3
    have q4 := (unhide HXB4).cell 4
    have q5 := (unhide HXB4).cell 5
    simp only [List.getElem?_toArray, List.getElem?_cons_zero, List.getElem?_cons_succ] at q0 q1 q2 q3 q4 q5
    go_wp2_with fail
    refine (heldHouse8_any i true g2 c2 _ (unhide HL24)).mono ?_; rintro e w5 ⟨rfl, b5⟩
    have HXA5 := hide ((unhide HXA4).kept b5)
    have HXB5 := hide ((unhide HXB4).kept b5)
    have HB5 := hide ((unhide HB4).trans (b5.mono (unhide HB4).size))
    have z5 := b5.size
    have HL15 := hide ((unhide HL14).kept b5)
    have HL25 := hide ((unhide HL24).kept b5)
    clear b5
    clear q0 q1 q2 q3 q4 q5
    go_wp2_with fail
    refine (unhide HIM _).mono ?_; rintro e w6 ⟨hr, b6⟩
    obtain ⟨g6, c6, rfl, hg6, hl6⟩ := unhide HT _ _ _ hr
    clear hr
    have z6 := b6.size
    have HXA6 := hide (((unhide HXA5).kept b6).kept ((Below.refl w6.heap.size w6).alloc (Nat.le_refl _) (.cells #[.int .i64 i, .bool true, .slice none 0 0, .int .i64 0, .slice (some ⟨g6, 0, none⟩) 8 c6, .slice none 0 0] 26)))
    have HXB6 := hide (((unhide HXB5).kept b6).kept ((Below.refl w6.heap.size w6).alloc (Nat.le_refl _) (.cells #[.int .i64 i, .bool true, .slice none 0 0, .int .i64 0, .slice (some ⟨g6, 0, none⟩) 8 c6, .slice none 0 0] 26)))
    have HXC := hide (Box.made w6 26 #[.int .i64 i, .bool true, .slice none 0 0, .int .i64 0, .slice (some ⟨g6, 0, none⟩) 8 c6, .slice none 0 0])
    have HB6 := hide (((unhide HB5).trans (b6.mono (unhide HB5).size)).trans (((Below.refl w6.heap.size w6).alloc (Nat.le_refl _) (.cells #[.int .i64 i, .bool true, .slice none 0 0, .int .i64 0, .slice (some ⟨g6, 0, none⟩) 8 c6, .slice none 0 0] 26)).mono (by have := (unhide HB5).size; omega)))
    have HL16 := hide (((unhide HL15).kept b6).kept ((Below.refl w6.heap.size w6).alloc (Nat.le_refl _) (.cells #[.int .i64 i, .bool true, .slice none 0 0, .int .i64 0, .slice (some ⟨g6, 0, none⟩) 8 c6, .slice none 0 0] 26)))
    have HL26 := hide (((unhide HL25).kept b6).kept ((Below.refl w6.heap.size w6).alloc (Nat.le_refl _) (.cells #[.int .i64 i, .bool true, .slice none 0 0, .int .i64 0, .slice (some ⟨g6, 0, none⟩) 8 c6, .slice none 0 0] 26)))
    have HL6 := hide (hl6.kept ((Below.refl w6.heap.size w6).alloc (Nat.le_refl _) (.cells #[.int .i64 i, .bool true, .slice none 0 0, .int .i64 0, .slice (some ⟨g6, 0, none⟩) 8 c6, .slice none 0 0] 26)))
    clear hl6
    clear b6
    have l6 : w1.heap.size < w6.heap.size := by omega
    have l7 : w2.heap.size < w6.heap.size := by omega
    have p0 := (unhide HXA6).cell 0
    have p1 := (unhide HXA6).cell 1
    have p2 := (unhide HXA6).cell 2
    have p3 := (unhide HXA6).cell 3
    have p4 := (unhide HXA6).cell 4
    have p5 := (unhide HXA6).cell 5
    simp only [List.getElem?_toArray, List.getElem?_cons_zero, List.getElem?_cons_succ] at p0 p1 p2 p3 p4 p5
    go_wp2_with fail
    refine (eqHouse0_any i true _ _ _ (fun ww hb => eqLocks8_any g6 g1 c6 c1 0 ww ((unhide HL6).kept hb) ((unhide HL16).kept hb))).mono ?_; rintro e w7 ⟨rfl, b7⟩
    have HXB7 := hide ((unhide HXB6).kept b7)
    have HB7 := hide ((unhide HB6).trans (b7.mono (unhide HB6).size))
    have HL27 := hide ((unhide HL26).kept b7)
    clear b7
    clear p0 p1 p2 p3 p4 p5
    have q0 := (unhide HXB7).cell 0
    have q1 := (unhide HXB7).cell 1
    have q2 := (unhide HXB7).cell 2
    have q3 := (unhide HXB7).cell 3
    have q4 := (unhide HXB7).cell 4
    have q5 := (unhide HXB7).cell 5
    simp only [List.getElem?_toArray, List.getElem?_cons_zero, List.getElem?_cons_succ] at q0 q1 q2 q3 q4 q5
    go_wp2_with fail
    refine (heldHouse8_any i true g2 c2 _ (unhide HL27)).mono ?_; rintro e w8 ⟨rfl, b8⟩
    go_wp2_with fail
    go_ret
    exact ⟨rfl, (unhide HB7).trans (b8.mono (unhide HB7).size)⟩

end Go.Proofs.Ytefbmbdemlcajaa
