/- The law FnExactBooksStart answers true. -/
import Derived.Test.YtmclmdleplfgeaaBk0
namespace Go.Proofs.Ytmclmdleplfgeaa
open Go.RowKit

set_option maxRecDepth 100000 in
set_option maxHeartbeats 2000000 in
theorem lawBooksStart_any (w : World) :
    Calls Try.prog 12 #[] w fun e w' => e = .returned (.bool true) ∧ Below w.heap.size w w' := by
  have hspec := specBStart_any w
  have himpl := implBStart_any
  have hlen := startL_length 8
  generalize startL 8 = L at *
  have HSP := hide hspec
  have HIM := hide himpl
  have HLN := hide hlen
  clear hspec himpl hlen
  go_enter Try.func12, Try.ntmps12
  go_wp2_with fail
  refine (unhide HSP).mono ?_; rintro e w1 ⟨a1, n1, c1, rfl, hi1, k1, b1⟩
  have bxA := Box.made w1 50 #[.int .i64 0, .int .i64 1, .slice a1 n1 c1, .slice none 0 0, .slice none 0 0]
  have bA : Below w1.heap.size w1 (w1.alloc (.cells #[.int .i64 0, .int .i64 1, .slice a1 n1 c1, .slice none 0 0, .slice none 0 0] 50)) := (Below.refl _ _).alloc (Nat.le_refl _) _
  have HI1 := hide (hi1.kept bA)
  have HBX := hide bxA
  have HK1 := hide k1
  have HBA := hide (b1.trans (bA.mono b1.size))
  clear hi1 k1 bxA bA
  go_wp2_with fail
  refine (unhide HIM _).mono ?_; rintro e w2 ⟨a2, c2, rfl, hi2, ho2, hb2⟩
  have z2 := hb2.size
  simp at z2 ho2
  have bA2 : Below w2.heap.size w2 (w2.alloc (.cells #[.int .i64 0, .int .i64 1, .slice a2 8 c2, .slice none 0 0, .slice none 0 0] 50)) := (Below.refl _ _).alloc (Nat.le_refl _) _
  have HX2 := hide (Box.made w2 50 #[.int .i64 0, .int .i64 1, .slice a2 8 c2, .slice none 0 0, .slice none 0 0])
  have HX1 := hide (((unhide HBX).kept hb2).kept bA2)
  have HI2 := hide (hi2.kept bA2)
  have HO2 := hide (ho2.kept bA2)
  have HK2 := hide ho2.blk
  have HI1b := hide (((unhide HI1).kept hb2).kept bA2)
  have HB2 := hide (((unhide HBA).trans (hb2.mono (unhide HBA).size)).trans (bA2.mono (by have := (unhide HBA).size; simp at this; omega)))
  clear hi2 ho2 hb2 HI1 HBX bA2
  obtain ⟨p0, p1, p2, p3, p4⟩ := (unhide HX1).five
  have b1' : w1.heap.size < w2.heap.size := by omega
  go_wp2_with fail
  refine (eqBooks0_any 1 _ _ L _ (unhide HI2) (unhide HI1b)).mono ?_; rintro e w3 ⟨rfl, hb3⟩
  have HX13 := hide ((unhide HX1).kept hb3)
  have HX23 := hide ((unhide HX2).kept hb3)
  have HO3 := hide ((unhide HO2).kept hb3)
  have HI13 := hide ((unhide HI1b).kept hb3)
  have HB3 := hide ((unhide HB2).trans (hb3.mono (unhide HB2).size))
  have z3 := hb3.size
  simp at z3
  clear p0 p1 p2 p3 p4 hb3 HX1 HX2 HO2 HI1b HI2
  obtain ⟨q0, q1, q2, q3, q4⟩ := (unhide HX23).five
  go_wp2_with fail
  refine (markBooks0_any 1 _ 8 _ _ _ (by omega) (unhide HO3)).mono ?_; rintro e w4 ⟨rfl, hg4, hm4⟩
  have hn1 : some w1.heap.size ≠ (Value.slice a2 8 c2).ownBlock := fun e => by
    rcases unhide HK2 with h | ⟨q, h, h1, h2⟩
    · rw [h] at e; cases e
    · rw [h] at e; simp at e; omega
  have hn2 : some w2.heap.size ≠ (Value.slice a2 8 c2).ownBlock := fun e => by
    rcases unhide HK2 with h | ⟨q, h, h1, h2⟩
    · rw [h] at e; cases e
    · rw [h] at e; simp at e; omega
  have HX14 := hide ((unhide HX13).far hg4 hn1)
  have HX24 := hide ((unhide HX23).far hg4 hn2)
  have HI14 := hide ((unhide HI13).far hg4 ((unhide HK1).apart (unhide HK2) (by omega)))
  have HM4 := hide hm4
  have hB4 : Below w.heap.size w w4 := Below.grown (unhide HB3) hg4 (unhide HB3).size (fun q hq => by have := (unhide HK2).low q hq; have := b1.size; omega)
  have HB4 := hide hB4
  have z4 := hg4.size
  clear q0 q1 q2 q3 q4 hg4 hm4 hB4 HX13 HX23 HI13 HO3
  obtain ⟨q0, q1, q2, q3, q4⟩ := (unhide HX24).five
  go_wp2_with fail
  refine (heldBooks0_any 1 _ 8 _ _ (by omega) (unhide HM4)).mono ?_; rintro e w5 ⟨rfl, hb5⟩
  have HX15 := hide ((unhide HX14).kept hb5)
  have HX25 := hide ((unhide HX24).kept hb5)
  have HI15 := hide ((unhide HI14).kept hb5)
  have HM5 := hide ((unhide HM4).kept hb5)
  have HB5 := hide ((unhide HB4).trans (hb5.mono (unhide HB4).size))
  have z5 := hb5.size
  clear q0 q1 q2 q3 q4 hb5 HX14 HX24 HI14 HM4
  go_wp2_with fail
  refine (unhide HIM _).mono ?_; rintro e w6 ⟨a6, c6, rfl, hi6, ho6, hb6⟩
  have bA6 : Below w6.heap.size w6 (w6.alloc (.cells #[.int .i64 0, .int .i64 1, .slice a6 8 c6, .slice none 0 0, .slice none 0 0] 50)) := (Below.refl _ _).alloc (Nat.le_refl _) _
  have HX6 := hide (Box.made w6 50 #[.int .i64 0, .int .i64 1, .slice a6 8 c6, .slice none 0 0, .slice none 0 0])
  have HX16 := hide (((unhide HX15).kept hb6).kept bA6)
  have HX26 := hide (((unhide HX25).kept hb6).kept bA6)
  have HI6 := hide (hi6.kept bA6)
  have HI16 := hide (((unhide HI15).kept hb6).kept bA6)
  have HM6 := hide (((unhide HM5).kept hb6).kept bA6)
  have z6 := hb6.size
  have HB6 := hide (((unhide HB5).trans (hb6.mono (unhide HB5).size)).trans (bA6.mono (by have := (unhide HB5).size; omega)))
  clear hi6 ho6 hb6 bA6 HX15 HX25 HI15 HM5
  obtain ⟨p0, p1, p2, p3, p4⟩ := (unhide HX16).five
  have l6 : w1.heap.size < w6.heap.size := by omega
  have l7 : w2.heap.size < w6.heap.size := by omega
  go_wp2_with fail
  refine (eqBooks0_any 1 _ _ L _ (unhide HI6) (unhide HI16)).mono ?_; rintro e w7 ⟨rfl, hb7⟩
  have HX27 := hide ((unhide HX26).kept hb7)
  have HM7 := hide ((unhide HM6).kept hb7)
  have HB7 := hide ((unhide HB6).trans (hb7.mono (unhide HB6).size))
  clear p0 p1 p2 p3 p4 hb7
  obtain ⟨q0, q1, q2, q3, q4⟩ := (unhide HX27).five
  go_wp2_with fail
  refine (heldBooks0_any 1 _ 8 _ _ (by omega) (unhide HM7)).mono ?_; rintro e w8 ⟨rfl, hb8⟩
  go_wp2_with fail
  go_ret
  exact ⟨rfl, (unhide HB7).trans (hb8.mono (unhide HB7).size)⟩

end Go.Proofs.Ytmclmdleplfgeaa
