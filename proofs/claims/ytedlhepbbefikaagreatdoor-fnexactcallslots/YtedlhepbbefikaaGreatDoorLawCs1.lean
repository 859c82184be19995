/- The law FnExactCallSlots answers true. -/
import Derived.Test.YtedlhepbbefikaaGreatDoorLawCa1
import Derived.Test.YtedlhepbbefikaaGreatDoorCsI
import Derived.Test.YtedlhepbbefikaaGreatDoorIntsF
namespace Go.Proofs.YtedlhepbbefikaaGreatDoor
open Go.RowKit

set_option maxRecDepth 100000 in
set_option maxHeartbeats 4000000 in
theorem lawCallSlots_any (c : Cl) (w : World) (hg : GW w) (ht : c.text.length ≤ maxLen) :
    Calls Tryz.prog 4 #[.agg (clC c)] w fun e w' => e = .returned (.bool true) ∧ Below w.heap.size w w' := by
  have HSZ := hide (fun ww => szCallC_any c 1048576 ww (by omega) (by omega) ht)
  have HTO := hide (fun ww => toCallC_any c ww)
  have HSP := hide (fun ww => sCallSlots_any c ww)
  have HIM := hide (fun ww h => iCallSlots_any c ww h)
  have HG := hide hg
  have HA := hide ((Below.refl w.heap.size w).alloc (Nat.le_refl _) (.cells (clC c) 37))
  have HX := hide (Box.made w 37 (clC c))
  have HC6 := hide (fun ww (h : Box ww w.heap.size 37 (clC c)) => h.cells6)
  have hlen : (slotsC c).length ≤ 8 := by
    unfold slotsC; split
    · exact tbs_len _ _ _ 8
    · simp
  generalize slotsC c = R at *
  obtain ⟨sess, num, kind, text, slot, dst⟩ := c
  simp only [clC] at *
  clear hg ht
  go_enter Tryz.func4, Tryz.ntmps4
  go_wp2_with fail
  refine (unhide HSZ _).mono ?_; rintro e w1 ⟨rfl, hb1⟩
  have HB1 := hide ((unhide HA).trans (hb1.mono (unhide HA).size))
  have HX1 := hide ((unhide HX).kept hb1)
  clear hb1
  by_cases hneg : (1048576 : Int) - (text.length : Int) < 0
  · rw [if_pos hneg]
    go_wp2_with fail
    go_ret
    exact ⟨rfl, unhide HB1⟩
  rw [if_neg hneg]
  obtain ⟨q0, q1, q2, q3, q4, q5⟩ := unhide HC6 _ (unhide HX1)
  go_wp2_with fail
  refine (unhide HTO _).mono ?_; rintro e w2 ⟨rfl, hb2⟩
  have HB2 := hide ((unhide HB1).trans (hb2.mono (unhide HB1).size))
  have HX2 := hide ((unhide HX1).kept hb2)
  clear hb2 q0 q1 q2 q3 q4 q5 HB1 HX1
  go_wp2_with fail
  refine (unhide HSP _).mono ?_; rintro e w3 ⟨⟨r3, rfl, o3⟩, hb3⟩
  have HB3 := hide ((unhide HB2).trans (hb3.mono (unhide HB2).size))
  have HX3 := hide ((unhide HX2).kept hb3)
  have S3 := hide (owned_ins o3).1
  have L3 := hide (fun q hq => o3.lt q hq)
  clear hb3 o3 HB2 HX2
  obtain ⟨q0, q1, q2, q3, q4, q5⟩ := unhide HC6 _ (unhide HX3)
  go_wp2_with fail
  refine (unhide HTO _).mono ?_; rintro e w4 ⟨rfl, hb4⟩
  have HB4 := hide ((unhide HB3).trans (hb4.mono (unhide HB3).size))
  have HX4 := hide ((unhide HX3).kept hb4)
  have S4 := hide ((unhide S3).kept hb4)
  have hz4 := hb4.size
  have hx4 := (unhide HX4).lt
  clear hb4 q0 q1 q2 q3 q4 q5 HB3 HX3
  go_wp2_with fail
  refine (unhide HIM _ ((unhide HG).kept (unhide HB4))).mono ?_; rintro e w5 ⟨⟨r5, rfl, o5⟩, hb5⟩
  have HB5 := hide ((unhide HB4).trans (hb5.mono (unhide HB4).size))
  have HX5 := hide ((unhide HX4).kept hb5)
  have S5 := hide ((unhide S4).kept hb5)
  have I5 := hide (owned_ins o5).1
  have J5 := hide (owned_ins o5).2
  have L5 := hide (fun q hq => o5.lt q hq)
  have hz5 := hb5.size
  clear hb5 o5 HB4 HX4 S3 S4
  go_wp2_with fail
  refine (eqInsE_any _ _ R R _ (unhide I5) (unhide S5)).mono ?_; rintro e w6 ⟨rfl, hb6⟩
  rw [eqIns_self]
  have HB6 := hide ((unhide HB5).trans (hb6.mono (unhide HB5).size))
  have HX6 := hide ((unhide HX5).kept hb6)
  have S6 := hide ((unhide S5).kept hb6)
  have O6 : Hid (OwnIn w6 r5 R.length w4.heap.size) := by
    rcases unhide J5 with ⟨h1, h2⟩ | ⟨g, cap, h1, h2, h3, h4⟩
    · exact .inl ⟨h1, by rw [h2]; rfl⟩
    · exact .inr ⟨g, cap, h1, h2, by have := hb6.size; omega, h4.kept hb6⟩
  have hz6 := hb6.size
  clear hb6 HB5 HX5 S5 I5 J5
  have ne : Hid (∀ q, r3.ownBlock = some q → r5.ownBlock ≠ some q) := fun q hq hq' => by
    have h1 := (unhide L3 q hq).2; have h2 := (unhide L5 q hq').1; omega
  go_wp2_with fail
  refine (markIns_any _ R.length w4.heap.size 1 _ (by omega) (by omega) (by omega) (unhide O6)).mono ?_; rintro e w7 ⟨rfl, hg7, hm7⟩
  have HB7 := hide (Below.grown (unhide HB6) hg7 (unhide HB6).size (fun q hq => by have := (unhide L5 q hq).1; have := (unhide HB6).size; have := (unhide HX6).lt; omega))
  have HX7 := hide ((unhide HX6).far hg7 (fun e => by have := (unhide L5 _ e.symm).1; have := (unhide HX6).lt; omega))
  have S7 : Hid (InsAt w7 r3 R) := (unhide S6).far hg7 (by
    cases hq : r3.ownBlock with
    | none => exact .inl rfl
    | some q => right; intro e; exact unhide ne q hq e.symm)
  have M7 := hide hm7
  clear hg7 hm7 HB6 HX6 S6 O6
  go_wp2_with fail
  refine (heldIns_marked _ R.length 1 _ (by omega) (by omega) (by omega) (unhide M7)).mono ?_; rintro e w8 ⟨rfl, rfl⟩
  obtain ⟨q0, q1, q2, q3, q4, q5⟩ := unhide HC6 _ (unhide HX7)
  go_wp2_with fail
  refine (unhide HTO _).mono ?_; rintro e w9 ⟨rfl, hb9⟩
  have HB9 := hide ((unhide HB7).trans (hb9.mono (unhide HB7).size))
  have S9 := hide ((unhide S7).kept hb9)
  have M9 := hide ((unhide M7).kept hb9)
  clear hb9 q0 q1 q2 q3 q4 q5 HB7 HX7 S7 M7
  go_wp2_with fail
  refine (unhide HIM _ ((unhide HG).kept (unhide HB9))).mono ?_; rintro e w10 ⟨⟨r10, rfl, o10⟩, hb10⟩
  have HB10 := hide ((unhide HB9).trans (hb10.mono (unhide HB9).size))
  have S10 := hide ((unhide S9).kept hb10)
  have M10 := hide ((unhide M9).kept hb10)
  have I10 := hide (owned_ins o10).1
  clear hb10 o10 HB9 S9 M9
  go_wp2_with fail
  refine (eqInsE_any _ _ R R _ (unhide I10) (unhide S10)).mono ?_; rintro e w11 ⟨rfl, hb11⟩
  rw [eqIns_self]
  have M11 := hide ((unhide M10).kept hb11)
  have HB11 := hide ((unhide HB10).trans (hb11.mono (unhide HB10).size))
  clear hb11
  go_wp2_with fail
  refine (heldIns_marked _ R.length 1 _ (by omega) (by omega) (by omega) (unhide M11)).mono ?_; rintro e w12 ⟨rfl, rfl⟩
  go_wp2_with fail
  go_ret
  exact ⟨rfl, unhide HB11⟩

end Go.Proofs.YtedlhepbbefikaaGreatDoor
