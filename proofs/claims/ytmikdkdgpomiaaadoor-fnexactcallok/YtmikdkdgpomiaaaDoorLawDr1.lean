/- The law FnExactDealRead answers true. -/
import Derived.Test.YtmikdkdgpomiaaaDoorDcS6
import Derived.Test.YtmikdkdgpomiaaaDoorStK
namespace Go.Proofs.YtmikdkdgpomiaaaDoor
open Go.RowKit

/-- What DealRead answers, told by the deal and whether there is one. -/
theorem DRes.tell {e : Ending} {w : World} {base : Nat} {t : List UInt8} (h : DRes e w base t) :
    ∃ r, e = .returned (.tuple #[r, .bool (readL t).isSome]) ∧ w.ownsRow base 45 3 r ((readL t).getD []).length (((readL t).getD []).flatMap stE) := by
  rcases h with ⟨D, r, h1, h2, h3⟩ | ⟨r, h1, h2, h3⟩
  · rw [h1]; exact ⟨r, h2, h3⟩
  · rw [h1]; exact ⟨r, h2, h3⟩
theorem readD_len (t : List UInt8) : ((readL t).getD []).length ≤ 6 := by
  cases h : readL t with
  | none => simp
  | some D => exact (dealOk_len (readL_some h).2.1).2

set_option maxRecDepth 100000 in
set_option maxHeartbeats 4000000 in
theorem lawDealRead_any (t : List UInt8) (w : World) (hg : GW w) :
    Calls Tryd.prog 5 #[.string ⟨t.toArray⟩] w fun e w' => e = .returned (.bool true) ∧ Below w.heap.size w w' := by
  have hts : (⟨t.toArray⟩ : ByteArray).size = t.length := by simp [ByteArray.size]
  by_cases hl : 1048576 < t.length
  · have hl' : (1048576 : Int) < (t.length : Int) := by omega
    go_enter Tryd.func5, Tryd.ntmps5
    go_wp2_with fail
    go_ret
    exact ⟨rfl, Below.refl _ _⟩
  have hl' : ¬ (1048576 : Int) < (t.length : Int) := by omega
  have HG := hide hg
  have HSP := hide (fun ww => sRead_any t ww)
  have HIM := hide (fun ww h => iRead_any t ww h)
  have HEQ := hide (fun v u ww h h' => eqSts_any v u ((readL t).getD []) ((readL t).getD []) ww h h')
  rw [eqSts_self] at HEQ
  have hdl := readD_len t
  have HT := hide (fun e w base (h : DRes e w base t) => h.tell)
  have hbb : (((readL t).isSome) != ((readL t).isSome)) = false := by simp
  have hb2 : (((readL t).isSome) == ((readL t).isSome)) = true := by simp
  generalize (readL t).isSome = B at *
  generalize (readL t).getD [] = D at *
  generalize hn : D.length = n at *
  have HN := hide hn
  clear hg hn
  go_enter Tryd.func5, Tryd.ntmps5
  go_wp2_with fail
  refine (unhide HSP _).mono ?_; rintro e w1 ⟨hR1, hb1⟩
  obtain ⟨r1, rfl, o1⟩ := unhide HT _ _ _ hR1
  have HB1 := hide hb1
  have HS1 := hide (sts_of_row (RowAt.of_own (by rw [unhide HN]; exact o1)))
  have HL1 := hide (ownsRow_low o1)
  obtain ⟨a1, c1, rfl, -⟩ := ownsRow_slice o1
  clear hb1 hR1 o1
  go_wp2_with fail
  refine (unhide HIM _ ((unhide HG).kept (unhide HB1))).mono ?_; rintro e w2 ⟨hR2, hb2'⟩
  obtain ⟨r2, rfl, o2⟩ := unhide HT _ _ _ hR2
  have HB2 := hide ((unhide HB1).trans (hb2'.mono (unhide HB1).size))
  have HS2 := hide (sts_of_row (RowAt.of_own (by rw [unhide HN]; exact o2)))
  have HO2 := hide (OwnK.of_own o2)
  have HL2 := hide (ownsRow_low o2)
  obtain ⟨a2, c2, rfl, -⟩ := ownsRow_slice o2
  have HS12 := hide ((unhide HS1).kept hb2')
  clear hb2' hR2 o2
  go_wp2_with fail
  refine (unhide HEQ _ _ _ (unhide HS2) (unhide HS12)).mono ?_; rintro e w3 ⟨rfl, hb3⟩
  have HB3 := hide ((unhide HB2).trans (hb3.mono (unhide HB2).size))
  have HO3 := hide ((unhide HO2).kept hb3)
  have HS13 := hide ((unhide HS12).kept hb3)
  clear hb3
  go_wp2_with fail
  refine (markSts_any _ n w1.heap.size 1 _ (by omega) (by omega) (by omega) (unhide HO3)).mono ?_; rintro e w4 ⟨rfl, hg4, hm4⟩
  have HM4 := hide hm4
  have HB4 : Hid (Below w.heap.size w w4) := Below.grown (unhide HB3) hg4 (unhide HB3).size (fun q hq => by have := (unhide HL2 q hq).1; have := (unhide HB1).size; omega)
  have HS14 := hide ((unhide HS13).far hg4 (by
    rcases h : (Value.slice a1 n c1).ownBlock with _ | q
    · exact .inl rfl
    · refine .inr (fun e => ?_)
      have h1 := unhide HL1 q h
      have h2 := unhide HL2 q (by rw [← e])
      omega))
  clear hg4 hm4
  go_wp2_with fail
  refine (heldSts_marked _ n 1 _ (by omega) (by omega) (by omega) (unhide HM4)).mono ?_; rintro e w5 ⟨rfl, hw5⟩
  rw [hw5]
  clear hw5 w5
  go_wp2_with fail
  refine (unhide HIM _ ((unhide HG).kept (unhide HB4))).mono ?_; rintro e w6 ⟨hR6, hb6⟩
  obtain ⟨r6, rfl, o6⟩ := unhide HT _ _ _ hR6
  have HB6 := hide ((unhide HB4).trans (hb6.mono (unhide HB4).size))
  have HS6 := hide (sts_of_row (RowAt.of_own (by rw [unhide HN]; exact o6)))
  have HS16 := hide ((unhide HS14).kept hb6)
  have HM6 := hide ((unhide HM4).kept hb6)
  obtain ⟨a6, c6, rfl, -⟩ := ownsRow_slice o6
  clear hb6 hR6 o6
  go_wp2_with fail
  refine (unhide HEQ _ _ _ (unhide HS6) (unhide HS16)).mono ?_; rintro e w7 ⟨rfl, hb7⟩
  have HB7 := hide ((unhide HB6).trans (hb7.mono (unhide HB6).size))
  have HM7 := hide ((unhide HM6).kept hb7)
  clear hb7
  go_wp2_with fail
  refine (heldSts_marked _ n 1 _ (by omega) (by omega) (by omega) (unhide HM7)).mono ?_; rintro e w8 ⟨rfl, hw8⟩
  rw [hw8]
  clear hw8 w8
  go_wp2_with fail
  go_ret
  exact ⟨rfl, unhide HB7⟩

end Go.Proofs.YtmikdkdgpomiaaaDoor
