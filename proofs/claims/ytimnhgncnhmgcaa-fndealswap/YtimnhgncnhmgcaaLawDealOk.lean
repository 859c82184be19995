/- The law FnExactDealOk answers true at every list of statements. -/
import Derived.Test.YtimnhgncnhmgcaaSteps
namespace Go.Proofs.Ytimnhgncnhmgcaa
open Go.RowKit

set_option maxHeartbeats 1000000 in
theorem implDealOk_any (v : Value) (ss : List St) (w : World) (hv : StsAt w v ss) :
    Calls Try.prog 27 #[v] w fun e w' => e = .returned (.bool (dealOk ss)) ∧ Below w.heap.size w w' := by
  go_enter Try.func27, Try.ntmps27
  go_wp2_with (go_at_call 50; refine (stepsOf_any v ss _ hv).mono ?_; rintro e w' ⟨r, rfl, _, _, hb⟩)
  go_ret
  exact ⟨rfl, hb⟩

theorem StsAt.slice {w : World} {v : Value} {ss : List St} (h : StsAt w v ss) : ∃ a cap, v = .slice a ss.length cap ∧ ss.length ≤ maxLen := by
  obtain ⟨a, cap, hv, h1, h2, _⟩ := h
  exact ⟨a, cap, hv, Nat.le_trans h1 h2⟩

set_option maxHeartbeats 1000000 in
theorem lawDealOk_any (v : Value) (ss : List St) (w : World) (hv : StsAt w v ss) :
    Calls Try.prog 11 #[v] w fun e w' => e = .returned (.bool true) ∧ Below w.heap.size w w' := by
  obtain ⟨a, cap, rfl, hl⟩ := hv.slice
  have HV := hide hv
  clear hv
  by_cases hn : ss.length ≤ 1048576
  · have hpos : ¬ (1048576 - (ss.length : Int) < 0) := by omega
    have hsz := szSts_any a ss.length cap
    simp only [hn, if_true] at hsz
    have HSZ := hide hsz
    clear hsz
    go_enter Try.func11, Try.ntmps11
    go_wp2_with fail
    refine (unhide HSZ _ hl).mono ?_; rintro e w' ⟨rfl, rfl⟩
    go_wp2_with fail
    refine (toSts_any _ ss _ (unhide HV) hn).mono ?_; rintro e w1 ⟨rfl, hr1, hq1, hs1, hb1⟩
    go_wp2_with fail
    refine (specDealOk_any _ ss _ hr1).mono ?_; rintro e w2 ⟨rfl, hb2⟩
    have hb12 := hb1.trans (hb2.mono hb1.size)
    go_wp2_with fail
    refine (toSts_any _ ss _ ((unhide HV).kept hb12) hn).mono ?_; rintro e w3 ⟨rfl, hr3, hq3, hs3, hb3⟩
    have hb13 := hb12.trans (hb3.mono hb12.size)
    go_wp2_with fail
    refine (implDealOk_any _ ss _ hr3).mono ?_; rintro e w4 ⟨rfl, hb4⟩
    have hb14 := hb13.trans (hb4.mono hb13.size)
    go_wp2_with fail
    refine (toSts_any _ ss _ ((unhide HV).kept hb14) hn).mono ?_; rintro e w5 ⟨rfl, hr5, hq5, hs5, hb5⟩
    have hb15 := hb14.trans (hb5.mono hb14.size)
    go_wp2_with fail
    refine (eqSts_any _ _ ss ss _ ((hr3.kept hb4).kept hb5) hr5).mono ?_; rintro e w6 ⟨rfl, hb6⟩
    have hb16 := hb15.trans (hb6.mono hb15.size)
    have hee := eqSts_self ss
    go_wp2_with fail
    go_ret
    exact ⟨rfl, hb16⟩
  · have hsz := szSts_any a ss.length cap
    simp only [hn, if_false] at hsz
    have HSZ := hide hsz
    clear hsz
    go_enter Try.func11, Try.ntmps11
    go_wp2_with (go_at_call 24; refine (unhide HSZ _ hl).mono ?_; rintro e w' ⟨rfl, rfl⟩)
    go_ret
    exact ⟨rfl, Below.refl _ _⟩

end Go.Proofs.Ytimnhgncnhmgcaa
