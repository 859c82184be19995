/- Maps: the laws' own comparison. -/
import Derived.Test.YtmclmdleplfgeaaLoInts
import Derived.Test.YtmclmdleplfgeaaMapL
namespace Go.Proofs.Ytmclmdleplfgeaa
open Go.RowKit

set_option maxHeartbeats 1000000 in
theorem loMap_any (v v' : Int) (u u' : Value) (xs ys : List Int) (w : World) (hu : InsAt w u xs) (hu' : InsAt w u' ys) :
    Calls Try.prog 16 #[.agg #[.int .i64 v, u], .agg #[.int .i64 v', u']] w fun e w' => e = .returned (.bool (eqMapB v xs v' ys)) ∧ Below w.heap.size w w' := by
  have HU := hide hu
  have HU' := hide hu'
  obtain ⟨a, cap, rfl, h1, h2, h3⟩ := hu
  obtain ⟨a', cap', rfl, h1', h2', h3'⟩ := hu'
  have bA : Below w.heap.size w ((w.alloc (.cells #[.int .i64 v, .slice a xs.length cap] 25)).alloc (.cells #[.int .i64 v', .slice a' ys.length cap'] 25)) := ((Below.refl _ _).alloc (Nat.le_refl _) _).alloc (by simp) _
  clear h1 h2 h3 h1' h2' h3'
  by_cases hv : v = v'
  · have hvb : (v == v') = true := by simpa using hv
    have HV := hide hv
    clear hv
    go_enter Try.func16, Try.ntmps16
    go_wp2_with fail
    refine (loIns_any _ _ xs ys _ ((unhide HU).kept bA) ((unhide HU').kept bA)).mono ?_; rintro e w1 ⟨rfl, hb1⟩
    have b1 := bA.trans (hb1.mono bA.size)
    go_wp2_with fail
    go_ret
    exact ⟨ret_bool (by simp [eqMapB, unhide HV]), b1⟩
  · have hvb : (v == v') = false := by simpa using hv
    have HV := hide hv
    clear hv
    go_enter Try.func16, Try.ntmps16
    go_wp2_with fail
    go_ret
    exact ⟨ret_bool (by simp [eqMapB, unhide HV]), bA⟩

end Go.Proofs.Ytmclmdleplfgeaa
