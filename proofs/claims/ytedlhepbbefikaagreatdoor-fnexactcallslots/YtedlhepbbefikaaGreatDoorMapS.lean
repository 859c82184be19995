/- Maps: the specification's answers. -/
import Derived.Test.YtedlhepbbefikaaGreatDoorMapM
import Derived.Laws.CopyOwn
import Derived.Deep.RegionLaw
namespace Go.Proofs.YtedlhepbbefikaaGreatDoor
open Go.RowKit

theorem Tryz.infoI1 : (Tryz.prog.info? 3).map (fun i => (i.zero, i.size, i.bytes)) = some (some (.int .i64 0), 1, 8) := by kernel_rfl

set_option maxHeartbeats 400000 in
theorem specMapSlot_any (k : Int) (w : World) :
    Calls Tryz.prog 21 #[.int .i64 k] w fun e w' => e = .returned (.int .i64 (slotOf k)) ∧ w' = w := by
  cases hk : inB k 0 31
  · go_enter Tryz.func21, Tryz.ntmps21
    go_wp2_with (go_at_call 39; refine (l6In_any _ _ _ _).mono ?_; rintro e w' ⟨rfl, rfl⟩)
    go_ret
    exact ⟨ret_int (by simp [slotOf, keyB, hk]), rfl⟩
  · obtain ⟨b1, b2⟩ := keyB_bounds hk
    go_enter Tryz.func21, Tryz.ntmps21
    go_wp2_with (go_at_call 39; refine (l6In_any _ _ _ _).mono ?_; rintro e w' ⟨rfl, rfl⟩)
    go_ret
    exact ⟨ret_int (by simp [slotOf, keyB, hk]), rfl⟩

end Go.Proofs.YtedlhepbbefikaaGreatDoor
