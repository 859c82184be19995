/- Maps: the specification's answers. -/
import Derived.Test.YtpcbpliigplgoaaMapM
import Derived.Laws.CopyOwn
import Derived.Deep.RegionLaw
namespace Go.Proofs.Ytpcbpliigplgoaa
open Go.RowKit

theorem Try.infoI1 : (Try.prog.info? 3).map (fun i => (i.zero, i.size, i.bytes)) = some (some (.int .i64 0), 1, 8) := by kernel_rfl

set_option maxHeartbeats 1000000 in
theorem specMapOk_any (v : Int) (u : Value) (xs : List Int) (w : World) (hu : InsAt w u xs) :
    Calls Try.prog 42 #[.agg #[.int .i64 v, u]] w fun e w' => e = .returned (.bool (mapOk v xs)) ∧ Below w.heap.size w w' := by
  obtain ⟨a, cap, rfl, h1, h2, h3⟩ := hu
  generalize hN : xs.length = N at *
  have HN := hide hN
  clear hN
  unfold maxLen at h2
  have bA : Below w.heap.size w (w.alloc (.cells #[.int .i64 v, .slice a N cap] 44)) := (Below.refl _ _).alloc (Nat.le_refl _) _
  cases hv : inB v 1 99
  · have HM := hide (mapOk_no1 (xs := xs) hv)
    go_enter Try.func42, Try.ntmps42
    go_wp2_with (go_at_call 18; refine (l6In_any _ _ _ _).mono ?_; rintro e w' ⟨rfl, rfl⟩)
    go_ret
    exact ⟨ret_bool (unhide HM).symm, bA⟩
  by_cases h8 : N = 8
  case neg =>
    have HM := hide (mapOk_no2 (v := v) (xs := xs) (by rw [unhide HN]; exact h8))
    have hne : ((N : Int) != 8) = true := by simp; omega
    go_enter Try.func42, Try.ntmps42
    go_wp2_with (go_at_call 18; refine (l6In_any _ _ _ _).mono ?_; rintro e w' ⟨rfl, rfl⟩)
    go_ret
    exact ⟨ret_bool (unhide HM).symm, bA⟩
  subst h8
  obtain ⟨b, off, rfl, hc⟩ : ∃ b off, a = some ⟨b, off, none⟩ ∧ InCells w b off 8 xs := by
    rcases h3 with h3 | h3
    · have := unhide HN; subst h3; simp at this
    · exact h3
  clear h3
  go_enter Try.func42, Try.ntmps42
  go_wp2_with (go_at_call 18; refine (l6In_any _ _ _ _).mono ?_; rintro e w' ⟨rfl, rfl⟩)
  go_loop [3] (fun i => ∃ k : Nat, k ≤ 8 ∧ i = .int .i64 k ∧ (xs.take k).all hsB = true) (fun i => 8 - (intOf i).toNat)
  case atStart => exact ⟨0, Nat.zero_le _, rfl, rfl⟩
  case round =>
    obtain ⟨k, hk, rfl, hall⟩ := hrel
    have HA := hide hall
    clear hall
    by_cases hlt : k < 8
    · have c0 := hc.kept bA k hlt
      generalize hx : xs.getD k 0 = x at c0
      have HX := hide hx
      clear hx
      cases hxh : inB x 0 2
      · have HXH := hide hxh
        go_wp2_with (go_at_call 18; refine (l6In_any _ _ _ _).mono ?_; rintro e w' ⟨rfl, rfl⟩)
        go_ret
        refine ⟨ret_bool ?_, bA⟩
        exact (mapOk_no3 (all_false_at (d := 0) (by rw [unhide HN]; exact hlt) (by rw [unhide HX]; exact unhide HXH))).symm
      · have HXH := hide hxh
        go_wp2_with (go_at_call 18; refine (l6In_any _ _ _ _).mono ?_; rintro e w' ⟨rfl, rfl⟩)
        go_round
        case rel => exact ⟨k + 1, hlt, by go_num, all_take_step (d := 0) (unhide HA) (by rw [unhide HN]; exact hlt) (by rw [unhide HX]; exact unhide HXH)⟩
        case measure => simp [intOf]; omega
    · go_wp2
      go_ret
      obtain rfl : k = 8 := by omega
      have h1 := unhide HA
      rw [List.take_of_length_le (by rw [unhide HN]; omega)] at h1
      exact ⟨ret_bool (mapOk_mk hv (unhide HN) h1).symm, bA⟩

end Go.Proofs.Ytpcbpliigplgoaa
