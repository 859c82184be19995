/- Maps: the specification's answers. -/
import Derived.Test.YtapihjjklinbdaaMapM
import Derived.Laws.CopyOwn
import Derived.Deep.RegionLaw
namespace Go.Proofs.Ytapihjjklinbdaa
open Go.RowKit

theorem Try.infoI1 : (Try.prog.info? 3).map (fun i => (i.zero, i.size, i.bytes)) = some (some (.int .i64 0), 1, 8) := by kernel_rfl

set_option maxHeartbeats 400000 in
theorem specMapSlot_any (k : Int) (w : World) :
    Calls Try.prog 31 #[.int .i64 k] w fun e w' => e = .returned (.int .i64 (slotOf k)) ∧ w' = w := by
  cases hk : inB k 0 31
  · go_enter Try.func31, Try.ntmps31
    go_wp2_with (go_at_call 56; refine (l6In_any _ _ _ _).mono ?_; rintro e w' ⟨rfl, rfl⟩)
    go_ret
    exact ⟨ret_int (by simp [slotOf, keyB, hk]), rfl⟩
  · obtain ⟨b1, b2⟩ := keyB_bounds hk
    go_enter Try.func31, Try.ntmps31
    go_wp2_with (go_at_call 56; refine (l6In_any _ _ _ _).mono ?_; rintro e w' ⟨rfl, rfl⟩)
    go_ret
    exact ⟨ret_int (by simp [slotOf, keyB, hk]), rfl⟩

set_option maxHeartbeats 1000000 in
theorem specMapOk_any (v : Int) (u : Value) (xs : List Int) (w : World) (hu : InsAt w u xs) :
    Calls Try.prog 28 #[.agg #[.int .i64 v, u]] w fun e w' => e = .returned (.bool (mapOk v xs)) ∧ Below w.heap.size w w' := by
  obtain ⟨a, cap, rfl, h1, h2, h3⟩ := hu
  generalize hN : xs.length = N at *
  have HN := hide hN
  clear hN
  unfold maxLen at h2
  have bA : Below w.heap.size w (w.alloc (.cells #[.int .i64 v, .slice a N cap] 31)) := (Below.refl _ _).alloc (Nat.le_refl _) _
  cases hv : inB v 1 99
  · have HM := hide (mapOk_no1 (xs := xs) hv)
    go_enter Try.func28, Try.ntmps28
    go_wp2_with (go_at_call 56; refine (l6In_any _ _ _ _).mono ?_; rintro e w' ⟨rfl, rfl⟩)
    go_ret
    exact ⟨ret_bool (unhide HM).symm, bA⟩
  by_cases h8 : N = 8
  case neg =>
    have HM := hide (mapOk_no2 (v := v) (xs := xs) (by rw [unhide HN]; exact h8))
    have hne : ((N : Int) != 8) = true := by simp; omega
    go_enter Try.func28, Try.ntmps28
    go_wp2_with (go_at_call 56; refine (l6In_any _ _ _ _).mono ?_; rintro e w' ⟨rfl, rfl⟩)
    go_ret
    exact ⟨ret_bool (unhide HM).symm, bA⟩
  subst h8
  obtain ⟨b, off, rfl, hc⟩ : ∃ b off, a = some ⟨b, off, none⟩ ∧ InCells w b off 8 xs := by
    rcases h3 with h3 | h3
    · have := unhide HN; subst h3; simp at this
    · exact h3
  clear h3
  go_enter Try.func28, Try.ntmps28
  go_wp2_with (go_at_call 56; refine (l6In_any _ _ _ _).mono ?_; rintro e w' ⟨rfl, rfl⟩)
  go_loop [3] (fun i => ∃ k : Nat, k ≤ 8 ∧ i = .int .i64 k ∧ (xs.take k).all hsB = true) (fun i => 8 - (intOf i).toNat)
  case atStart => exact ⟨0, Nat.zero_le _, rfl, rfl⟩
  case round =>
    obtain ⟨k, hk, rfl, hall⟩ := hrel
    have HA := hide hall
    clear hall
    by_cases hlt : k < 8
    · have c0 := hc.kept bA k hlt
      generalize hx : xs.getD k 0 = x at c0
      have HX := hide hx
      clear hx
      cases hxh : inB x 0 2
      · have HXH := hide hxh
        go_wp2_with (go_at_call 56; refine (l6In_any _ _ _ _).mono ?_; rintro e w' ⟨rfl, rfl⟩)
        go_ret
        refine ⟨ret_bool ?_, bA⟩
        exact (mapOk_no3 (all_false_at (d := 0) (by rw [unhide HN]; exact hlt) (by rw [unhide HX]; exact unhide HXH))).symm
      · have HXH := hide hxh
        go_wp2_with (go_at_call 56; refine (l6In_any _ _ _ _).mono ?_; rintro e w' ⟨rfl, rfl⟩)
        go_round
        case rel => exact ⟨k + 1, hlt, by go_num, all_take_step (d := 0) (unhide HA) (by rw [unhide HN]; exact hlt) (by rw [unhide HX]; exact unhide HXH)⟩
        case measure => simp [intOf]; omega
    · go_wp2
      go_ret
      obtain rfl : k = 8 := by omega
      have h1 := unhide HA
      rw [List.take_of_length_le (by rw [unhide HN]; omega)] at h1
      exact ⟨ret_bool (mapOk_mk hv (unhide HN) h1).symm, bA⟩

set_option maxHeartbeats 1000000 in
theorem specMapHouse_any (v : Int) (u : Value) (xs : List Int) (k : Int) (w : World) (hu : InsAt w u xs) :
    Calls Try.prog 33 #[.agg #[.int .i64 v, u], .int .i64 k] w fun e w' => e = .returned (.int .i64 (houseOf v xs k)) ∧ Below w.heap.size w w' := by
  have HU := hide hu
  obtain ⟨a, cap, rfl, h1, h2, h3⟩ := hu
  generalize hN : xs.length = N at *
  have HN := hide hN
  clear hN
  unfold maxLen at h2
  have bA : Below w.heap.size w (w.alloc (.cells #[.int .i64 v, .slice a N cap] 31)) := (Below.refl _ _).alloc (Nat.le_refl _) _
  cases hm : mapOk v xs
  · have HM := hide hm
    go_enter Try.func33, Try.ntmps33
    go_wp2_with fail
    refine (specMapOk_any v _ xs _ ((unhide HU).kept bA)).mono ?_; rintro e w1 ⟨rfl, hb1⟩
    go_wp2_with fail
    go_ret
    exact ⟨ret_int (by simp [houseOf, unhide HM]), bA.trans (hb1.mono bA.size)⟩
  have hlen := mapOk_len hm
  rw [unhide HN] at hlen
  subst hlen
  obtain ⟨b, off, rfl, hc⟩ : ∃ b off, a = some ⟨b, off, none⟩ ∧ InCells w b off 8 xs := by
    rcases h3 with h3 | h3
    · have := unhide HN; subst h3; simp at this
    · exact h3
  clear h3
  cases hk : keyB k
  · have hsl : slotOf k = -1 := by simp [slotOf, hk]
    go_enter Try.func33, Try.ntmps33
    go_wp2_with fail
    refine (specMapOk_any v _ xs _ ((unhide HU).kept bA)).mono ?_; rintro e w1 ⟨rfl, hb1⟩
    go_wp2_with (go_at_call 31; refine (specMapSlot_any _ _).mono ?_; rintro e w' ⟨rfl, rfl⟩)
    go_ret
    exact ⟨ret_int (by simp [houseOf, hk]), bA.trans (hb1.mono bA.size)⟩
  · obtain ⟨b1, b2⟩ := keyB_bounds hk
    obtain ⟨K, rfl⟩ := Int.eq_ofNat_of_zero_le b1
    have hsl : slotOf (K : Int) = ((K * 8 / 32 : Nat) : Int) := by simp [slotOf, hk]
    have hQ : K * 8 / 32 < 8 := by omega
    generalize hq : K * 8 / 32 = Q at *
    have hq2 : ((K : Int) * 8 / 32).toNat = Q := by omega
    have HQ2 := hide hq2
    have hqi : (0 : Int) ≤ (Q : Int) := by omega
    have hqj : (Q : Int) < 8 := by omega
    clear hq hq2
    go_enter Try.func33, Try.ntmps33
    go_wp2_with fail
    refine (specMapOk_any v _ xs _ ((unhide HU).kept bA)).mono ?_; rintro e w1 ⟨rfl, hb1⟩
    have hbb := bA.trans (hb1.mono bA.size)
    have c0 := (hc.kept hbb) Q hQ
    have d1 : w1.cell? ⟨w.heap.size, 1, none⟩ = some (.slice (some ⟨b, off, none⟩) 8 cap) := (hb1.cell (p := ⟨w.heap.size, 1, none⟩) (by simp)).trans (by rw [World.cell?_alloc_at _ _ _ _ rfl]; rfl)
    generalize hx : xs.getD Q 0 = x at c0
    have HX := hide hx
    clear hx
    go_wp2_with (go_at_call 31; refine (specMapSlot_any _ _).mono ?_; rintro e w' ⟨rfl, rfl⟩)
    go_quiet ((go_at_call 31; exact Calls.quiet_of_same (specMapSlot_any _ _)))
    go_wp2
    go_ret
    refine ⟨ret_int ?_, below_drewN hbb _⟩
    have h1 := unhide HX; have h2 := unhide HQ2
    rw [← h1]; simp [houseOf, hk, hm, h2]

end Go.Proofs.Ytapihjjklinbdaa
