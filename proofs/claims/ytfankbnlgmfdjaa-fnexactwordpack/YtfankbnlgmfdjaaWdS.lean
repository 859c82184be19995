/- When a word is ok: the specification's answer (its parts). -/
import Derived.Test.YtfankbnlgmfdjaaWd
namespace Go.Proofs.Ytfankbnlgmfdjaa
open Go.RowKit

set_option maxHeartbeats 400000 in
theorem l12House_any (n : Int) (w : World) :
    Calls Try.prog 76 #[.int .i64 n] w fun e w' => e = .returned (.bool (hsB n)) ∧ w' = w := by
  go_enter Try.func76, Try.ntmps76
  go_wp2_with (go_at_call 31; refine (l6In_any _ _ _ _).mono ?_; rintro e w' ⟨rfl, rfl⟩)
  go_ret
  exact ⟨rfl, rfl⟩

set_option maxHeartbeats 400000 in
theorem l12Place_any (n : Int) (w : World) :
    Calls Try.prog 32 #[.int .i64 n] w fun e w' => e = .returned (.bool (placeB n)) ∧ w' = w := by
  cases t1 : hsB n <;> cases t2 : (n == 9) <;> cases t3 : inB n 100 102
  all_goals
    go_enter Try.func32, Try.ntmps32
    go_wp2_with (first | (go_at_call 76; refine (l12House_any _ _).mono ?_; rintro e w' ⟨rfl, rfl⟩) | (go_at_call 31; refine (l6In_any _ _ _ _).mono ?_; rintro e w' ⟨rfl, rfl⟩))
    go_ret
    exact ⟨ret_bool (by simp only [placeB, t1, t2, t3]; try rfl), rfl⟩

set_option maxHeartbeats 1000000 in
theorem l12Slots_any (v : Value) (xs : List Int) (w : World) (hv : InsAt w v xs) :
    Calls Try.prog 33 #[v] w fun e w' => e = .returned (.bool (slotsB xs)) ∧ Below w.heap.size w w' := by
  obtain ⟨a, cap, rfl, h1, h2, h3⟩ := hv
  generalize hN : xs.length = N at *
  have HN := hide hN
  clear hN
  unfold maxLen at h2
  go_enter Try.func33, Try.ntmps33
  go_wp2
  go_loopw [3] (fun i wr => ∃ k : Nat, k ≤ N ∧ i = .int .i64 k ∧ Below w.heap.size w wr ∧ (List.range k).all (slAt xs) = true) (fun i _ => N - (intOf i).toNat)
  case atStart => exact ⟨0, Nat.zero_le _, rfl, Below.refl _ _, by simp⟩
  case round =>
    obtain ⟨k, hk, rfl, hb, htk⟩ := hrel
    have HT := hide htk
    clear htk
    by_cases hlt : k < N
    · obtain ⟨b, off, rfl, hc⟩ : ∃ b off, a = some ⟨b, off, none⟩ ∧ InCells w b off N xs := by
        rcases h3 with h3 | h3
        · have := unhide HN; subst h3; simp at this; omega
        · exact h3
      clear h3
      have hcw := hc.kept hb
      have c0 := hcw k hlt
      generalize hx : xs.getD k 0 = x at c0
      cases t1 : inB x 0 7
      · have HF : Hid (slotsB xs = false) := slotsB_false (by rw [unhide HN]; exact hlt) (slAt_in (by rw [hx]; exact t1))
        clear hx hc hcw
        go_wp2
        go_quiet ((first | (go_at_call 31; exact Calls.quiet_of_same (l6In_any _ _ _ _))))
        go_wp2
        go_ret
        refine ⟨ret_bool ?_, below_drewN hb _⟩
        have h1 := unhide HF; rw [h1]
      rcases Nat.eq_zero_or_pos k with hk0 | hkp
      · have HF : Hid (slAt xs k = true) := by rw [hk0] at hx ⊢; exact slAt_zero (by rw [hx]; exact t1)
        have hkz : decide (0 < k) = false := by simp; omega
        clear hx hc hcw hk0
        go_wp2
        go_quiet ((first | (go_at_call 31; exact Calls.quiet_of_same (l6In_any _ _ _ _))))
        go_wp2
        go_roundw
        case rel => exact ⟨k + 1, hlt, by go_num, below_drewN hb _, range_all_step (unhide HT) (unhide HF)⟩
        case measure => simp [intOf]; omega
      have hkp' : decide (0 < k) = true := by simp; omega
      obtain ⟨m, hkm⟩ : ∃ m, m + 1 = k := ⟨k - 1, by omega⟩
      have p0 := hcw m (by omega)
      generalize hy : xs.getD m 0 = y at p0
      have hwr : IntKind.i64.wrap ((k : Int) - 1) = (m : Int) := by rw [IntKind.wrap_i64]; omega
      have hm : (m : Int) < (N : Int) := by omega
      have hm0 : (0 : Int) ≤ (m : Int) := by omega
      by_cases hyx : x ≤ y
      · have HF : Hid (slotsB xs = false) := slotsB_false (by rw [unhide HN]; exact hlt) (by rw [← hkm]; exact slAt_down (by rw [hkm, hx, hy]; exact hyx))
        clear hx hy hc hcw hkm hkp
        go_wp2
        go_quiet ((first | (go_at_call 31; exact Calls.quiet_of_same (l6In_any _ _ _ _))))
        go_wp2
        go_ret
        refine ⟨ret_bool ?_, below_drewN hb _⟩
        have h1 := unhide HF; rw [h1]
      · have HF : Hid (slAt xs k = true) := by rw [← hkm]; exact slAt_up (by rw [hkm, hx]; exact t1) (by rw [hkm, hx, hy]; exact hyx)
        clear hx hy hc hcw hkm hkp
        go_wp2
        go_quiet ((first | (go_at_call 31; exact Calls.quiet_of_same (l6In_any _ _ _ _))))
        go_wp2
        go_roundw
        case rel => exact ⟨k + 1, hlt, by go_num, below_drewN hb _, range_all_step (unhide HT) (unhide HF)⟩
        case measure => simp [intOf]; omega
    · go_wp2
      go_ret
      refine ⟨ret_bool ?_, hb⟩
      obtain rfl : k = N := by omega
      have h1 := unhide HT; have h2 := unhide HN
      simp only [slotsB, h2, h1]

end Go.Proofs.Ytfankbnlgmfdjaa
