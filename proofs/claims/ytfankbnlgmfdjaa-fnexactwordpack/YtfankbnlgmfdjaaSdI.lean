/- When books are ok: the program's answer. -/
import Derived.Test.YtfankbnlgmfdjaaSdS2
namespace Go.Proofs.Ytfankbnlgmfdjaa
open Go.RowKit
attribute [local go_sem ↓] Go.wp_at_zero Go.wp_at_succ

set_option maxHeartbeats 400000 in
theorem isCode_any (n : Int) (w : World) :
    Calls Try.prog 49 #[.int .i64 n] w fun e w' => e = .returned (.bool (inB n 0 9)) ∧ w' = w := by
  by_cases h1 : 0 ≤ n <;> by_cases h2 : n ≤ 9
  all_goals
    go_enter Try.func49, Try.ntmps49
    go_wp2
    go_ret
    exact ⟨by simp [inB, h1, h2], rfl⟩

set_option maxHeartbeats 1000000 in
theorem valsOk_any (v : Value) (xs : List Int) (w : World) (hv : InsAt w v xs) :
    Calls Try.prog 50 #[v] w fun e w' => e = .returned (.bool (valsB xs)) ∧ w' = w := by
  obtain ⟨a, cap, rfl, h1, h2, h3⟩ := hv
  generalize hN : xs.length = N at *
  have HN := hide hN
  clear hN
  unfold maxLen at h2
  by_cases hhi : (6 : Int) < N
  · go_enter Try.func50, Try.ntmps50
    go_wp2
    go_ret
    exact ⟨ret_bool (by have := unhide HN; simp [valsB]; omega), rfl⟩
  go_enter Try.func50, Try.ntmps50
  go_wp2
  go_loopw [10] (fun i wr => ∃ k : Nat, k ≤ N ∧ i = .int .i64 k ∧ wr = w ∧ (xs.take k).all valB = true) (fun i _ => N - (intOf i).toNat)
  case atStart => exact ⟨0, Nat.zero_le _, rfl, rfl, by simp⟩
  case round =>
    obtain ⟨k, hk, rfl, rfl, htk⟩ := hrel
    have HT := hide htk
    clear htk
    by_cases hlt : k < N
    · obtain ⟨b, off, rfl, hc⟩ : ∃ b off, a = some ⟨b, off, none⟩ ∧ InCells wr b off N xs := by
        rcases h3 with h3 | h3
        · have := unhide HN; subst h3; simp at this; omega
        · exact h3
      have c0 := hc k hlt
      generalize hx : xs.getD k 0 = x at c0
      have HX := hide hx
      clear h3 hc hx
      go_wp2_with fail
      refine (isValue_any x _).mono ?_; rintro e w' ⟨rfl, rfl⟩
      cases t1 : valB x
      · go_wp2_with fail
        go_ret
        refine ⟨ret_bool ?_, rfl⟩
        have := all_getD_false (p := valB) (d := (0 : Int)) (by rw [unhide HN]; exact hlt) (by rw [unhide HX]; exact t1)
        simp [valsB, this]
      · go_wp2_with fail
        go_roundw
        case rel => exact ⟨k + 1, hlt, by go_num, by trivial, all_takeD (d := (0 : Int)) (unhide HT) (by rw [unhide HN]; exact hlt) (by rw [unhide HX]; exact t1)⟩
        case measure => simp [intOf]; omega
    · go_wp2
      go_ret
      obtain rfl : k = N := by omega
      refine ⟨ret_bool ?_, rfl⟩
      have h4 := unhide HT
      rw [List.take_of_length_le (by rw [unhide HN]; omega)] at h4
      have := unhide HN
      simp only [valsB, h4]; simp; omega

end Go.Proofs.Ytfankbnlgmfdjaa
