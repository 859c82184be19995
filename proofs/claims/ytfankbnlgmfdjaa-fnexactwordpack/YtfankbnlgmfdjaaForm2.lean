/- When pairs are in form: the program's answer. -/
import Derived.Test.YtfankbnlgmfdjaaForm
namespace Go.Proofs.Ytfankbnlgmfdjaa
open Go.RowKit
attribute [local go_sem ↓] Go.wp_at_zero Go.wp_at_succ

set_option maxHeartbeats 1000000 in
theorem pairsInForm_any (v : Value) (ps : List Pr) (w : World) (hv : PrsAt w v ps) :
    Calls Try.prog 48 #[v] w fun e w' => e = .returned (.bool (inForm ps)) ∧ Below w.heap.size w w' := by
  obtain ⟨a, cap, rfl, h1, h2, h3⟩ := hv
  generalize hN : ps.length = N at *
  have HN : Hid (ps.length = N) := hN
  clear hN
  unfold maxLen at h2
  by_cases hhi : (32 : Int) < N
  · go_enter Try.func48, Try.ntmps48
    go_wp2
    go_ret
    exact ⟨ret_bool (by have := HN.out; simp [inForm]; omega), Below.refl _ _⟩
  go_enter Try.func48, Try.ntmps48
  go_wp2
  go_loopw [10] (fun i wr => ∃ k : Nat, k ≤ N ∧ i = .int .i64 k ∧ Below w.heap.size w wr ∧ (List.range k).all (prAt ps) = true) (fun i _ => N - (intOf i).toNat)
  case atStart => exact ⟨0, Nat.zero_le _, rfl, Below.refl _ _, by simp⟩
  case round =>
    obtain ⟨k, hk, rfl, hb, htk⟩ := hrel
    have HT := hide htk
    clear htk
    by_cases hlt : k < N
    · obtain ⟨b, off, rfl, hc⟩ : ∃ b off, a = some ⟨b, off, none⟩ ∧ PrCells w b off N ps := by
        rcases h3 with h3 | h3
        · have := HN.out; subst h3; simp at this; omega
        · exact h3
      clear h3
      have hcw := hc.kept hb
      obtain ⟨c0, c1⟩ := hcw k hlt
      generalize hx : ps.getD k Pr.z = x at c0 c1
      cases t1 : keyB x.key
      · have HF : Hid (inForm ps = false) := inForm_false (by rw [HN.out]; exact hlt) (prAt_key (by rw [hx]; exact t1))
        clear hx hc hcw
        go_wp2_with (first | (go_at_call 84; refine (isKey_any _ _).mono ?_; rintro e w' ⟨rfl, rfl⟩) | (go_at_call 85; refine (isValue_any _ _).mono ?_; rintro e w' ⟨rfl, rfl⟩))
        go_ret
        refine ⟨ret_bool ?_, hb.alloc hb.size _⟩
        have h1 := unhide HF; rw [h1]
      cases t2 : valB x.val
      · have HF : Hid (inForm ps = false) := inForm_false (by rw [HN.out]; exact hlt) (prAt_val (by rw [hx]; exact t2))
        clear hx hc hcw
        go_wp2_with (first | (go_at_call 84; refine (isKey_any _ _).mono ?_; rintro e w' ⟨rfl, rfl⟩) | (go_at_call 85; refine (isValue_any _ _).mono ?_; rintro e w' ⟨rfl, rfl⟩))
        go_ret
        refine ⟨ret_bool ?_, hb.alloc hb.size _⟩
        have h1 := unhide HF; rw [h1]
      rcases Nat.eq_zero_or_pos k with hk0 | hkp
      · have HF : Hid (prAt ps k = true) := by rw [hk0] at hx ⊢; exact prAt_zero (by rw [hx]; exact t1) (by rw [hx]; exact t2)
        have hkz : decide (0 < k) = false := by simp; omega
        clear hx hc hcw hk0
        go_wp2_with (first | (go_at_call 84; refine (isKey_any _ _).mono ?_; rintro e w' ⟨rfl, rfl⟩) | (go_at_call 85; refine (isValue_any _ _).mono ?_; rintro e w' ⟨rfl, rfl⟩))
        go_quiet (fail)
        go_wp2
        go_roundw
        case rel => exact ⟨k + 1, hlt, by go_num, below_drewN (hb.alloc hb.size _) _, range_all_step (unhide HT) (unhide HF)⟩
        case measure => simp [intOf]; omega
      have hkp' : decide (0 < k) = true := by simp; omega
      obtain ⟨m, hkm⟩ : ∃ m, m + 1 = k := ⟨k - 1, by omega⟩
      obtain ⟨p0, p1⟩ := hcw m (by omega)
      generalize hy : ps.getD m Pr.z = y at p0 p1
      have hwr : IntKind.i64.wrap ((k : Int) - 1) = (m : Int) := by rw [IntKind.wrap_i64]; omega
      have hm : (m : Int) < (N : Int) := by omega
      have hm0 : (0 : Int) ≤ (m : Int) := by omega
      have hbn := lt_of_cell p0
      have hbn' : b < wr.heap.size := hbn
      clear hbn
      by_cases hyx : x.key ≤ y.key
      · have HF : Hid (inForm ps = false) := inForm_false (by rw [HN.out]; exact hlt) (by rw [← hkm]; exact prAt_down (by rw [hkm, hx, hy]; exact hyx))
        clear hx hy hc hcw hkm hkp
        go_wp2_with (first | (go_at_call 84; refine (isKey_any _ _).mono ?_; rintro e w' ⟨rfl, rfl⟩) | (go_at_call 85; refine (isValue_any _ _).mono ?_; rintro e w' ⟨rfl, rfl⟩))
        go_quiet (fail)
        go_wp2
        go_ret
        refine ⟨ret_bool ?_, below_drewN (hb.alloc hb.size _) _⟩
        have h1 := unhide HF; rw [h1]
      · have HF : Hid (prAt ps k = true) := by rw [← hkm]; exact prAt_up (by rw [hkm, hx]; exact t1) (by rw [hkm, hx]; exact t2) (by rw [hkm, hx, hy]; exact hyx)
        clear hx hy hc hcw hkm hkp
        go_wp2_with (first | (go_at_call 84; refine (isKey_any _ _).mono ?_; rintro e w' ⟨rfl, rfl⟩) | (go_at_call 85; refine (isValue_any _ _).mono ?_; rintro e w' ⟨rfl, rfl⟩))
        go_quiet (fail)
        go_wp2
        go_roundw
        case rel => exact ⟨k + 1, hlt, by go_num, below_drewN (hb.alloc hb.size _) _, range_all_step (unhide HT) (unhide HF)⟩
        case measure => simp [intOf]; omega
    · go_wp2
      go_ret
      refine ⟨ret_bool ?_, hb⟩
      obtain rfl : k = N := by omega
      have h1 := unhide HT; have h2 := HN.out
      simp only [inForm, h2, h1]; simp; omega

end Go.Proofs.Ytfankbnlgmfdjaa
