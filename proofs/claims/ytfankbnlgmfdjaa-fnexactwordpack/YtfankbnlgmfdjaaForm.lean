/- When pairs are in form: the specification's answer and the program's. -/
import Derived.Test.YtfankbnlgmfdjaaPrs3
import Derived.Deep.DrawnRows
namespace Go.Proofs.Ytfankbnlgmfdjaa
open Go.RowKit
attribute [local go_sem ↓] Go.wp_at_zero Go.wp_at_succ

/-- Pair i stands rightly behind the one ahead of it. -/
def prAt (ps : List Pr) (i : Nat) : Bool := inB (ps.getD i Pr.z).key 0 31 && valB (ps.getD i Pr.z).val && !(decide (0 < i) && decide ((ps.getD i Pr.z).key ≤ (ps.getD (i - 1) Pr.z).key))
def inForm (ps : List Pr) : Bool := decide (ps.length ≤ 32) && (List.range ps.length).all (prAt ps)

theorem inForm_false {ps : List Pr} {i : Nat} (hi : i < ps.length) (h : prAt ps i = false) : inForm ps = false := by
  have : (List.range ps.length).all (prAt ps) = false := by
    rw [List.all_eq_false]; exact ⟨i, List.mem_range.2 hi, by rw [h]; simp⟩
  simp [inForm, this]

theorem range_all_step {n : Nat} {p : Nat → Bool} (h : (List.range n).all p = true) (e : p n = true) : (List.range (n + 1)).all p = true := by
  rw [List.range_succ, List.all_append, h, List.all_cons, e]; rfl

theorem prAt_key {ps : List Pr} {i : Nat} (h : inB (ps.getD i Pr.z).key 0 31 = false) : prAt ps i = false := by simp only [prAt, h, Bool.false_and]
theorem prAt_val {ps : List Pr} {i : Nat} (h : valB (ps.getD i Pr.z).val = false) : prAt ps i = false := by simp only [prAt, h, Bool.and_false, Bool.false_and]
theorem prAt_zero {ps : List Pr} (h1 : inB (ps.getD 0 Pr.z).key 0 31 = true) (h2 : valB (ps.getD 0 Pr.z).val = true) : prAt ps 0 = true := by simp only [prAt, h1, h2]; simp
theorem prAt_up {ps : List Pr} {m : Nat} (h1 : inB (ps.getD (m + 1) Pr.z).key 0 31 = true) (h2 : valB (ps.getD (m + 1) Pr.z).val = true) (h : ¬ (ps.getD (m + 1) Pr.z).key ≤ (ps.getD m Pr.z).key) : prAt ps (m + 1) = true := by
  simp only [prAt, h1, h2, Nat.add_sub_cancel, decide_eq_false h]; simp
theorem prAt_down {ps : List Pr} {m : Nat} (h : (ps.getD (m + 1) Pr.z).key ≤ (ps.getD m Pr.z).key) : prAt ps (m + 1) = false := by
  have : decide (0 < m + 1) = true := by simp
  simp only [prAt, Nat.add_sub_cancel, decide_eq_true h, this]; simp

set_option maxHeartbeats 1000000 in
theorem l1Pairs_any (v : Value) (ps : List Pr) (w : World) (hv : PrsAt w v ps) :
    Calls Try.prog 34 #[v] w fun e w' => e = .returned (.bool (inForm ps)) ∧ Below w.heap.size w w' := by
  obtain ⟨a, cap, rfl, h1, h2, h3⟩ := hv
  generalize hN : ps.length = N at *
  have HN : Hid (ps.length = N) := hN
  clear hN
  unfold maxLen at h2
  by_cases hhi : (32 : Int) < N
  · go_enter Try.func34, Try.ntmps34
    go_wp2
    go_ret
    exact ⟨ret_bool (by have := HN.out; simp [inForm]; omega), Below.refl _ _⟩
  go_enter Try.func34, Try.ntmps34
  go_wp2
  go_loopw [3] (fun i wr => ∃ k : Nat, k ≤ N ∧ i = .int .i64 k ∧ Below w.heap.size w wr ∧ (List.range k).all (prAt ps) = true) (fun i _ => N - (intOf i).toNat)
  case atStart => exact ⟨0, Nat.zero_le _, rfl, Below.refl _ _, by simp⟩
  case round =>
    obtain ⟨k, hk, rfl, hb, htk⟩ := hrel
    have HT := hide htk
    clear htk
    by_cases hlt : k < N
    · obtain ⟨b, off, rfl, hc⟩ : ∃ b off, a = some ⟨b, off, none⟩ ∧ PrCells w b off N ps := by
        rcases h3 with h3 | h3
        · have := HN.out; subst h3; simp at this; omega
        · exact h3
      clear h3
      have hcw := hc.kept hb
      obtain ⟨c0, c1⟩ := hcw k hlt
      generalize hx : ps.getD k Pr.z = x at c0 c1
      cases t1 : inB x.key 0 31
      · have HF : Hid (inForm ps = false) := inForm_false (by rw [HN.out]; exact hlt) (prAt_key (by rw [hx]; exact t1))
        clear hx hc hcw
        go_wp2
        go_quiet ((first | (go_at_call 31; exact Calls.quiet_of_same (l6In_any _ _ _ _)) | (go_at_call 77; exact Calls.quiet_of_same (l1Val_any _ _))))
        go_wp2
        go_ret
        refine ⟨ret_bool ?_, below_drewN hb _⟩
        have h1 := unhide HF; rw [h1]
      cases t2 : valB x.val
      · have HF : Hid (inForm ps = false) := inForm_false (by rw [HN.out]; exact hlt) (prAt_val (by rw [hx]; exact t2))
        clear hx hc hcw
        go_wp2
        go_quiet ((first | (go_at_call 31; exact Calls.quiet_of_same (l6In_any _ _ _ _)) | (go_at_call 77; exact Calls.quiet_of_same (l1Val_any _ _))))
        go_wp2
        go_ret
        refine ⟨ret_bool ?_, below_drewN hb _⟩
        have h1 := unhide HF; rw [h1]
      rcases Nat.eq_zero_or_pos k with hk0 | hkp
      · have HF : Hid (prAt ps k = true) := by rw [hk0] at hx ⊢; exact prAt_zero (by rw [hx]; exact t1) (by rw [hx]; exact t2)
        have hkz : decide (0 < k) = false := by simp; omega
        clear hx hc hcw hk0
        go_wp2
        go_quiet ((first | (go_at_call 31; exact Calls.quiet_of_same (l6In_any _ _ _ _)) | (go_at_call 77; exact Calls.quiet_of_same (l1Val_any _ _))))
        go_wp2
        go_roundw
        case rel => exact ⟨k + 1, hlt, by go_num, below_drewN hb _, range_all_step (unhide HT) (unhide HF)⟩
        case measure => simp [intOf]; omega
      have hkp' : decide (0 < k) = true := by simp; omega
      obtain ⟨m, hkm⟩ : ∃ m, m + 1 = k := ⟨k - 1, by omega⟩
      obtain ⟨p0, p1⟩ := hcw m (by omega)
      generalize hy : ps.getD m Pr.z = y at p0 p1
      have hwr : IntKind.i64.wrap ((k : Int) - 1) = (m : Int) := by rw [IntKind.wrap_i64]; omega
      have hm : (m : Int) < (N : Int) := by omega
      have hm0 : (0 : Int) ≤ (m : Int) := by omega
      by_cases hyx : x.key ≤ y.key
      · have HF : Hid (inForm ps = false) := inForm_false (by rw [HN.out]; exact hlt) (by rw [← hkm]; exact prAt_down (by rw [hkm, hx, hy]; exact hyx))
        clear hx hy hc hcw hkm hkp
        go_wp2
        go_quiet ((first | (go_at_call 31; exact Calls.quiet_of_same (l6In_any _ _ _ _)) | (go_at_call 77; exact Calls.quiet_of_same (l1Val_any _ _))))
        go_wp2
        go_ret
        refine ⟨ret_bool ?_, below_drewN hb _⟩
        have h1 := unhide HF; rw [h1]
      · have HF : Hid (prAt ps k = true) := by rw [← hkm]; exact prAt_up (by rw [hkm, hx]; exact t1) (by rw [hkm, hx]; exact t2) (by rw [hkm, hx, hy]; exact hyx)
        clear hx hy hc hcw hkm hkp
        go_wp2
        go_quiet ((first | (go_at_call 31; exact Calls.quiet_of_same (l6In_any _ _ _ _)) | (go_at_call 77; exact Calls.quiet_of_same (l1Val_any _ _))))
        go_wp2
        go_roundw
        case rel => exact ⟨k + 1, hlt, by go_num, below_drewN hb _, range_all_step (unhide HT) (unhide HF)⟩
        case measure => simp [intOf]; omega
    · go_wp2
      go_ret
      refine ⟨ret_bool ?_, hb⟩
      obtain rfl : k = N := by omega
      have h1 := unhide HT; have h2 := HN.out
      simp only [inForm, h2, h1]; simp; omega

end Go.Proofs.Ytfankbnlgmfdjaa
