/- When books are ok: the specification's answer (what was said, and all). -/
import Derived.Test.YtpcbpliigplgoaaSdS
namespace Go.Proofs.Ytpcbpliigplgoaa
open Go.RowKit
attribute [local go_sem ↓] Go.wp_at_zero Go.wp_at_succ

theorem saidB_false {ss : List Sd} {i : Nat} (hi : i < ss.length) (h : sdAt ss i = false) : saidB ss = false := by
  rw [saidB, List.all_eq_false]; exact ⟨i, List.mem_range.2 hi, by rw [h]; simp⟩
theorem sdAt_1 {ss : List Sd} {i : Nat} (h : inB (ss.getD i Sd.z).ses 0 2 = false) : sdAt ss i = false := by simp only [sdAt, h, Bool.false_and]
theorem sdAt_2 {ss : List Sd} {i : Nat} (h : inB (ss.getD i Sd.z).num 1 99 = false) : sdAt ss i = false := by simp only [sdAt, h, Bool.and_false, Bool.false_and]
theorem sdAt_3 {ss : List Sd} {i : Nat} (h : inB (ss.getD i Sd.z).code 0 9 = false) : sdAt ss i = false := by simp only [sdAt, h, Bool.and_false, Bool.false_and]
theorem sdAt_4 {ss : List Sd} {i : Nat} (h : valsB (ss.getD i Sd.z).vals = false) : sdAt ss i = false := by simp only [sdAt, h, Bool.and_false, Bool.false_and]
theorem sdAt_zero {ss : List Sd} (h1 : inB (ss.getD 0 Sd.z).ses 0 2 = true) (h2 : inB (ss.getD 0 Sd.z).num 1 99 = true) (h3 : inB (ss.getD 0 Sd.z).code 0 9 = true) (h4 : valsB (ss.getD 0 Sd.z).vals = true) : sdAt ss 0 = true := by simp only [sdAt, h1, h2, h3, h4]; simp
theorem sdAt_up {ss : List Sd} {m : Nat} (h1 : inB (ss.getD (m + 1) Sd.z).ses 0 2 = true) (h2 : inB (ss.getD (m + 1) Sd.z).num 1 99 = true) (h3 : inB (ss.getD (m + 1) Sd.z).code 0 9 = true) (h4 : valsB (ss.getD (m + 1) Sd.z).vals = true) (h : ¬ (ss.getD (m + 1) Sd.z).ses ≤ (ss.getD m Sd.z).ses) : sdAt ss (m + 1) = true := by
  simp only [sdAt, h1, h2, h3, h4, Nat.add_sub_cancel, decide_eq_false h]; simp
theorem sdAt_down {ss : List Sd} {m : Nat} (h : (ss.getD (m + 1) Sd.z).ses ≤ (ss.getD m Sd.z).ses) : sdAt ss (m + 1) = false := by
  have : decide (0 < m + 1) = true := by simp
  simp only [sdAt, Nat.add_sub_cancel, decide_eq_true h, this]; simp

set_option maxRecDepth 100000 in
set_option maxHeartbeats 4000000 in
theorem l3SaidOk_any (v : Value) (ss : List Sd) (w : World) (hv : SdsAt w v ss) :
    Calls Try.prog 44 #[v] w fun e w' => e = .returned (.bool (saidB ss)) ∧ Below w.heap.size w w' := by
  obtain ⟨a, cap, rfl, h1, h2, h3⟩ := hv
  generalize hN : ss.length = N at *
  have HN := hide hN
  clear hN
  unfold maxLen at h2
  go_enter Try.func44, Try.ntmps44
  go_wp2_with fail
  go_loopw [3] (fun i wr => ∃ k : Nat, k ≤ N ∧ i = .int .i64 k ∧ Below w.heap.size w wr ∧ (List.range k).all (sdAt ss) = true) (fun i _ => N - (intOf i).toNat)
  case atStart => exact ⟨0, Nat.zero_le _, rfl, Below.refl _ _, by simp⟩
  case round =>
    obtain ⟨k, hk, rfl, hb, htk⟩ := hrel
    have HT := hide htk
    clear htk
    by_cases hlt : k < N
    · obtain ⟨b, off, rfl, hc⟩ : ∃ b off, a = some ⟨b, off, none⟩ ∧ SdCells w b off N ss := by
        rcases h3 with h3 | h3
        · have := unhide HN; subst h3; simp at this; omega
        · exact h3
      clear h3
      have hcw := hc.kept hb
      obtain ⟨c0, c1, c2, cu, c3, c4⟩ := hcw k hlt
      generalize hx : ss.getD k Sd.z = x at *
      obtain ⟨ua, uc, rfl, -⟩ := c4.slice
      have HBA := hide (hb.alloc hb.size (.cells #[.int .i64 x.ses, .int .i64 x.num, .int .i64 x.code, .slice ua x.vals.length uc] 84))
      have HI := hide (c4.kept ((Below.refl wr.heap.size wr).alloc (Nat.le_refl _) (.cells #[.int .i64 x.ses, .int .i64 x.num, .int .i64 x.code, .slice ua x.vals.length uc] 84)))
      have hkI : (k : Int) < (N : Int) := by omega
      have HHX := hide hx
      have HCW := hide hcw
      have hlb : b < wr.heap.size := lt_of_cell c0
      generalize x.vals.length = xl at *
      clear hx hc hcw c4
      cases t1 : inB x.ses 0 2
      · have HF : Hid (saidB ss = false) := saidB_false (by rw [unhide HN]; exact hlt) (sdAt_1 (by rw [unhide HHX]; exact t1))
        go_wp2_with fail
        go_quiet ((first | (go_at_call 18; exact Calls.quiet_of_same (l6In_any _ _ _ _)) | (go_at_call 22; exact Calls.quiet_of_same (l3Vals_any _ x.vals _ (by first | exact unhide HI | exact (unhide HI).kept ((Below.refl _ _).drew))))))
        go_wp2_with fail
        go_ret
        exact ⟨ret_bool (unhide HF).symm, below_drewN (unhide HBA) _⟩
      cases t2 : inB x.num 1 99
      · have HF : Hid (saidB ss = false) := saidB_false (by rw [unhide HN]; exact hlt) (sdAt_2 (by rw [unhide HHX]; exact t2))
        go_wp2_with fail
        go_quiet ((first | (go_at_call 18; exact Calls.quiet_of_same (l6In_any _ _ _ _)) | (go_at_call 22; exact Calls.quiet_of_same (l3Vals_any _ x.vals _ (by first | exact unhide HI | exact (unhide HI).kept ((Below.refl _ _).drew))))))
        go_wp2_with fail
        go_ret
        exact ⟨ret_bool (unhide HF).symm, below_drewN (unhide HBA) _⟩
      cases t3 : inB x.code 0 9
      · have HF : Hid (saidB ss = false) := saidB_false (by rw [unhide HN]; exact hlt) (sdAt_3 (by rw [unhide HHX]; exact t3))
        go_wp2_with fail
        go_quiet ((first | (go_at_call 18; exact Calls.quiet_of_same (l6In_any _ _ _ _)) | (go_at_call 22; exact Calls.quiet_of_same (l3Vals_any _ x.vals _ (by first | exact unhide HI | exact (unhide HI).kept ((Below.refl _ _).drew))))))
        go_wp2_with fail
        go_ret
        exact ⟨ret_bool (unhide HF).symm, below_drewN (unhide HBA) _⟩
      cases t4 : valsB x.vals
      · have HF : Hid (saidB ss = false) := saidB_false (by rw [unhide HN]; exact hlt) (sdAt_4 (by rw [unhide HHX]; exact t4))
        go_wp2_with fail
        go_quiet ((first | (go_at_call 18; exact Calls.quiet_of_same (l6In_any _ _ _ _)) | (go_at_call 22; exact Calls.quiet_of_same (l3Vals_any _ x.vals _ (by first | exact unhide HI | exact (unhide HI).kept ((Below.refl _ _).drew))))))
        go_wp2_with fail
        go_ret
        exact ⟨ret_bool (unhide HF).symm, below_drewN (unhide HBA) _⟩
      rcases Nat.eq_zero_or_pos k with hk0 | hkp
      · have HF : Hid (sdAt ss k = true) := by
          have hx := unhide HHX
          show sdAt ss k = true
          rw [hk0] at hx ⊢; exact sdAt_zero (by rw [hx]; exact t1) (by rw [hx]; exact t2) (by rw [hx]; exact t3) (by rw [hx]; exact t4)
        have hkz : decide (0 < k) = false := by simp; omega
        clear hk0
        go_wp2_with fail
        go_quiet ((first | (go_at_call 18; exact Calls.quiet_of_same (l6In_any _ _ _ _)) | (go_at_call 22; exact Calls.quiet_of_same (l3Vals_any _ x.vals _ (by first | exact unhide HI | exact (unhide HI).kept ((Below.refl _ _).drew))))))
        go_wp2_with fail
        go_roundw
        case rel => exact ⟨k + 1, hlt, by go_num, below_drewN (unhide HBA) _, range_all_step (unhide HT) (unhide HF)⟩
        case measure => simp [intOf]; omega
      have hkp' : decide (0 < k) = true := by simp; omega
      obtain ⟨m, hkm⟩ : ∃ m, m + 1 = k := ⟨k - 1, by omega⟩
      obtain ⟨p0, -⟩ := (unhide HCW) m (by omega)
      generalize hy : ss.getD m Sd.z = y at p0
      have hwr : IntKind.i64.wrap ((k : Int) - 1) = (m : Int) := by rw [IntKind.wrap_i64]; omega
      have hm : (m : Int) < (N : Int) := by omega
      have hm0 : (0 : Int) ≤ (m : Int) := by omega
      by_cases hyx : x.ses ≤ y.ses
      · have HF : Hid (saidB ss = false) := saidB_false (by rw [unhide HN]; exact hlt) (by rw [← hkm]; exact sdAt_down (by rw [hkm, unhide HHX, hy]; exact hyx))
        clear hy hkm hkp
        go_wp2_with fail
        go_quiet ((first | (go_at_call 18; exact Calls.quiet_of_same (l6In_any _ _ _ _)) | (go_at_call 22; exact Calls.quiet_of_same (l3Vals_any _ x.vals _ (by first | exact unhide HI | exact (unhide HI).kept ((Below.refl _ _).drew))))))
        go_wp2_with fail
        go_ret
        exact ⟨ret_bool (unhide HF).symm, below_drewN (unhide HBA) _⟩
      · have HF : Hid (sdAt ss k = true) := by
          have hx := unhide HHX
          show sdAt ss k = true
          rw [← hkm] at hx ⊢; exact sdAt_up (by rw [hx]; exact t1) (by rw [hx]; exact t2) (by rw [hx]; exact t3) (by rw [hx]; exact t4) (by rw [hx, hy]; exact hyx)
        clear hy hkm hkp
        go_wp2_with fail
        go_quiet ((first | (go_at_call 18; exact Calls.quiet_of_same (l6In_any _ _ _ _)) | (go_at_call 22; exact Calls.quiet_of_same (l3Vals_any _ x.vals _ (by first | exact unhide HI | exact (unhide HI).kept ((Below.refl _ _).drew))))))
        go_wp2_with fail
        go_roundw
        case rel => exact ⟨k + 1, hlt, by go_num, below_drewN (unhide HBA) _, range_all_step (unhide HT) (unhide HF)⟩
        case measure => simp [intOf]; omega
    · go_wp2_with fail
      go_ret
      refine ⟨ret_bool ?_, hb⟩
      obtain rfl : k = N := by omega
      have h1 := unhide HT; have h2 := unhide HN
      simp only [saidB, h2, h1]

end Go.Proofs.Ytpcbpliigplgoaa
