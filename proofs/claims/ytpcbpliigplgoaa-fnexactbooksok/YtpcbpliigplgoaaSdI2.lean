/- When books are ok: the program's answer (the store, what was said, and all). -/
import Derived.Test.YtpcbpliigplgoaaSdI
namespace Go.Proofs.Ytpcbpliigplgoaa
open Go.RowKit
attribute [local go_sem ↓] Go.wp_at_zero Go.wp_at_succ

set_option maxHeartbeats 1000000 in
theorem storeOk_any (v : Value) (ps : List Pr) (w : World) (hv : PrsAt w v ps) :
    Calls Try.prog 48 #[v] w fun e w' => e = .returned (.bool (storeB ps)) ∧ Below w.heap.size w w' := by
  have HV := hide hv
  obtain ⟨a, cap, rfl, h1, h2, h3⟩ := hv
  generalize hN : ps.length = N at *
  have HN := hide hN
  clear hN
  unfold maxLen at h2
  go_enter Try.func48, Try.ntmps48
  go_wp2_with fail
  refine (pairsInForm_any _ ps _ (unhide HV)).mono ?_; rintro e w1 ⟨rfl, hb1⟩
  cases t0 : inForm ps
  · go_wp2_with fail
    go_ret
    exact ⟨ret_bool (by simp only [storeB, t0, Bool.and_false]), hb1⟩
  have HB1 := hide hb1
  clear hb1
  go_wp2_with fail
  go_loopw [10] (fun i wr => ∃ k : Nat, k ≤ N ∧ i = .int .i64 k ∧ Below w.heap.size w wr ∧ (ps.take k).all (fun p => !(p.val == 0)) = true) (fun i _ => N - (intOf i).toNat)
  case atStart => exact ⟨0, Nat.zero_le _, rfl, unhide HB1, by simp⟩
  case round =>
    obtain ⟨k, hk, rfl, hb, htk⟩ := hrel
    have HT := hide htk
    clear htk
    by_cases hlt : k < N
    · obtain ⟨b, off, rfl, hc⟩ : ∃ b off, a = some ⟨b, off, none⟩ ∧ PrCells w b off N ps := by
        rcases h3 with h3 | h3
        · have := unhide HN; subst h3; simp at this; omega
        · exact h3
      obtain ⟨c0, c1⟩ := (hc.kept hb) k hlt
      generalize hx : ps.getD k Pr.z = x at c0 c1
      have HX := hide hx
      have HBA := hide (hb.alloc hb.size (.cells #[.int .i64 x.key, .int .i64 x.val] 75))
      have hkI : (k : Int) < (N : Int) := by omega
      clear h3 hc hx hb
      cases t1 : (x.val == 0)
      · go_wp2_with fail
        go_roundw
        case rel => exact ⟨k + 1, hlt, by go_num, unhide HBA, all_takeD (d := Pr.z) (unhide HT) (by rw [unhide HN]; exact hlt) (by rw [unhide HX, t1]; rfl)⟩
        case measure => simp [intOf]; omega
      · go_wp2_with fail
        go_ret
        refine ⟨ret_bool ?_, unhide HBA⟩
        have := all_getD_false (p := fun p : Pr => !(p.val == 0)) (d := Pr.z) (by rw [unhide HN]; exact hlt) (by rw [unhide HX, t1]; rfl)
        simp only [storeB, nzB, this, Bool.false_and]
    · go_wp2_with fail
      go_ret
      obtain rfl : k = N := by omega
      refine ⟨ret_bool ?_, hb⟩
      have h4 := unhide HT
      rw [List.take_of_length_le (by rw [unhide HN]; omega)] at h4
      simp only [storeB, nzB, h4, t0, Bool.true_and]

set_option maxRecDepth 100000 in
set_option maxHeartbeats 4000000 in
theorem saidOk_any (v : Value) (ss : List Sd) (w : World) (hv : SdsAt w v ss) :
    Calls Try.prog 49 #[v] w fun e w' => e = .returned (.bool (saidB ss)) ∧ Below w.heap.size w w' := by
  obtain ⟨a, cap, rfl, h1, h2, h3⟩ := hv
  generalize hN : ss.length = N at *
  have HN := hide hN
  clear hN
  unfold maxLen at h2
  go_enter Try.func49, Try.ntmps49
  go_wp2_with fail
  go_loopw [7] (fun i wr => ∃ k : Nat, k ≤ N ∧ i = .int .i64 k ∧ Below w.heap.size w wr ∧ (List.range k).all (sdAt ss) = true) (fun i _ => N - (intOf i).toNat)
  case atStart => exact ⟨0, Nat.zero_le _, rfl, Below.refl _ _, by simp⟩
  case round =>
    obtain ⟨k, hk, rfl, hb, htk⟩ := hrel
    have HT := hide htk
    clear htk
    by_cases hlt : k < N
    · obtain ⟨b, off, rfl, hc⟩ : ∃ b off, a = some ⟨b, off, none⟩ ∧ SdCells w b off N ss := by
        rcases h3 with h3 | h3
        · have := unhide HN; subst h3; simp at this; omega
        · exact h3
      clear h3
      have hcw := hc.kept hb
      obtain ⟨c0, c1, c2, cu, c3, c4⟩ := hcw k hlt
      generalize hx : ss.getD k Sd.z = x at *
      obtain ⟨ua, uc, rfl, -⟩ := c4.slice
      have HBA := hide (hb.alloc hb.size (.cells #[.int .i64 x.ses, .int .i64 x.num, .int .i64 x.code, .slice ua x.vals.length uc] 84))
      have HI := hide (c4.kept ((Below.refl wr.heap.size wr).alloc (Nat.le_refl _) (.cells #[.int .i64 x.ses, .int .i64 x.num, .int .i64 x.code, .slice ua x.vals.length uc] 84)))
      have hkI : (k : Int) < (N : Int) := by omega
      have HHX := hide hx
      have HCW := hide hcw
      have hlb : b < wr.heap.size := lt_of_cell c0
      generalize x.vals.length = xl at *
      clear hx hc hcw c4
      have HBAD := hide (fun (h : sdAt ss k = false) => saidB_false (ss := ss) (by rw [unhide HN]; exact hlt) h)
      cases t1 : inB x.ses 0 2
      · have HF : Hid (saidB ss = false) := unhide HBAD (sdAt_1 (by rw [unhide HHX]; exact t1))
        go_wp2_with fail
        go_quiet ((first | (go_at_call 66; exact Calls.quiet_of_same (isSession_any _ _))))
        go_wp2_with fail
        go_ret
        exact ⟨ret_bool (unhide HF).symm, below_drewN (unhide HBA) _⟩
      rcases Nat.eq_zero_or_pos k with hk0 | hkp
      · have HUP : Hid (inB x.num 1 99 = true → inB x.code 0 9 = true → valsB x.vals = true → sdAt ss k = true) := by
          have hx := unhide HHX
          show inB x.num 1 99 = true → inB x.code 0 9 = true → valsB x.vals = true → sdAt ss k = true
          intro t2 t3 t4
          rw [hk0] at hx ⊢; exact sdAt_zero (by rw [hx]; exact t1) (by rw [hx]; exact t2) (by rw [hx]; exact t3) (by rw [hx]; exact t4)
        have hkz : decide (0 < k) = false := by simp; omega
        clear hk0
        go_wp2_with fail
        go_quiet ((first | (go_at_call 66; exact Calls.quiet_of_same (isSession_any _ _))))
        go_wp2_with fail
        refine (isCallNumber_any _ _).mono ?_; rintro e w1 ⟨rfl, rfl⟩
        cases t2 : inB x.num 1 99
        · have HF : Hid (saidB ss = false) := unhide HBAD (sdAt_2 (by rw [unhide HHX]; exact t2))
          go_wp2_with fail
          go_ret
          exact ⟨ret_bool (unhide HF).symm, below_drewN (unhide HBA) _⟩
        go_wp2_with fail
        refine (isCode_any _ _).mono ?_; rintro e w3 ⟨rfl, rfl⟩
        cases t3 : inB x.code 0 9
        · have HF : Hid (saidB ss = false) := unhide HBAD (sdAt_3 (by rw [unhide HHX]; exact t3))
          go_wp2_with fail
          go_ret
          exact ⟨ret_bool (unhide HF).symm, below_drewN (unhide HBA) _⟩
        go_wp2_with fail
        refine (valsOk_any _ x.vals _ ((unhide HI).kept (below_drewN (Below.refl _ _) _))).mono ?_; rintro e w2 ⟨rfl, rfl⟩
        cases t4 : valsB x.vals
        · have HF : Hid (saidB ss = false) := unhide HBAD (sdAt_4 (by rw [unhide HHX]; exact t4))
          go_wp2_with fail
          go_ret
          exact ⟨ret_bool (unhide HF).symm, below_drewN (unhide HBA) _⟩
        have HF : Hid (sdAt ss k = true) := unhide HUP t2 t3 t4
        go_wp2_with fail
        go_roundw
        case rel => exact ⟨k + 1, hlt, by go_num, below_drewN (unhide HBA) _, range_all_step (unhide HT) (unhide HF)⟩
        case measure => simp [intOf]; omega
      have hkp' : decide (0 < k) = true := by simp; omega
      obtain ⟨m, hkm⟩ : ∃ m, m + 1 = k := ⟨k - 1, by omega⟩
      obtain ⟨p0, -⟩ := (unhide HCW) m (by omega)
      generalize hy : ss.getD m Sd.z = y at p0
      have hwr : IntKind.i64.wrap ((k : Int) - 1) = (m : Int) := by rw [IntKind.wrap_i64]; omega
      have hm : (m : Int) < (N : Int) := by omega
      have hm0 : (0 : Int) ≤ (m : Int) := by omega
      by_cases hyx : x.ses ≤ y.ses
      · have HF : Hid (saidB ss = false) := unhide HBAD (by rw [← hkm]; exact sdAt_down (by rw [hkm, unhide HHX, hy]; exact hyx))
        clear hy hkm hkp
        go_wp2_with fail
        go_quiet ((first | (go_at_call 66; exact Calls.quiet_of_same (isSession_any _ _))))
        go_wp2_with fail
        go_ret
        exact ⟨ret_bool (unhide HF).symm, below_drewN (unhide HBA) _⟩
      · have HUP : Hid (inB x.num 1 99 = true → inB x.code 0 9 = true → valsB x.vals = true → sdAt ss k = true) := by
          have hx := unhide HHX
          show inB x.num 1 99 = true → inB x.code 0 9 = true → valsB x.vals = true → sdAt ss k = true
          intro t2 t3 t4
          rw [← hkm] at hx ⊢; exact sdAt_up (by rw [hx]; exact t1) (by rw [hx]; exact t2) (by rw [hx]; exact t3) (by rw [hx]; exact t4) (by rw [hx, hy]; exact hyx)
        clear hy hkm hkp
        go_wp2_with fail
        go_quiet ((first | (go_at_call 66; exact Calls.quiet_of_same (isSession_any _ _))))
        go_wp2_with fail
        refine (isCallNumber_any _ _).mono ?_; rintro e w1 ⟨rfl, rfl⟩
        cases t2 : inB x.num 1 99
        · have HF : Hid (saidB ss = false) := unhide HBAD (sdAt_2 (by rw [unhide HHX]; exact t2))
          go_wp2_with fail
          go_ret
          exact ⟨ret_bool (unhide HF).symm, below_drewN (unhide HBA) _⟩
        go_wp2_with fail
        refine (isCode_any _ _).mono ?_; rintro e w3 ⟨rfl, rfl⟩
        cases t3 : inB x.code 0 9
        · have HF : Hid (saidB ss = false) := unhide HBAD (sdAt_3 (by rw [unhide HHX]; exact t3))
          go_wp2_with fail
          go_ret
          exact ⟨ret_bool (unhide HF).symm, below_drewN (unhide HBA) _⟩
        go_wp2_with fail
        refine (valsOk_any _ x.vals _ ((unhide HI).kept (below_drewN (Below.refl _ _) _))).mono ?_; rintro e w2 ⟨rfl, rfl⟩
        cases t4 : valsB x.vals
        · have HF : Hid (saidB ss = false) := unhide HBAD (sdAt_4 (by rw [unhide HHX]; exact t4))
          go_wp2_with fail
          go_ret
          exact ⟨ret_bool (unhide HF).symm, below_drewN (unhide HBA) _⟩
        have HF : Hid (sdAt ss k = true) := unhide HUP t2 t3 t4
        go_wp2_with fail
        go_roundw
        case rel => exact ⟨k + 1, hlt, by go_num, below_drewN (unhide HBA) _, range_all_step (unhide HT) (unhide HF)⟩
        case measure => simp [intOf]; omega
    · go_wp2_with fail
      go_ret
      refine ⟨ret_bool ?_, hb⟩
      obtain rfl : k = N := by omega
      have h1 := unhide HT; have h2 := unhide HN
      simp only [saidB, h2, h1]

end Go.Proofs.Ytpcbpliigplgoaa
