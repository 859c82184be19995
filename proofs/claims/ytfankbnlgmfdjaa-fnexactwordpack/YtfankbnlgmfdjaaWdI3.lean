/- When a word is ok: the program says it whole. -/
import Derived.Test.YtfankbnlgmfdjaaWdI2
namespace Go.Proofs.Ytfankbnlgmfdjaa
open Go.RowKit Go.Shelf

set_option maxRecDepth 100000 in
set_option maxHeartbeats 4000000 in
theorem implWordOk_any (W : Wd) (a b c : Value) (w : World) (h : WdAt w W a b c) :
    Calls Try.prog 12 #[wdV W a b c] w fun e w' => e = .returned (.bool (wordB W)) ∧ Below w.heap.size w w' := by
  obtain ⟨a0, c0, rfl, -⟩ := h.slots.slice
  obtain ⟨a1, c1, rfl, -⟩ := h.prs.shape
  obtain ⟨a2, c2, rfl, -⟩ := h.vals.slice
  have HE := hide (show wordB W = (inB W.kind 1 9 && ([W.src, W.dst].all placeB && ([W.stamp, W.try_].all numB && (inB W.what 0 3 && (slotsB W.slots && (inForm W.prs && (inB W.code 0 9 && (valsB W.vals && callB W)))))))) from by simp only [wordB, List.all_cons, List.all_nil, Bool.and_true, Bool.and_assoc])
  have HCL := hide (fun ww => callFits_any W ww h.text)
  generalize wordB W = R at *
  generalize callB W = RC at *
  obtain ⟨kind, src, dst, stamp, try_, what, yes, slots, prs, code, vals, ses, num, ck, text, slot, house⟩ := W
  simp only [wdV, wdC, clV, clC] at *
  have bA := (Below.refl w.heap.size w).alloc (Nat.le_refl _) (.cells #[.int .i64 kind, .int .i64 src, .int .i64 dst, .int .i64 stamp, .int .i64 try_, .int .i64 what, .bool yes, .slice a0 slots.length c0, .slice a1 prs.length c1, .int .i64 code, .slice a2 vals.length c2, .int .i64 ses, .int .i64 num, .int .i64 ck, .string text, .int .i64 slot, .int .i64 house] 28)
  have HB := hide bA
  have HX := hide (Box.made w 28 #[.int .i64 kind, .int .i64 src, .int .i64 dst, .int .i64 stamp, .int .i64 try_, .int .i64 what, .bool yes, .slice a0 slots.length c0, .slice a1 prs.length c1, .int .i64 code, .slice a2 vals.length c2, .int .i64 ses, .int .i64 num, .int .i64 ck, .string text, .int .i64 slot, .int .i64 house])
  have HS := hide (h.slots.kept bA)
  have HP := hide (h.prs.kept bA)
  have HV := hide (h.vals.kept bA)
  simp only at HS HP HV
  generalize slots.length = nS at *
  generalize prs.length = nP at *
  generalize vals.length = nV at *
  clear h bA
  go_enter Try.func12, Try.ntmps12
  go_wp2_with fail
  refine (isWordKind_any _ _).mono ?_; rintro e w' ⟨rfl, rfl⟩
  cases t_kind : inB kind 1 9
  · have HF : Hid (R = false) := by show R = false; rw [unhide HE]; simp only [t_kind, Bool.false_and]
    go_wp2_with fail
    go_ret
    exact ⟨ret_bool (unhide HF).symm, unhide HB⟩
  go_wp2_with fail
  refine (allAreB_any 44 placeB (enters_of Try.func44 (by kernel_rfl) rfl) isPlace_any _ [src, dst] _ (ins_box (T := 3) (Box.mk (heap_alloc2_new _ _ _)) rfl rfl (by simp))).mono ?_; rintro e w_places ⟨rfl, hb'⟩
  have hb := Below.trans ((Below.refl _ _).alloc (Nat.le_refl _) _) (hb'.mono (by simp))
  clear hb'
  have HBn := hide ((unhide HB).trans (hb.mono (unhide HB).size))
  have HXn := hide ((unhide HX).kept hb)
  have HSn := hide ((unhide HS).kept hb)
  have HPn := hide ((unhide HP).kept hb)
  have HVn := hide ((unhide HV).kept hb)
  clear hb HB HX HS HP HV
  (try clear q0 q1 q2 q3 q4 q5 q6 q7 q8 q9 q10 q11 q12 q13 q14 q15 q16)
  have HB := HBn; have HX := HXn; have HS := HSn; have HP := HPn; have HV := HVn
  clear HBn HXn HSn HPn HVn
  obtain ⟨q0, q1, q2, q3, q4, q5, q6, q7, q8, q9, q10, q11, q12, q13, q14, q15, q16⟩ := (unhide HX).seventeen
  cases t_places : [src, dst].all placeB
  · have HF : Hid (R = false) := by show R = false; rw [unhide HE]; simp only [t_kind, t_places, Bool.true_and, Bool.false_and]
    go_wp2_with fail
    go_ret
    exact ⟨ret_bool (unhide HF).symm, unhide HB⟩
  go_wp2_with fail
  refine (allAreB_any 45 numB (enters_of Try.func45 (by kernel_rfl) rfl) isWordNumber_any _ [stamp, try_] _ (ins_box (T := 3) (Box.made _ _ _) rfl rfl (by simp))).mono ?_; rintro e w_nums ⟨rfl, hb'⟩
  have hb := Below.trans ((Below.refl _ _).alloc (Nat.le_refl _) _) (hb'.mono (by simp))
  clear hb'
  have HBn := hide ((unhide HB).trans (hb.mono (unhide HB).size))
  have HXn := hide ((unhide HX).kept hb)
  have HSn := hide ((unhide HS).kept hb)
  have HPn := hide ((unhide HP).kept hb)
  have HVn := hide ((unhide HV).kept hb)
  clear hb HB HX HS HP HV
  (try clear q0 q1 q2 q3 q4 q5 q6 q7 q8 q9 q10 q11 q12 q13 q14 q15 q16)
  have HB := HBn; have HX := HXn; have HS := HSn; have HP := HPn; have HV := HVn
  clear HBn HXn HSn HPn HVn
  obtain ⟨q0, q1, q2, q3, q4, q5, q6, q7, q8, q9, q10, q11, q12, q13, q14, q15, q16⟩ := (unhide HX).seventeen
  cases t_nums : [stamp, try_].all numB
  · have HF : Hid (R = false) := by show R = false; rw [unhide HE]; simp only [t_kind, t_places, t_nums, Bool.true_and, Bool.false_and]
    go_wp2_with fail
    go_ret
    exact ⟨ret_bool (unhide HF).symm, unhide HB⟩
  go_wp2_with fail
  refine (isWhat_any _ _).mono ?_; rintro e w' ⟨rfl, rfl⟩
  cases t_what : inB what 0 3
  · have HF : Hid (R = false) := by show R = false; rw [unhide HE]; simp only [t_kind, t_places, t_nums, t_what, Bool.true_and, Bool.false_and]
    go_wp2_with fail
    go_ret
    exact ⟨ret_bool (unhide HF).symm, unhide HB⟩
  go_wp2_with fail
  refine (slotsInForm_any _ slots _ (unhide HS)).mono ?_; rintro e w_slots ⟨rfl, hb⟩
  have HBn := hide ((unhide HB).trans (hb.mono (unhide HB).size))
  have HXn := hide ((unhide HX).kept hb)
  have HSn := hide ((unhide HS).kept hb)
  have HPn := hide ((unhide HP).kept hb)
  have HVn := hide ((unhide HV).kept hb)
  clear hb HB HX HS HP HV
  (try clear q0 q1 q2 q3 q4 q5 q6 q7 q8 q9 q10 q11 q12 q13 q14 q15 q16)
  have HB := HBn; have HX := HXn; have HS := HSn; have HP := HPn; have HV := HVn
  clear HBn HXn HSn HPn HVn
  obtain ⟨q0, q1, q2, q3, q4, q5, q6, q7, q8, q9, q10, q11, q12, q13, q14, q15, q16⟩ := (unhide HX).seventeen
  cases t_slots : slotsB slots
  · have HF : Hid (R = false) := by show R = false; rw [unhide HE]; simp only [t_kind, t_places, t_nums, t_what, t_slots, Bool.true_and, Bool.false_and]
    go_wp2_with fail
    go_ret
    exact ⟨ret_bool (unhide HF).symm, unhide HB⟩
  go_wp2_with fail
  refine (pairsInForm_any _ prs _ (unhide HP)).mono ?_; rintro e w_prs ⟨rfl, hb⟩
  have HBn := hide ((unhide HB).trans (hb.mono (unhide HB).size))
  have HXn := hide ((unhide HX).kept hb)
  have HSn := hide ((unhide HS).kept hb)
  have HPn := hide ((unhide HP).kept hb)
  have HVn := hide ((unhide HV).kept hb)
  clear hb HB HX HS HP HV
  (try clear q0 q1 q2 q3 q4 q5 q6 q7 q8 q9 q10 q11 q12 q13 q14 q15 q16)
  have HB := HBn; have HX := HXn; have HS := HSn; have HP := HPn; have HV := HVn
  clear HBn HXn HSn HPn HVn
  obtain ⟨q0, q1, q2, q3, q4, q5, q6, q7, q8, q9, q10, q11, q12, q13, q14, q15, q16⟩ := (unhide HX).seventeen
  cases t_prs : inForm prs
  · have HF : Hid (R = false) := by show R = false; rw [unhide HE]; simp only [t_kind, t_places, t_nums, t_what, t_slots, t_prs, Bool.true_and, Bool.false_and]
    go_wp2_with fail
    go_ret
    exact ⟨ret_bool (unhide HF).symm, unhide HB⟩
  go_wp2_with fail
  refine (isCode_any _ _).mono ?_; rintro e w' ⟨rfl, rfl⟩
  cases t_code : inB code 0 9
  · have HF : Hid (R = false) := by show R = false; rw [unhide HE]; simp only [t_kind, t_places, t_nums, t_what, t_slots, t_prs, t_code, Bool.true_and, Bool.false_and]
    go_wp2_with fail
    go_ret
    exact ⟨ret_bool (unhide HF).symm, unhide HB⟩
  go_wp2_with fail
  refine (valsOk_any _ vals _ (unhide HV)).mono ?_; rintro e w' ⟨rfl, rfl⟩
  cases t_vals : valsB vals
  · have HF : Hid (R = false) := by show R = false; rw [unhide HE]; simp only [t_kind, t_places, t_nums, t_what, t_slots, t_prs, t_code, t_vals, Bool.true_and, Bool.false_and]
    go_wp2_with fail
    go_ret
    exact ⟨ret_bool (unhide HF).symm, unhide HB⟩
  go_wp2_with fail
  refine (unhide HCL _).mono ?_; rintro e w9 ⟨rfl, hb⟩
  have HF : Hid (R = RC) := by show R = _; rw [unhide HE]; simp only [t_kind, t_places, t_nums, t_what, t_slots, t_prs, t_code, t_vals, Bool.true_and]
  go_wp2_with fail
  go_ret
  exact ⟨ret_bool (unhide HF).symm, (unhide HB).trans (hb.mono (unhide HB).size)⟩

end Go.Proofs.Ytfankbnlgmfdjaa
