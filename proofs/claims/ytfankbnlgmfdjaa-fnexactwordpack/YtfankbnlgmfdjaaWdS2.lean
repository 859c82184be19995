/- When a word is ok: the specification's answer. -/
import Derived.Test.YtfankbnlgmfdjaaWdS
namespace Go.Proofs.Ytfankbnlgmfdjaa
open Go.RowKit

set_option maxRecDepth 100000 in
set_option maxHeartbeats 2000000 in
theorem l12Call_any (W : Wd) (w : World) (ht : W.text.size ≤ maxLen) :
    Calls Try.prog 36 #[clV W] w fun e w' => e = .returned (.bool (callB W)) ∧ Below w.heap.size w w' := by
  have HE := hide (show callB W = (numB W.ses && (numB W.num && (numB W.ck && (numB W.slot && (numB W.house && decide (W.text.size ≤ 80)))))) from rfl)
  generalize callB W = R at *
  obtain ⟨kind, src, dst, stamp, try_, what, yes, slots, prs, code, vals, ses, num, ck, text, slot, house⟩ := W
  simp only [clV, clC] at *
  unfold maxLen at ht
  have HB : Hid (Below w.heap.size w (w.alloc (.cells #[.int .i64 ses, .int .i64 num, .int .i64 ck, .string text, .int .i64 slot, .int .i64 house] 26))) := (Below.refl _ _).alloc (Nat.le_refl _) _
  go_enter Try.func36, Try.ntmps36
  go_wp2_with fail
  refine (l6In_any _ _ _ _).mono ?_; rintro e w' ⟨rfl, rfl⟩
  rw [show inB ses 0 9999 = numB ses from rfl]
  cases t_ses : numB ses
  · have HF : Hid (R = false) := by show R = false; rw [unhide HE]; simp only [t_ses, Bool.false_and]
    go_wp2_with fail
    go_ret
    exact ⟨ret_bool (unhide HF).symm, unhide HB⟩
  go_wp2_with fail
  refine (l6In_any _ _ _ _).mono ?_; rintro e w' ⟨rfl, rfl⟩
  rw [show inB num 0 9999 = numB num from rfl]
  cases t_num : numB num
  · have HF : Hid (R = false) := by show R = false; rw [unhide HE]; simp only [t_ses, t_num, Bool.true_and, Bool.false_and]
    go_wp2_with fail
    go_ret
    exact ⟨ret_bool (unhide HF).symm, unhide HB⟩
  go_wp2_with fail
  refine (l6In_any _ _ _ _).mono ?_; rintro e w' ⟨rfl, rfl⟩
  rw [show inB ck 0 9999 = numB ck from rfl]
  cases t_ck : numB ck
  · have HF : Hid (R = false) := by show R = false; rw [unhide HE]; simp only [t_ses, t_num, t_ck, Bool.true_and, Bool.false_and]
    go_wp2_with fail
    go_ret
    exact ⟨ret_bool (unhide HF).symm, unhide HB⟩
  go_wp2_with fail
  refine (l6In_any _ _ _ _).mono ?_; rintro e w' ⟨rfl, rfl⟩
  rw [show inB slot 0 9999 = numB slot from rfl]
  cases t_slot : numB slot
  · have HF : Hid (R = false) := by show R = false; rw [unhide HE]; simp only [t_ses, t_num, t_ck, t_slot, Bool.true_and, Bool.false_and]
    go_wp2_with fail
    go_ret
    exact ⟨ret_bool (unhide HF).symm, unhide HB⟩
  go_wp2_with fail
  refine (l6In_any _ _ _ _).mono ?_; rintro e w' ⟨rfl, rfl⟩
  rw [show inB house 0 9999 = numB house from rfl]
  cases t_house : numB house
  · have HF : Hid (R = false) := by show R = false; rw [unhide HE]; simp only [t_ses, t_num, t_ck, t_slot, t_house, Bool.true_and, Bool.false_and]
    go_wp2_with fail
    go_ret
    exact ⟨ret_bool (unhide HF).symm, unhide HB⟩
  have HF : Hid (R = decide (text.size ≤ 80)) := by show R = _; rw [unhide HE]; simp only [t_ses, t_num, t_ck, t_slot, t_house, Bool.true_and]
  by_cases hs : (text.size : Int) ≤ 80
  all_goals
    go_wp2_with fail
    go_ret
    exact ⟨ret_bool ((unhide HF).trans (by simp; omega)).symm, unhide HB⟩

set_option maxRecDepth 100000 in
set_option maxHeartbeats 4000000 in
theorem specWordOk_any (W : Wd) (a b c : Value) (w : World) (h : WdAt w W a b c) :
    Calls Try.prog 10 #[wdV W a b c] w fun e w' => e = .returned (.bool (wordB W)) ∧ Below w.heap.size w w' := by
  obtain ⟨a0, c0, rfl, -⟩ := h.slots.slice
  obtain ⟨a1, c1, rfl, -⟩ := h.prs.shape
  obtain ⟨a2, c2, rfl, -⟩ := h.vals.slice
  have HE := hide (show wordB W = (inB W.kind 1 9 && (placeB W.src && (placeB W.dst && (numB W.stamp && (numB W.try_ && (inB W.what 0 3 && (slotsB W.slots && (inForm W.prs && (inB W.code 0 9 && (valsB W.vals && callB W)))))))))) from rfl)
  have HCL := hide (fun ww => l12Call_any W ww h.text)
  generalize wordB W = R at *
  generalize callB W = RC at *
  obtain ⟨kind, src, dst, stamp, try_, what, yes, slots, prs, code, vals, ses, num, ck, text, slot, house⟩ := W
  simp only [wdV, wdC, clV, clC] at *
  have bA := (Below.refl w.heap.size w).alloc (Nat.le_refl _) (.cells #[.int .i64 kind, .int .i64 src, .int .i64 dst, .int .i64 stamp, .int .i64 try_, .int .i64 what, .bool yes, .slice a0 slots.length c0, .slice a1 prs.length c1, .int .i64 code, .slice a2 vals.length c2, .int .i64 ses, .int .i64 num, .int .i64 ck, .string text, .int .i64 slot, .int .i64 house] 28)
  have HB := hide bA
  have HX := hide (Box.made w 28 #[.int .i64 kind, .int .i64 src, .int .i64 dst, .int .i64 stamp, .int .i64 try_, .int .i64 what, .bool yes, .slice a0 slots.length c0, .slice a1 prs.length c1, .int .i64 code, .slice a2 vals.length c2, .int .i64 ses, .int .i64 num, .int .i64 ck, .string text, .int .i64 slot, .int .i64 house])
  have HS := hide (h.slots.kept bA)
  have HP := hide (h.prs.kept bA)
  have HV := hide (h.vals.kept bA)
  simp only at HS HP HV
  generalize slots.length = nS at *
  generalize prs.length = nP at *
  generalize vals.length = nV at *
  clear h bA
  go_enter Try.func10, Try.ntmps10
  go_wp2_with fail
  refine (l6In_any _ _ _ _).mono ?_; rintro e w' ⟨rfl, rfl⟩
  cases t_kind : inB kind 1 9
  · have HF : Hid (R = false) := by show R = false; rw [unhide HE]; simp only [t_kind, Bool.false_and]
    go_wp2_with fail
    go_ret
    exact ⟨ret_bool (unhide HF).symm, unhide HB⟩
  go_wp2_with fail
  refine (l12Place_any _ _).mono ?_; rintro e w' ⟨rfl, rfl⟩
  cases t_src : placeB src
  · have HF : Hid (R = false) := by show R = false; rw [unhide HE]; simp only [t_kind, t_src, Bool.true_and, Bool.false_and]
    go_wp2_with fail
    go_ret
    exact ⟨ret_bool (unhide HF).symm, unhide HB⟩
  go_wp2_with fail
  refine (l12Place_any _ _).mono ?_; rintro e w' ⟨rfl, rfl⟩
  cases t_dst : placeB dst
  · have HF : Hid (R = false) := by show R = false; rw [unhide HE]; simp only [t_kind, t_src, t_dst, Bool.true_and, Bool.false_and]
    go_wp2_with fail
    go_ret
    exact ⟨ret_bool (unhide HF).symm, unhide HB⟩
  go_wp2_with fail
  refine (l6In_any _ _ _ _).mono ?_; rintro e w' ⟨rfl, rfl⟩
  rw [show inB stamp 0 9999 = numB stamp from rfl]
  cases t_stamp : numB stamp
  · have HF : Hid (R = false) := by show R = false; rw [unhide HE]; simp only [t_kind, t_src, t_dst, t_stamp, Bool.true_and, Bool.false_and]
    go_wp2_with fail
    go_ret
    exact ⟨ret_bool (unhide HF).symm, unhide HB⟩
  go_wp2_with fail
  refine (l6In_any _ _ _ _).mono ?_; rintro e w' ⟨rfl, rfl⟩
  rw [show inB try_ 0 9999 = numB try_ from rfl]
  cases t_try : numB try_
  · have HF : Hid (R = false) := by show R = false; rw [unhide HE]; simp only [t_kind, t_src, t_dst, t_stamp, t_try, Bool.true_and, Bool.false_and]
    go_wp2_with fail
    go_ret
    exact ⟨ret_bool (unhide HF).symm, unhide HB⟩
  go_wp2_with fail
  refine (l6In_any _ _ _ _).mono ?_; rintro e w' ⟨rfl, rfl⟩
  cases t_what : inB what 0 3
  · have HF : Hid (R = false) := by show R = false; rw [unhide HE]; simp only [t_kind, t_src, t_dst, t_stamp, t_try, t_what, Bool.true_and, Bool.false_and]
    go_wp2_with fail
    go_ret
    exact ⟨ret_bool (unhide HF).symm, unhide HB⟩
  go_wp2_with fail
  refine (l12Slots_any _ slots _ (unhide HS)).mono ?_; rintro e w_slots ⟨rfl, hb⟩
  have HBn := hide ((unhide HB).trans (hb.mono (unhide HB).size))
  have HXn := hide ((unhide HX).kept hb)
  have HSn := hide ((unhide HS).kept hb)
  have HPn := hide ((unhide HP).kept hb)
  have HVn := hide ((unhide HV).kept hb)
  clear hb HB HX HS HP HV
  (try clear q0 q1 q2 q3 q4 q5 q6 q7 q8 q9 q10 q11 q12 q13 q14 q15 q16)
  have HB := HBn; have HX := HXn; have HS := HSn; have HP := HPn; have HV := HVn
  clear HBn HXn HSn HPn HVn
  obtain ⟨q0, q1, q2, q3, q4, q5, q6, q7, q8, q9, q10, q11, q12, q13, q14, q15, q16⟩ := (unhide HX).seventeen
  cases t_slots : slotsB slots
  · have HF : Hid (R = false) := by show R = false; rw [unhide HE]; simp only [t_kind, t_src, t_dst, t_stamp, t_try, t_what, t_slots, Bool.true_and, Bool.false_and]
    go_wp2_with fail
    go_ret
    exact ⟨ret_bool (unhide HF).symm, unhide HB⟩
  go_wp2_with fail
  refine (l1Pairs_any _ prs _ (unhide HP)).mono ?_; rintro e w_prs ⟨rfl, hb⟩
  have HBn := hide ((unhide HB).trans (hb.mono (unhide HB).size))
  have HXn := hide ((unhide HX).kept hb)
  have HSn := hide ((unhide HS).kept hb)
  have HPn := hide ((unhide HP).kept hb)
  have HVn := hide ((unhide HV).kept hb)
  clear hb HB HX HS HP HV
  (try clear q0 q1 q2 q3 q4 q5 q6 q7 q8 q9 q10 q11 q12 q13 q14 q15 q16)
  have HB := HBn; have HX := HXn; have HS := HSn; have HP := HPn; have HV := HVn
  clear HBn HXn HSn HPn HVn
  obtain ⟨q0, q1, q2, q3, q4, q5, q6, q7, q8, q9, q10, q11, q12, q13, q14, q15, q16⟩ := (unhide HX).seventeen
  cases t_prs : inForm prs
  · have HF : Hid (R = false) := by show R = false; rw [unhide HE]; simp only [t_kind, t_src, t_dst, t_stamp, t_try, t_what, t_slots, t_prs, Bool.true_and, Bool.false_and]
    go_wp2_with fail
    go_ret
    exact ⟨ret_bool (unhide HF).symm, unhide HB⟩
  go_wp2_with fail
  refine (l6In_any _ _ _ _).mono ?_; rintro e w' ⟨rfl, rfl⟩
  cases t_code : inB code 0 9
  · have HF : Hid (R = false) := by show R = false; rw [unhide HE]; simp only [t_kind, t_src, t_dst, t_stamp, t_try, t_what, t_slots, t_prs, t_code, Bool.true_and, Bool.false_and]
    go_wp2_with fail
    go_ret
    exact ⟨ret_bool (unhide HF).symm, unhide HB⟩
  go_wp2_with fail
  refine (l3Vals_any _ vals _ (unhide HV)).mono ?_; rintro e w' ⟨rfl, rfl⟩
  cases t_vals : valsB vals
  · have HF : Hid (R = false) := by show R = false; rw [unhide HE]; simp only [t_kind, t_src, t_dst, t_stamp, t_try, t_what, t_slots, t_prs, t_code, t_vals, Bool.true_and, Bool.false_and]
    go_wp2_with fail
    go_ret
    exact ⟨ret_bool (unhide HF).symm, unhide HB⟩
  go_wp2_with fail
  refine (unhide HCL _).mono ?_; rintro e w9 ⟨rfl, hb⟩
  have HF : Hid (R = RC) := by show R = _; rw [unhide HE]; simp only [t_kind, t_src, t_dst, t_stamp, t_try, t_what, t_slots, t_prs, t_code, t_vals, Bool.true_and]
  go_wp2_with fail
  go_ret
  exact ⟨ret_bool (unhide HF).symm, (unhide HB).trans (hb.mono (unhide HB).size)⟩

end Go.Proofs.Ytfankbnlgmfdjaa
