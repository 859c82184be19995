/- When a word is ok: the program's answer. -/
import Derived.Test.YtfankbnlgmfdjaaWdI
import Derived.Test.YtfankbnlgmfdjaaWdS2
namespace Go.Proofs.Ytfankbnlgmfdjaa
open Go.RowKit Go.Shelf

theorem ins_box {w : World} {g n : Nat} {T : TypeId} {xs : List Int} {cs : Array Value} (h : Box w g T cs) (hc : cs = (xs.map (Value.int .i64)).toArray) (hn : n = xs.length) (hm : xs.length ≤ 1000) : InsAt w (.slice (some ⟨g, 0, none⟩) n n) xs := by
  subst hc hn
  refine ⟨_, _, rfl, Nat.le_refl _, by unfold maxLen; omega, .inr ⟨g, 0, rfl, fun i hi => ?_⟩⟩
  have := h.cell i
  rw [Nat.zero_add, this]
  simp [List.getD, hi]

set_option maxHeartbeats 400000 in
theorem slotRank_any (n : Int) (w : World) :
    Calls Try.prog 83 #[.int .i64 n] w fun e w' => e = .returned (.int .i64 n) ∧ w' = w := by
  go_enter Try.func83, Try.ntmps83
  go_wp2
  go_ret
  exact ⟨rfl, rfl⟩

def ascI (xs : List Int) : Bool := (List.range xs.length).all fun i => decide (i = 0) || decide (xs.getD (i - 1) 0 < xs.getD i 0)
def ascIT (xs : List Int) (k : Nat) : Bool := (List.range k).all fun i => decide (i = 0) || decide (xs.getD (i - 1) 0 < xs.getD i 0)
theorem all_range_getD (xs : List Int) (p : Int → Bool) : xs.all p = (List.range xs.length).all fun i => p (xs.getD i 0) := by
  apply Bool.eq_iff_iff.2
  rw [List.all_eq_true, List.all_eq_true]
  constructor
  · intro h i hi
    have hi' := List.mem_range.1 hi
    have : xs.getD i 0 = xs[i] := by simp [List.getD, hi']
    rw [this]; exact h _ (List.getElem_mem hi')
  · intro h x hx
    obtain ⟨i, hi, rfl⟩ := List.getElem_of_mem hx
    have := h i (List.mem_range.2 hi)
    simpa [List.getD, hi] using this
theorem slots_split (xs : List Int) : slotsB xs = (xs.all slB && ascI xs) := by
  rw [all_range_getD]
  unfold slotsB ascI slAt slB
  apply Bool.eq_iff_iff.2
  simp only [Bool.and_eq_true, List.all_eq_true]
  constructor
  · intro h; exact ⟨fun i hi => (h i hi).1, fun i hi => (h i hi).2⟩
  · intro h i hi; exact ⟨h.1 i hi, h.2 i hi⟩
theorem ascI_step {xs : List Int} {k : Nat} (h : ascIT xs k = true) (e : (decide (k = 0) || decide (xs.getD (k - 1) 0 < xs.getD k 0)) = true) : ascIT xs (k + 1) = true := range_all_step h e
theorem ascI_false {xs : List Int} {k n : Nat} (hk : k < n) (e : (decide (k = 0) || decide (xs.getD (k - 1) 0 < xs.getD k 0)) = false) : ascIT xs n = false := by
  unfold ascIT
  rw [List.all_eq_false]
  exact ⟨k, List.mem_range.2 hk, by rw [e]; simp⟩

set_option maxRecDepth 100000 in
set_option maxHeartbeats 1000000 in
theorem ascendsI_any (v : Value) (xs : List Int) (w : World) (hv : InsAt w v xs) :
    Calls Try.prog 82 #[v, .func (.func 83) #[] #[]] w fun e w' => e = .returned (.bool (ascI xs)) ∧ Below w.heap.size w w' := by
  obtain ⟨a, cap, rfl, h1, h2, h3⟩ := hv
  generalize hN : xs.length = N at *
  have HN := hide hN
  have HA : Hid (ascI xs = ascIT xs N) := by show ascI xs = ascIT xs N; rw [← hN]; rfl
  clear hN
  unfold maxLen at h2
  go_enter Try.func82, Try.ntmps82
  go_wp2_with fail
  go_loopw [5] (fun i wr => ∃ k : Nat, (k ≤ N ∨ k = 1) ∧ 1 ≤ k ∧ i = .int .i64 k ∧ ascIT xs k = true ∧ Below w.heap.size w wr) (fun i _ => N - (intOf i).toNat)
  case atStart => exact ⟨1, .inr rfl, Nat.le_refl _, rfl, rfl, Below.refl _ _⟩
  case round =>
    obtain ⟨k, hk, hk1, rfl, hno, hb⟩ := hrel
    have HNO := hide hno
    have HB := hide hb
    clear hno
    by_cases hlt : k < N
    · obtain ⟨b, off, rfl, hc⟩ : ∃ b off, a = some ⟨b, off, none⟩ ∧ InCells w b off N xs := by
        rcases h3 with h3 | h3
        · have := unhide HN; subst h3; simp at this; omega
        · exact h3
      obtain ⟨j, rfl⟩ : ∃ j, k = j + 1 := ⟨k - 1, by omega⟩
      have c0 := (hc.kept hb) j (by omega)
      have d0 := (hc.kept hb) (j + 1) (by omega)
      generalize hx : xs.getD j 0 = x at c0
      generalize hy : xs.getD (j + 1) 0 = y at d0
      have HX := hide hx
      have HYY := hide hy
      have hkI : (j : Int) < (N : Int) := by omega
      have hkI' : (j : Int) + 1 < (N : Int) := by omega
      have hk0' : (0 : Int) ≤ (j : Int) := by omega
      have hent : ∀ args w, (callFunc 83 args).run Try.prog w = .ok (.enter 83 args) w := enters_of Try.func83 (by kernel_rfl) rfl
      clear hx hy hc hk hk1 h3 hb
      go_wp2_with fail
      go_quiet ((first | (go_at_call 83; exact Calls.quiet_of_same (slotRank_any _ _))))
      by_cases hxy : x < y
      · have HXY := hide hxy
        have hn : ¬ (y ≤ x) := by omega
        clear hxy
        go_wp2_with fail
        go_roundw
        case rel =>
          refine ⟨j + 1 + 1, .inl hlt, by omega, by go_num, ?_, below_drewN (unhide HB) _⟩
          refine ascI_step (unhide HNO) ?_
          rw [show j + 1 - 1 = j from by omega, unhide HX, unhide HYY]
          simp [unhide HXY]
        case measure => simp [intOf]; omega
      · have HXY := hide hxy
        have hn : y ≤ x := by omega
        clear hxy
        have HF : Hid (ascI xs = false) := by
          show ascI xs = false
          rw [unhide HA]
          refine ascI_false (k := j + 1) hlt ?_
          rw [show j + 1 - 1 = j from by omega, unhide HX, unhide HYY]
          simp; omega
        go_wp2_with fail
        go_ret
        exact ⟨ret_bool (unhide HF).symm, below_drewN (unhide HB) _⟩
    · have HF : Hid (ascI xs = true) := by
        show ascI xs = true
        rw [unhide HA]
        by_cases e : k = N
        · rw [← e]; exact unhide HNO
        · have : N = 0 := by omega
          rw [this]; rfl
      go_wp2_with fail
      go_ret
      exact ⟨ret_bool (unhide HF).symm, unhide HB⟩

set_option maxRecDepth 100000 in
set_option maxHeartbeats 1000000 in
theorem slotsInForm_any (v : Value) (xs : List Int) (w : World) (hv : InsAt w v xs) :
    Calls Try.prog 47 #[v] w fun e w' => e = .returned (.bool (slotsB xs)) ∧ Below w.heap.size w w' := by
  have HV := hide hv
  have HE := hide (slots_split xs)
  generalize slotsB xs = R at *
  obtain ⟨a, cap, rfl, -⟩ := hv.slice
  generalize xs.length = N at *
  clear hv
  go_enter Try.func47, Try.ntmps47
  go_wp2_with fail
  refine (allAre_any 81 slB (enters_of Try.func81 (by kernel_rfl) rfl) isSlot_any _ xs _ (unhide HV)).mono ?_; rintro e w' ⟨rfl, rfl⟩
  cases t1 : xs.all slB
  · have HF : Hid (R = false) := by show R = false; rw [unhide HE, t1]; rfl
    go_wp2_with fail
    go_ret
    exact ⟨ret_bool (unhide HF).symm, Below.refl _ _⟩
  have HF : Hid (R = ascI xs) := by show R = _; rw [unhide HE, t1]; rfl
  go_wp2_with fail
  refine (ascendsI_any _ xs _ (unhide HV)).mono ?_; rintro e w' ⟨rfl, hb⟩
  go_wp2_with fail
  go_ret
  exact ⟨ret_bool (unhide HF).symm, hb⟩

set_option maxRecDepth 100000 in
set_option maxHeartbeats 2000000 in
theorem callFits_any (W : Wd) (w : World) (ht : W.text.size ≤ maxLen) :
    Calls Try.prog 51 #[clV W] w fun e w' => e = .returned (.bool (callB W)) ∧ Below w.heap.size w w' := by
  have HE := hide (show callB W = ([W.ses, W.num, W.ck, W.slot, W.house].all numB && decide (W.text.size ≤ 80)) from by simp only [callB, List.all_cons, List.all_nil, Bool.and_true, Bool.and_assoc])
  generalize callB W = R at *
  obtain ⟨kind, src, dst, stamp, try_, what, yes, slots, prs, code, vals, ses, num, ck, text, slot, house⟩ := W
  simp only [clV, clC] at *
  unfold maxLen at ht
  have bA := (Below.refl w.heap.size w).alloc (Nat.le_refl _) (.cells #[.int .i64 ses, .int .i64 num, .int .i64 ck, .string text, .int .i64 slot, .int .i64 house] 26)
  have bB := bA.alloc (by simp) (.cells #[.int .i64 ses, .int .i64 num, .int .i64 ck, .int .i64 slot, .int .i64 house] 3)
  have HB := hide bB
  have HX := hide ((Box.made w 26 #[.int .i64 ses, .int .i64 num, .int .i64 ck, .string text, .int .i64 slot, .int .i64 house]).alloc (.cells #[.int .i64 ses, .int .i64 num, .int .i64 ck, .int .i64 slot, .int .i64 house] 3))
  clear bA bB
  go_enter Try.func51, Try.ntmps51
  go_wp2_with fail
  refine (allAre_any 45 numB (enters_of Try.func45 (by kernel_rfl) rfl) isWordNumber_any _ [ses, num, ck, slot, house] _ (ins_box (T := 3) ⟨heap_alloc2_new _ _ _⟩ rfl rfl (by simp))).mono ?_; rintro e w' ⟨rfl, rfl⟩
  obtain ⟨q0, q1, q2, q3, q4, q5⟩ := (unhide HX).six
  cases t1 : [ses, num, ck, slot, house].all numB
  · have HF : Hid (R = false) := by show R = false; rw [unhide HE, t1]; rfl
    go_wp2_with fail
    go_ret
    exact ⟨ret_bool (unhide HF).symm, unhide HB⟩
  have HF : Hid (R = decide (text.size ≤ 80)) := by show R = _; rw [unhide HE, t1]; rfl
  by_cases hs : (text.size : Int) ≤ 80
  all_goals
    go_wp2_with fail
    go_ret
    exact ⟨ret_bool ((unhide HF).trans (by simp; omega)).symm, unhide HB⟩

end Go.Proofs.Ytfankbnlgmfdjaa
