/- Calls: what they are, and when they are ok. -/
import Derived.Test.YtedlhepbbefikaaGreatDoorLawDr1
import Derived.Test.YtedlhepbbefikaaGreatDoorCaB
namespace Go.Proofs.YtedlhepbbefikaaGreatDoor
open Go.RowKit

def formB (c : Cl) : Bool := inB c.sess 0 2 && inB c.num 1 99 && (if c.kind = 1 then decide (c.slot = 0) && decide (c.dst = 0) && decide (c.text.length ≤ 80) else decide (c.kind = 2) && decide (c.text = []) && inB c.slot 0 7 && inB c.dst 0 2)
def callB (c : Cl) : Bool := formB c && (decide (c.kind ≠ 1) || (readL c.text).isSome)
theorem readL_len {t : List UInt8} (h : (readL t).isSome = true) : t.length ≤ 80 := by
  cases hr : readL t with
  | none => rw [hr] at h; cases h
  | some D => exact (readL_some hr).1

set_option maxHeartbeats 400000 in
theorem isSessionC_any (n : Int) (w : World) :
    Calls Tryz.prog 24 #[.int .i64 n] w fun e w' => e = .returned (.bool (inB n 0 2)) ∧ w' = w := by
  by_cases h1 : 0 ≤ n <;> by_cases h2 : n < 3
  all_goals
    go_enter Tryz.func24, Tryz.ntmps24
    go_wp2
    go_ret
    exact ⟨by simp [inB, h1]; try omega, rfl⟩

set_option maxHeartbeats 400000 in
theorem isCallNumberC_any (n : Int) (w : World) :
    Calls Tryz.prog 25 #[.int .i64 n] w fun e w' => e = .returned (.bool (inB n 1 99)) ∧ w' = w := by
  by_cases h1 : 1 ≤ n <;> by_cases h2 : n ≤ 99
  all_goals
    go_enter Tryz.func25, Tryz.ntmps25
    go_wp2
    go_ret
    exact ⟨by simp [inB, h1]; try omega, rfl⟩

set_option maxHeartbeats 400000 in
theorem isSlotC_any (n : Int) (w : World) :
    Calls Tryz.prog 26 #[.int .i64 n] w fun e w' => e = .returned (.bool (inB n 0 7)) ∧ w' = w := by
  by_cases h1 : 0 ≤ n <;> by_cases h2 : n < 8
  all_goals
    go_enter Tryz.func26, Tryz.ntmps26
    go_wp2
    go_ret
    exact ⟨by simp [inB, h1]; try omega, rfl⟩

set_option maxHeartbeats 400000 in
theorem isHouseC_any (n : Int) (w : World) :
    Calls Tryz.prog 27 #[.int .i64 n] w fun e w' => e = .returned (.bool (inB n 0 2)) ∧ w' = w := by
  by_cases h1 : 0 ≤ n <;> by_cases h2 : n < 3
  all_goals
    go_enter Tryz.func27, Tryz.ntmps27
    go_wp2
    go_ret
    exact ⟨by simp [inB, h1]; try omega, rfl⟩

set_option maxRecDepth 100000 in
set_option maxHeartbeats 2000000 in
theorem l3Form_any (c : Cl) (w : World) :
    Calls Tryz.prog 28 #[.agg (clC c)] w fun e w' => e = .returned (.bool (formB c)) ∧ Below w.heap.size w w' := by
  obtain ⟨sess, num, kind, text, slot, dst⟩ := c
  have hts : (⟨text.toArray⟩ : ByteArray).size = text.length := by simp [ByteArray.size]
  have bA : Below w.heap.size w (w.alloc (.cells #[.int .i64 sess, .int .i64 num, .int .i64 kind, .string ⟨text.toArray⟩, .int .i64 slot, .int .i64 dst] 24)) := (Below.refl _ _).alloc (Nat.le_refl _) _
  have HF : Hid (formB ⟨sess, num, kind, text, slot, dst⟩ = (inB sess 0 2 && inB num 1 99 && (if kind = 1 then decide (slot = 0) && decide (dst = 0) && decide (text.length ≤ 80) else decide (kind = 2) && decide (text = []) && inB slot 0 7 && inB dst 0 2))) := rfl
  simp only [clC]
  cases hs : inB sess 0 2
  · skip
    go_enter Tryz.func28, Tryz.ntmps28
    go_wp2_with (go_at_call 39; refine (l6In_any _ _ _ _).mono ?_; rintro e w' ⟨rfl, rfl⟩)
    go_ret
    exact ⟨ret_bool (by rw [unhide HF]; simp [hs]; try omega), bA⟩
  cases hn : inB num 1 99
  · skip
    go_enter Tryz.func28, Tryz.ntmps28
    go_wp2_with (go_at_call 39; refine (l6In_any _ _ _ _).mono ?_; rintro e w' ⟨rfl, rfl⟩)
    go_ret
    exact ⟨ret_bool (by rw [unhide HF]; simp [hs, hn]; try omega), bA⟩
  by_cases hk : kind = 1
  · subst hk
    by_cases h1 : slot = 0
    · subst h1
      by_cases h2 : dst = 0
      · subst h2
        by_cases h3 : text.length ≤ 80
        · have h3' : ((text.length : Nat) : Int) ≤ 80 := by omega
          go_enter Tryz.func28, Tryz.ntmps28
          go_wp2_with (go_at_call 39; refine (l6In_any _ _ _ _).mono ?_; rintro e w' ⟨rfl, rfl⟩)
          go_ret
          exact ⟨ret_bool (by rw [unhide HF]; simp [hs, hn, h3]; try omega), bA⟩
        · have h3' : ¬ ((text.length : Nat) : Int) ≤ 80 := by omega
          go_enter Tryz.func28, Tryz.ntmps28
          go_wp2_with (go_at_call 39; refine (l6In_any _ _ _ _).mono ?_; rintro e w' ⟨rfl, rfl⟩)
          go_ret
          exact ⟨ret_bool (by rw [unhide HF]; simp [hs, hn, h3]; try omega), bA⟩
      · have h2' : (dst == 0) = false := by simpa using h2
        go_enter Tryz.func28, Tryz.ntmps28
        go_wp2_with (go_at_call 39; refine (l6In_any _ _ _ _).mono ?_; rintro e w' ⟨rfl, rfl⟩)
        go_ret
        exact ⟨ret_bool (by rw [unhide HF]; simp [hs, hn, h2]; try omega), bA⟩
    · have h1' : (slot == 0) = false := by simpa using h1
      go_enter Tryz.func28, Tryz.ntmps28
      go_wp2_with (go_at_call 39; refine (l6In_any _ _ _ _).mono ?_; rintro e w' ⟨rfl, rfl⟩)
      go_ret
      exact ⟨ret_bool (by rw [unhide HF]; simp [hs, hn, h1]; try omega), bA⟩
  have hk' : (kind == 1) = false := by simpa using hk
  by_cases hk2 : kind = 2
  · subst hk2
    by_cases h1 : text = []
    · subst h1
      cases h2 : inB slot 0 7
      · skip
        go_enter Tryz.func28, Tryz.ntmps28
        go_wp2_with (go_at_call 39; refine (l6In_any _ _ _ _).mono ?_; rintro e w' ⟨rfl, rfl⟩)
        go_ret
        exact ⟨ret_bool (by rw [unhide HF]; simp [hs, hn, h2]; try omega), bA⟩
      · cases h3 : inB dst 0 2
        · skip
          go_enter Tryz.func28, Tryz.ntmps28
          go_wp2_with (go_at_call 39; refine (l6In_any _ _ _ _).mono ?_; rintro e w' ⟨rfl, rfl⟩)
          go_ret
          exact ⟨ret_bool (by rw [unhide HF]; simp [hs, hn, h2, h3]; try omega), bA⟩
        · skip
          go_enter Tryz.func28, Tryz.ntmps28
          go_wp2_with (go_at_call 39; refine (l6In_any _ _ _ _).mono ?_; rintro e w' ⟨rfl, rfl⟩)
          go_ret
          exact ⟨ret_bool (by rw [unhide HF]; simp [hs, hn, h2, h3]; try omega), bA⟩
    · have h1' : (text == []) = false := by simpa using h1
      have h1'' : text.isEmpty = false := by simpa using h1
      go_enter Tryz.func28, Tryz.ntmps28
      go_wp2_with (go_at_call 39; refine (l6In_any _ _ _ _).mono ?_; rintro e w' ⟨rfl, rfl⟩)
      go_ret
      exact ⟨ret_bool (by rw [unhide HF]; simp [hs, hn, h1]; try omega), bA⟩
  · have hk2' : (kind == 2) = false := by simpa using hk2
    go_enter Tryz.func28, Tryz.ntmps28
    go_wp2_with (go_at_call 39; refine (l6In_any _ _ _ _).mono ?_; rintro e w' ⟨rfl, rfl⟩)
    go_ret
    exact ⟨ret_bool (by rw [unhide HF]; simp [hs, hn, hk, hk2]; try omega), bA⟩

set_option maxRecDepth 100000 in
set_option maxHeartbeats 2000000 in
theorem sCallOk_any (c : Cl) (w : World) :
    Calls Tryz.prog 10 #[.agg (clC c)] w fun e w' => e = .returned (.bool (callB c)) ∧ Below w.heap.size w w' := by
  have HL3 := hide (fun ww => l3Form_any c ww)
  have HRD := hide (fun ww => sRead_any c.text ww)
  have HT := hide (fun e w base (h : DRes e w base c.text) => h.tell)
  have HF : Hid (callB c = (formB c && (decide (c.kind ≠ 1) || (readL c.text).isSome))) := rfl
  generalize callB c = R at *
  generalize formB c = F at *
  obtain ⟨sess, num, kind, text, slot, dst⟩ := c
  simp only [clC] at *
  have bA : Below w.heap.size w (w.alloc (.cells #[.int .i64 sess, .int .i64 num, .int .i64 kind, .string ⟨text.toArray⟩, .int .i64 slot, .int .i64 dst] 24)) := (Below.refl _ _).alloc (Nat.le_refl _) _
  have HA := hide bA
  have HX := hide (Box.made w 24 #[.int .i64 sess, .int .i64 num, .int .i64 kind, .string ⟨text.toArray⟩, .int .i64 slot, .int .i64 dst])
  clear bA
  by_cases hk : kind = 1
  · subst hk
    generalize hrs : (readL text).isSome = B at *
    have HR : Hid (R = (F && B)) := by show _ = _; rw [unhide HF]; simp
    clear hrs HF
    go_enter Tryz.func10, Tryz.ntmps10
    go_wp2_with fail
    refine (unhide HRD _).mono ?_; rintro e w1 ⟨hR1, hb1⟩
    obtain ⟨r1, rfl, o1⟩ := unhide HT _ _ _ hR1
    have HB1 := hide ((unhide HA).trans (hb1.mono (unhide HA).size))
    have hx1 := (unhide HX).kept hb1
    obtain ⟨q0, q1, q2, q3, q4, q5⟩ : _ ∧ _ ∧ _ ∧ _ ∧ _ ∧ _ := ⟨hx1.cell 0, hx1.cell 1, hx1.cell 2, hx1.cell 3, hx1.cell 4, hx1.cell 5⟩
    simp only [List.getElem?_toArray, List.getElem?_cons_zero, List.getElem?_cons_succ] at q0 q1 q2 q3 q4 q5
    clear hb1 hR1 o1 hx1
    cases B
    · go_wp2_with fail
      go_ret
      exact ⟨ret_bool (by rw [unhide HR]; simp), unhide HB1⟩
    · go_wp2_with fail
      refine (unhide HL3 _).mono ?_; rintro e w2 ⟨rfl, hb2⟩
      go_wp2_with fail
      go_ret
      exact ⟨ret_bool (by rw [unhide HR]; simp), (unhide HB1).trans (hb2.mono (unhide HB1).size)⟩
  · have hk' : (kind == 1) = false := by simpa using hk
    have HR : Hid (R = F) := by show _ = _; rw [unhide HF]; simp [hk]
    go_enter Tryz.func10, Tryz.ntmps10
    go_wp2_with fail
    refine (unhide HL3 _).mono ?_; rintro e w2 ⟨rfl, hb2⟩
    go_wp2_with fail
    go_ret
    exact ⟨ret_bool (unhide HR).symm, (unhide HA).trans (hb2.mono (unhide HA).size)⟩

set_option maxRecDepth 100000 in
set_option maxHeartbeats 2000000 in
theorem iCallOk_any (c : Cl) (w : World) (hg : GW w) :
    Calls Tryz.prog 9 #[.agg (clC c)] w fun e w' => e = .returned (.bool (callB c)) ∧ Below w.heap.size w w' := by
  obtain ⟨sess, num, kind, text, slot, dst⟩ := c
  simp only [clC]
  have bA : Below w.heap.size w (w.alloc (.cells #[.int .i64 sess, .int .i64 num, .int .i64 kind, .string ⟨text.toArray⟩, .int .i64 slot, .int .i64 dst] 24)) := (Below.refl _ _).alloc (Nat.le_refl _) _
  have HA := hide bA
  have HX := hide (Box.made w 24 #[.int .i64 sess, .int .i64 num, .int .i64 kind, .string ⟨text.toArray⟩, .int .i64 slot, .int .i64 dst])
  have HRD := hide (iRead_any text _ (hg.kept bA))
  have HT := hide (fun e w base (h : DRes e w base text) => h.tell)
  have HRL := hide (fun (h : (readL text).isSome = true) => readL_len h)
  have HF : Hid (callB ⟨sess, num, kind, text, slot, dst⟩ = (formB ⟨sess, num, kind, text, slot, dst⟩ && (decide (kind ≠ 1) || (readL text).isSome))) := rfl
  clear bA hg
  cases hs : inB sess 0 2
  · skip
    go_enter Tryz.func9, Tryz.ntmps9
    go_wp2_with (first | (go_at_call 24; refine (isSessionC_any _ _).mono ?_; rintro e w' ⟨rfl, rfl⟩) | (go_at_call 25; refine (isCallNumberC_any _ _).mono ?_; rintro e w' ⟨rfl, rfl⟩) | (go_at_call 26; refine (isSlotC_any _ _).mono ?_; rintro e w' ⟨rfl, rfl⟩) | (go_at_call 27; refine (isHouseC_any _ _).mono ?_; rintro e w' ⟨rfl, rfl⟩))
    go_ret
    exact ⟨ret_bool (by rw [unhide HF]; simp [formB, hs]), unhide HA⟩
  cases hn : inB num 1 99
  · skip
    go_enter Tryz.func9, Tryz.ntmps9
    go_wp2_with (first | (go_at_call 24; refine (isSessionC_any _ _).mono ?_; rintro e w' ⟨rfl, rfl⟩) | (go_at_call 25; refine (isCallNumberC_any _ _).mono ?_; rintro e w' ⟨rfl, rfl⟩) | (go_at_call 26; refine (isSlotC_any _ _).mono ?_; rintro e w' ⟨rfl, rfl⟩) | (go_at_call 27; refine (isHouseC_any _ _).mono ?_; rintro e w' ⟨rfl, rfl⟩))
    go_ret
    exact ⟨ret_bool (by rw [unhide HF]; simp [formB, hs, hn]), unhide HA⟩
  by_cases hk : kind = 1
  · subst hk
    have HRL2 := hide (unhide HRL)
    go_enter Tryz.func9, Tryz.ntmps9
    go_wp2_with (first | (go_at_call 24; refine (isSessionC_any _ _).mono ?_; rintro e w' ⟨rfl, rfl⟩) | (go_at_call 25; refine (isCallNumberC_any _ _).mono ?_; rintro e w' ⟨rfl, rfl⟩) | (go_at_call 26; refine (isSlotC_any _ _).mono ?_; rintro e w' ⟨rfl, rfl⟩) | (go_at_call 27; refine (isHouseC_any _ _).mono ?_; rintro e w' ⟨rfl, rfl⟩))
    refine (unhide HRD).mono ?_; rintro e w1 ⟨hR1, hb1⟩
    obtain ⟨r1, rfl, o1⟩ := unhide HT _ _ _ hR1
    have HB1 := hide ((unhide HA).trans (hb1.mono (unhide HA).size))
    have hx1 := (unhide HX).kept hb1
    obtain ⟨q4, q5⟩ : _ ∧ _ := ⟨hx1.cell 4, hx1.cell 5⟩
    simp only [List.getElem?_toArray, List.getElem?_cons_zero, List.getElem?_cons_succ] at q4 q5
    clear hb1 hR1 o1 hx1
    cases hB : (readL text).isSome
    · skip
      go_wp2_with fail
      go_ret
      exact ⟨ret_bool (by rw [unhide HF]; simp [formB, hs, hn, hB]), unhide HB1⟩
    have hl80 := unhide HRL2 hB
    by_cases h1 : slot = 0
    · subst h1
      by_cases h2 : dst = 0
      · subst h2
        go_wp2_with fail
        go_ret
        exact ⟨ret_bool (by rw [unhide HF]; simp [formB, hs, hn, hB, hl80]), unhide HB1⟩
      · have h2' : (dst == 0) = false := by simpa using h2
        go_wp2_with fail
        go_ret
        exact ⟨ret_bool (by rw [unhide HF]; simp [formB, hs, hn, hB, h2]), unhide HB1⟩
    · have h1' : (slot == 0) = false := by simpa using h1
      go_wp2_with fail
      go_ret
      exact ⟨ret_bool (by rw [unhide HF]; simp [formB, hs, hn, hB, h1]), unhide HB1⟩
  have hk' : (kind == 1) = false := by simpa using hk
  by_cases hk2 : kind = 2
  · subst hk2
    by_cases h1 : text = []
    · subst h1
      cases h2 : inB slot 0 7
      · skip
        go_enter Tryz.func9, Tryz.ntmps9
        go_wp2_with (first | (go_at_call 24; refine (isSessionC_any _ _).mono ?_; rintro e w' ⟨rfl, rfl⟩) | (go_at_call 25; refine (isCallNumberC_any _ _).mono ?_; rintro e w' ⟨rfl, rfl⟩) | (go_at_call 26; refine (isSlotC_any _ _).mono ?_; rintro e w' ⟨rfl, rfl⟩) | (go_at_call 27; refine (isHouseC_any _ _).mono ?_; rintro e w' ⟨rfl, rfl⟩))
        go_ret
        exact ⟨ret_bool (by rw [unhide HF]; simp [formB, hs, hn, h2]), unhide HA⟩
      · cases h3 : inB dst 0 2
        · skip
          go_enter Tryz.func9, Tryz.ntmps9
          go_wp2_with (first | (go_at_call 24; refine (isSessionC_any _ _).mono ?_; rintro e w' ⟨rfl, rfl⟩) | (go_at_call 25; refine (isCallNumberC_any _ _).mono ?_; rintro e w' ⟨rfl, rfl⟩) | (go_at_call 26; refine (isSlotC_any _ _).mono ?_; rintro e w' ⟨rfl, rfl⟩) | (go_at_call 27; refine (isHouseC_any _ _).mono ?_; rintro e w' ⟨rfl, rfl⟩))
          go_ret
          exact ⟨ret_bool (by rw [unhide HF]; simp [formB, hs, hn, h2, h3]), unhide HA⟩
        · skip
          go_enter Tryz.func9, Tryz.ntmps9
          go_wp2_with (first | (go_at_call 24; refine (isSessionC_any _ _).mono ?_; rintro e w' ⟨rfl, rfl⟩) | (go_at_call 25; refine (isCallNumberC_any _ _).mono ?_; rintro e w' ⟨rfl, rfl⟩) | (go_at_call 26; refine (isSlotC_any _ _).mono ?_; rintro e w' ⟨rfl, rfl⟩) | (go_at_call 27; refine (isHouseC_any _ _).mono ?_; rintro e w' ⟨rfl, rfl⟩))
          go_ret
          exact ⟨ret_bool (by rw [unhide HF]; simp [formB, hs, hn, h2, h3]), unhide HA⟩
    · have h1' : (text == []) = false := by simpa using h1
      have h1'' : text.isEmpty = false := by simpa using h1
      go_enter Tryz.func9, Tryz.ntmps9
      go_wp2_with (first | (go_at_call 24; refine (isSessionC_any _ _).mono ?_; rintro e w' ⟨rfl, rfl⟩) | (go_at_call 25; refine (isCallNumberC_any _ _).mono ?_; rintro e w' ⟨rfl, rfl⟩) | (go_at_call 26; refine (isSlotC_any _ _).mono ?_; rintro e w' ⟨rfl, rfl⟩) | (go_at_call 27; refine (isHouseC_any _ _).mono ?_; rintro e w' ⟨rfl, rfl⟩))
      go_ret
      exact ⟨ret_bool (by rw [unhide HF]; simp [formB, hs, hn, h1]), unhide HA⟩
  · have hk2' : (kind == 2) = false := by simpa using hk2
    go_enter Tryz.func9, Tryz.ntmps9
    go_wp2_with (first | (go_at_call 24; refine (isSessionC_any _ _).mono ?_; rintro e w' ⟨rfl, rfl⟩) | (go_at_call 25; refine (isCallNumberC_any _ _).mono ?_; rintro e w' ⟨rfl, rfl⟩) | (go_at_call 26; refine (isSlotC_any _ _).mono ?_; rintro e w' ⟨rfl, rfl⟩) | (go_at_call 27; refine (isHouseC_any _ _).mono ?_; rintro e w' ⟨rfl, rfl⟩))
    go_ret
    exact ⟨ret_bool (by rw [unhide HF]; simp [formB, hs, hn, hk, hk2]), unhide HA⟩

end Go.Proofs.YtedlhepbbefikaaGreatDoor
