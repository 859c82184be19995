/- The program's statements behind its interface: what a list of statements is turned into. -/
import Derived.Test.YtedlhepbbefikaaGreatDoorDealOk
namespace Go.Proofs.YtedlhepbbefikaaGreatDoor
open Go.RowKit

/-- A statement as a value of the program's interface. -/
def stepV (x : St) : Value :=
  if (inB x.key 0 31 && valB x.num) = true then
    (if x.op = 1 then .iface 133 (.agg #[.int .i64 x.key])
    else if x.op = 2 then .iface 135 (.agg #[.int .i64 x.key, .int .i64 x.num])
    else if x.op = 3 then .iface 136 (.agg #[.int .i64 x.key, .int .i64 x.num])
    else if x.op = 4 then .iface 137 (.agg #[.int .i64 x.key, .int .i64 x.num])
    else .nilIface)
  else .nilIface

set_option maxHeartbeats 1000000 in
theorem stepOf_any (x : St) (w : World) :
    Calls Tryz.prog 68 #[.agg #[.int .i64 x.op, .int .i64 x.key, .int .i64 x.num]] w fun e w' => e = .returned (.tuple #[stepV x, .bool (stOk x)]) ∧ Below w.heap.size w w' := by
  obtain ⟨a, b, c⟩ := x
  cases h1 : keyB b
  · go_enter Tryz.func68, Tryz.ntmps68
    go_wp2_with (first | (go_at_call 31; refine (isKey_any _ _).mono ?_; rintro e w' ⟨rfl, rfl⟩) | (go_at_call 85; refine (isValue_any _ _).mono ?_; rintro e w' ⟨rfl, rfl⟩))
    go_ret2
    have h1' : inB b 0 31 = false := h1
    refine ⟨ret_two ?_ ?_, (Below.refl _ _).alloc (Nat.le_refl _) _⟩
    · simp [stepV, h1']
    · simp [stOk, h1']
  have h1' : inB b 0 31 = true := h1
  cases h2 : valB c
  · go_enter Tryz.func68, Tryz.ntmps68
    go_wp2_with (first | (go_at_call 31; refine (isKey_any _ _).mono ?_; rintro e w' ⟨rfl, rfl⟩) | (go_at_call 85; refine (isValue_any _ _).mono ?_; rintro e w' ⟨rfl, rfl⟩))
    go_ret2
    refine ⟨ret_two ?_ ?_, (Below.refl _ _).alloc (Nat.le_refl _) _⟩
    · simp [stepV, h2]
    · simp [stOk, h2]
  by_cases h3 : a = 1
  · subst h3
    go_enter Tryz.func68, Tryz.ntmps68
    go_wp2_with (first | (go_at_call 31; refine (isKey_any _ _).mono ?_; rintro e w' ⟨rfl, rfl⟩) | (go_at_call 85; refine (isValue_any _ _).mono ?_; rintro e w' ⟨rfl, rfl⟩))
    go_region
    all_goals (try go_wp2)
    all_goals go_ret2
    have e14 : inB 1 1 4 = true := by decide
    refine ⟨ret_two ?_ ?_, ((Below.refl _ _).alloc (Nat.le_refl _) _).drew⟩
    · simp [stepV, h1', h2]
    · simp [stOk, h1', h2, e14, bne]
  have h3' : (a == 1) = false := by simpa using h3
  go_enter Tryz.func68, Tryz.ntmps68
  go_wp2_with (first | (go_at_call 31; refine (isKey_any _ _).mono ?_; rintro e w' ⟨rfl, rfl⟩) | (go_at_call 85; refine (isValue_any _ _).mono ?_; rintro e w' ⟨rfl, rfl⟩))
  all_goals go_ret2
  · have e2 : a = 2 := by simpa using ‹(a == 2) = true›
    subst e2
    have e14 : inB 2 1 4 = true := by decide
    refine ⟨ret_two ?_ ?_, ?_⟩
    · simp [stepV, h1', h2]
    · simp [stOk, h1', h2, e14]
    · repeat (first | exact Below.refl _ _ | (refine Below.alloc ?_ (by simp <;> omega) _))
  · have e2 : a = 3 := by simpa using ‹(a == 3) = true›
    subst e2
    have e14 : inB 3 1 4 = true := by decide
    refine ⟨ret_two ?_ ?_, ?_⟩
    · simp [stepV, h1', h2]
    · simp [stOk, h1', h2, e14]
    · repeat (first | exact Below.refl _ _ | (refine Below.alloc ?_ (by simp <;> omega) _))
  · have e2 : a = 4 := by simpa using ‹(a == 4) = true›
    subst e2
    have e14 : inB 4 1 4 = true := by decide
    refine ⟨ret_two ?_ ?_, ?_⟩
    · simp [stepV, h1', h2]
    · simp [stOk, h1', h2, e14]
    · repeat (first | exact Below.refl _ _ | (refine Below.alloc ?_ (by simp <;> omega) _))
  · have e2 : ¬ a = 2 := by simpa using ‹(a == 2) = false›
    have e3 : ¬ a = 3 := by simpa using ‹(a == 3) = false›
    have e4 : ¬ a = 4 := by simpa using ‹(a == 4) = false›
    refine ⟨ret_two ?_ ?_, ?_⟩
    · simp [stepV, h3, e2, e3, e4]
    · have : inB a 1 4 = false := by simp [inB]; omega
      simp [stOk, this]
    · repeat (first | exact Below.refl _ _ | (refine Below.alloc ?_ (by simp <;> omega) _))

theorem Tryz.infoStep : (Tryz.prog.info? 75).map (fun i => (i.zero, i.size, i.bytes)) = some (some .nilIface, 1, 16) := by kernel_rfl

theorem stepV_iface (x : St) (h : stOk x = true) : ∃ T u, stepV x = .iface T u := by
  simp only [stOk, Bool.and_eq_true] at h
  obtain ⟨⟨⟨h1, h2⟩, h3⟩, _⟩ := h
  simp [inB] at h1
  unfold stepV
  rw [if_pos (by rw [h2, h3]; rfl)]
  repeat' split
  all_goals first | exact ⟨_, _, rfl⟩ | omega

theorem stepV_oneCell (x : St) : (stepV x).oneCell' = true := by
  unfold stepV; repeat' split
  all_goals rfl

set_option maxHeartbeats 1000000 in
theorem stepsOf_any (v : Value) (ss : List St) (w : World) (hv : StsAt w v ss) :
    Calls Tryz.prog 45 #[v] w fun e w' => ∃ r, e = .returned (.tuple #[r, .bool (dealOk ss)]) ∧ (dealOk ss = true → w'.ownsRow w.heap.size 75 1 r ss.length (ss.map stepV)) ∧ (dealOk ss = false → r = .slice none 0 0) ∧ Below w.heap.size w w' := by
  obtain ⟨a, cap, rfl, h1, h2, h3⟩ := hv
  obtain ⟨i0, hi, hz0, hz1, hz2⟩ := info_parts Tryz.infoStep
  generalize hN : ss.length = N at *
  have HN : Hid (ss.length = N) := hN
  clear hN
  unfold maxLen at h2
  by_cases hlo : (N : Int) < 1
  · have HF : Hid (dealOk ss = false) := by have := HN.out; show dealOk ss = false; simp [dealOk]; omega
    go_enter Tryz.func45, Tryz.ntmps45
    go_wp2
    go_ret2
    have hf := HF.out
    exact ⟨_, ret_two rfl (by rw [hf]; rfl), by simp [hf], fun _ => rfl, Below.refl _ _⟩
  by_cases hhi : (6 : Int) < N
  · have HF : Hid (dealOk ss = false) := by have := HN.out; show dealOk ss = false; simp [dealOk]; omega
    go_enter Tryz.func45, Tryz.ntmps45
    go_wp2
    go_ret2
    have hf := HF.out
    exact ⟨_, ret_two rfl (by rw [hf]; rfl), by simp [hf], fun _ => rfl, Below.refl _ _⟩
  go_enter Tryz.func45, Tryz.ntmps45
  go_wp2
  go_loopw [4, 19] (fun r i wr => ∃ k : Nat, k ≤ N ∧ i = .int .i64 k ∧ Below w.heap.size w wr ∧ (ss.take k).all stOk = true ∧ wr.ownsRow w.heap.size 75 1 r k ((ss.take k).map stepV)) (fun _ i _ => N - (intOf i).toNat)
  case atStart => exact ⟨0, Nat.zero_le _, rfl, Below.refl _ _, by simp, by simpa using World.ownsRow_nil _ _ _ _⟩
  case round =>
    obtain ⟨k, hk, rfl, hb, htk, hown⟩ := hrel
    have HT : Hid ((ss.take k).all stOk = true) := htk
    clear htk
    by_cases hlt : k < N
    · obtain ⟨b, off, rfl, hc⟩ : ∃ b off, a = some ⟨b, off, none⟩ ∧ StCells w b off N ss := by
        rcases h3 with h3 | h3
        · have := HN.out; subst h3; simp at this; omega
        · exact h3
      obtain ⟨c0, c1, c2⟩ := (hc.kept hb) k hlt
      generalize hx : ss.getD k St.z = x at c0 c1 c2
      have HX : Hid (ss.getD k St.z = x) := hx
      clear h3 hc hx
      cases ho : stOk x
      · have hf : Hid (dealOk ss = false) := by
          have h1 := HX.out; have h3 := HN.out
          show dealOk ss = false
          unfold dealOk
          rw [all_false_at (d := St.z) (k := k) (by omega) (by rw [h1]; exact ho)]; simp
        go_wp2_with (go_at_call 68; refine (stepOf_any x _).mono ?_; rintro e w' ⟨rfl, hb1⟩)
        go_ret2
        have hff := hf.out
        refine ⟨_, ret_two rfl (by rw [hff]; rfl), by simp [hff], fun _ => rfl, ?_⟩
        exact hb.trans ((((Below.refl _ _).alloc (Nat.le_refl _) _).trans (hb1.mono (by simp))).mono hb.size)
      · obtain ⟨T, u, hsv⟩ := stepV_iface x ho
        have hst := stepOf_any x
        rw [hsv, ho] at hst
        have HST := hide hst
        have HSV := hide hsv
        clear hst hsv
        have HO : Hid (stOk x = true) := ho
        clear ho
        go_wp2_with (first
          | (go_at_call 68; refine (unhide HST _).mono ?_; rintro e w' ⟨rfl, hb1⟩; have hown1 := ownsRow_below (hown.alloc _) hb1; have hsz1 := hb1.size; simp at hsz1; have hsz0 := hb.size)
          | (at_builtin; refine wpList_append_lies _ rfl _ _ 68 rfl w.heap.size 75 i0 .nilIface 1 16 Tryz.underlying68 hi hz0 hz1 hz2 rfl (by decide) _ k _ rfl (hown1.alloc _) ⟨w'.heap.size, 0, none⟩ 1 1 [.iface T u] rfl rfl (cell_one_new _ _ _) (by simp [Value.oneCell']) (by decide) (by unfold maxLen; omega) (by omega) (by simp; omega) (w'.heap.size + 1) (by simp) ?_; intro g cp w1 hown2 hgrow hat hlt2))
        have hbw : Below w.heap.size w w1 := by
          refine Below.grown (Below.alloc (hb.trans ((((Below.refl _ _).alloc (Nat.le_refl _) _).trans (hb1.mono (by simp))).mono hb.size)) (by omega) _) hgrow (by simp; omega) (fun q hq => (hown1.lt q hq).1)
        go_roundw
        case rel =>
          have h1 := HX.out; have h2 := HO.out; have h3 := HN.out; have h4 := HSV.out
          refine ⟨k + 1, hlt, by go_num, hbw, all_take_step (d := St.z) HT.out (by omega) (by rw [h1]; exact h2), ?_⟩
          rw [take_succ_getD ss St.z k (by omega), List.map_append, h1]
          simpa [h4] using hown2
        case measure => simp [intOf]; omega
    · go_wp2
      go_ret2
      obtain rfl : k = N := by omega
      have h1 := HT.out; have h2 := HN.out
      rw [List.take_of_length_le (by omega)] at h1 hown
      have hd : dealOk ss = true := by simp [dealOk, h1]; omega
      exact ⟨_, ret_two rfl (by rw [hd]; rfl), fun _ => hown, by simp [hd], hb⟩

end Go.Proofs.YtedlhepbbefikaaGreatDoor
