/- How the laws size, copy and compare words. -/
import Derived.Test.YtfankbnlgmfdjaaWd
namespace Go.Proofs.Ytfankbnlgmfdjaa
open Go.RowKit

theorem Box.free17 {w : World} {g : Nat} {T : TypeId} {cs : Array Value} (h : Box w g T cs) : w.frozen? ⟨g, 0, none⟩ = false ∧ w.frozen? ⟨g, 1, none⟩ = false ∧ w.frozen? ⟨g, 2, none⟩ = false ∧ w.frozen? ⟨g, 3, none⟩ = false ∧ w.frozen? ⟨g, 4, none⟩ = false ∧ w.frozen? ⟨g, 5, none⟩ = false ∧ w.frozen? ⟨g, 6, none⟩ = false ∧ w.frozen? ⟨g, 7, none⟩ = false ∧ w.frozen? ⟨g, 8, none⟩ = false ∧ w.frozen? ⟨g, 9, none⟩ = false ∧ w.frozen? ⟨g, 10, none⟩ = false ∧ w.frozen? ⟨g, 11, none⟩ = false ∧ w.frozen? ⟨g, 12, none⟩ = false ∧ w.frozen? ⟨g, 13, none⟩ = false ∧ w.frozen? ⟨g, 14, none⟩ = false ∧ w.frozen? ⟨g, 15, none⟩ = false ∧ w.frozen? ⟨g, 16, none⟩ = false := ⟨h.free 0, h.free 1, h.free 2, h.free 3, h.free 4, h.free 5, h.free 6, h.free 7, h.free 8, h.free 9, h.free 10, h.free 11, h.free 12, h.free 13, h.free 14, h.free 15, h.free 16⟩

theorem Box.free6at {w : World} {g : Nat} {T : TypeId} {cs : Array Value} (h : Box w g T cs) : w.frozen? ⟨g, 11, none⟩ = false ∧ w.frozen? ⟨g, 12, none⟩ = false ∧ w.frozen? ⟨g, 13, none⟩ = false ∧ w.frozen? ⟨g, 14, none⟩ = false ∧ w.frozen? ⟨g, 15, none⟩ = false ∧ w.frozen? ⟨g, 16, none⟩ = false := ⟨h.free 11, h.free 12, h.free 13, h.free 14, h.free 15, h.free 16⟩

theorem toInsE_any (v : Value) (xs : List Int) (w : World) (hv : InsAt w v xs) (hn : xs.length ≤ 1048576) :
    Calls Try.prog 60 #[v] w fun e w' => ∃ g, e = .returned (.slice (some ⟨g, 0, none⟩) xs.length xs.length) ∧ w.heap.size ≤ g ∧ InsAt w' (.slice (some ⟨g, 0, none⟩) xs.length xs.length) xs ∧ Below w.heap.size w w' :=
  (toIns_any v xs w hv hn).mono fun _ _ ⟨h1, h2, _, _, h5⟩ => ⟨_, h1, Nat.le_refl _, h2, h5⟩

theorem toPrsE_any (v : Value) (ps : List Pr) (w : World) (hv : PrsAt w v ps) (hn : ps.length ≤ 1048576) :
    Calls Try.prog 61 #[v] w fun e w' => ∃ g, e = .returned (.slice (some ⟨g, 0, none⟩) ps.length ps.length) ∧ w.heap.size ≤ g ∧ PrsAt w' (.slice (some ⟨g, 0, none⟩) ps.length ps.length) ps ∧ Below w.heap.size w w' :=
  (toPrs_any v ps w hv hn).mono fun _ _ ⟨h1, h2, _, _, h5⟩ => ⟨_, h1, Nat.le_refl _, h2, h5⟩

set_option maxHeartbeats 1000000 in
theorem szCall_any (W : Wd) (L : Int) (w : World) (h0 : 0 ≤ L) (h1 : L ≤ 1048576) (ht : W.text.size ≤ maxLen) :
    Calls Try.prog 59 #[clV W, .int .i64 L] w fun e w' => ∃ r : Int, e = .returned (.int .i64 r) ∧ Below w.heap.size w w' := by
  obtain ⟨kind, src, dst, stamp, try_, what, yes, slots, prs, code, vals, ses, num, ck, text, slot, house⟩ := W
  simp only [clV, clC] at *
  unfold maxLen at ht
  by_cases h : L - (text.size : Int) < 0
  all_goals
    go_enter Try.func59, Try.ntmps59
    go_wp2_with fail
    go_ret
    first | exact ⟨⟨_, rfl⟩, (Below.refl _ _).alloc (Nat.le_refl _) _⟩ | exact ⟨_, rfl, (Below.refl _ _).alloc (Nat.le_refl _) _⟩

set_option maxRecDepth 100000 in
set_option maxHeartbeats 1000000 in
theorem toCall_any (W : Wd) (w : World) :
    Calls Try.prog 62 #[clV W] w fun e w' => e = .returned (clV W) ∧ Below w.heap.size w w' := by
  obtain ⟨kind, src, dst, stamp, try_, what, yes, slots, prs, code, vals, ses, num, ck, text, slot, house⟩ := W
  simp only [clV, clC]
  go_enter Try.func62, Try.ntmps62
  go_wp2
  refine bodyPost_ret (v := .agg #[.int .i64 ses, .int .i64 num, .int .i64 ck, .string text, .int .i64 slot, .int .i64 house]) (by simp [results, Try.results62, go_sem]) rfl ⟨rfl, ?_⟩
  repeat (first | exact Below.refl _ _ | (refine Below.alloc ?_ (by simp <;> omega) _) | (refine Below.setCell ?_ (by simp <;> omega) _))

set_option maxRecDepth 100000 in
set_option maxHeartbeats 1000000 in
theorem eqCallSelf_any (W : Wd) (w : World) :
    Calls Try.prog 65 #[clV W, clV W] w fun e w' => e = .returned (.bool true) ∧ Below w.heap.size w w' := by
  obtain ⟨kind, src, dst, stamp, try_, what, yes, slots, prs, code, vals, ses, num, ck, text, slot, house⟩ := W
  simp only [clV, clC]
  have e1 : (ses != ses) = false := by simp
  have e2 : (num != num) = false := by simp
  have e3 : (ck != ck) = false := by simp
  have e4 : (slot != slot) = false := by simp
  have e5 : (house != house) = false := by simp
  have e6 : (text.toList == text.toList) = true := by simp
  go_enter Try.func65, Try.ntmps65
  go_wp2_with fail
  go_ret
  refine ⟨rfl, ?_⟩
  repeat (first | exact Below.refl _ _ | (refine Below.alloc ?_ (by simp <;> omega) _) | (refine Below.setCell ?_ (by simp <;> omega) _))

set_option maxRecDepth 100000 in
set_option maxHeartbeats 2000000 in
theorem szWord_any (W : Wd) (a b c : Value) (w : World) (h : WdAt w W a b c) :
    Calls Try.prog 16 #[wdV W a b c, .int .i64 1048576] w fun e w' => ∃ r : Int, e = .returned (.int .i64 r) ∧ (r < 0 ∨ (0 ≤ r ∧ WdFit W)) ∧ Below w.heap.size w w' := by
  obtain ⟨a0, c0, rfl, hS⟩ := h.slots.slice
  obtain ⟨a1, c1, rfl, hP⟩ := h.prs.shape
  obtain ⟨a2, c2, rfl, hV⟩ := h.vals.slice
  have HC := hide (fun L ww h0 h1 => szCall_any W L ww h0 h1 h.text)
  have HW := hide (fun x y z => (⟨x, y, z⟩ : WdFit W))
  obtain ⟨kind, src, dst, stamp, try_, what, yes, slots, prs, code, vals, ses, num, ck, text, slot, house⟩ := W
  simp only [wdV, wdC, clV, clC] at *
  have HB := hide ((Below.refl w.heap.size w).alloc (Nat.le_refl _) (.cells #[.int .i64 kind, .int .i64 src, .int .i64 dst, .int .i64 stamp, .int .i64 try_, .int .i64 what, .bool yes, .slice a0 slots.length c0, .slice a1 prs.length c1, .int .i64 code, .slice a2 vals.length c2, .int .i64 ses, .int .i64 num, .int .i64 ck, .string text, .int .i64 slot, .int .i64 house] 39))
  generalize slots.length = nS at *
  generalize prs.length = nP at *
  generalize vals.length = nV at *
  clear h
  by_cases h1 : (nS : Int) ≤ 1048576
  case neg =>
    go_enter Try.func16, Try.ntmps16
    go_wp2_with fail
    refine (szIns_no a0 nS c0 1048576 _ (by omega) (by omega) hS (by omega)).mono ?_; rintro e w1 ⟨rfl, rfl⟩
    go_wp2_with fail
    go_ret
    exact ⟨_, rfl, .inl (by omega), unhide HB⟩
  have p1 : ¬ (1048576 - (nS : Int)) < 0 := by omega
  go_enter Try.func16, Try.ntmps16
  go_wp2_with fail
  refine (szIns_yes a0 nS c0 1048576 _ (by omega) h1).mono ?_; rintro e w1 ⟨rfl, rfl⟩
  go_wp2_with fail
  refine (szPrs_any a1 nP c1 (1048576 - (nS : Int)) _ (by omega) (by omega) hP).mono ?_; rintro e w2 ⟨rfl, rfl⟩
  by_cases h2 : (nP : Int) ≤ 1048576 - (nS : Int)
  case neg =>
    rw [if_neg h2]
    go_wp2_with fail
    go_ret
    exact ⟨_, rfl, .inl (by omega), unhide HB⟩
  rw [if_pos h2]
  have p2 : ¬ (1048576 - (nS : Int) - (nP : Int)) < 0 := by omega
  go_wp2_with fail
  by_cases h3 : (nV : Int) ≤ 1048576 - (nS : Int) - (nP : Int)
  case neg =>
    refine (szIns_no a2 nV c2 (1048576 - (nS : Int) - (nP : Int)) _ (by omega) (by omega) hV (by omega)).mono ?_; rintro e w1 ⟨rfl, rfl⟩
    go_wp2_with fail
    go_ret
    exact ⟨_, rfl, .inl (by omega), unhide HB⟩
  refine (szIns_yes a2 nV c2 (1048576 - (nS : Int) - (nP : Int)) _ (by omega) h3).mono ?_; rintro e w1 ⟨rfl, rfl⟩
  have p3 : ¬ (1048576 - (nS : Int) - (nP : Int) - (nV : Int)) < 0 := by omega
  go_wp2_with fail
  refine (unhide HC (1048576 - (nS : Int) - (nP : Int) - (nV : Int)) _ (by omega) (by omega)).mono ?_; rintro e w3 ⟨r, rfl, hb3⟩
  have HB3 := hide ((unhide HB).trans (hb3.mono (unhide HB).size))
  clear hb3
  by_cases hr0 : r < 0
  · go_wp2_with fail
    go_ret
    exact ⟨_, rfl, .inl (by omega), unhide HB3⟩
  · go_wp2_with fail
    go_ret
    exact ⟨_, rfl, .inr ⟨by omega, unhide HW (by omega) (by omega) (by omega)⟩, unhide HB3⟩

set_option maxRecDepth 100000 in
set_option maxHeartbeats 8000000 in
theorem toWord_any (W : Wd) (a b c : Value) (w : World) (h : WdAt w W a b c) (hf : WdFit W) :
    Calls Try.prog 17 #[wdV W a b c] w fun e w' => ∃ g1 g2 g3, e = .returned (wdV W (.slice (some ⟨g1, 0, none⟩) W.slots.length W.slots.length) (.slice (some ⟨g2, 0, none⟩) W.prs.length W.prs.length) (.slice (some ⟨g3, 0, none⟩) W.vals.length W.vals.length)) ∧ WdAt w' W (.slice (some ⟨g1, 0, none⟩) W.slots.length W.slots.length) (.slice (some ⟨g2, 0, none⟩) W.prs.length W.prs.length) (.slice (some ⟨g3, 0, none⟩) W.vals.length W.vals.length) ∧ Below w.heap.size w w' := by
  have HF := hide hf
  have HI := hide h.slots
  have HP := hide h.prs
  have HV := hide h.vals
  have HT := hide h.text
  obtain ⟨a0, c0, rfl, -⟩ := h.slots.slice
  obtain ⟨a1, c1, rfl, -⟩ := h.prs.shape
  obtain ⟨a2, c2, rfl, -⟩ := h.vals.slice
  have HC := hide (fun ww => toCall_any W ww)
  obtain ⟨kind, src, dst, stamp, try_, what, yes, slots, prs, code, vals, ses, num, ck, text, slot, house⟩ := W
  simp only [wdV, wdC, clV, clC] at *
  clear h hf
  go_enter Try.func17, Try.ntmps17
  go_wp2_with fail
  have bA : Below w.heap.size w (((w.alloc (.cells #[.int .i64 kind, .int .i64 src, .int .i64 dst, .int .i64 stamp, .int .i64 try_, .int .i64 what, .bool yes, .slice a0 slots.length c0, .slice a1 prs.length c1, .int .i64 code, .slice a2 vals.length c2, .int .i64 ses, .int .i64 num, .int .i64 ck, .string text, .int .i64 slot, .int .i64 house] 39)).alloc (.cells #[.int .i64 0, .int .i64 0, .int .i64 0, .int .i64 0, .int .i64 0, .int .i64 0, .bool false, .slice none 0 0, .slice none 0 0, .int .i64 0, .slice none 0 0, .int .i64 0, .int .i64 0, .int .i64 0, .string ByteArray.empty, .int .i64 0, .int .i64 0] 28)).alloc (.cells #[.int .i64 kind, .int .i64 src, .int .i64 dst, .int .i64 stamp, .int .i64 try_, .int .i64 what, .bool yes, .slice none 0 0, .slice none 0 0, .int .i64 0, .slice none 0 0, .int .i64 0, .int .i64 0, .int .i64 0, .string ByteArray.empty, .int .i64 0, .int .i64 0] 28)) := (((Below.refl _ _).alloc (Nat.le_refl _) _).alloc (by simp) _).alloc (by simp; omega) _
  refine (toInsE_any _ slots _ ((unhide HI).kept bA) (unhide HF).slots).mono ?_; rintro e w1 ⟨g1, rfl, hg1, hi1, hb1⟩
  have HA1 := hide ((((Box.made w 39 #[.int .i64 kind, .int .i64 src, .int .i64 dst, .int .i64 stamp, .int .i64 try_, .int .i64 what, .bool yes, .slice a0 slots.length c0, .slice a1 prs.length c1, .int .i64 code, .slice a2 vals.length c2, .int .i64 ses, .int .i64 num, .int .i64 ck, .string text, .int .i64 slot, .int .i64 house]).alloc (.cells #[.int .i64 0, .int .i64 0, .int .i64 0, .int .i64 0, .int .i64 0, .int .i64 0, .bool false, .slice none 0 0, .slice none 0 0, .int .i64 0, .slice none 0 0, .int .i64 0, .int .i64 0, .int .i64 0, .string ByteArray.empty, .int .i64 0, .int .i64 0] 28)).alloc (.cells #[.int .i64 kind, .int .i64 src, .int .i64 dst, .int .i64 stamp, .int .i64 try_, .int .i64 what, .bool yes, .slice none 0 0, .slice none 0 0, .int .i64 0, .slice none 0 0, .int .i64 0, .int .i64 0, .int .i64 0, .string ByteArray.empty, .int .i64 0, .int .i64 0] 28)).kept hb1)
  have HR1 := hide ((Box.made2 w (.cells #[.int .i64 kind, .int .i64 src, .int .i64 dst, .int .i64 stamp, .int .i64 try_, .int .i64 what, .bool yes, .slice a0 slots.length c0, .slice a1 prs.length c1, .int .i64 code, .slice a2 vals.length c2, .int .i64 ses, .int .i64 num, .int .i64 ck, .string text, .int .i64 slot, .int .i64 house] 39) (.cells #[.int .i64 0, .int .i64 0, .int .i64 0, .int .i64 0, .int .i64 0, .int .i64 0, .bool false, .slice none 0 0, .slice none 0 0, .int .i64 0, .slice none 0 0, .int .i64 0, .int .i64 0, .int .i64 0, .string ByteArray.empty, .int .i64 0, .int .i64 0] 28) (.cells #[.int .i64 kind, .int .i64 src, .int .i64 dst, .int .i64 stamp, .int .i64 try_, .int .i64 what, .bool yes, .slice none 0 0, .slice none 0 0, .int .i64 0, .slice none 0 0, .int .i64 0, .int .i64 0, .int .i64 0, .string ByteArray.empty, .int .i64 0, .int .i64 0] 28) rfl).kept hb1)
  have HO1 := hide ((Box.made3 w (.cells #[.int .i64 kind, .int .i64 src, .int .i64 dst, .int .i64 stamp, .int .i64 try_, .int .i64 what, .bool yes, .slice a0 slots.length c0, .slice a1 prs.length c1, .int .i64 code, .slice a2 vals.length c2, .int .i64 ses, .int .i64 num, .int .i64 ck, .string text, .int .i64 slot, .int .i64 house] 39) (.cells #[.int .i64 0, .int .i64 0, .int .i64 0, .int .i64 0, .int .i64 0, .int .i64 0, .bool false, .slice none 0 0, .slice none 0 0, .int .i64 0, .slice none 0 0, .int .i64 0, .int .i64 0, .int .i64 0, .string ByteArray.empty, .int .i64 0, .int .i64 0] 28) (.cells #[.int .i64 kind, .int .i64 src, .int .i64 dst, .int .i64 stamp, .int .i64 try_, .int .i64 what, .bool yes, .slice none 0 0, .slice none 0 0, .int .i64 0, .slice none 0 0, .int .i64 0, .int .i64 0, .int .i64 0, .string ByteArray.empty, .int .i64 0, .int .i64 0] 28) rfl).kept hb1)
  have HB1 := hide (bA.trans (hb1.mono bA.size))
  have HI1 := hide hi1
  have l1 := (unhide HO1).lt
  simp at hg1
  clear hi1 hb1 bA HI
  have q8 : w1.cell? ⟨w.heap.size, 8, none⟩ = some (.slice a1 prs.length c1) := (unhide HA1).cell 8
  have o7 : w1.cell? ⟨w.heap.size + 1 + 1, 7, none⟩ = some (.slice none 0 0) := (unhide HO1).cell 7
  have p7 : w1.frozen? ⟨w.heap.size + 1 + 1, 7, none⟩ = false := (unhide HO1).free 7
  have HBs : Hid (Below w.heap.size w (w1.setCell ⟨w.heap.size + 1 + 1, 7, none⟩ (.slice (some ⟨g1, 0, none⟩) slots.length slots.length))) := by repeat (first | with_reducible exact unhide HB1 | (refine Below.setCell ?_ (by first | (simp; done) | (simp; omega)) _))
  have HAs : Hid (Box (w1.setCell ⟨w.heap.size + 1 + 1, 7, none⟩ (.slice (some ⟨g1, 0, none⟩) slots.length slots.length)) w.heap.size 39 #[.int .i64 kind, .int .i64 src, .int .i64 dst, .int .i64 stamp, .int .i64 try_, .int .i64 what, .bool yes, .slice a0 slots.length c0, .slice a1 prs.length c1, .int .i64 code, .slice a2 vals.length c2, .int .i64 ses, .int .i64 num, .int .i64 ck, .string text, .int .i64 slot, .int .i64 house]) := by repeat (first | with_reducible exact unhide HA1 | (refine Box.setO ?_ (by omega) _ _))
  have HRs : Hid (Box (w1.setCell ⟨w.heap.size + 1 + 1, 7, none⟩ (.slice (some ⟨g1, 0, none⟩) slots.length slots.length)) (w.heap.size + 1) 28 #[.int .i64 0, .int .i64 0, .int .i64 0, .int .i64 0, .int .i64 0, .int .i64 0, .bool false, .slice none 0 0, .slice none 0 0, .int .i64 0, .slice none 0 0, .int .i64 0, .int .i64 0, .int .i64 0, .string ByteArray.empty, .int .i64 0, .int .i64 0]) := by repeat (first | with_reducible exact unhide HR1 | (refine Box.setO ?_ (by omega) _ _))
  have HOs : Hid (Box (w1.setCell ⟨w.heap.size + 1 + 1, 7, none⟩ (.slice (some ⟨g1, 0, none⟩) slots.length slots.length)) (w.heap.size + 1 + 1) 28 #[.int .i64 kind, .int .i64 src, .int .i64 dst, .int .i64 stamp, .int .i64 try_, .int .i64 what, .bool yes, .slice (some ⟨g1, 0, none⟩) slots.length slots.length, .slice none 0 0, .int .i64 0, .slice none 0 0, .int .i64 0, .int .i64 0, .int .i64 0, .string ByteArray.empty, .int .i64 0, .int .i64 0]) := ((unhide HO1).setC 7 (.slice (some ⟨g1, 0, none⟩) slots.length slots.length))
  have HIs := unhide HI1
  replace HIs := HIs.set (g := w.heap.size + 1 + 1) (by simp [Value.ownBlock]; omega) 7 (.slice (some ⟨g1, 0, none⟩) slots.length slots.length)
  have HIh := hide HIs
  clear HIs
  go_wp2_with fail
  refine (toPrsE_any _ prs _ ((unhide HP).kept (unhide HBs)) (unhide HF).prs).mono ?_; rintro e w2 ⟨g2, rfl, hg2, hi2, hb2⟩
  have HB2 := hide ((unhide HBs).trans (hb2.mono (unhide HBs).size))
  have HA2 := hide ((unhide HAs).kept hb2)
  have HR2 := hide ((unhide HRs).kept hb2)
  have HO2 := hide ((unhide HOs).kept hb2)
  have HI2 := hide ((unhide HIh).kept hb2)
  have HP2 := hide hi2
  have l2 := (unhide HO2).lt
  simp at hg2
  clear q8 o7 p7 hb2 hi2 HBs HAs HRs HOs HIh HB1 HA1 HR1 HO1 HI1
  have q9 : w2.cell? ⟨w.heap.size, 9, none⟩ = some (.int .i64 code) := (unhide HA2).cell 9
  have q10 : w2.cell? ⟨w.heap.size, 10, none⟩ = some (.slice a2 vals.length c2) := (unhide HA2).cell 10
  have o8 : w2.cell? ⟨w.heap.size + 1 + 1, 8, none⟩ = some (.slice none 0 0) := (unhide HO2).cell 8
  have o9 : w2.cell? ⟨w.heap.size + 1 + 1, 9, none⟩ = some (.int .i64 0) := (unhide HO2).cell 9
  have p8 : w2.frozen? ⟨w.heap.size + 1 + 1, 8, none⟩ = false := (unhide HO2).free 8
  have p9 : w2.frozen? ⟨w.heap.size + 1 + 1, 9, none⟩ = false := (unhide HO2).free 9
  have HBs : Hid (Below w.heap.size w ((w2.setCell ⟨w.heap.size + 1 + 1, 8, none⟩ (.slice (some ⟨g2, 0, none⟩) prs.length prs.length)).setCell ⟨w.heap.size + 1 + 1, 9, none⟩ (.int .i64 code))) := by repeat (first | with_reducible exact unhide HB2 | (refine Below.setCell ?_ (by first | (simp; done) | (simp; omega)) _))
  have HAs : Hid (Box ((w2.setCell ⟨w.heap.size + 1 + 1, 8, none⟩ (.slice (some ⟨g2, 0, none⟩) prs.length prs.length)).setCell ⟨w.heap.size + 1 + 1, 9, none⟩ (.int .i64 code)) w.heap.size 39 #[.int .i64 kind, .int .i64 src, .int .i64 dst, .int .i64 stamp, .int .i64 try_, .int .i64 what, .bool yes, .slice a0 slots.length c0, .slice a1 prs.length c1, .int .i64 code, .slice a2 vals.length c2, .int .i64 ses, .int .i64 num, .int .i64 ck, .string text, .int .i64 slot, .int .i64 house]) := by repeat (first | with_reducible exact unhide HA2 | (refine Box.setO ?_ (by omega) _ _))
  have HRs : Hid (Box ((w2.setCell ⟨w.heap.size + 1 + 1, 8, none⟩ (.slice (some ⟨g2, 0, none⟩) prs.length prs.length)).setCell ⟨w.heap.size + 1 + 1, 9, none⟩ (.int .i64 code)) (w.heap.size + 1) 28 #[.int .i64 0, .int .i64 0, .int .i64 0, .int .i64 0, .int .i64 0, .int .i64 0, .bool false, .slice none 0 0, .slice none 0 0, .int .i64 0, .slice none 0 0, .int .i64 0, .int .i64 0, .int .i64 0, .string ByteArray.empty, .int .i64 0, .int .i64 0]) := by repeat (first | with_reducible exact unhide HR2 | (refine Box.setO ?_ (by omega) _ _))
  have HOs : Hid (Box ((w2.setCell ⟨w.heap.size + 1 + 1, 8, none⟩ (.slice (some ⟨g2, 0, none⟩) prs.length prs.length)).setCell ⟨w.heap.size + 1 + 1, 9, none⟩ (.int .i64 code)) (w.heap.size + 1 + 1) 28 #[.int .i64 kind, .int .i64 src, .int .i64 dst, .int .i64 stamp, .int .i64 try_, .int .i64 what, .bool yes, .slice (some ⟨g1, 0, none⟩) slots.length slots.length, .slice (some ⟨g2, 0, none⟩) prs.length prs.length, .int .i64 code, .slice none 0 0, .int .i64 0, .int .i64 0, .int .i64 0, .string ByteArray.empty, .int .i64 0, .int .i64 0]) := (((unhide HO2).setC 8 (.slice (some ⟨g2, 0, none⟩) prs.length prs.length)).setC 9 (.int .i64 code))
  have HIs := unhide HI2
  replace HIs := HIs.set (g := w.heap.size + 1 + 1) (by simp [Value.ownBlock]; omega) 8 (.slice (some ⟨g2, 0, none⟩) prs.length prs.length)
  replace HIs := HIs.set (g := w.heap.size + 1 + 1) (by simp [Value.ownBlock]; omega) 9 (.int .i64 code)
  have HIh := hide HIs
  clear HIs
  have HPs := unhide HP2
  replace HPs := HPs.setFar (g := w.heap.size + 1 + 1) (by simp [Value.ownBlock]; omega) 8 (.slice (some ⟨g2, 0, none⟩) prs.length prs.length)
  replace HPs := HPs.setFar (g := w.heap.size + 1 + 1) (by simp [Value.ownBlock]; omega) 9 (.int .i64 code)
  have HPh := hide HPs
  clear HPs
  go_wp2_with fail
  refine (toInsE_any _ vals _ ((unhide HV).kept (unhide HBs)) (unhide HF).vals).mono ?_; rintro e w3 ⟨g3, rfl, hg3, hi3, hb3⟩
  have HB3 := hide ((unhide HBs).trans (hb3.mono (unhide HBs).size))
  have HA3 := hide ((unhide HAs).kept hb3)
  have HR3 := hide ((unhide HRs).kept hb3)
  have HO3 := hide ((unhide HOs).kept hb3)
  have HI3 := hide ((unhide HIh).kept hb3)
  have HP3 := hide ((unhide HPh).kept hb3)
  have HV3 := hide hi3
  have l3 := (unhide HO3).lt
  simp at hg3
  clear q9 q10 o8 o9 p8 p9 hb3 hi3 HBs HAs HRs HOs HIh HPh HB2 HA2 HR2 HO2 HI2 HP2
  have q11 : w3.cell? ⟨w.heap.size, 11, none⟩ = some (.int .i64 ses) := (unhide HA3).cell 11
  have q12 : w3.cell? ⟨w.heap.size, 12, none⟩ = some (.int .i64 num) := (unhide HA3).cell 12
  have q13 : w3.cell? ⟨w.heap.size, 13, none⟩ = some (.int .i64 ck) := (unhide HA3).cell 13
  have q14 : w3.cell? ⟨w.heap.size, 14, none⟩ = some (.string text) := (unhide HA3).cell 14
  have q15 : w3.cell? ⟨w.heap.size, 15, none⟩ = some (.int .i64 slot) := (unhide HA3).cell 15
  have q16 : w3.cell? ⟨w.heap.size, 16, none⟩ = some (.int .i64 house) := (unhide HA3).cell 16
  have o10 : w3.cell? ⟨w.heap.size + 1 + 1, 10, none⟩ = some (.slice none 0 0) := (unhide HO3).cell 10
  have p10 : w3.frozen? ⟨w.heap.size + 1 + 1, 10, none⟩ = false := (unhide HO3).free 10
  have HBs : Hid (Below w.heap.size w (w3.setCell ⟨w.heap.size + 1 + 1, 10, none⟩ (.slice (some ⟨g3, 0, none⟩) vals.length vals.length))) := by repeat (first | with_reducible exact unhide HB3 | (refine Below.setCell ?_ (by first | (simp; done) | (simp; omega)) _))
  have HAs : Hid (Box (w3.setCell ⟨w.heap.size + 1 + 1, 10, none⟩ (.slice (some ⟨g3, 0, none⟩) vals.length vals.length)) w.heap.size 39 #[.int .i64 kind, .int .i64 src, .int .i64 dst, .int .i64 stamp, .int .i64 try_, .int .i64 what, .bool yes, .slice a0 slots.length c0, .slice a1 prs.length c1, .int .i64 code, .slice a2 vals.length c2, .int .i64 ses, .int .i64 num, .int .i64 ck, .string text, .int .i64 slot, .int .i64 house]) := by repeat (first | with_reducible exact unhide HA3 | (refine Box.setO ?_ (by omega) _ _))
  have HRs : Hid (Box (w3.setCell ⟨w.heap.size + 1 + 1, 10, none⟩ (.slice (some ⟨g3, 0, none⟩) vals.length vals.length)) (w.heap.size + 1) 28 #[.int .i64 0, .int .i64 0, .int .i64 0, .int .i64 0, .int .i64 0, .int .i64 0, .bool false, .slice none 0 0, .slice none 0 0, .int .i64 0, .slice none 0 0, .int .i64 0, .int .i64 0, .int .i64 0, .string ByteArray.empty, .int .i64 0, .int .i64 0]) := by repeat (first | with_reducible exact unhide HR3 | (refine Box.setO ?_ (by omega) _ _))
  have HOs : Hid (Box (w3.setCell ⟨w.heap.size + 1 + 1, 10, none⟩ (.slice (some ⟨g3, 0, none⟩) vals.length vals.length)) (w.heap.size + 1 + 1) 28 #[.int .i64 kind, .int .i64 src, .int .i64 dst, .int .i64 stamp, .int .i64 try_, .int .i64 what, .bool yes, .slice (some ⟨g1, 0, none⟩) slots.length slots.length, .slice (some ⟨g2, 0, none⟩) prs.length prs.length, .int .i64 code, .slice (some ⟨g3, 0, none⟩) vals.length vals.length, .int .i64 0, .int .i64 0, .int .i64 0, .string ByteArray.empty, .int .i64 0, .int .i64 0]) := ((unhide HO3).setC 10 (.slice (some ⟨g3, 0, none⟩) vals.length vals.length))
  have HIs := unhide HI3
  replace HIs := HIs.set (g := w.heap.size + 1 + 1) (by simp [Value.ownBlock]; omega) 10 (.slice (some ⟨g3, 0, none⟩) vals.length vals.length)
  have HIh := hide HIs
  clear HIs
  have HPs := unhide HP3
  replace HPs := HPs.setFar (g := w.heap.size + 1 + 1) (by simp [Value.ownBlock]; omega) 10 (.slice (some ⟨g3, 0, none⟩) vals.length vals.length)
  have HPh := hide HPs
  clear HPs
  have HVs := unhide HV3
  replace HVs := HVs.set (g := w.heap.size + 1 + 1) (by simp [Value.ownBlock]; omega) 10 (.slice (some ⟨g3, 0, none⟩) vals.length vals.length)
  have HVh := hide HVs
  clear HVs
  go_wp2_with fail
  refine (unhide HC _).mono ?_; rintro e w4 ⟨rfl, hb4⟩
  have HB4 := hide ((unhide HBs).trans (hb4.mono (unhide HBs).size))
  have HR4 := hide ((unhide HRs).kept hb4)
  have HO4 := hide ((unhide HOs).kept hb4)
  have HI4 := hide ((unhide HIh).kept hb4)
  have HP4 := hide ((unhide HPh).kept hb4)
  have HV4 := hide ((unhide HVh).kept hb4)
  have l4 := (unhide HO4).lt
  clear q11 q12 q13 q14 q15 q16 o10 p10 hb4 HBs HAs HRs HOs HIh HPh HVh HB3 HA3 HR3 HO3 HI3 HP3 HV3
  have o0 : w4.cell? ⟨w.heap.size + 1 + 1, 0, none⟩ = some (.int .i64 kind) := (unhide HO4).cell 0
  have o1 : w4.cell? ⟨w.heap.size + 1 + 1, 1, none⟩ = some (.int .i64 src) := (unhide HO4).cell 1
  have o2 : w4.cell? ⟨w.heap.size + 1 + 1, 2, none⟩ = some (.int .i64 dst) := (unhide HO4).cell 2
  have o3 : w4.cell? ⟨w.heap.size + 1 + 1, 3, none⟩ = some (.int .i64 stamp) := (unhide HO4).cell 3
  have o4 : w4.cell? ⟨w.heap.size + 1 + 1, 4, none⟩ = some (.int .i64 try_) := (unhide HO4).cell 4
  have o5 : w4.cell? ⟨w.heap.size + 1 + 1, 5, none⟩ = some (.int .i64 what) := (unhide HO4).cell 5
  have o6 : w4.cell? ⟨w.heap.size + 1 + 1, 6, none⟩ = some (.bool yes) := (unhide HO4).cell 6
  have o7 : w4.cell? ⟨w.heap.size + 1 + 1, 7, none⟩ = some (.slice (some ⟨g1, 0, none⟩) slots.length slots.length) := (unhide HO4).cell 7
  have o8 : w4.cell? ⟨w.heap.size + 1 + 1, 8, none⟩ = some (.slice (some ⟨g2, 0, none⟩) prs.length prs.length) := (unhide HO4).cell 8
  have o9 : w4.cell? ⟨w.heap.size + 1 + 1, 9, none⟩ = some (.int .i64 code) := (unhide HO4).cell 9
  have o10 : w4.cell? ⟨w.heap.size + 1 + 1, 10, none⟩ = some (.slice (some ⟨g3, 0, none⟩) vals.length vals.length) := (unhide HO4).cell 10
  have o11 : w4.cell? ⟨w.heap.size + 1 + 1, 11, none⟩ = some (.int .i64 0) := (unhide HO4).cell 11
  have o12 : w4.cell? ⟨w.heap.size + 1 + 1, 12, none⟩ = some (.int .i64 0) := (unhide HO4).cell 12
  have o13 : w4.cell? ⟨w.heap.size + 1 + 1, 13, none⟩ = some (.int .i64 0) := (unhide HO4).cell 13
  have o14 : w4.cell? ⟨w.heap.size + 1 + 1, 14, none⟩ = some (.string ByteArray.empty) := (unhide HO4).cell 14
  have o15 : w4.cell? ⟨w.heap.size + 1 + 1, 15, none⟩ = some (.int .i64 0) := (unhide HO4).cell 15
  have o16 : w4.cell? ⟨w.heap.size + 1 + 1, 16, none⟩ = some (.int .i64 0) := (unhide HO4).cell 16
  have p11 : w4.frozen? ⟨w.heap.size + 1 + 1, 11, none⟩ = false := (unhide HO4).free 11
  have p12 : w4.frozen? ⟨w.heap.size + 1 + 1, 12, none⟩ = false := (unhide HO4).free 12
  have p13 : w4.frozen? ⟨w.heap.size + 1 + 1, 13, none⟩ = false := (unhide HO4).free 13
  have p14 : w4.frozen? ⟨w.heap.size + 1 + 1, 14, none⟩ = false := (unhide HO4).free 14
  have p15 : w4.frozen? ⟨w.heap.size + 1 + 1, 15, none⟩ = false := (unhide HO4).free 15
  have p16 : w4.frozen? ⟨w.heap.size + 1 + 1, 16, none⟩ = false := (unhide HO4).free 16
  have q0 : w4.cell? ⟨w.heap.size + 1, 0, none⟩ = some (.int .i64 0) := (unhide HR4).cell 0
  have q1 : w4.cell? ⟨w.heap.size + 1, 1, none⟩ = some (.int .i64 0) := (unhide HR4).cell 1
  have q2 : w4.cell? ⟨w.heap.size + 1, 2, none⟩ = some (.int .i64 0) := (unhide HR4).cell 2
  have q3 : w4.cell? ⟨w.heap.size + 1, 3, none⟩ = some (.int .i64 0) := (unhide HR4).cell 3
  have q4 : w4.cell? ⟨w.heap.size + 1, 4, none⟩ = some (.int .i64 0) := (unhide HR4).cell 4
  have q5 : w4.cell? ⟨w.heap.size + 1, 5, none⟩ = some (.int .i64 0) := (unhide HR4).cell 5
  have q6 : w4.cell? ⟨w.heap.size + 1, 6, none⟩ = some (.bool false) := (unhide HR4).cell 6
  have q7 : w4.cell? ⟨w.heap.size + 1, 7, none⟩ = some (.slice none 0 0) := (unhide HR4).cell 7
  have q8 : w4.cell? ⟨w.heap.size + 1, 8, none⟩ = some (.slice none 0 0) := (unhide HR4).cell 8
  have q9 : w4.cell? ⟨w.heap.size + 1, 9, none⟩ = some (.int .i64 0) := (unhide HR4).cell 9
  have q10 : w4.cell? ⟨w.heap.size + 1, 10, none⟩ = some (.slice none 0 0) := (unhide HR4).cell 10
  have q11 : w4.cell? ⟨w.heap.size + 1, 11, none⟩ = some (.int .i64 0) := (unhide HR4).cell 11
  have q12 : w4.cell? ⟨w.heap.size + 1, 12, none⟩ = some (.int .i64 0) := (unhide HR4).cell 12
  have q13 : w4.cell? ⟨w.heap.size + 1, 13, none⟩ = some (.int .i64 0) := (unhide HR4).cell 13
  have q14 : w4.cell? ⟨w.heap.size + 1, 14, none⟩ = some (.string ByteArray.empty) := (unhide HR4).cell 14
  have q15 : w4.cell? ⟨w.heap.size + 1, 15, none⟩ = some (.int .i64 0) := (unhide HR4).cell 15
  have q16 : w4.cell? ⟨w.heap.size + 1, 16, none⟩ = some (.int .i64 0) := (unhide HR4).cell 16
  have r0 : w4.frozen? ⟨w.heap.size + 1, 0, none⟩ = false := (unhide HR4).free 0
  have r1 : w4.frozen? ⟨w.heap.size + 1, 1, none⟩ = false := (unhide HR4).free 1
  have r2 : w4.frozen? ⟨w.heap.size + 1, 2, none⟩ = false := (unhide HR4).free 2
  have r3 : w4.frozen? ⟨w.heap.size + 1, 3, none⟩ = false := (unhide HR4).free 3
  have r4 : w4.frozen? ⟨w.heap.size + 1, 4, none⟩ = false := (unhide HR4).free 4
  have r5 : w4.frozen? ⟨w.heap.size + 1, 5, none⟩ = false := (unhide HR4).free 5
  have r6 : w4.frozen? ⟨w.heap.size + 1, 6, none⟩ = false := (unhide HR4).free 6
  have r7 : w4.frozen? ⟨w.heap.size + 1, 7, none⟩ = false := (unhide HR4).free 7
  have r8 : w4.frozen? ⟨w.heap.size + 1, 8, none⟩ = false := (unhide HR4).free 8
  have r9 : w4.frozen? ⟨w.heap.size + 1, 9, none⟩ = false := (unhide HR4).free 9
  have r10 : w4.frozen? ⟨w.heap.size + 1, 10, none⟩ = false := (unhide HR4).free 10
  have r11 : w4.frozen? ⟨w.heap.size + 1, 11, none⟩ = false := (unhide HR4).free 11
  have r12 : w4.frozen? ⟨w.heap.size + 1, 12, none⟩ = false := (unhide HR4).free 12
  have r13 : w4.frozen? ⟨w.heap.size + 1, 13, none⟩ = false := (unhide HR4).free 13
  have r14 : w4.frozen? ⟨w.heap.size + 1, 14, none⟩ = false := (unhide HR4).free 14
  have r15 : w4.frozen? ⟨w.heap.size + 1, 15, none⟩ = false := (unhide HR4).free 15
  have r16 : w4.frozen? ⟨w.heap.size + 1, 16, none⟩ = false := (unhide HR4).free 16
  go_wp2_with fail
  have HRz := ((((((((((((((((((((((((unhide HR4).setO (b := w.heap.size + 1 + 1) (by omega) 11 (.int .i64 ses)).setO (b := w.heap.size + 1 + 1) (by omega) 12 (.int .i64 num)).setO (b := w.heap.size + 1 + 1) (by omega) 13 (.int .i64 ck)).setO (b := w.heap.size + 1 + 1) (by omega) 14 (.string text)).setO (b := w.heap.size + 1 + 1) (by omega) 15 (.int .i64 slot)).setO (b := w.heap.size + 1 + 1) (by omega) 16 (.int .i64 house)).setC 0 (.int .i64 kind)).setC 1 (.int .i64 src)).setC 2 (.int .i64 dst)).setC 3 (.int .i64 stamp)).setC 4 (.int .i64 try_)).setC 5 (.int .i64 what)).setC 6 (.bool yes)).setC 7 (.slice (some ⟨g1, 0, none⟩) slots.length slots.length)).setC 8 (.slice (some ⟨g2, 0, none⟩) prs.length prs.length)).setC 9 (.int .i64 code)).setC 10 (.slice (some ⟨g3, 0, none⟩) vals.length vals.length)).setC 11 (.int .i64 ses)).setC 12 (.int .i64 num)).setC 13 (.int .i64 ck)).setC 14 (.string text)).setC 15 (.int .i64 slot)).setC 16 (.int .i64 house))
  refine bodyPost_ret (results_cell_row rfl _ _ (w.heap.size + 1) _ _ _ _ rfl HRz.row Try.underlying28 rfl (by kernel_rfl)) rfl ?_
  refine ⟨g1, g2, g3, by simp, ⟨?_, ?_, ?_, unhide HT⟩, ?_⟩
  · repeat (first | with_reducible exact unhide HI4 | (refine InsAt.set ?_ (by simp [Value.ownBlock]; omega) _ _))
  · repeat (first | with_reducible exact unhide HP4 | (refine PrsAt.setFar ?_ (by simp [Value.ownBlock]; omega) _ _))
  · repeat (first | with_reducible exact unhide HV4 | (refine InsAt.set ?_ (by simp [Value.ownBlock]; omega) _ _))
  · repeat (first | with_reducible exact unhide HB4 | (refine Below.setCell ?_ (by first | (simp; done) | (simp; omega)) _))

set_option maxRecDepth 100000 in
set_option maxHeartbeats 4000000 in
theorem eqWordSelf_any (W : Wd) (a b c a' b' c' : Value) (w : World) (h : WdAt w W a b c) (h' : WdAt w W a' b' c') :
    Calls Try.prog 18 #[wdV W a b c, wdV W a' b' c'] w fun e w' => e = .returned (.bool true) ∧ Below w.heap.size w w' := by
  obtain ⟨a0, c0, rfl, -⟩ := h.slots.slice
  obtain ⟨a1, c1, rfl, -⟩ := h.prs.shape
  obtain ⟨a2, c2, rfl, -⟩ := h.vals.slice
  obtain ⟨b0, d0, rfl, -⟩ := h'.slots.slice
  obtain ⟨b1, d1, rfl, -⟩ := h'.prs.shape
  obtain ⟨b2, d2, rfl, -⟩ := h'.vals.slice
  have HC := hide (fun ww => eqCallSelf_any W ww)
  obtain ⟨kind, src, dst, stamp, try_, what, yes, slots, prs, code, vals, ses, num, ck, text, slot, house⟩ := W
  simp only [wdV, wdC, clV, clC] at *
  have bA : Below w.heap.size w ((w.alloc (.cells #[.int .i64 kind, .int .i64 src, .int .i64 dst, .int .i64 stamp, .int .i64 try_, .int .i64 what, .bool yes, .slice a0 slots.length c0, .slice a1 prs.length c1, .int .i64 code, .slice a2 vals.length c2, .int .i64 ses, .int .i64 num, .int .i64 ck, .string text, .int .i64 slot, .int .i64 house] 28)).alloc (.cells #[.int .i64 kind, .int .i64 src, .int .i64 dst, .int .i64 stamp, .int .i64 try_, .int .i64 what, .bool yes, .slice b0 slots.length d0, .slice b1 prs.length d1, .int .i64 code, .slice b2 vals.length d2, .int .i64 ses, .int .i64 num, .int .i64 ck, .string text, .int .i64 slot, .int .i64 house] 28)) := ((Below.refl _ _).alloc (Nat.le_refl _) _).alloc (by simp) _
  have HA := hide bA
  have HX := hide ((Box.made w 28 #[.int .i64 kind, .int .i64 src, .int .i64 dst, .int .i64 stamp, .int .i64 try_, .int .i64 what, .bool yes, .slice a0 slots.length c0, .slice a1 prs.length c1, .int .i64 code, .slice a2 vals.length c2, .int .i64 ses, .int .i64 num, .int .i64 ck, .string text, .int .i64 slot, .int .i64 house]).alloc (.cells #[.int .i64 kind, .int .i64 src, .int .i64 dst, .int .i64 stamp, .int .i64 try_, .int .i64 what, .bool yes, .slice b0 slots.length d0, .slice b1 prs.length d1, .int .i64 code, .slice b2 vals.length d2, .int .i64 ses, .int .i64 num, .int .i64 ck, .string text, .int .i64 slot, .int .i64 house] 28))
  have HY : Hid (Box ((w.alloc (.cells #[.int .i64 kind, .int .i64 src, .int .i64 dst, .int .i64 stamp, .int .i64 try_, .int .i64 what, .bool yes, .slice a0 slots.length c0, .slice a1 prs.length c1, .int .i64 code, .slice a2 vals.length c2, .int .i64 ses, .int .i64 num, .int .i64 ck, .string text, .int .i64 slot, .int .i64 house] 28)).alloc (.cells #[.int .i64 kind, .int .i64 src, .int .i64 dst, .int .i64 stamp, .int .i64 try_, .int .i64 what, .bool yes, .slice b0 slots.length d0, .slice b1 prs.length d1, .int .i64 code, .slice b2 vals.length d2, .int .i64 ses, .int .i64 num, .int .i64 ck, .string text, .int .i64 slot, .int .i64 house] 28)) (w.heap.size + 1) 28 #[.int .i64 kind, .int .i64 src, .int .i64 dst, .int .i64 stamp, .int .i64 try_, .int .i64 what, .bool yes, .slice b0 slots.length d0, .slice b1 prs.length d1, .int .i64 code, .slice b2 vals.length d2, .int .i64 ses, .int .i64 num, .int .i64 ck, .string text, .int .i64 slot, .int .i64 house]) := ⟨heap_alloc2_new _ _ _⟩
  have HK := hide (h.kept bA)
  have HL := hide (h'.kept bA)
  have e0 : (kind != kind) = false := by simp
  have e1 : (src != src) = false := by simp
  have e2 : (dst != dst) = false := by simp
  have e3 : (stamp != stamp) = false := by simp
  have e4 : (try_ != try_) = false := by simp
  have e5 : (what != what) = false := by simp
  have e6 : (yes != yes) = false := by simp
  have e7 : (code != code) = false := by simp
  have ei := eqIns_self slots
  have ep := eqPrs_self prs
  have ev := eqIns_self vals
  clear h h' bA
  go_enter Try.func18, Try.ntmps18
  go_wp2_with fail
  refine (eqInsE_any _ _ slots slots _ (unhide HK).slots (unhide HL).slots).mono ?_; rintro e w1 ⟨rfl, hb1⟩
  have HB1 := hide ((unhide HA).trans (hb1.mono (unhide HA).size))
  have HX1 := hide ((unhide HX).kept hb1)
  have HY1 := hide ((unhide HY).kept hb1)
  have HK1 := hide ((unhide HK).kept hb1)
  have HL1 := hide ((unhide HL).kept hb1)
  clear hb1 HX HY HK HL
  have q8 : w1.cell? ⟨w.heap.size, 8, none⟩ = some (.slice a1 prs.length c1) := (unhide HX1).cell 8
  have r8 : w1.cell? ⟨w.heap.size + 1, 8, none⟩ = some (.slice b1 prs.length d1) := (unhide HY1).cell 8
  go_wp2_with fail
  refine (eqPrs_any _ _ prs prs _ (unhide HK1).prs (unhide HL1).prs).mono ?_; rintro e w2 ⟨rfl, hb2⟩
  clear q8 r8
  have HB2 := hide ((unhide HB1).trans (hb2.mono (unhide HB1).size))
  have HX2 := hide ((unhide HX1).kept hb2)
  have HY2 := hide ((unhide HY1).kept hb2)
  have HK2 := hide ((unhide HK1).kept hb2)
  have HL2 := hide ((unhide HL1).kept hb2)
  clear hb2 HX1 HY1 HK1 HL1
  have q9 : w2.cell? ⟨w.heap.size, 9, none⟩ = some (.int .i64 code) := (unhide HX2).cell 9
  have q10 : w2.cell? ⟨w.heap.size, 10, none⟩ = some (.slice a2 vals.length c2) := (unhide HX2).cell 10
  have r9 : w2.cell? ⟨w.heap.size + 1, 9, none⟩ = some (.int .i64 code) := (unhide HY2).cell 9
  have r10 : w2.cell? ⟨w.heap.size + 1, 10, none⟩ = some (.slice b2 vals.length d2) := (unhide HY2).cell 10
  go_wp2_with fail
  refine (eqInsE_any _ _ vals vals _ (unhide HK2).vals (unhide HL2).vals).mono ?_; rintro e w3 ⟨rfl, hb3⟩
  clear q9 r9 q10 r10
  have HB3 := hide ((unhide HB2).trans (hb3.mono (unhide HB2).size))
  have HX3 := hide ((unhide HX2).kept hb3)
  have HY3 := hide ((unhide HY2).kept hb3)
  have HK3 := hide ((unhide HK2).kept hb3)
  have HL3 := hide ((unhide HL2).kept hb3)
  clear hb3 HX2 HY2 HK2 HL2
  have q11 : w3.cell? ⟨w.heap.size, 11, none⟩ = some (.int .i64 ses) := (unhide HX3).cell 11
  have q12 : w3.cell? ⟨w.heap.size, 12, none⟩ = some (.int .i64 num) := (unhide HX3).cell 12
  have q13 : w3.cell? ⟨w.heap.size, 13, none⟩ = some (.int .i64 ck) := (unhide HX3).cell 13
  have q14 : w3.cell? ⟨w.heap.size, 14, none⟩ = some (.string text) := (unhide HX3).cell 14
  have q15 : w3.cell? ⟨w.heap.size, 15, none⟩ = some (.int .i64 slot) := (unhide HX3).cell 15
  have q16 : w3.cell? ⟨w.heap.size, 16, none⟩ = some (.int .i64 house) := (unhide HX3).cell 16
  have r11 : w3.cell? ⟨w.heap.size + 1, 11, none⟩ = some (.int .i64 ses) := (unhide HY3).cell 11
  have r12 : w3.cell? ⟨w.heap.size + 1, 12, none⟩ = some (.int .i64 num) := (unhide HY3).cell 12
  have r13 : w3.cell? ⟨w.heap.size + 1, 13, none⟩ = some (.int .i64 ck) := (unhide HY3).cell 13
  have r14 : w3.cell? ⟨w.heap.size + 1, 14, none⟩ = some (.string text) := (unhide HY3).cell 14
  have r15 : w3.cell? ⟨w.heap.size + 1, 15, none⟩ = some (.int .i64 slot) := (unhide HY3).cell 15
  have r16 : w3.cell? ⟨w.heap.size + 1, 16, none⟩ = some (.int .i64 house) := (unhide HY3).cell 16
  go_wp2_with fail
  refine (unhide HC _).mono ?_; rintro e w4 ⟨rfl, hb4⟩
  clear q11 r11 q12 r12 q13 r13 q14 r14 q15 r15 q16 r16
  go_wp2_with fail
  go_ret
  exact ⟨rfl, (unhide HB3).trans (hb4.mono (unhide HB3).size)⟩

end Go.Proofs.Ytfankbnlgmfdjaa
