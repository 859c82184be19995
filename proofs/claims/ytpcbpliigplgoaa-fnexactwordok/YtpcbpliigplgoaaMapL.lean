/- Maps: how the laws copy, compare, mark and look at them. -/
import Derived.Test.YtpcbpliigplgoaaMapI4
import Derived.Test.YtpcbpliigplgoaaIntsF
namespace Go.Proofs.Ytpcbpliigplgoaa
open Go.RowKit

set_option maxHeartbeats 400000 in
theorem szIns_yes (a : Option Addr) (n cap : Nat) (left : Int) (w : World) (h1 : left ≤ 1048576) (h : (n : Int) ≤ left) :
    Calls Try.prog 15 #[.slice a n cap, .int .i64 left] w fun e w' => e = .returned (.int .i64 (left - n)) ∧ w' = w := by
  have h' : ¬ left - (n : Int) < 0 := by omega
  go_enter Try.func15, Try.ntmps15
  go_wp2
  go_ret
  exact ⟨rfl, rfl⟩

set_option maxHeartbeats 400000 in
theorem szIns_no (a : Option Addr) (n cap : Nat) (left : Int) (w : World) (h0 : 0 ≤ left) (h1 : left ≤ 1048576) (hn : n ≤ maxLen) (h : left < (n : Int)) :
    Calls Try.prog 15 #[.slice a n cap, .int .i64 left] w fun e w' => e = .returned (.int .i64 (-1)) ∧ w' = w := by
  unfold maxLen at hn
  have h' : left - (n : Int) < 0 := by omega
  go_enter Try.func15, Try.ntmps15
  go_wp2
  go_ret
  exact ⟨rfl, rfl⟩

set_option maxHeartbeats 400000 in
theorem szMap_yes (v : Int) (a : Option Addr) (n cap : Nat) (w : World) (h : (n : Int) ≤ 1048576) :
    Calls Try.prog 40 #[.agg #[.int .i64 v, .slice a n cap], .int .i64 1048576] w fun e w' => e = .returned (.int .i64 (1048576 - n)) ∧ Below w.heap.size w w' := by
  have h' : ¬ (1048576 - (n : Int)) < 0 := by omega
  go_enter Try.func40, Try.ntmps40
  go_wp2_with fail
  refine (szIns_yes a n cap 1048576 _ (by omega) h).mono ?_; rintro e w' ⟨rfl, rfl⟩
  go_wp2_with fail
  go_ret
  exact ⟨rfl, (Below.refl _ _).alloc (Nat.le_refl _) _⟩

set_option maxHeartbeats 400000 in
theorem szMap_no (v : Int) (a : Option Addr) (n cap : Nat) (w : World) (hn : n ≤ maxLen) (h : 1048576 < (n : Int)) :
    Calls Try.prog 40 #[.agg #[.int .i64 v, .slice a n cap], .int .i64 1048576] w fun e w' => e = .returned (.int .i64 (-1)) ∧ Below w.heap.size w w' := by
  go_enter Try.func40, Try.ntmps40
  go_wp2_with fail
  refine (szIns_no a n cap 1048576 _ (by omega) (by omega) hn h).mono ?_; rintro e w' ⟨rfl, rfl⟩
  go_wp2_with fail
  go_ret
  exact ⟨rfl, (Below.refl _ _).alloc (Nat.le_refl _) _⟩

set_option maxHeartbeats 1000000 in
theorem toIns_any (v : Value) (xs : List Int) (w : World) (hv : InsAt w v xs) (hn : xs.length ≤ 1048576) :
    Calls Try.prog 24 #[v] w fun e w' => e = .returned (.slice (some ⟨w.heap.size, 0, none⟩) xs.length xs.length) ∧ InsAt w' (.slice (some ⟨w.heap.size, 0, none⟩) xs.length xs.length) xs ∧ Room w' w.heap.size xs.length ∧ w.heap.size < w'.heap.size ∧ Below w.heap.size w w' := by
  obtain ⟨a, cap, rfl, h1, h2, h3⟩ := hv
  obtain ⟨i0, hi, hz0, hz1, hz2⟩ := info_parts Try.infoI1
  generalize hN : xs.length = N at *
  have hmk : ∀ w : World, (Instr.makeSlice 22 (.int .i64 (N : Int)) (.int .i64 (N : Int))).run Try.prog w = .ok (.slice (some ⟨w.heap.size, 0, none⟩) N N) (w.alloc (.cells (madeCells #[.int .i64 0] N) 3)) := by
    intro w
    have := run_make (P := Try.prog) w 22 3 i0 (.int .i64 0) Try.underlying22 hi hz0 .i64 .i64 N N (by omega) (by omega) (by rw [hz2]; omega) (by omega)
    simpa [hz1, Value.cells] using this
  clear hi hz0 hz1 hz2 i0
  have HN := hide hN
  clear hN
  go_enter Try.func24, Try.ntmps24
  go_wp2
  go_loopw [4] (fun i wr => ∃ k : Nat, k ≤ N ∧ i = .int .i64 k ∧ Below w.heap.size w wr ∧ w.heap.size < wr.heap.size ∧ Room wr w.heap.size N ∧ InCells wr w.heap.size 0 k xs) (fun i _ => N - (intOf i).toNat)
  case atStart => exact ⟨0, Nat.zero_le _, rfl, (Below.refl _ _).alloc (Nat.le_refl _) _, by simp, Room.made _ _ _ _, fun i hi => absurd hi (Nat.not_lt_zero _)⟩
  case round =>
    obtain ⟨k, hk, rfl, hb, hsz, hroom, hcs⟩ := hrel
    by_cases hlt : k < N
    · obtain ⟨b, off, rfl, hc⟩ : ∃ b off, a = some ⟨b, off, none⟩ ∧ InCells w b off N xs := by
        rcases h3 with h3 | h3
        · have := unhide HN; subst h3; simp at this; omega
        · exact h3
      have c0 := (hc.kept hb) k hlt
      obtain ⟨⟨u0, r0⟩, f0⟩ := hroom k hlt
      generalize hx : xs.getD k 0 = x at c0
      have HX := hide hx
      clear h3 hmk hc hx
      go_wp2
      go_roundw
      case rel => exact ⟨k + 1, hlt, by go_num, hb.setCell (Nat.le_refl _) _, by simpa [World.setCell] using hsz, hroom.set _ _, hcs.push hroom hlt (unhide HX)⟩
      case measure => simp [intOf]; omega
    · go_wp2
      go_ret
      obtain rfl : k = N := by omega
      have hN := unhide HN
      exact ⟨rfl, ⟨_, _, by rw [hN], by omega, by unfold maxLen; omega, .inr ⟨_, _, rfl, by rw [hN]; exact hcs⟩⟩, hroom, hsz, hb⟩

set_option maxRecDepth 100000 in
set_option maxHeartbeats 1000000 in
theorem toMap_any (v : Int) (u : Value) (xs : List Int) (w : World) (hu : InsAt w u xs) (hn : xs.length ≤ 1048576) :
    Calls Try.prog 45 #[.agg #[.int .i64 v, u]] w fun e w' => ∃ g, e = .returned (.agg #[.int .i64 v, .slice (some ⟨g, 0, none⟩) xs.length xs.length]) ∧ InsAt w' (.slice (some ⟨g, 0, none⟩) xs.length xs.length) xs ∧ OwnIn w' (.slice (some ⟨g, 0, none⟩) xs.length xs.length) xs.length w.heap.size ∧ Below w.heap.size w w' := by
  have HU := hide hu
  obtain ⟨a, cap, rfl, h1, h2, h3⟩ := hu
  clear h1 h2 h3
  go_enter Try.func45, Try.ntmps45
  go_wp2_with fail
  have bA : Below w.heap.size w (((w.alloc (.cells #[.int .i64 v, .slice a xs.length cap] 38)).alloc (.cells #[.int .i64 0, .slice none 0 0] 44)).alloc (.cells #[.int .i64 v, .slice none 0 0] 44)) := (((Below.refl _ _).alloc (Nat.le_refl _) _).alloc (by simp) _).alloc (by simp; omega) _
  refine (toIns_any _ xs _ ((unhide HU).kept bA) hn).mono ?_; rintro e w1 ⟨rfl, hi1, hr1, hz1, hb1⟩
  have HB1 := hide (bA.trans (hb1.mono bA.size))
  have HR : Hid (w1.heap[w.heap.size + 1]? = some (.cells #[.int .i64 0, .slice none 0 0] 44 (0, 0))) := (hb1.block (w.heap.size + 1) (by simp)).trans ((heap_alloc_old _ _ (by simp)).trans (heap_alloc2_new _ _ _))
  have HO : Hid (w1.heap[w.heap.size + 1 + 1]? = some (.cells #[.int .i64 v, .slice none 0 0] 44 (0, 0))) := (hb1.block (w.heap.size + 1 + 1) (by simp)).trans (heap_alloc3_new _ _ _ _)
  simp at hi1 hr1 hz1
  have HI := hide hi1
  have HRM := hide hr1
  have k0 := cell_of_row w1 _ 0 _ _ _ (unhide HR)
  have k1 := cell_of_row w1 _ 1 _ _ _ (unhide HR)
  have f0 := frozen_of_row w1 _ 0 _ _ (unhide HR)
  have f1 := frozen_of_row w1 _ 1 _ _ (unhide HR)
  have o0 := cell_of_row w1 _ 0 _ _ _ (unhide HO)
  have o1 := cell_of_row w1 _ 1 _ _ _ (unhide HO)
  have p0 := frozen_of_row w1 _ 0 _ _ (unhide HO)
  have p1 := frozen_of_row w1 _ 1 _ _ (unhide HO)
  simp at k0 k1 o0 o1
  clear hb1 bA hi1 hr1
  go_wp2_with fail
  refine bodyPost_ret (results_cell_row rfl _ _ (w.heap.size + 1) _ _ _ _ rfl (heap_setCell_same _ _ _ _ _ _ (heap_setCell_same _ _ _ _ _ _ ((heap_setCell_other _ _ _ _ (by simp)).trans (unhide HR)))) Try.underlying44 rfl (by kernel_rfl)) rfl ?_
  refine ⟨w.heap.size + 1 + 1 + 1, by simp, ?_, .inr ⟨w.heap.size + 1 + 1 + 1, _, rfl, by omega, by simp; omega, (((unhide HRM).set _ _).set _ _).set _ _⟩, (((unhide HB1).setCell (by simp; omega) _).setCell (by simp) _).setCell (by simp) _⟩
  exact (((unhide HI).set (by simp [Value.ownBlock]) _ _).set (by simp [Value.ownBlock]; omega) _ _).set (by simp [Value.ownBlock]; omega) _ _

/-- Two maps are alike. -/
def eqMapB (v : Int) (xs : List Int) (v' : Int) (ys : List Int) : Bool := decide (v = v') && eqIns xs ys
theorem eqMapB_self (v : Int) (xs : List Int) : eqMapB v xs v xs = true := by simp [eqMapB, eqIns_self]

set_option maxHeartbeats 1000000 in
theorem eqMap_any (v v' : Int) (u u' : Value) (xs ys : List Int) (w : World) (hu : InsAt w u xs) (hu' : InsAt w u' ys) :
    Calls Try.prog 50 #[.agg #[.int .i64 v, u], .agg #[.int .i64 v', u']] w fun e w' => e = .returned (.bool (eqMapB v xs v' ys)) ∧ Below w.heap.size w w' := by
  have HU := hide hu
  have HU' := hide hu'
  obtain ⟨a, cap, rfl, h1, h2, h3⟩ := hu
  obtain ⟨a', cap', rfl, h1', h2', h3'⟩ := hu'
  have bA : Below w.heap.size w ((w.alloc (.cells #[.int .i64 v, .slice a xs.length cap] 44)).alloc (.cells #[.int .i64 v', .slice a' ys.length cap'] 44)) := ((Below.refl _ _).alloc (Nat.le_refl _) _).alloc (by simp) _
  clear h1 h2 h3 h1' h2' h3'
  by_cases hv : v = v'
  · have hvb : (v != v') = false := by simpa using hv
    have HV := hide hv
    clear hv
    go_enter Try.func50, Try.ntmps50
    go_wp2_with fail
    refine (eqInsE_any _ _ xs ys _ ((unhide HU).kept bA) ((unhide HU').kept bA)).mono ?_; rintro e w1 ⟨rfl, hb1⟩
    have b1 := bA.trans (hb1.mono bA.size)
    cases he : eqIns xs ys
    · go_wp2_with fail
      go_ret
      exact ⟨ret_bool (by simp [eqMapB, he]), b1⟩
    · go_wp2_with fail
      go_ret
      exact ⟨ret_bool (by simp [eqMapB, he, unhide HV]), b1⟩
  · have hvb : (v != v') = true := by simpa using hv
    have HV := hide hv
    clear hv
    go_enter Try.func50, Try.ntmps50
    go_wp2_with fail
    go_ret
    exact ⟨ret_bool (by simp [eqMapB, unhide HV]), bA⟩

end Go.Proofs.Ytpcbpliigplgoaa
