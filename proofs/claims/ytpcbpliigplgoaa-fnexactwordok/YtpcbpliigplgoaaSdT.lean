/- What was said: how the laws copy and compare it. -/
import Derived.Test.YtpcbpliigplgoaaSd
namespace Go.Proofs.Ytpcbpliigplgoaa
open Go.RowKit

set_option maxRecDepth 100000 in
set_option maxHeartbeats 2000000 in
theorem toSd_any (x : Sd) (u : Value) (w : World) (hu : InsAt w u x.vals) (hn : x.vals.length ≤ 1048576) :
    Calls Try.prog 64 #[.agg #[.int .i64 x.ses, .int .i64 x.num, .int .i64 x.code, u]] w fun e w' => ∃ g, e = .returned (.agg #[.int .i64 x.ses, .int .i64 x.num, .int .i64 x.code, .slice (some ⟨g, 0, none⟩) x.vals.length x.vals.length]) ∧ w.heap.size ≤ g ∧ InsAt w' (.slice (some ⟨g, 0, none⟩) x.vals.length x.vals.length) x.vals ∧ Below w.heap.size w w' := by
  obtain ⟨s, n, c, xs⟩ := x
  simp only at hu hn ⊢
  have HU := hide hu
  obtain ⟨a, cap, rfl, h1, h2, h3⟩ := hu
  clear h1 h2 h3
  go_enter Try.func64, Try.ntmps64
  go_wp2_with fail
  have bA : Below w.heap.size w (((w.alloc (.cells #[.int .i64 s, .int .i64 n, .int .i64 c, .slice a xs.length cap] 83)).alloc (.cells #[.int .i64 0, .int .i64 0, .int .i64 0, .slice none 0 0] 84)).alloc (.cells #[.int .i64 s, .int .i64 n, .int .i64 c, .slice none 0 0] 84)) := (((Below.refl _ _).alloc (Nat.le_refl _) _).alloc (by simp) _).alloc (by simp; omega) _
  refine (toIns_any _ xs _ ((unhide HU).kept bA) hn).mono ?_; rintro e w1 ⟨rfl, hi1, hr1, hz1, hb1⟩
  have HB1 := hide (bA.trans (hb1.mono bA.size))
  have HR : Hid (w1.heap[w.heap.size + 1]? = some (.cells #[.int .i64 0, .int .i64 0, .int .i64 0, .slice none 0 0] 84 (0, 0))) := (hb1.block (w.heap.size + 1) (by simp)).trans ((heap_alloc_old _ _ (by simp)).trans (heap_alloc2_new _ _ _))
  have HO : Hid (w1.heap[w.heap.size + 1 + 1]? = some (.cells #[.int .i64 s, .int .i64 n, .int .i64 c, .slice none 0 0] 84 (0, 0))) := (hb1.block (w.heap.size + 1 + 1) (by simp)).trans (heap_alloc3_new _ _ _ _)
  simp at hi1 hr1 hz1
  have HI := hide hi1
  have k0 := cell_of_row w1 _ 0 _ _ _ (unhide HR)
  have k1 := cell_of_row w1 _ 1 _ _ _ (unhide HR)
  have k2 := cell_of_row w1 _ 2 _ _ _ (unhide HR)
  have k3 := cell_of_row w1 _ 3 _ _ _ (unhide HR)
  have f0 := frozen_of_row w1 _ 0 _ _ (unhide HR)
  have f1 := frozen_of_row w1 _ 1 _ _ (unhide HR)
  have f2 := frozen_of_row w1 _ 2 _ _ (unhide HR)
  have f3 := frozen_of_row w1 _ 3 _ _ (unhide HR)
  have o0 := cell_of_row w1 _ 0 _ _ _ (unhide HO)
  have o1 := cell_of_row w1 _ 1 _ _ _ (unhide HO)
  have o2 := cell_of_row w1 _ 2 _ _ _ (unhide HO)
  have o3 := cell_of_row w1 _ 3 _ _ _ (unhide HO)
  have p3 := frozen_of_row w1 _ 3 _ _ (unhide HO)
  simp at k0 k1 k2 k3 o0 o1 o2 o3
  clear hb1 bA hi1 hr1
  go_wp2_with fail
  refine bodyPost_ret (results_cell_row rfl _ _ (w.heap.size + 1) _ _ _ _ rfl (heap_setCell_same _ _ _ _ _ _ (heap_setCell_same _ _ _ _ _ _ (heap_setCell_same _ _ _ _ _ _ (heap_setCell_same _ _ _ _ _ _ ((heap_setCell_other _ _ _ _ (by simp)).trans (unhide HR)))))) Try.underlying84 rfl (by kernel_rfl)) rfl ?_
  refine ⟨w.heap.size + 1 + 1 + 1, by simp, by omega, ?_, (((((unhide HB1).setCell (by simp; omega) _).setCell (by simp) _).setCell (by simp) _).setCell (by simp) _).setCell (by simp) _⟩
  exact (((((unhide HI).set (by simp [Value.ownBlock]) _ _).set (by simp [Value.ownBlock]; omega) _ _).set (by simp [Value.ownBlock]; omega) _ _).set (by simp [Value.ownBlock]; omega) _ _).set (by simp [Value.ownBlock]; omega) _ _

/-- The first k of xs lie in block g, their rows elsewhere. -/
def SdOwn (w : World) (g k : Nat) (xs : List Sd) : Prop := ∀ i, i < k →
  w.cell? ⟨g, i * 4, none⟩ = some (.int .i64 (xs.getD i Sd.z).ses) ∧
  w.cell? ⟨g, i * 4 + 1, none⟩ = some (.int .i64 (xs.getD i Sd.z).num) ∧
  w.cell? ⟨g, i * 4 + 2, none⟩ = some (.int .i64 (xs.getD i Sd.z).code) ∧
  ∃ u, w.cell? ⟨g, i * 4 + 3, none⟩ = some u ∧ (∀ q, u.ownBlock = some q → g < q) ∧ InsAt w u (xs.getD i Sd.z).vals

theorem SdOwn.kept {w w' : World} {g k : Nat} {xs : List Sd} (h : SdOwn w g k xs) (hb : Below w.heap.size w w') : SdOwn w' g k xs := fun i hi => by
  obtain ⟨h0, h1, h2, u, h3, h4, h5⟩ := h i hi
  exact ⟨cell_kept hb h0, cell_kept hb h1, cell_kept hb h2, u, cell_kept hb h3, h4, h5.kept hb⟩

theorem SdOwn.cells {w : World} {g k : Nat} {xs : List Sd} (h : SdOwn w g k xs) : SdCells w g 0 k xs := fun i hi => by
  obtain ⟨h0, h1, h2, u, h3, h4, h5⟩ := h i hi
  simp only [Nat.zero_add]
  exact ⟨h0, h1, h2, u, h3, h5⟩

theorem SdOwn.lowSet {w : World} {g k : Nat} {xs : List Sd} (h : SdOwn w g k xs) {b : Nat} (hb : b < g) (j : Nat) (v : Value) : SdOwn (w.setCell ⟨b, j, none⟩ v) g k xs := fun i hi => by
  obtain ⟨h0, h1, h2, u, h3, h4, h5⟩ := h i hi
  have hne : u.ownBlock ≠ some b := fun e => by have := h4 b e; omega
  refine ⟨?_, ?_, ?_, u, ?_, h4, h5.set hne _ _⟩
  · rw [cell_set_far (by omega)]; exact h0
  · rw [cell_set_far (by omega)]; exact h1
  · rw [cell_set_far (by omega)]; exact h2
  · rw [cell_set_far (by omega)]; exact h3

theorem SdOwn.push {w : World} {g m k : Nat} {xs : List Sd} (h : SdOwn w g k xs) (hr : Room w g m) (hk : k * 4 + 4 ≤ m) {x : Sd} (hx : xs.getD k Sd.z = x) {u : Value} (hu : InsAt w u x.vals) (hlo : ∀ q, u.ownBlock = some q → g < q) :
    SdOwn ((((w.setCell ⟨g, k * 4, none⟩ (.int .i64 x.ses)).setCell ⟨g, k * 4 + 1, none⟩ (.int .i64 x.num)).setCell ⟨g, k * 4 + 2, none⟩ (.int .i64 x.code)).setCell ⟨g, k * 4 + 3, none⟩ u) g (k + 1) xs := by
  intro i hi
  have hne : u.ownBlock ≠ some g := fun e => by have := hlo g e; omega
  by_cases e : i = k
  · subst e; subst hx
    have r1 := hr.set ⟨g, i * 4, none⟩ (.int .i64 (xs.getD i Sd.z).ses)
    have r2 := r1.set ⟨g, i * 4 + 1, none⟩ (.int .i64 (xs.getD i Sd.z).num)
    have r3 := r2.set ⟨g, i * 4 + 2, none⟩ (.int .i64 (xs.getD i Sd.z).code)
    obtain ⟨u0, c0⟩ := (hr (i * 4) (by omega)).1
    obtain ⟨u1, c1⟩ := (r1 (i * 4 + 1) (by omega)).1
    obtain ⟨u2, c2⟩ := (r2 (i * 4 + 2) (by omega)).1
    obtain ⟨u3, c3⟩ := (r3 (i * 4 + 3) (by omega)).1
    refine ⟨?_, ?_, ?_, u, World.cell?_setCell_same _ _ _ c3, hlo, (((hu.set hne _ _).set hne _ _).set hne _ _).set hne _ _⟩
    · rw [cell_set_far (by omega), cell_set_far (by omega), cell_set_far (by omega)]; exact World.cell?_setCell_same _ _ _ c0
    · rw [cell_set_far (by omega), cell_set_far (by omega)]; exact World.cell?_setCell_same _ _ _ c1
    · rw [cell_set_far (by omega)]; exact World.cell?_setCell_same _ _ _ c2
  · obtain ⟨h0, h1, h2, v, h3, h4, h5⟩ := h i (by omega)
    have h4' : v.ownBlock ≠ some g := fun e => by have := h4 g e; omega
    refine ⟨?_, ?_, ?_, v, ?_, h4, (((h5.set h4' _ _).set h4' _ _).set h4' _ _).set h4' _ _⟩
    · rw [cell_set_far (by omega), cell_set_far (by omega), cell_set_far (by omega), cell_set_far (by omega)]; exact h0
    · rw [cell_set_far (by omega), cell_set_far (by omega), cell_set_far (by omega), cell_set_far (by omega)]; exact h1
    · rw [cell_set_far (by omega), cell_set_far (by omega), cell_set_far (by omega), cell_set_far (by omega)]; exact h2
    · rw [cell_set_far (by omega), cell_set_far (by omega), cell_set_far (by omega), cell_set_far (by omega)]; exact h3

theorem SdOwn.at {w : World} {g : Nat} {xs : List Sd} (h : SdOwn w g xs.length xs) (hn : xs.length ≤ 1048576) : SdsAt w (.slice (some ⟨g, 0, none⟩) xs.length xs.length) xs :=
  ⟨_, _, rfl, Nat.le_refl _, by unfold maxLen; omega, .inr ⟨g, 0, rfl, h.cells⟩⟩

theorem Try.infoSd : (Try.prog.info? 84).map (fun i => (i.zero, i.size, i.bytes)) = some (some (.agg #[.int .i64 0, .int .i64 0, .int .i64 0, .slice none 0 0]), 4, 48) := by kernel_rfl

set_option maxRecDepth 100000 in
set_option maxHeartbeats 2000000 in
theorem toSds_any (v : Value) (xs : List Sd) (w : World) (hv : SdsAt w v xs) (hn : xs.length ≤ 1048576) (hf : SdFit xs) :
    Calls Try.prog 46 #[v] w fun e w' => e = .returned (.slice (some ⟨w.heap.size, 0, none⟩) xs.length xs.length) ∧ SdOwn w' w.heap.size xs.length xs ∧ w.heap.size < w'.heap.size ∧ Below w.heap.size w w' := by
  obtain ⟨a, cap, rfl, h1, h2, h3⟩ := hv
  obtain ⟨i0, hi, hz0, hz1, hz2⟩ := info_parts Try.infoSd
  have HF := hide hf
  clear hf
  generalize hN : xs.length = N at *
  have hmk : ∀ w : World, (Instr.makeSlice 45 (.int .i64 (N : Int)) (.int .i64 (N : Int))).run Try.prog w = .ok (.slice (some ⟨w.heap.size, 0, none⟩) N N) (w.alloc (.cells (madeCells #[.int .i64 0, .int .i64 0, .int .i64 0, .slice none 0 0] (N * 4)) 84)) := by
    intro w
    have := run_make (P := Try.prog) w 45 84 i0 (.agg #[.int .i64 0, .int .i64 0, .int .i64 0, .slice none 0 0]) Try.underlying45 hi hz0 .i64 .i64 N N (by omega) (by omega) (by rw [hz2]; omega) (by omega)
    simpa [hz1, Value.cells] using this
  clear hi hz0 hz1 hz2 i0
  have HN := hide hN
  clear hN
  go_enter Try.func46, Try.ntmps46
  go_wp2
  go_loopw [4] (fun i wr => ∃ k : Nat, k ≤ N ∧ i = .int .i64 k ∧ Below w.heap.size w wr ∧ w.heap.size < wr.heap.size ∧ Room wr w.heap.size (N * 4) ∧ SdOwn wr w.heap.size k xs) (fun i _ => N - (intOf i).toNat)
  case atStart => exact ⟨0, Nat.zero_le _, rfl, (Below.refl _ _).alloc (Nat.le_refl _) _, by simp, Room.made _ _ _ _, fun i hi => absurd hi (Nat.not_lt_zero _)⟩
  case round =>
    obtain ⟨k, hk, rfl, hb, hsz, hroom, hcs⟩ := hrel
    by_cases hlt : k < N
    · obtain ⟨b, off, rfl, hc⟩ : ∃ b off, a = some ⟨b, off, none⟩ ∧ SdCells w b off N xs := by
        rcases h3 with h3 | h3
        · have := unhide HN; subst h3; simp at this; omega
        · exact h3
      obtain ⟨c0, c1, c2, u, c3, c4⟩ := (hc.kept hb) k hlt
      obtain ⟨⟨u0, r0⟩, f0⟩ := hroom (k * 4) (by omega)
      obtain ⟨⟨u1, r1⟩, f1⟩ := hroom (k * 4 + 1) (by omega)
      obtain ⟨⟨u2, r2⟩, f2⟩ := hroom (k * 4 + 2) (by omega)
      obtain ⟨⟨u3, r3⟩, f3⟩ := hroom (k * 4 + 3) (by omega)
      have hfk := unhide HF k (by rw [unhide HN]; exact hlt)
      generalize hx : xs.getD k Sd.z = x at *
      have HX := hide hx
      have HI := hide c4
      have HR := hide hroom
      have HC := hide hcs
      have HB := hide hb
      obtain ⟨ua, uc, rfl, -⟩ := c4.slice
      have hkI : (k : Int) < (N : Int) := by omega
      clear h3 hmk hc hx c4 hroom hcs hb
      go_wp2_with fail
      refine (toSd_any x _ _ (unhide HI) hfk).mono ?_; rintro e w1 ⟨g1, rfl, hg1, hi1, hb1⟩
      have r0' := cell_kept hb1 r0
      have r1' := cell_kept hb1 r1
      have r2' := cell_kept hb1 r2
      have r3' := cell_kept hb1 r3
      have f0' := (hb1.frozen (p := ⟨w.heap.size, k * 4, none⟩) (lt_of_cell r0)).trans f0
      have f1' := (hb1.frozen (p := ⟨w.heap.size, k * 4 + 1, none⟩) (lt_of_cell r1)).trans f1
      have f2' := (hb1.frozen (p := ⟨w.heap.size, k * 4 + 2, none⟩) (lt_of_cell r2)).trans f2
      have f3' := (hb1.frozen (p := ⟨w.heap.size, k * 4 + 3, none⟩) (lt_of_cell r3)).trans f3
      have HR1 := hide ((unhide HR).kept hb1)
      have HC1 := hide ((unhide HC).kept hb1)
      have HI1 := hide hi1
      have HB1 := hide ((unhide HB).trans (hb1.mono (unhide HB).size))
      have hz1 := hb1.size
      clear r0 r1 r2 r3 f0 f1 f2 f3 c0 c1 c2 c3 hi1 hb1
      go_wp2_with fail
      go_roundw
      case rel =>
        exact ⟨k + 1, hlt, by go_num, ((((unhide HB1).setCell (Nat.le_refl _) _).setCell (Nat.le_refl _) _).setCell (Nat.le_refl _) _).setCell (Nat.le_refl _) _, by simp [World.setCell]; omega, ((((unhide HR1).set _ _).set _ _).set _ _).set _ _, (unhide HC1).push (unhide HR1) (by omega) (unhide HX) (unhide HI1) (fun q hq => by simp [Value.ownBlock] at hq; omega)⟩
      case measure => simp [intOf]; omega
    · go_wp2
      go_ret
      obtain rfl : k = N := by omega
      have hN := unhide HN
      exact ⟨rfl, hcs, hsz, hb⟩

set_option maxRecDepth 100000 in
set_option maxHeartbeats 2000000 in
theorem eqSd_any (x y : Sd) (u u' : Value) (w : World) (hu : InsAt w u x.vals) (hu' : InsAt w u' y.vals) :
    Calls Try.prog 68 #[.agg #[.int .i64 x.ses, .int .i64 x.num, .int .i64 x.code, u], .agg #[.int .i64 y.ses, .int .i64 y.num, .int .i64 y.code, u']] w fun e w' => e = .returned (.bool (eqSd x y)) ∧ Below w.heap.size w w' := by
  obtain ⟨s, n, c, xs⟩ := x
  obtain ⟨s', n', c', ys⟩ := y
  simp only at hu hu' ⊢
  have HU := hide hu
  have HU' := hide hu'
  obtain ⟨a, cap, rfl, -, -, -⟩ := hu
  obtain ⟨a', cap', rfl, -, -, -⟩ := hu'
  have bA : Below w.heap.size w ((w.alloc (.cells #[.int .i64 s, .int .i64 n, .int .i64 c, .slice a xs.length cap] 84)).alloc (.cells #[.int .i64 s', .int .i64 n', .int .i64 c', .slice a' ys.length cap'] 84)) := ((Below.refl _ _).alloc (Nat.le_refl _) _).alloc (by simp) _
  by_cases h1 : s = s'
  case neg =>
    have h1b : (s != s') = true := by simpa using h1
    have HF : Hid (eqSd ⟨s, n, c, xs⟩ ⟨s', n', c', ys⟩ = false) := by show eqSd _ _ = false; simp [eqSd, Sd.tup, h1]
    clear h1
    go_enter Try.func68, Try.ntmps68
    go_wp2_with fail
    go_ret
    exact ⟨ret_bool (unhide HF).symm, bA⟩
  have h1b : (s != s') = false := by simpa using h1
  by_cases h2 : n = n'
  case neg =>
    have h2b : (n != n') = true := by simpa using h2
    have HF : Hid (eqSd ⟨s, n, c, xs⟩ ⟨s', n', c', ys⟩ = false) := by show eqSd _ _ = false; simp [eqSd, Sd.tup, h2]
    clear h2 h1
    go_enter Try.func68, Try.ntmps68
    go_wp2_with fail
    go_ret
    exact ⟨ret_bool (unhide HF).symm, bA⟩
  have h2b : (n != n') = false := by simpa using h2
  by_cases h3 : c = c'
  case neg =>
    have h3b : (c != c') = true := by simpa using h3
    have HF : Hid (eqSd ⟨s, n, c, xs⟩ ⟨s', n', c', ys⟩ = false) := by show eqSd _ _ = false; simp [eqSd, Sd.tup, h3]
    clear h3 h2 h1
    go_enter Try.func68, Try.ntmps68
    go_wp2_with fail
    go_ret
    exact ⟨ret_bool (unhide HF).symm, bA⟩
  have h3b : (c != c') = false := by simpa using h3
  have HF : Hid (eqSd ⟨s, n, c, xs⟩ ⟨s', n', c', ys⟩ = eqIns xs ys) := by show eqSd _ _ = eqIns xs ys; simp [eqSd, Sd.tup, eqIns, h1, h2, h3]
  clear h1 h2 h3
  go_enter Try.func68, Try.ntmps68
  go_wp2_with fail
  refine (eqInsE_any _ _ xs ys _ ((unhide HU).kept bA) ((unhide HU').kept bA)).mono ?_; rintro e w1 ⟨rfl, hb1⟩
  have b1 := bA.trans (hb1.mono bA.size)
  cases he : eqIns xs ys
  · go_wp2_with fail
    go_ret
    exact ⟨ret_bool (by rw [unhide HF, he]), b1⟩
  · go_wp2_with fail
    go_ret
    exact ⟨ret_bool (by rw [unhide HF, he]), b1⟩

end Go.Proofs.Ytpcbpliigplgoaa
