/- Houses at first: how the laws compare, mark and look. -/
import Derived.Test.YtefbmbdemlcajaaHsL
import Derived.Test.YtefbmbdemlcajaaHkD
namespace Go.Proofs.Ytefbmbdemlcajaa
open Go.RowKit

/-- Eight locks that nobody holds, numbered from k on, in block g. -/
structure L8 (w : World) (g : Nat) (k : Int) : Prop where
  c0 : ∀ j, j < 8 → w.cell? ⟨g, j * 3, none⟩ = some (.int .i64 (k + (j : Int)))
  c1 : ∀ j, j < 8 → w.cell? ⟨g, j * 3 + 1, none⟩ = some (.slice none 0 0)
  c2 : ∀ j, j < 8 → w.cell? ⟨g, j * 3 + 2, none⟩ = some (.slice none 0 0)
  fr : ∀ j, w.frozen? ⟨g, j, none⟩ = false
  lt : g < w.heap.size

theorem L8.kept {w w' : World} {g : Nat} {k : Int} (h : L8 w g k) (hb : Below w.heap.size w w') : L8 w' g k :=
  ⟨fun j hj => cell_kept hb (h.c0 j hj), fun j hj => cell_kept hb (h.c1 j hj), fun j hj => cell_kept hb (h.c2 j hj), fun j => by rw [hb.frozen (p := ⟨g, j, none⟩) h.lt]; exact h.fr j, by have := hb.size; have := h.lt; omega⟩
theorem L8.far {w w' : World} {g : Nat} {k : Int} {row : Option Nat} (h : L8 w g k) (hb : w.grownBy w' row) (hne : some g ≠ row) : L8 w' g k :=
  ⟨fun j hj => cell_far hb hne (h.c0 j hj), fun j hj => cell_far hb hne (h.c1 j hj), fun j hj => cell_far hb hne (h.c2 j hj), fun j => by rw [hb.frozen_far ⟨g, j, none⟩ h.lt hne]; exact h.fr j, by have := hb.size; have := h.lt; omega⟩

set_option maxHeartbeats 1000000 in
theorem eqLock0_any (i : Int) (w : World) :
    Calls Try.prog 26 #[.agg #[.int .i64 i, .slice none 0 0, .slice none 0 0], .agg #[.int .i64 i, .slice none 0 0, .slice none 0 0]] w fun e w' => e = .returned (.bool true) ∧ Below w.heap.size w w' := by
  have hnil : ∀ ww, Calls Try.prog 36 #[.slice none 0 0, .slice none 0 0] ww fun e w' => e = .returned (.bool true) ∧ w' = ww := fun ww => by
    go_enter Try.func36, Try.ntmps36
    go_wp2
    refine wp_loop_rounds 1 ?_
    rw [rounds_succ]
    go_wp2
    go_ret
    exact ⟨rfl, rfl⟩
  have HN := hide hnil
  clear hnil
  have hb : Below w.heap.size w ((w.alloc (.cells #[.int .i64 i, .slice none 0 0, .slice none 0 0] 42)).alloc (.cells #[.int .i64 i, .slice none 0 0, .slice none 0 0] 42)) := ((Below.refl _ _).alloc (Nat.le_refl _) _).alloc (by simp) _
  have HB := hide hb
  have hne : (i != i) = false := by simp
  clear hb
  go_enter Try.func26, Try.ntmps26
  go_wp2_with fail
  refine (unhide HN _).mono ?_; rintro e w1 ⟨rfl, h1⟩
  rw [h1]; clear h1
  go_wp2_with fail
  refine (unhide HN _).mono ?_; rintro e w2 ⟨rfl, h2⟩
  rw [h2]; clear h2
  go_wp2_with fail
  go_ret
  exact ⟨rfl, unhide HB⟩

set_option maxRecDepth 100000 in
set_option maxHeartbeats 2000000 in
theorem eqLocks8_any (g g' c c' : Nat) (k : Int) (w : World) (h : L8 w g k) (h' : L8 w g' k) :
    Calls Try.prog 15 #[.slice (some ⟨g, 0, none⟩) 8 c, .slice (some ⟨g', 0, none⟩) 8 c'] w fun e w' => e = .returned (.bool true) ∧ Below w.heap.size w w' := by
  have HA := hide h
  have HC := hide h'
  clear h h'
  go_enter Try.func15, Try.ntmps15
  go_wp2_with fail
  go_loopw [5] (fun i wr => ∃ j : Nat, j ≤ 8 ∧ i = .int .i64 j ∧ Below w.heap.size w wr) (fun i _ => 8 - (intOf i).toNat)
  case atStart => exact ⟨0, Nat.zero_le _, rfl, Below.refl _ _⟩
  case round =>
    obtain ⟨j, hj, rfl, hb⟩ := hrel
    have HB := hide hb
    by_cases hlt : j < 8
    · have hltI : (j : Int) < 8 := by omega
      have a0 := ((unhide HA).kept hb).c0 j hlt
      have a1 := ((unhide HA).kept hb).c1 j hlt
      have a2 := ((unhide HA).kept hb).c2 j hlt
      have b0 := ((unhide HC).kept hb).c0 j hlt
      have b1 := ((unhide HC).kept hb).c1 j hlt
      have b2 := ((unhide HC).kept hb).c2 j hlt
      clear hb
      go_wp2_with fail
      go_region_with (go_at_call 26; refine (eqLock0_any (k + (j : Int)) _).mono ?_; rintro e w1 ⟨rfl, hb1⟩)
      all_goals
        go_wp2_with fail
        go_roundw
        case rel => exact ⟨j + 1, hlt, by go_num, ((unhide HB).drew).trans (hb1.mono ((unhide HB).drew).size)⟩
        case measure => simp [intOf]; omega
    · go_wp2_with fail
      go_ret
      exact ⟨rfl, hb⟩

/-- Of eight locks the first j have been marked from k on. -/
structure L8m (w : World) (g : Nat) (k : Int) (j : Nat) : Prop where
  c0 : ∀ i, i < j → w.cell? ⟨g, i * 3, none⟩ = some (.int .i64 (k + (i : Int)))
  c3 : ∀ i, i < 8 → ∃ v, w.cell? ⟨g, i * 3, none⟩ = some v
  c1 : ∀ i, i < 8 → w.cell? ⟨g, i * 3 + 1, none⟩ = some (.slice none 0 0)
  c2 : ∀ i, i < 8 → w.cell? ⟨g, i * 3 + 2, none⟩ = some (.slice none 0 0)
  fr : ∀ i, w.frozen? ⟨g, i, none⟩ = false
  lt : g < w.heap.size
theorem L8m.start {w : World} {g : Nat} {k k' : Int} (h : L8 w g k) : L8m w g k' 0 := ⟨fun i hi => by omega, fun i hi => ⟨_, h.c0 i hi⟩, h.c1, h.c2, h.fr, h.lt⟩
theorem L8m.done {w : World} {g : Nat} {k : Int} (h : L8m w g k 8) : L8 w g k := ⟨h.c0, h.c1, h.c2, h.fr, h.lt⟩
theorem L8m.step {w : World} {g : Nat} {k : Int} {j : Nat} (h : L8m w g k j) (hj : j < 8) : L8m (w.setCell ⟨g, j * 3, none⟩ (.int .i64 (k + (j : Int)))) g k (j + 1) := by
  obtain ⟨v, hv⟩ := h.c3 j hj
  have hs := World.cell?_setCell_same w ⟨g, j * 3, none⟩ (.int .i64 (k + (j : Int))) hv
  refine ⟨fun i hi => ?_, fun i hi => ?_, fun i hi => ?_, fun i hi => ?_, fun i => (World.frozen?_setCell _ _ _ _).trans (h.fr i), by have := h.lt; simpa [World.setCell] using this⟩
  · rcases Nat.lt_or_ge i j with hl | hl
    · rw [cell_set_far (by omega)]; exact h.c0 i hl
    · obtain rfl : i = j := by omega
      exact hs
  · by_cases hij : i = j
    · subst hij; exact ⟨_, hs⟩
    · rw [cell_set_far (by omega)]; exact h.c3 i hi
  · rw [cell_set_far (by omega)]; exact h.c1 i hi
  · rw [cell_set_far (by omega)]; exact h.c2 i hi

set_option maxRecDepth 100000 in
set_option maxHeartbeats 2000000 in
theorem markLocks8_any (g c : Nat) (k0 k : Int) (w : World) (h : L8 w g k0) (hk : 0 ≤ k) (hk' : k ≤ 10000) :
    Calls Try.prog 18 #[.slice (some ⟨g, 0, none⟩) 8 c, .int .i64 k] w fun e w' => e = .returned (.int .i64 (k + 8)) ∧ w.grownBy w' (some g) ∧ L8 w' g k := by
  have HS := hide (L8m.start (k' := k) h)
  have HN := hide (fun q ww => markHds_nil q ww)
  clear h
  go_enter Try.func18, Try.ntmps18
  go_wp2_with fail
  go_loopw [1, 5] (fun q i wr => ∃ j : Nat, j ≤ 8 ∧ i = .int .i64 j ∧ q = .int .i64 (k + (j : Int)) ∧ w.grownBy wr (some g) ∧ L8m wr g k j) (fun _ i _ => 8 - (intOf i).toNat)
  case atStart => exact ⟨0, Nat.zero_le _, rfl, by simp, grownBy_refl _ _, unhide HS⟩
  case round =>
    obtain ⟨j, hj, rfl, rfl, hg, hm⟩ := hrel
    by_cases hlt : j < 8
    · have hltI : (j : Int) < 8 := by omega
      have HG := hide (grownBy_set hg (j * 3) (.int .i64 (k + (j : Int))))
      have HM := hide (hm.step hlt)
      obtain ⟨v, c0⟩ := hm.c3 j hlt
      have f0 := hm.fr (j * 3)
      have c1 := (hm.step hlt).c1 j hlt
      have c2 := (hm.step hlt).c2 j hlt
      clear hg hm
      go_wp2_with fail
      refine (unhide HN _ _).mono ?_; rintro e w1 ⟨rfl, h1⟩
      rw [h1]; clear h1
      go_wp2_with fail
      refine (unhide HN _ _).mono ?_; rintro e w2 ⟨rfl, h2⟩
      rw [h2]; clear h2
      go_wp2_with fail
      go_roundw
      case rel => exact ⟨j + 1, hlt, by go_num, by go_num, unhide HG, unhide HM⟩
      case measure => simp [intOf]; omega
    · go_wp2_with fail
      go_ret
      obtain rfl : j = 8 := by omega
      exact ⟨rfl, hg, hm.done⟩

set_option maxRecDepth 100000 in
set_option maxHeartbeats 2000000 in
theorem heldLocks8_any (g c : Nat) (k : Int) (w : World) (h : L8 w g k) (hk : 0 ≤ k) (hk' : k ≤ 10000) :
    Calls Try.prog 21 #[.slice (some ⟨g, 0, none⟩) 8 c, .int .i64 k] w fun e w' => e = .returned (.int .i64 (k + 8)) ∧ w' = w := by
  have HS := hide h
  have HN := hide (fun q ww => heldHds_any none 0 0 q ww (by omega))
  clear h
  go_enter Try.func21, Try.ntmps21
  go_wp2_with fail
  go_loopw [1, 5] (fun q i wr => ∃ j : Nat, j ≤ 8 ∧ i = .int .i64 j ∧ q = .int .i64 (k + (j : Int)) ∧ wr = w) (fun _ i _ => 8 - (intOf i).toNat)
  case atStart => exact ⟨0, Nat.zero_le _, rfl, by simp, rfl⟩
  case round =>
    obtain ⟨j, hj, rfl, rfl, hw⟩ := hrel
    rw [hw]; clear hw
    by_cases hlt : j < 8
    · have hltI : (j : Int) < 8 := by omega
      have c0 := (unhide HS).c0 j hlt
      have c1 := (unhide HS).c1 j hlt
      have c2 := (unhide HS).c2 j hlt
      go_wp2_with fail
      refine (unhide HN _ _ (by omega) (by omega) (by simp)).mono ?_; rintro e w1 ⟨rfl, h1⟩
      rw [h1]; clear h1
      go_wp2_with fail
      refine (unhide HN _ _ (by omega) (by omega) (by simp)).mono ?_; rintro e w2 ⟨rfl, h2⟩
      rw [h2]; clear h2
      go_wp2_with fail
      go_roundw
      case rel => exact ⟨j + 1, hlt, by go_num, by go_num, trivial⟩
      case measure => simp [intOf]; omega
    · go_wp2_with fail
      go_ret
      obtain rfl : j = 8 := by omega
      exact ⟨rfl, rfl⟩

end Go.Proofs.Ytefbmbdemlcajaa
