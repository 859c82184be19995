/- The laws FnExactMapSlot, FnExactMapOk, FnExactMapHouse answer true. -/
import Derived.Test.YtililbmaelaofaaMapL
namespace Go.Proofs.Ytililbmaelaofaa
open Go.RowKit

set_option maxHeartbeats 400000 in
theorem lawMapSlot_any (k : Int) (w : World) :
    Calls Try.prog 9 #[.int .i64 k] w fun e w' => e = .returned (.bool true) ∧ Below w.heap.size w w' := by
  have hne : (slotOf k != slotOf k) = false := by simp
  generalize hs : slotOf k = s at *
  have HS := hide hs
  clear hs
  go_enter Try.func9, Try.ntmps9
  go_wp2_with fail
  refine (specMapSlot_any k _).mono ?_; rintro e w' ⟨rfl, rfl⟩
  rw [unhide HS]
  go_wp2_with fail
  refine (implSlot_any k _).mono ?_; rintro e w' ⟨rfl, rfl⟩
  rw [unhide HS]
  go_wp2_with fail
  go_ret
  exact ⟨rfl, Below.refl _ _⟩

set_option maxRecDepth 100000 in
set_option maxHeartbeats 1000000 in
theorem lawMapOk_any (v : Int) (u : Value) (xs : List Int) (w : World) (hu : InsAt w u xs) :
    Calls Try.prog 8 #[.agg #[.int .i64 v, u]] w fun e w' => e = .returned (.bool true) ∧ Below w.heap.size w w' := by
  have HU := hide hu
  obtain ⟨a, cap, rfl, h1, h2, h3⟩ := hu
  have hml : xs.length ≤ maxLen := Nat.le_trans h1 h2
  have bA : Below w.heap.size w (w.alloc (.cells #[.int .i64 v, .slice a xs.length cap] 40)) := (Below.refl _ _).alloc (Nat.le_refl _) _
  clear h1 h2 h3
  by_cases hn : (xs.length : Int) ≤ 1048576
  case neg =>
    go_enter Try.func8, Try.ntmps8
    go_wp2_with fail
    refine (szMap_no v a _ cap _ hml (by omega)).mono ?_; rintro e w1 ⟨rfl, hb1⟩
    go_wp2_with fail
    go_ret
    exact ⟨rfl, bA.trans (hb1.mono bA.size)⟩
  have hn' : xs.length ≤ 1048576 := by omega
  have hp : ¬ (1048576 - (xs.length : Int)) < 0 := by omega
  have hee := eqMapB_self v xs
  have hok : (mapOk v xs != mapOk v xs) = false := by simp
  go_enter Try.func8, Try.ntmps8
  go_wp2_with fail
  refine (szMap_yes v a _ cap _ hn).mono ?_; rintro e w1 ⟨rfl, hb1⟩
  have b1 := bA.trans (hb1.mono bA.size)
  have HA : Hid (w1.heap[w.heap.size]? = some (.cells #[.int .i64 v, .slice a xs.length cap] 40 (0, 0))) := (hb1.block w.heap.size (by simp)).trans (heap_alloc_new _ _)
  have z0 : w.heap.size < w1.heap.size := by have := hb1.size; simp at this; omega
  have a0 := cell_of_row w1 _ 0 _ _ _ (unhide HA)
  have a1 := cell_of_row w1 _ 1 _ _ _ (unhide HA)
  simp at a0 a1
  clear hb1 bA
  go_wp2_with fail
  refine (toMap_any v _ xs _ ((unhide HU).kept b1) hn').mono ?_; rintro e w2 ⟨g2, rfl, hi2, ho2, hb2⟩
  go_wp2_with fail
  refine (specMapOk_any v _ xs _ hi2).mono ?_; rintro e w3 ⟨rfl, hb3⟩
  have hb13 := hb2.trans (hb3.mono hb2.size)
  have b3 := b1.trans (hb13.mono b1.size)
  have a0' := cell_kept hb13 a0
  have a1' := cell_kept hb13 a1
  clear hb13 hb2 hb3 hi2 ho2
  go_wp2_with fail
  refine (toMap_any v _ xs _ ((unhide HU).kept b3) hn').mono ?_; rintro e w4 ⟨g4, rfl, hi4, ho4, hb4⟩
  have b4 := b3.trans (hb4.mono b3.size)
  have hi4A := hi4.kept ((Below.refl w4.heap.size w4).alloc (Nat.le_refl _) (.cells #[.int .i64 v, .slice (some ⟨g4, 0, none⟩) xs.length xs.length] 25))
  have a0'' := cell_kept hb4 a0'
  have a1'' := cell_kept hb4 a1'
  have z4 : w.heap.size < w4.heap.size := lt_of_cell a0''
  go_wp2_with fail
  refine (implMapOk_any v _ xs _ hi4A).mono ?_; rintro e w5 ⟨rfl, hb5⟩
  have z5 := hb5.size
  simp at z5
  have HX : Hid (w5.heap[w4.heap.size]? = some (.cells #[.int .i64 v, .slice (some ⟨g4, 0, none⟩) xs.length xs.length] 25 (0, 0))) := (hb5.block w4.heap.size (by simp)).trans (heap_alloc_new _ _)
  have b4A : Below w.heap.size w (w4.alloc (.cells #[.int .i64 v, .slice (some ⟨g4, 0, none⟩) xs.length xs.length] 25)) := b4.alloc b4.size _
  have b5 := b4A.trans (hb5.mono b4A.size)
  have x0 := cell_of_row w5 _ 0 _ _ _ (unhide HX)
  have x1 := cell_of_row w5 _ 1 _ _ _ (unhide HX)
  simp at x0 x1
  have y0 : w5.cell? ⟨w.heap.size, 0, none⟩ = some (.int .i64 v) := (hb5.cell (p := ⟨w.heap.size, 0, none⟩) (by simp; omega)).trans ((World.cell?_alloc_past _ _ _ z4).trans a0'')
  have y1 : w5.cell? ⟨w.heap.size, 1, none⟩ = some (.slice a xs.length cap) := (hb5.cell (p := ⟨w.heap.size, 1, none⟩) (by simp; omega)).trans ((World.cell?_alloc_past _ _ _ z4).trans a1'')
  have HI5 := hide (hi4A.kept hb5)
  have HB5 := hide b5
  clear a0 a1 a0' a1' a0'' a1'' hi4 hi4A ho4 hb4 hb5 b4 b4A b5 b1 b3
  go_wp2_with fail
  go_region_with (first
    | (go_at_call 30; refine (toMap_any v _ xs _ ((unhide HU).kept (unhide HB5).drew) hn').mono ?_; rintro e w6 ⟨g6, rfl, hi6, ho6, hb6⟩; have hb6' : Below w5.heap.size w5 w6 := ((Below.refl _ _).drew).trans hb6; have x0' := cell_kept hb6' x0; have x1' := cell_kept hb6' x1; have HI6 := hide hi6; have HB6 := hide hb6'; clear hi6 ho6 hb6 hb6')
    | (go_at_call 26; refine (eqMap_any v v _ _ xs xs _ ((unhide HI5).kept (unhide HB6)) (unhide HI6)).mono ?_; rintro e w7 ⟨rfl, hb7⟩))
  all_goals go_wp2_with fail
  all_goals go_ret
  all_goals
    have b6 := (unhide HB5).trans ((unhide HB6).mono (unhide HB5).size)
    exact ⟨rfl, b6.trans (hb7.mono b6.size)⟩

set_option maxRecDepth 100000 in
set_option maxHeartbeats 1000000 in
theorem lawMapHouse_any (v : Int) (u : Value) (xs : List Int) (k : Int) (w : World) (hu : InsAt w u xs) :
    Calls Try.prog 10 #[.agg #[.int .i64 v, u], .int .i64 k] w fun e w' => e = .returned (.bool true) ∧ Below w.heap.size w w' := by
  have HU := hide hu
  obtain ⟨a, cap, rfl, h1, h2, h3⟩ := hu
  have hml : xs.length ≤ maxLen := Nat.le_trans h1 h2
  have bA : Below w.heap.size w (w.alloc (.cells #[.int .i64 v, .slice a xs.length cap] 40)) := (Below.refl _ _).alloc (Nat.le_refl _) _
  clear h1 h2 h3
  by_cases hn : (xs.length : Int) ≤ 1048576
  case neg =>
    go_enter Try.func10, Try.ntmps10
    go_wp2_with fail
    refine (szMap_no v a _ cap _ hml (by omega)).mono ?_; rintro e w1 ⟨rfl, hb1⟩
    go_wp2_with fail
    go_ret
    exact ⟨rfl, bA.trans (hb1.mono bA.size)⟩
  have hn' : xs.length ≤ 1048576 := by omega
  have hp : ¬ (1048576 - (xs.length : Int)) < 0 := by omega
  have hee := eqMapB_self v xs
  have hok : (houseOf v xs k != houseOf v xs k) = false := by simp
  go_enter Try.func10, Try.ntmps10
  go_wp2_with fail
  refine (szMap_yes v a _ cap _ hn).mono ?_; rintro e w1 ⟨rfl, hb1⟩
  have b1 := bA.trans (hb1.mono bA.size)
  have HA : Hid (w1.heap[w.heap.size]? = some (.cells #[.int .i64 v, .slice a xs.length cap] 40 (0, 0))) := (hb1.block w.heap.size (by simp)).trans (heap_alloc_new _ _)
  have z0 : w.heap.size < w1.heap.size := by have := hb1.size; simp at this; omega
  have a0 := cell_of_row w1 _ 0 _ _ _ (unhide HA)
  have a1 := cell_of_row w1 _ 1 _ _ _ (unhide HA)
  simp at a0 a1
  clear hb1 bA
  go_wp2_with fail
  refine (toMap_any v _ xs _ ((unhide HU).kept b1) hn').mono ?_; rintro e w2 ⟨g2, rfl, hi2, ho2, hb2⟩
  go_wp2_with fail
  refine (specMapHouse_any v _ xs k _ hi2).mono ?_; rintro e w3 ⟨rfl, hb3⟩
  have hb13 := hb2.trans (hb3.mono hb2.size)
  have b3 := b1.trans (hb13.mono b1.size)
  have a0' := cell_kept hb13 a0
  have a1' := cell_kept hb13 a1
  clear hb13 hb2 hb3 hi2 ho2
  go_wp2_with fail
  refine (toMap_any v _ xs _ ((unhide HU).kept b3) hn').mono ?_; rintro e w4 ⟨g4, rfl, hi4, ho4, hb4⟩
  have b4 := b3.trans (hb4.mono b3.size)
  have hi4A := hi4.kept ((Below.refl w4.heap.size w4).alloc (Nat.le_refl _) (.cells #[.int .i64 v, .slice (some ⟨g4, 0, none⟩) xs.length xs.length] 25))
  have a0'' := cell_kept hb4 a0'
  have a1'' := cell_kept hb4 a1'
  have z4 : w.heap.size < w4.heap.size := lt_of_cell a0''
  go_wp2_with fail
  refine (implMapHouse_any v _ xs k _ hi4A).mono ?_; rintro e w5 ⟨rfl, hb5⟩
  have z5 := hb5.size
  simp at z5
  have HX : Hid (w5.heap[w4.heap.size]? = some (.cells #[.int .i64 v, .slice (some ⟨g4, 0, none⟩) xs.length xs.length] 25 (0, 0))) := (hb5.block w4.heap.size (by simp)).trans (heap_alloc_new _ _)
  have b4A : Below w.heap.size w (w4.alloc (.cells #[.int .i64 v, .slice (some ⟨g4, 0, none⟩) xs.length xs.length] 25)) := b4.alloc b4.size _
  have b5 := b4A.trans (hb5.mono b4A.size)
  have x0 := cell_of_row w5 _ 0 _ _ _ (unhide HX)
  have x1 := cell_of_row w5 _ 1 _ _ _ (unhide HX)
  simp at x0 x1
  have y0 : w5.cell? ⟨w.heap.size, 0, none⟩ = some (.int .i64 v) := (hb5.cell (p := ⟨w.heap.size, 0, none⟩) (by simp; omega)).trans ((World.cell?_alloc_past _ _ _ z4).trans a0'')
  have y1 : w5.cell? ⟨w.heap.size, 1, none⟩ = some (.slice a xs.length cap) := (hb5.cell (p := ⟨w.heap.size, 1, none⟩) (by simp; omega)).trans ((World.cell?_alloc_past _ _ _ z4).trans a1'')
  have HI5 := hide (hi4A.kept hb5)
  have HB5 := hide b5
  clear a0 a1 a0' a1' a0'' a1'' hi4 hi4A ho4 hb4 hb5 b4 b4A b5 b1 b3
  go_wp2_with fail
  go_region_with (first
    | (go_at_call 30; refine (toMap_any v _ xs _ ((unhide HU).kept (unhide HB5).drew) hn').mono ?_; rintro e w6 ⟨g6, rfl, hi6, ho6, hb6⟩; have hb6' : Below w5.heap.size w5 w6 := ((Below.refl _ _).drew).trans hb6; have x0' := cell_kept hb6' x0; have x1' := cell_kept hb6' x1; have HI6 := hide hi6; have HB6 := hide hb6'; clear hi6 ho6 hb6 hb6')
    | (go_at_call 26; refine (eqMap_any v v _ _ xs xs _ ((unhide HI5).kept (unhide HB6)) (unhide HI6)).mono ?_; rintro e w7 ⟨rfl, hb7⟩))
  all_goals go_wp2_with fail
  all_goals go_ret
  all_goals
    have b6 := (unhide HB5).trans ((unhide HB6).mono (unhide HB5).size)
    exact ⟨rfl, b6.trans (hb7.mono b6.size)⟩

end Go.Proofs.Ytililbmaelaofaa
