/- Books at first: what the looks of the laws answer at books with nothing but a map. -/
import Derived.Test.YtmclmdleplfgeaaMapL
namespace Go.Proofs.Ytmclmdleplfgeaa
open Go.RowKit

theorem Box.five {w : World} {g : Nat} {T : TypeId} {a b c d e : Value} (h : Box w g T #[a, b, c, d, e]) :
    w.cell? ⟨g, 0, none⟩ = some a ∧ w.cell? ⟨g, 1, none⟩ = some b ∧ w.cell? ⟨g, 2, none⟩ = some c ∧ w.cell? ⟨g, 3, none⟩ = some d ∧ w.cell? ⟨g, 4, none⟩ = some e := ⟨h.cell 0, h.cell 1, h.cell 2, h.cell 3, h.cell 4⟩

theorem eqPrs_nil (w : World) : Calls Try.prog 53 #[.slice none 0 0, .slice none 0 0] w fun e w' => e = .returned (.bool true) ∧ w' = w := by
  go_enter Try.func53, Try.ntmps53
  go_wp2_with fail
  go_loopw [5] (fun i wr => i = .int .i64 0 ∧ wr = w) (fun _ _ => 0)
  case atStart => exact ⟨rfl, rfl⟩
  case round =>
    obtain ⟨rfl, rfl⟩ := hrel
    go_wp2_with fail
    go_ret
    exact ⟨rfl, rfl⟩

theorem eqSds_nil (w : World) : Calls Try.prog 54 #[.slice none 0 0, .slice none 0 0] w fun e w' => e = .returned (.bool true) ∧ w' = w := by
  go_enter Try.func54, Try.ntmps54
  go_wp2_with fail
  go_loopw [5] (fun i wr => i = .int .i64 0 ∧ wr = w) (fun _ _ => 0)
  case atStart => exact ⟨rfl, rfl⟩
  case round =>
    obtain ⟨rfl, rfl⟩ := hrel
    go_wp2_with fail
    go_ret
    exact ⟨rfl, rfl⟩

theorem markPrs_nil (k : Int) (w : World) : Calls Try.prog 55 #[.slice none 0 0, .int .i64 k] w fun e w' => e = .returned (.int .i64 k) ∧ w' = w := by
  go_enter Try.func55, Try.ntmps55
  go_wp2_with fail
  go_loopw [1, 5] (fun m i wr => m = .int .i64 k ∧ i = .int .i64 0 ∧ wr = w) (fun _ _ _ => 0)
  case atStart => exact ⟨rfl, rfl, rfl⟩
  case round =>
    obtain ⟨rfl, rfl, rfl⟩ := hrel
    go_wp2_with fail
    go_ret
    exact ⟨rfl, rfl⟩

theorem heldPrs_nil (k : Int) (w : World) : Calls Try.prog 57 #[.slice none 0 0, .int .i64 k] w fun e w' => e = .returned (.int .i64 k) ∧ w' = w := by
  go_enter Try.func57, Try.ntmps57
  go_wp2_with fail
  go_loopw [1, 5] (fun m i wr => m = .int .i64 k ∧ i = .int .i64 0 ∧ wr = w) (fun _ _ _ => 0)
  case atStart => exact ⟨rfl, rfl, rfl⟩
  case round =>
    obtain ⟨rfl, rfl, rfl⟩ := hrel
    go_wp2_with fail
    go_ret
    exact ⟨rfl, rfl⟩

theorem markSds_nil (k : Int) (w : World) : Calls Try.prog 56 #[.slice none 0 0, .int .i64 k] w fun e w' => e = .returned (.int .i64 k) ∧ w' = w := by
  go_enter Try.func56, Try.ntmps56
  go_wp2_with fail
  go_loopw [1, 5] (fun m i wr => m = .int .i64 k ∧ i = .int .i64 0 ∧ wr = w) (fun _ _ _ => 0)
  case atStart => exact ⟨rfl, rfl, rfl⟩
  case round =>
    obtain ⟨rfl, rfl, rfl⟩ := hrel
    go_wp2_with fail
    go_ret
    exact ⟨rfl, rfl⟩

theorem heldSds_nil (k : Int) (w : World) : Calls Try.prog 58 #[.slice none 0 0, .int .i64 k] w fun e w' => e = .returned (.int .i64 k) ∧ w' = w := by
  go_enter Try.func58, Try.ntmps58
  go_wp2_with fail
  go_loopw [1, 5] (fun m i wr => m = .int .i64 k ∧ i = .int .i64 0 ∧ wr = w) (fun _ _ _ => 0)
  case atStart => exact ⟨rfl, rfl, rfl⟩
  case round =>
    obtain ⟨rfl, rfl, rfl⟩ := hrel
    go_wp2_with fail
    go_ret
    exact ⟨rfl, rfl⟩

theorem grownBy_setRow (w : World) (g : Nat) (cs : Array Value) : w.grownBy (w.setRow g cs) (some g) :=
  ⟨rfl, rfl, rfl, by simp, fun k _ hne => setRow_other w g k cs (fun e => hne (by rw [e]))⟩

set_option maxRecDepth 100000 in
set_option maxHeartbeats 1000000 in
theorem specBStart_any (w : World) :
    Calls Try.prog 32 #[] w fun e w' => ∃ a n c, e = .returned (.agg #[.int .i64 0, .int .i64 1, .slice a n c, .slice none 0 0, .slice none 0 0]) ∧ InsAt w' (.slice a n c) (startL 8) ∧ Blk (.slice a n c) w.heap.size w'.heap.size ∧ Below w.heap.size w w' := by
  go_enter Try.func32, Try.ntmps32
  go_wp2_with fail
  refine (specStart_any _).mono ?_; rintro e w1 ⟨a, n, c, rfl, ho, h1⟩
  have hb : w1.heap[w.heap.size]? = some (.cells #[.int .i64 0, .int .i64 0, .slice none 0 0, .slice none 0 0, .slice none 0 0] 50 (0, 0)) := (h1.block w.heap.size (by simp)).trans (heap_alloc_new _ _)
  have hi := (owned_ins (xs := startL 8) (by rw [startL_length]; exact ho)).1
  have hk := blk_own ho
  have HB := hide hb
  have HI := hide hi
  have HK := hide hk
  clear hb ho hi hk
  go_wp2_with (refine wpList_store_row rfl 50 _ _ rfl w.heap.size _ rfl rfl 50 _ (unhide HB) (by kernel_rfl) rfl (by simp [Value.oneCell']) ?_)
  refine bodyPost_ret (results_cell_row rfl _ _ w.heap.size _ _ _ _ rfl (setRow_heap _ _ _ _ _ _ (unhide HB)) Try.underlying50 rfl (by kernel_rfl)) rfl ?_
  have hl := (unhide HK).low
  have hne : (Value.slice a n c).ownBlock = none ∨ (Value.slice a n c).ownBlock ≠ some w.heap.size := (unhide HK).far (.inl (by simp))
  refine ⟨a, n, c, rfl, (unhide HI).far (grownBy_setRow _ _ _) hne, ?_, below_setRow (((Below.refl _ _).alloc (Nat.le_refl _) _).trans (h1.mono (by simp))) (Nat.le_refl _) _⟩
  rcases unhide HK with h | ⟨q, h, q1, q2⟩
  · exact .inl h
  · simp at q1; exact .inr ⟨q, h, by omega, by simpa using q2⟩

set_option maxRecDepth 100000 in
set_option maxHeartbeats 1000000 in
theorem implBStart_any (w : World) :
    Calls Try.prog 33 #[] w fun e w' => ∃ a c, e = .returned (.agg #[.int .i64 0, .int .i64 1, .slice a 8 c, .slice none 0 0, .slice none 0 0]) ∧ InsAt w' (.slice a 8 c) (startL 8) ∧ OwnIn w' (.slice a 8 c) 8 w.heap.size ∧ Below w.heap.size w w' := by
  go_enter Try.func33, Try.ntmps33
  go_wp2_with fail
  refine (implStart_any _).mono ?_; rintro e w1 ⟨r, rfl, hi, ho, h1⟩
  obtain ⟨a, c, rfl⟩ := ho.slice
  have hb : w1.heap[w.heap.size]? = some (.cells #[.int .i64 0, .int .i64 0, .slice none 0 0, .slice none 0 0, .slice none 0 0] 50 (0, 0)) := (h1.block w.heap.size (by simp)).trans (heap_alloc_new _ _)
  have HB := hide hb
  have HI := hide hi
  have HO := hide ho
  clear hb ho hi
  go_wp2_with (refine wpList_store_row rfl 50 _ _ rfl w.heap.size _ rfl rfl 50 _ (unhide HB) (by kernel_rfl) rfl (by simp [Value.oneCell']) ?_)
  refine bodyPost_ret (results_cell_row rfl _ _ w.heap.size _ _ _ _ rfl (setRow_heap _ _ _ _ _ _ (unhide HB)) Try.underlying50 rfl (by kernel_rfl)) rfl ?_
  have hne : (Value.slice a 8 c).ownBlock = none ∨ (Value.slice a 8 c).ownBlock ≠ some w.heap.size := (unhide HO).blk.far (.inl (by simp))
  refine ⟨a, c, rfl, (unhide HI).far (grownBy_setRow _ _ _) hne, ?_, below_setRow (((Below.refl _ _).alloc (Nat.le_refl _) _).trans (h1.mono (by simp))) (Nat.le_refl _) _⟩
  rcases (unhide HO).far (grownBy_setRow w1 w.heap.size _) hne with h | ⟨g, cap, hv, q1, q2, q3⟩
  · exact .inl h
  · exact .inr ⟨g, cap, hv, by simp at q1; omega, q2, q3⟩

set_option maxRecDepth 100000 in
set_option maxHeartbeats 1000000 in
theorem eqBooks0_any (V : Int) (u u' : Value) (L : List Int) (w : World) (hu : InsAt w u L) (hu' : InsAt w u' L) :
    Calls Try.prog 34 #[.agg #[.int .i64 0, .int .i64 V, u, .slice none 0 0, .slice none 0 0], .agg #[.int .i64 0, .int .i64 V, u', .slice none 0 0, .slice none 0 0]] w fun e w' => e = .returned (.bool true) ∧ Below w.heap.size w w' := by
  have hee := eqMapB_self V L
  have HU := hide hu
  have HU' := hide hu'
  obtain ⟨a, cap, rfl, -, -, -⟩ := hu
  obtain ⟨a', cap', rfl, -, -, -⟩ := hu'
  have bA : Below w.heap.size w ((w.alloc (.cells #[.int .i64 0, .int .i64 V, .slice a L.length cap, .slice none 0 0, .slice none 0 0] 50)).alloc (.cells #[.int .i64 0, .int .i64 V, .slice a' L.length cap', .slice none 0 0, .slice none 0 0] 50)) := ((Below.refl _ _).alloc (Nat.le_refl _) _).alloc (by simp) _
  have x0 := Box.alloc (Box.made w 50 #[.int .i64 0, .int .i64 V, .slice a L.length cap, .slice none 0 0, .slice none 0 0]) (.cells #[.int .i64 0, .int .i64 V, .slice a' L.length cap', .slice none 0 0, .slice none 0 0] 50)
  have x1 := Box.made (w.alloc (.cells #[.int .i64 0, .int .i64 V, .slice a L.length cap, .slice none 0 0, .slice none 0 0] 50)) 50 #[.int .i64 0, .int .i64 V, .slice a' L.length cap', .slice none 0 0, .slice none 0 0]
  have HB := hide bA
  have H0 := hide x0
  have H1 := hide x1
  clear bA x0 x1
  go_enter Try.func34, Try.ntmps34
  go_wp2_with fail
  refine (eqMap_any V V _ _ L L _ ((unhide HU).kept (unhide HB)) ((unhide HU').kept (unhide HB))).mono ?_; rintro e w1 ⟨rfl, hb1⟩
  have y0 := ((unhide H0).kept hb1).five
  have y1 := ((unhide H1).kept hb1).five
  simp at y1
  obtain ⟨-, -, -, c3, c4⟩ := y0
  obtain ⟨-, -, -, d3, d4⟩ := y1
  have HB1 := hide ((unhide HB).trans (hb1.mono (unhide HB).size))
  clear hb1
  go_wp2_with fail
  refine (eqPrs_nil _).mono ?_; rintro e w2 ⟨rfl, rfl⟩
  go_wp2_with fail
  refine (eqSds_nil _).mono ?_; rintro e w3 ⟨rfl, rfl⟩
  go_wp2_with fail
  go_ret
  exact ⟨rfl, unhide HB1⟩

set_option maxRecDepth 100000 in
set_option maxHeartbeats 1000000 in
theorem markBooks0_any (V : Int) (a : Option Addr) (n c lo : Nat) (w : World) (hn : n ≤ 1000) (h : OwnIn w (.slice a n c) n lo) :
    Calls Try.prog 35 #[.agg #[.int .i64 0, .int .i64 V, .slice a n c, .slice none 0 0, .slice none 0 0], .int .i64 1] w fun e w' => e = .returned (.int .i64 (1 + (n : Int))) ∧ w.grownBy w' (Value.slice a n c).ownBlock ∧ MarkedIn w' (.slice a n c) n 1 := by
  have hA := (Below.refl w.heap.size w).alloc (Nat.le_refl _) (.cells #[.int .i64 0, .int .i64 V, .slice a n c, .slice none 0 0, .slice none 0 0] 50)
  have hk := h.kept hA
  have hnb := h.blk.ne (x := w.heap.size) (.inr (Nat.le_refl _))
  have HK := hide hk
  have HX := hide (Box.made w 50 #[.int .i64 0, .int .i64 V, .slice a n c, .slice none 0 0, .slice none 0 0])
  clear h hA hk
  go_enter Try.func35, Try.ntmps35
  go_wp2_with fail
  refine (markMap_any V _ n lo _ (by omega) (unhide HK)).mono ?_; rintro e w1 ⟨rfl, hg1, hm1⟩
  obtain ⟨-, -, -, c3, c4⟩ := ((unhide HX).far hg1 hnb).five
  have HG := hide hg1
  have HM := hide hm1
  clear hg1 hm1
  go_wp2_with fail
  refine (markPrs_nil _ _).mono ?_; rintro e w2 ⟨rfl, rfl⟩
  go_wp2_with fail
  refine (markSds_nil _ _).mono ?_; rintro e w3 ⟨rfl, rfl⟩
  go_wp2_with fail
  go_ret
  exact ⟨rfl, grownBy_trans (World.grownBy_alloc w _ _) (unhide HG), unhide HM⟩

set_option maxRecDepth 100000 in
set_option maxHeartbeats 1000000 in
theorem heldBooks0_any (V : Int) (a : Option Addr) (n c : Nat) (w : World) (hn : n ≤ 1000) (h : MarkedIn w (.slice a n c) n 1) :
    Calls Try.prog 36 #[.agg #[.int .i64 0, .int .i64 V, .slice a n c, .slice none 0 0, .slice none 0 0], .int .i64 1] w fun e w' => e = .returned (.int .i64 (1 + (n : Int))) ∧ Below w.heap.size w w' := by
  have hA := (Below.refl w.heap.size w).alloc (Nat.le_refl _) (.cells #[.int .i64 0, .int .i64 V, .slice a n c, .slice none 0 0, .slice none 0 0] 50)
  have hk := h.kept hA
  have HK := hide hk
  have HA := hide hA
  have HX := hide (Box.made w 50 #[.int .i64 0, .int .i64 V, .slice a n c, .slice none 0 0, .slice none 0 0])
  clear h hA hk
  have hp : ¬ (1 + (n : Int) < 0) := by omega
  go_enter Try.func36, Try.ntmps36
  go_wp2_with fail
  refine (heldMap_any V _ n _ (by omega) (unhide HK)).mono ?_; rintro e w1 ⟨rfl, hb1⟩
  obtain ⟨-, -, -, c3, c4⟩ := ((unhide HX).kept hb1).five
  have HB := hide ((unhide HA).trans (hb1.mono (unhide HA).size))
  clear hb1
  go_wp2_with fail
  refine (heldPrs_nil _ _).mono ?_; rintro e w2 ⟨rfl, rfl⟩
  go_wp2_with fail
  refine (heldSds_nil _ _).mono ?_; rintro e w3 ⟨rfl, rfl⟩
  go_wp2_with fail
  go_ret
  exact ⟨rfl, unhide HB⟩

end Go.Proofs.Ytmclmdleplfgeaa
