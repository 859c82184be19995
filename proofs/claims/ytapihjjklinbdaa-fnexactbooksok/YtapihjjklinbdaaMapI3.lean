/- Maps: the program's answers. -/
import Derived.Test.YtapihjjklinbdaaMapI2
namespace Go.Proofs.Ytapihjjklinbdaa
open Go.RowKit

set_option maxRecDepth 100000 in
set_option maxHeartbeats 1000000 in
theorem implMapOk_any (v : Int) (u : Value) (xs : List Int) (w : World) (hu : InsAt w u xs) :
    Calls Try.prog 30 #[.agg #[.int .i64 v, u]] w fun e w' => e = .returned (.bool (mapOk v xs)) ∧ Below w.heap.size w w' := by
  have HU := hide hu
  obtain ⟨a, cap, rfl, h1, h2, h3⟩ := hu
  have bA : Below w.heap.size w (w.alloc (.cells #[.int .i64 v, .slice a xs.length cap] 31)) := (Below.refl _ _).alloc (Nat.le_refl _) _
  clear h1 h2 h3
  go_enter Try.func30, Try.ntmps30
  go_wp2_with fail
  refine (housesOf_any v _ xs _ ((unhide HU).kept bA)).mono ?_; rintro e w1 ⟨cs, rfl, hsz, h1c, -, hb1⟩
  have HSZ := hide hsz
  have b1 := bA.trans (hb1.mono bA.size)
  clear hsz
  go_wp2_with (refine wpList_store_row rfl 82 _ _ rfl w1.heap.size cs rfl rfl 82 _ (heap_alloc_new _ _) (by rw [unhide HSZ]; kernel_rfl) (by rw [unhide HSZ]; rfl) h1c.all ?_; rw [setRow_alloc_new])
  go_ret
  exact ⟨rfl, b1.alloc b1.size _⟩

set_option maxRecDepth 100000 in
set_option maxHeartbeats 1000000 in
theorem implMapHouse_any (v : Int) (u : Value) (xs : List Int) (k : Int) (w : World) (hu : InsAt w u xs) :
    Calls Try.prog 34 #[.agg #[.int .i64 v, u], .int .i64 k] w fun e w' => e = .returned (.int .i64 (houseOf v xs k)) ∧ Below w.heap.size w w' := by
  have HU := hide hu
  obtain ⟨a, cap, rfl, h1, h2, h3⟩ := hu
  have bA : Below w.heap.size w (w.alloc (.cells #[.int .i64 v, .slice a xs.length cap] 31)) := (Below.refl _ _).alloc (Nat.le_refl _) _
  clear h1 h2 h3
  cases hm : mapOk v xs
  · have HE : Hid (houseOf v xs k = -1) := by show houseOf v xs k = -1; simp [houseOf, hm]
    go_enter Try.func34, Try.ntmps34
    go_wp2_with fail
    refine (housesOf_any v _ xs _ ((unhide HU).kept bA)).mono ?_; rintro e w1 ⟨cs, rfl, hsz, h1c, -, hb1⟩
    have HSZ := hide hsz
    have b1 := bA.trans (hb1.mono bA.size)
    clear hsz
    go_wp2_with (refine wpList_store_row rfl 82 _ _ rfl w1.heap.size cs rfl rfl 82 _ (heap_alloc_new _ _) (by rw [unhide HSZ]; kernel_rfl) (by rw [unhide HSZ]; rfl) h1c.all ?_; rw [setRow_alloc_new])
    go_ret
    exact ⟨ret_int (unhide HE).symm, b1.alloc b1.size _⟩
  · have HE : Hid (houseOf v xs k = keyHouse xs k) := by show houseOf v xs k = _; simp [houseOf, keyHouse, hm]
    have hl := mapOk_len hm
    have HL := hide hl
    clear hl
    go_enter Try.func34, Try.ntmps34
    go_wp2_with fail
    refine (housesOf_any v _ xs _ ((unhide HU).kept bA)).mono ?_; rintro e w1 ⟨cs, rfl, hsz, h1c, hcs, hb1⟩
    have HSZ := hide hsz
    have HCS := hide (hcs hm)
    have b1 := bA.trans (hb1.mono bA.size)
    have b2 : Below w.heap.size w (w1.alloc (.cells cs 82)) := b1.alloc b1.size _
    clear hsz hcs
    go_wp2_with (first | (refine wpList_store_row rfl 82 _ _ rfl w1.heap.size cs rfl rfl 82 _ (heap_alloc_new _ _) (by rw [unhide HSZ]; kernel_rfl) (by rw [unhide HSZ]; rfl) h1c.all ?_; rw [setRow_alloc_new]) | (refine wpList_load_row rfl 82 _ rfl w1.heap.size rfl 82 cs _ _ (heap_alloc_new _ _) Try.underlying82 rfl (by rw [unhide HSZ]; kernel_rfl) ?_) | (go_at_call 70; rw [unhide HCS]; refine (houseOfKey_any xs k _ (unhide HL)).mono ?_; rintro e w3 ⟨rfl, hb3⟩))
    go_ret
    rw [unhide HCS] at b2
    exact ⟨ret_int (unhide HE).symm, b2.trans (hb3.mono b2.size)⟩

end Go.Proofs.Ytapihjjklinbdaa
