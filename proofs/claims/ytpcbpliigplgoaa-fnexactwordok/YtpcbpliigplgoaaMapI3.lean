/- Maps: the program's answers. -/
import Derived.Test.YtpcbpliigplgoaaMapI2
namespace Go.Proofs.Ytpcbpliigplgoaa
open Go.RowKit

set_option maxRecDepth 100000 in
set_option maxHeartbeats 1000000 in
theorem implMapOk_any (v : Int) (u : Value) (xs : List Int) (w : World) (hu : InsAt w u xs) :
    Calls Try.prog 47 #[.agg #[.int .i64 v, u]] w fun e w' => e = .returned (.bool (mapOk v xs)) ∧ Below w.heap.size w w' := by
  have HU := hide hu
  obtain ⟨a, cap, rfl, h1, h2, h3⟩ := hu
  have bA : Below w.heap.size w (w.alloc (.cells #[.int .i64 v, .slice a xs.length cap] 44)) := (Below.refl _ _).alloc (Nat.le_refl _) _
  clear h1 h2 h3
  go_enter Try.func47, Try.ntmps47
  go_wp2_with fail
  refine (housesOf_any v _ xs _ ((unhide HU).kept bA)).mono ?_; rintro e w1 ⟨cs, rfl, hsz, h1c, -, hb1⟩
  have HSZ := hide hsz
  have b1 := bA.trans (hb1.mono bA.size)
  clear hsz
  go_wp2_with (refine wpList_store_row rfl 87 _ _ rfl w1.heap.size cs rfl rfl 87 _ (heap_alloc_new _ _) (by rw [unhide HSZ]; kernel_rfl) (by rw [unhide HSZ]; rfl) h1c.all ?_; rw [setRow_alloc_new])
  go_ret
  exact ⟨rfl, b1.alloc b1.size _⟩

end Go.Proofs.Ytpcbpliigplgoaa
