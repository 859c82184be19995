/- The specification says whether a lock is ok. -/
import Derived.Test.YtoojnhodjkpecaaLkS4
namespace Go.Proofs.Ytoojnhodjkpecaa
open Go.RowKit

theorem rg_step {p : Nat → Bool} {k : Nat} (h : (List.range k).all p = true) (hp : p k = true) : (List.range (k + 1)).all p = true := by
  rw [List.range_succ, List.all_append, h]; simp [hp]
theorem rg_false {p : Nat → Bool} {k N : Nat} (hk : k < N) (hp : p k = false) : (List.range N).all p = false := by
  rw [List.all_eq_false]; exact ⟨k, by simpa using hk, by simp [hp]⟩
theorem lockOk_slot {slot : Int} {H W : List Hd} (h : inB slot 0 7 = false) : lockOkB ⟨slot, H, W⟩ = false := by simp [lockOkB, h]
theorem lockOk_many {slot : Int} {H W : List Hd} (h : 16 < H.length + W.length) : lockOkB ⟨slot, H, W⟩ = false := by
  have : decide (H.length + W.length ≤ 16) = false := by simp; omega
  simp [lockOkB, this]
theorem lockOk_held {slot : Int} {H W : List Hd} {k : Nat} (hk : k < H.length) (h : heldAt H k = false) : lockOkB ⟨slot, H, W⟩ = false := by
  simp only [lockOkB]; rw [rg_false hk h]; simp
theorem lockOk_waits {slot : Int} {H W : List Hd} {k : Nat} (hk : k < W.length) (h : waitsAt H W k = false) : lockOkB ⟨slot, H, W⟩ = false := by
  simp only [lockOkB]; rw [rg_false hk h]; simp

/- Under way: lockOk_any, the walk of spec.LockOk. tools/g/lockok.py holds its text as far as it is: the loop over Held, case by case (the hold is not ok; the first; not ascending; meets the first or not). It stands at region 6: go_region_held3 wants the loads behind '!l11HoldOk(..) ||' taken first, which are guarded by what the call answers. To be walked by hand as LkS3 walks l11Copy's region (wp_region_held_drew, wpAnyH_take, wpAnyH_ready): the call first, then the guarded loads by wpAnyH_take. -/

end Go.Proofs.Ytoojnhodjkpecaa
