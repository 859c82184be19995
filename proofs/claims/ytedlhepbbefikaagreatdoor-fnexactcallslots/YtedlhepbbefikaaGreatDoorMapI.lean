/- Maps: the program's answers, the small functions. -/
import Derived.Test.YtedlhepbbefikaaGreatDoorMapM
import Derived.Test.YtedlhepbbefikaaGreatDoorResK
namespace Go.Proofs.YtedlhepbbefikaaGreatDoor
open Go.RowKit

/-- The array of a map's owners. -/
def arr (xs : List Int) : Array Value := (xs.map (Value.int .i64)).toArray
theorem arr_size (xs : List Int) : (arr xs).size = xs.length := by simp [arr]
theorem arr_at (xs : List Int) {q : Nat} (h : q < xs.length) : (arr xs)[q]? = some (.int .i64 (xs.getD q 0)) := by simp [arr, List.getD, h]
theorem arr_set (xs : List Int) (q : Nat) (x : Int) : (arr xs).setIfInBounds q (.int .i64 x) = arr (xs.set q x) := by
  apply Array.ext'; simp [arr, List.map_set]

theorem setRow_alloc_new (w : World) (old cs : Array Value) (t : TypeId) : (w.alloc (.cells old t)).setRow w.heap.size cs = w.alloc (.cells cs t) := by
  unfold World.setRow World.alloc
  congr 1
  apply Array.ext
  · simp
  · intro i h1 h2
    simp only [Array.getElem_modify, Array.getElem_push]
    by_cases e : w.heap.size = i
    · subst e; simp
    · have : i < w.heap.size := by simp at h1; omega
      simp [e, this]

set_option maxHeartbeats 400000 in
theorem isHouse_any (n : Int) (w : World) :
    Calls Tryz.prog 27 #[.int .i64 n] w fun e w' => e = .returned (.bool (hsB n)) ∧ w' = w := by
  by_cases h1 : 0 ≤ n <;> by_cases h2 : n < 3
  all_goals
    go_enter Tryz.func27, Tryz.ntmps27
    go_wp2
    go_ret
    exact ⟨by simp [hsB, inB, h1]; omega, rfl⟩

set_option maxHeartbeats 400000 in
theorem isSlot_any (n : Int) (w : World) :
    Calls Tryz.prog 26 #[.int .i64 n] w fun e w' => e = .returned (.bool (slB n)) ∧ w' = w := by
  by_cases h1 : 0 ≤ n <;> by_cases h2 : n < 8
  all_goals
    go_enter Tryz.func26, Tryz.ntmps26
    go_wp2
    go_ret
    exact ⟨by simp [slB, inB, h1]; omega, rfl⟩

set_option maxHeartbeats 400000 in
theorem implSlot_any (k : Int) (w : World) :
    Calls Tryz.prog 12 #[.int .i64 k] w fun e w' => e = .returned (.int .i64 (slotOf k)) ∧ w' = w := by
  cases hk : keyB k
  · go_enter Tryz.func12, Tryz.ntmps12
    go_wp2_with (go_at_call 31; refine (isKey_any _ _).mono ?_; rintro e w' ⟨rfl, rfl⟩)
    go_ret
    exact ⟨ret_int (by simp [slotOf, hk]), rfl⟩
  · obtain ⟨b1, b2⟩ := keyB_bounds hk
    go_enter Tryz.func12, Tryz.ntmps12
    go_wp2_with (go_at_call 31; refine (isKey_any _ _).mono ?_; rintro e w' ⟨rfl, rfl⟩)
    go_ret
    exact ⟨ret_int (by simp [slotOf, hk]), rfl⟩

def keyHouse (xs : List Int) (k : Int) : Int := if keyB k = true then xs.getD (k * 8 / 32).toNat 0 else -1

end Go.Proofs.YtedlhepbbefikaaGreatDoor
