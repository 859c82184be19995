/- Maps: the program's answers, the small functions. -/
import Derived.Test.YtapihjjklinbdaaMapM
import Derived.Test.YtapihjjklinbdaaResK
namespace Go.Proofs.Ytapihjjklinbdaa
open Go.RowKit

/-- The array of a map's owners. -/
def arr (xs : List Int) : Array Value := (xs.map (Value.int .i64)).toArray
theorem arr_size (xs : List Int) : (arr xs).size = xs.length := by simp [arr]
theorem arr_at (xs : List Int) {q : Nat} (h : q < xs.length) : (arr xs)[q]? = some (.int .i64 (xs.getD q 0)) := by simp [arr, List.getD, h]
theorem arr_set (xs : List Int) (q : Nat) (x : Int) : (arr xs).setIfInBounds q (.int .i64 x) = arr (xs.set q x) := by
  apply Array.ext'; simp [arr, List.map_set]

theorem setRow_alloc_new (w : World) (old cs : Array Value) (t : TypeId) : (w.alloc (.cells old t)).setRow w.heap.size cs = w.alloc (.cells cs t) := by
  unfold World.setRow World.alloc
  congr 1
  apply Array.ext
  · simp
  · intro i h1 h2
    simp only [Array.getElem_modify, Array.getElem_push]
    by_cases e : w.heap.size = i
    · subst e; simp
    · have : i < w.heap.size := by simp at h1; omega
      simp [e, this]

set_option maxHeartbeats 400000 in
theorem isHouse_any (n : Int) (w : World) :
    Calls Try.prog 93 #[.int .i64 n] w fun e w' => e = .returned (.bool (hsB n)) ∧ w' = w := by
  by_cases h1 : 0 ≤ n <;> by_cases h2 : n < 3
  all_goals
    go_enter Try.func93, Try.ntmps93
    go_wp2
    go_ret
    exact ⟨by simp [hsB, inB, h1]; omega, rfl⟩

set_option maxHeartbeats 400000 in
theorem isSlot_any (n : Int) (w : World) :
    Calls Try.prog 94 #[.int .i64 n] w fun e w' => e = .returned (.bool (slB n)) ∧ w' = w := by
  by_cases h1 : 0 ≤ n <;> by_cases h2 : n < 8
  all_goals
    go_enter Try.func94, Try.ntmps94
    go_wp2
    go_ret
    exact ⟨by simp [slB, inB, h1]; omega, rfl⟩

set_option maxHeartbeats 400000 in
theorem implSlot_any (k : Int) (w : World) :
    Calls Try.prog 32 #[.int .i64 k] w fun e w' => e = .returned (.int .i64 (slotOf k)) ∧ w' = w := by
  cases hk : keyB k
  · go_enter Try.func32, Try.ntmps32
    go_wp2_with (go_at_call 69; refine (isKey_any _ _).mono ?_; rintro e w' ⟨rfl, rfl⟩)
    go_ret
    exact ⟨ret_int (by simp [slotOf, hk]), rfl⟩
  · obtain ⟨b1, b2⟩ := keyB_bounds hk
    go_enter Try.func32, Try.ntmps32
    go_wp2_with (go_at_call 69; refine (isKey_any _ _).mono ?_; rintro e w' ⟨rfl, rfl⟩)
    go_ret
    exact ⟨ret_int (by simp [slotOf, hk]), rfl⟩

set_option maxRecDepth 100000 in
set_option maxHeartbeats 400000 in
theorem mapOf_any (v : Int) (xs : List Int) (w : World) (hl : xs.length = 8) :
    Calls Try.prog 65 #[.int .i64 v, .agg (arr xs)] w fun e w' => e = .returned (.agg #[.int .i64 v, .slice (some ⟨w.heap.size, 0, none⟩) 8 8]) ∧ InsAt w' (.slice (some ⟨w.heap.size, 0, none⟩) 8 8) xs ∧ Room w' w.heap.size 8 ∧ w.heap.size < w'.heap.size ∧ Below w.heap.size w w' := by
  have hsz := arr_size xs
  have hat := fun q (h : q < 8) => arr_at xs (q := q) (by omega)
  generalize arr xs = cs at *
  have HS := hide hsz
  have HA := hide hat
  clear hsz hat
  go_enter Try.func65, Try.ntmps65
  go_wp2
  refine bodyPost_ret (results_cell_row rfl _ _ (w.heap.size + 1) _ _ _ _ rfl (heap_alloc2_new _ _ _) Try.underlying31 rfl (by kernel_rfl)) rfl ?_
  have hh := heap_alloc2_old w (.cells cs 82) (.cells #[.int .i64 v, .slice (some ⟨w.heap.size, 0, none⟩) 8 8] 31)
  refine ⟨rfl, ⟨_, 8, by rw [hl], by omega, by simp [maxLen], .inr ⟨w.heap.size, 0, rfl, fun i hi => ?_⟩⟩, fun j hj => ⟨⟨_, (cell_of_row _ _ j _ _ _ hh).trans (unhide HA j hj)⟩, frozen_of_row _ _ _ _ _ hh⟩, by simp; omega, ((Below.refl _ _).alloc (Nat.le_refl _) _).alloc (by simp) _⟩
  rw [Nat.zero_add]
  exact (cell_of_row _ _ i _ _ _ hh).trans (unhide HA i (by omega))

set_option maxRecDepth 100000 in
set_option maxHeartbeats 400000 in
theorem house_any (xs : List Int) (q : Nat) (w : World) (hl : xs.length = 8) (hq : q < 8) :
    Calls Try.prog 71 #[.agg (arr xs), .int .i64 q] w fun e w' => e = .returned (.int .i64 (xs.getD q 0)) ∧ Below w.heap.size w w' := by
  have hat := arr_at xs (q := q) (by omega)
  generalize arr xs = cs at *
  generalize xs.getD q 0 = x at *
  have hqi : (q : Int) < 8 := by omega
  go_enter Try.func71, Try.ntmps71
  go_wp2
  go_ret
  exact ⟨rfl, (Below.refl _ _).alloc (Nat.le_refl _) _⟩

def keyHouse (xs : List Int) (k : Int) : Int := if keyB k = true then xs.getD (k * 8 / 32).toNat 0 else -1

set_option maxRecDepth 100000 in
set_option maxHeartbeats 400000 in
theorem houseOfKey_any (xs : List Int) (k : Int) (w : World) (hl : xs.length = 8) :
    Calls Try.prog 70 #[.int .i64 k, .func (.func 71) #[.agg (arr xs)] #[]] w fun e w' => e = .returned (.int .i64 (keyHouse xs k)) ∧ Below w.heap.size w w' := by
  cases hk : keyB k
  · have hsl : slotOf k = -1 := by simp [slotOf, hk]
    go_enter Try.func70, Try.ntmps70
    go_wp2_with (go_at_call 32; refine (implSlot_any _ _).mono ?_; rintro e w' ⟨rfl, rfl⟩)
    go_ret
    exact ⟨ret_int (by simp [keyHouse, hk]), Below.refl _ _⟩
  · obtain ⟨b1, b2⟩ := keyB_bounds hk
    obtain ⟨K, rfl⟩ := Int.eq_ofNat_of_zero_le b1
    have hsl : slotOf (K : Int) = ((K * 8 / 32 : Nat) : Int) := by simp [slotOf, hk]
    have hQ : K * 8 / 32 < 8 := by omega
    generalize hq : K * 8 / 32 = Q at *
    have hq2 : ((K : Int) * 8 / 32).toNat = Q := by omega
    have HQ2 := hide hq2
    clear hq hq2
    go_enter Try.func70, Try.ntmps70
    go_wp2_with (first | (go_at_call 32; refine (implSlot_any _ _).mono ?_; rintro e w' ⟨rfl, rfl⟩) | (go_at_call 71; refine (house_any xs Q _ hl hQ).mono ?_; rintro e w2 ⟨rfl, hb⟩))
    go_ret
    exact ⟨ret_int (by simp only [keyHouse, hk, unhide HQ2, if_true]; simp [List.getD, hl, hQ]), hb⟩

set_option maxRecDepth 100000 in
set_option maxHeartbeats 1000000 in
theorem codeOfMove_any (v : Int) (xs : List Int) (s t : Int) (w : World) (hl : xs.length = 8) :
    Calls Try.prog 73 #[.int .i64 v, .agg (arr xs), .int .i64 s, .int .i64 t] w fun e w' => e = .returned (.int .i64 (moveCode v xs s t)) ∧ Below w.heap.size w w' := by
  cases hs : slB s
  · have HE : Hid (moveCode v xs s t = 9) := by show moveCode v xs s t = 9; simp [moveCode, hs]
    generalize arr xs = cs at *
    go_enter Try.func73, Try.ntmps73
    go_wp2_with (first | (go_at_call 94; refine (isSlot_any _ _).mono ?_; rintro e w' ⟨rfl, rfl⟩) | (go_at_call 93; refine (isHouse_any _ _).mono ?_; rintro e w' ⟨rfl, rfl⟩))
    go_ret
    exact ⟨ret_int (unhide HE).symm, (Below.refl _ _).alloc (Nat.le_refl _) _⟩
  cases ht : hsB t
  · have HE : Hid (moveCode v xs s t = 9) := by show moveCode v xs s t = 9; simp [moveCode, ht]
    generalize arr xs = cs at *
    go_enter Try.func73, Try.ntmps73
    go_wp2_with (first | (go_at_call 94; refine (isSlot_any _ _).mono ?_; rintro e w' ⟨rfl, rfl⟩) | (go_at_call 93; refine (isHouse_any _ _).mono ?_; rintro e w' ⟨rfl, rfl⟩))
    go_ret
    exact ⟨ret_int (unhide HE).symm, (Below.refl _ _).alloc (Nat.le_refl _) _⟩
  by_cases hv : v = 99
  · have HE : Hid (moveCode v xs s t = 2) := by show moveCode v xs s t = 2; simp [moveCode, ht, hs, hv]
    have hvb : (v == 99) = true := by simpa using hv
    clear hv
    generalize arr xs = cs at *
    go_enter Try.func73, Try.ntmps73
    go_wp2_with (first | (go_at_call 94; refine (isSlot_any _ _).mono ?_; rintro e w' ⟨rfl, rfl⟩) | (go_at_call 93; refine (isHouse_any _ _).mono ?_; rintro e w' ⟨rfl, rfl⟩))
    go_ret
    exact ⟨ret_int (unhide HE).symm, (Below.refl _ _).alloc (Nat.le_refl _) _⟩
  have hvb : (v == 99) = false := by simpa using hv
  obtain ⟨b1, b2⟩ := slB_bounds hs
  obtain ⟨S, rfl⟩ := Int.eq_ofNat_of_zero_le b1
  have hS : S < 8 := by omega
  have hSi : (S : Int) < 8 := by omega
  have hat := arr_at xs (q := S) (by omega)
  generalize arr xs = cs at *
  by_cases hx : xs.getD S 0 = t
  · have HE : Hid (moveCode v xs S t = 3) := by show moveCode v xs S t = 3; simp only [moveCode, hs, ht, Int.toNat_natCast, hx, hv]; rfl
    generalize xs.getD S 0 = x at *
    have hxb : (x == t) = true := by simpa using hx
    clear hx hv
    go_enter Try.func73, Try.ntmps73
    go_wp2_with (first | (go_at_call 94; refine (isSlot_any _ _).mono ?_; rintro e w' ⟨rfl, rfl⟩) | (go_at_call 93; refine (isHouse_any _ _).mono ?_; rintro e w' ⟨rfl, rfl⟩))
    go_ret
    exact ⟨ret_int (unhide HE).symm, (Below.refl _ _).alloc (Nat.le_refl _) _⟩
  · have HE : Hid (moveCode v xs S t = 0) := by show moveCode v xs S t = 0; simp only [moveCode, hs, ht, Int.toNat_natCast, hx, hv]; rfl
    generalize xs.getD S 0 = x at *
    have hxb : (x == t) = false := by simpa using hx
    clear hx hv
    go_enter Try.func73, Try.ntmps73
    go_wp2_with (first | (go_at_call 94; refine (isSlot_any _ _).mono ?_; rintro e w' ⟨rfl, rfl⟩) | (go_at_call 93; refine (isHouse_any _ _).mono ?_; rintro e w' ⟨rfl, rfl⟩))
    go_ret
    exact ⟨ret_int (unhide HE).symm, (Below.refl _ _).alloc (Nat.le_refl _) _⟩

end Go.Proofs.Ytapihjjklinbdaa
