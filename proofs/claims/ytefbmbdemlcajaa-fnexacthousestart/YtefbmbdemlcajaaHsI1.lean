/- The keeper's locks are cleared. -/
import Derived.Test.YtefbmbdemlcajaaHsN
import Derived.Test.YtefbmbdemlcajaaAppK2
namespace Go.Proofs.Ytefbmbdemlcajaa
open Go.RowKit

/-- A keeper of house i with nothing in its log and no works, the first j of its locks numbered, none of them held. -/
structure KpC (cs : Array Value) (i : Int) (j : Nat) : Prop where
  size : cs.size = 72
  log : cs[40]? = some (.slice none 0 0)
  id : cs[43]? = some (.int .i64 i)
  up : cs[44]? = some (.bool true)
  fo : cs[45]? = some (.int .i64 0)
  wk : cs[70]? = some (.slice none 0 0)
  c0 : ∀ q, q < j → cs[46 + q * 3]? = some (.int .i64 (q : Int))
  c1 : ∀ q, q < 8 → cs[46 + q * 3 + 1]? = some (.slice none 0 0)
  c2 : ∀ q, q < 8 → cs[46 + q * 3 + 2]? = some (.slice none 0 0)

theorem KpC.step {cs : Array Value} {i : Int} {j : Nat} (h : KpC cs i j) (hj : j < 8) : KpC (((cs.setIfInBounds (46 + j * 3) (.int .i64 (j : Int))).setIfInBounds (46 + j * 3 + 1) (.slice none 0 0)).setIfInBounds (46 + j * 3 + 2) (.slice none 0 0)) i (j + 1) := by
  have hs := h.size
  refine ⟨by simp [hs], ?_, ?_, ?_, ?_, ?_, fun q hq => ?_, fun q hq => ?_, fun q hq => ?_⟩
  · rw [Array.getElem?_setIfInBounds_ne (by omega), Array.getElem?_setIfInBounds_ne (by omega), Array.getElem?_setIfInBounds_ne (by omega)]; exact h.log
  · rw [Array.getElem?_setIfInBounds_ne (by omega), Array.getElem?_setIfInBounds_ne (by omega), Array.getElem?_setIfInBounds_ne (by omega)]; exact h.id
  · rw [Array.getElem?_setIfInBounds_ne (by omega), Array.getElem?_setIfInBounds_ne (by omega), Array.getElem?_setIfInBounds_ne (by omega)]; exact h.up
  · rw [Array.getElem?_setIfInBounds_ne (by omega), Array.getElem?_setIfInBounds_ne (by omega), Array.getElem?_setIfInBounds_ne (by omega)]; exact h.fo
  · rw [Array.getElem?_setIfInBounds_ne (by omega), Array.getElem?_setIfInBounds_ne (by omega), Array.getElem?_setIfInBounds_ne (by omega)]; exact h.wk
  · rw [Array.getElem?_setIfInBounds_ne (by omega), Array.getElem?_setIfInBounds_ne (by omega)]
    by_cases e : q = j
    · subst e; rw [Array.getElem?_setIfInBounds_self_of_lt (by omega)]
    · rw [Array.getElem?_setIfInBounds_ne (by omega)]; exact h.c0 q (by omega)
  · rw [Array.getElem?_setIfInBounds_ne (by omega)]
    by_cases e : q = j
    · subst e; rw [Array.getElem?_setIfInBounds_self_of_lt (by simp; omega)]
    · rw [Array.getElem?_setIfInBounds_ne (by omega), Array.getElem?_setIfInBounds_ne (by omega)]; exact h.c1 q hq
  · by_cases e : q = j
    · subst e; rw [Array.getElem?_setIfInBounds_self_of_lt (by simp; omega)]
    · rw [Array.getElem?_setIfInBounds_ne (by omega), Array.getElem?_setIfInBounds_ne (by omega), Array.getElem?_setIfInBounds_ne (by omega)]; exact h.c2 q hq

/-- Block g holds such a keeper. -/
structure Kp (w : World) (g : Nat) (i : Int) (j : Nat) : Prop where
  row : ∃ cs, w.heap[g]? = some (.cells cs 46 (0, 0)) ∧ KpC cs i j

theorem Kp.free {w : World} {g : Nat} {i : Int} {j : Nat} (h : Kp w g i j) (q : Nat) : w.frozen? ⟨g, q, none⟩ = false := by
  obtain ⟨cs, h1, -⟩ := h.row; exact frozen_of_row w _ q _ _ h1
theorem Kp.has {w : World} {g : Nat} {i : Int} {j : Nat} (h : Kp w g i j) (q : Nat) (hq : q < 72) : ∃ v, w.cell? ⟨g, q, none⟩ = some v := by
  obtain ⟨cs, h1, h2⟩ := h.row
  have := h2.size
  exact ⟨cs[q]'(by omega), by rw [cell_of_row w _ q _ _ _ h1]; simp [h2.size, hq]⟩
theorem Kp.at {w : World} {g : Nat} {i : Int} {j : Nat} (h : Kp w g i j) : w.cell? ⟨g, 40, none⟩ = some (.slice none 0 0) ∧ w.cell? ⟨g, 43, none⟩ = some (.int .i64 i) ∧ w.cell? ⟨g, 44, none⟩ = some (.bool true) ∧ w.cell? ⟨g, 45, none⟩ = some (.int .i64 0) ∧ w.cell? ⟨g, 70, none⟩ = some (.slice none 0 0) := by
  obtain ⟨cs, h1, h2⟩ := h.row
  simp only [cell_of_row w _ _ _ _ _ h1]
  exact ⟨h2.log, h2.id, h2.up, h2.fo, h2.wk⟩
theorem Kp.step {w : World} {g : Nat} {i : Int} {j : Nat} (h : Kp w g i j) (hj : j < 8) : Kp (((w.setCell ⟨g, 46 + j * 3, none⟩ (.int .i64 (j : Int))).setCell ⟨g, 46 + j * 3 + 1, none⟩ (.slice none 0 0)).setCell ⟨g, 46 + j * 3 + 2, none⟩ (.slice none 0 0)) g i (j + 1) := by
  obtain ⟨cs, h1, h2⟩ := h.row
  exact ⟨_, heap_setCell_same _ _ _ _ _ _ (heap_setCell_same _ _ _ _ _ _ (heap_setCell_same _ _ _ _ _ _ h1)), h2.step hj⟩
theorem Kp.lt {w : World} {g : Nat} {i : Int} {j : Nat} (h : Kp w g i j) : g < w.heap.size := by
  obtain ⟨cs, h1, -⟩ := h.row; exact (Array.getElem?_eq_some_iff.1 h1).1
theorem Kp.kept {w w' : World} {g : Nat} {i : Int} {j : Nat} (h : Kp w g i j) (hb : Below w.heap.size w w') : Kp w' g i j := by
  have hl := h.lt
  obtain ⟨cs, h1, h2⟩ := h.row
  exact ⟨cs, (hb.block g hl).trans h1, h2⟩
/-- Its locks, where they lie. -/
theorem Kp.locks {w : World} {g : Nat} {i : Int} (h : Kp w g i 8) : SrcAt w (some ⟨g, 46, none⟩) 8 ((upto 8).flatMap lk0E) := by
  obtain ⟨cs, h1, h2⟩ := h.row
  refine .inr ⟨by omega, ⟨g, 46, none⟩, rfl, fun q u hq => ?_⟩
  have hc : w.cell? ((⟨g, 46, none⟩ : Addr).add q) = cs[46 + q]? := by
    rw [show ((⟨g, 46, none⟩ : Addr).add q) = ⟨g, 46 + q, none⟩ by simp [Addr.add]]
    exact cell_of_row w _ _ _ _ _ h1
  rw [hc]
  have hl : q < 24 := by
    have := (List.getElem?_eq_some_iff.1 hq).1
    rwa [show ((upto 8).flatMap lk0E).length = 24 from rfl] at this
  have a0 := h2.c0
  have a1 := h2.c1
  have a2 := h2.c2
  have key : ∀ m : Nat, m < 8 → ((upto 8).flatMap lk0E)[m * 3]? = some (.int .i64 (m : Int)) ∧ ((upto 8).flatMap lk0E)[m * 3 + 1]? = some (.slice none 0 0) ∧ ((upto 8).flatMap lk0E)[m * 3 + 2]? = some (.slice none 0 0) := fun m hm => by
    rcases (by omega : m = 0 ∨ m = 1 ∨ m = 2 ∨ m = 3 ∨ m = 4 ∨ m = 5 ∨ m = 6 ∨ m = 7) with rfl | rfl | rfl | rfl | rfl | rfl | rfl | rfl <;> exact ⟨rfl, rfl, rfl⟩
  obtain ⟨k0, k1, k2⟩ := key (q / 3) (by omega)
  rcases (by omega : q = q / 3 * 3 ∨ q = q / 3 * 3 + 1 ∨ q = q / 3 * 3 + 2) with e | e | e
  · rw [e] at hq ⊢; rw [k0] at hq; rw [← hq]; exact a0 _ (by omega)
  · rw [e] at hq ⊢; rw [k1] at hq; rw [← hq]; exact a1 _ (by omega)
  · rw [e] at hq ⊢; rw [k2] at hq; rw [← hq]; exact a2 _ (by omega)

set_option maxRecDepth 100000 in
set_option maxHeartbeats 2000000 in
theorem clearLocks_any (g : Nat) (i : Int) (w : World) (h : Kp w g i 0) :
    Calls Try.prog 12 #[.pointer (some ⟨g, 0, none⟩)] w fun e w' => e = .returned (.tuple #[]) ∧ Kp w' g i 8 ∧ w.grownBy w' (some g) := by
  have HK := hide h
  clear h
  go_enter Try.func12, Try.ntmps12
  go_wp2_with fail
  go_loopw [3] (fun q wr => ∃ j : Nat, j ≤ 8 ∧ q = .int .i64 j ∧ Kp wr g i j ∧ w.grownBy wr (some g)) (fun q _ => 8 - (intOf q).toNat)
  case atStart => exact ⟨0, Nat.zero_le _, rfl, unhide HK, grownBy_refl _ _⟩
  case round =>
    obtain ⟨j, hj, rfl, hk, hg⟩ := hrel
    by_cases hlt : j < 8
    · have hltI : (j : Int) < 8 := by omega
      have HS := hide (hk.step hlt)
      have HG := hide (grownBy_set (grownBy_set (grownBy_set hg (46 + j * 3) (.int .i64 (j : Int))) (46 + j * 3 + 1) (.slice none 0 0)) (46 + j * 3 + 2) (.slice none 0 0))
      obtain ⟨v0, b0⟩ := hk.has (46 + j * 3) (by omega)
      obtain ⟨v1, b1⟩ := hk.has (46 + j * 3 + 1) (by omega)
      obtain ⟨v2, b2⟩ := hk.has (46 + j * 3 + 2) (by omega)
      have f0 := hk.free (46 + j * 3)
      have f1 := hk.free (46 + j * 3 + 1)
      have f2 := hk.free (46 + j * 3 + 2)
      clear hk hg
      go_wp2_with fail
      go_roundw
      case rel => exact ⟨j + 1, hlt, by go_num, unhide HS, unhide HG⟩
      case measure => simp [intOf]; omega
    · go_wp2_with fail
      go_end0
      obtain rfl : j = 8 := by omega
      exact ⟨rfl, hk, hg⟩

end Go.Proofs.Ytefbmbdemlcajaa
