/- Maps: how the laws copy, compare, mark and look at them. -/
import Derived.Test.YtfankbnlgmfdjaaMapI4
import Derived.Test.YtfankbnlgmfdjaaIntsF
namespace Go.Proofs.Ytfankbnlgmfdjaa
open Go.RowKit

set_option maxHeartbeats 400000 in
theorem szIns_yes (a : Option Addr) (n cap : Nat) (left : Int) (w : World) (h1 : left ≤ 1048576) (h : (n : Int) ≤ left) :
    Calls Try.prog 57 #[.slice a n cap, .int .i64 left] w fun e w' => e = .returned (.int .i64 (left - n)) ∧ w' = w := by
  have h' : ¬ left - (n : Int) < 0 := by omega
  go_enter Try.func57, Try.ntmps57
  go_wp2
  go_ret
  exact ⟨rfl, rfl⟩

set_option maxHeartbeats 400000 in
theorem szIns_no (a : Option Addr) (n cap : Nat) (left : Int) (w : World) (h0 : 0 ≤ left) (h1 : left ≤ 1048576) (hn : n ≤ maxLen) (h : left < (n : Int)) :
    Calls Try.prog 57 #[.slice a n cap, .int .i64 left] w fun e w' => e = .returned (.int .i64 (-1)) ∧ w' = w := by
  unfold maxLen at hn
  have h' : left - (n : Int) < 0 := by omega
  go_enter Try.func57, Try.ntmps57
  go_wp2
  go_ret
  exact ⟨rfl, rfl⟩

set_option maxHeartbeats 1000000 in
theorem toIns_any (v : Value) (xs : List Int) (w : World) (hv : InsAt w v xs) (hn : xs.length ≤ 1048576) :
    Calls Try.prog 60 #[v] w fun e w' => e = .returned (.slice (some ⟨w.heap.size, 0, none⟩) xs.length xs.length) ∧ InsAt w' (.slice (some ⟨w.heap.size, 0, none⟩) xs.length xs.length) xs ∧ Room w' w.heap.size xs.length ∧ w.heap.size < w'.heap.size ∧ Below w.heap.size w w' := by
  obtain ⟨a, cap, rfl, h1, h2, h3⟩ := hv
  obtain ⟨i0, hi, hz0, hz1, hz2⟩ := info_parts Try.infoI1
  generalize hN : xs.length = N at *
  have hmk : ∀ w : World, (Instr.makeSlice 23 (.int .i64 (N : Int)) (.int .i64 (N : Int))).run Try.prog w = .ok (.slice (some ⟨w.heap.size, 0, none⟩) N N) (w.alloc (.cells (madeCells #[.int .i64 0] N) 3)) := by
    intro w
    have := run_make (P := Try.prog) w 23 3 i0 (.int .i64 0) Try.underlying23 hi hz0 .i64 .i64 N N (by omega) (by omega) (by rw [hz2]; omega) (by omega)
    simpa [hz1, Value.cells] using this
  clear hi hz0 hz1 hz2 i0
  have HN := hide hN
  clear hN
  go_enter Try.func60, Try.ntmps60
  go_wp2
  go_loopw [4] (fun i wr => ∃ k : Nat, k ≤ N ∧ i = .int .i64 k ∧ Below w.heap.size w wr ∧ w.heap.size < wr.heap.size ∧ Room wr w.heap.size N ∧ InCells wr w.heap.size 0 k xs) (fun i _ => N - (intOf i).toNat)
  case atStart => exact ⟨0, Nat.zero_le _, rfl, (Below.refl _ _).alloc (Nat.le_refl _) _, by simp, Room.made _ _ _ _, fun i hi => absurd hi (Nat.not_lt_zero _)⟩
  case round =>
    obtain ⟨k, hk, rfl, hb, hsz, hroom, hcs⟩ := hrel
    by_cases hlt : k < N
    · obtain ⟨b, off, rfl, hc⟩ : ∃ b off, a = some ⟨b, off, none⟩ ∧ InCells w b off N xs := by
        rcases h3 with h3 | h3
        · have := unhide HN; subst h3; simp at this; omega
        · exact h3
      have c0 := (hc.kept hb) k hlt
      obtain ⟨⟨u0, r0⟩, f0⟩ := hroom k hlt
      generalize hx : xs.getD k 0 = x at c0
      have HX := hide hx
      clear h3 hmk hc hx
      go_wp2
      go_roundw
      case rel => exact ⟨k + 1, hlt, by go_num, hb.setCell (Nat.le_refl _) _, by simpa [World.setCell] using hsz, hroom.set _ _, hcs.push hroom hlt (unhide HX)⟩
      case measure => simp [intOf]; omega
    · go_wp2
      go_ret
      obtain rfl : k = N := by omega
      have hN := unhide HN
      exact ⟨rfl, ⟨_, _, by rw [hN], by omega, by unfold maxLen; omega, .inr ⟨_, _, rfl, by rw [hN]; exact hcs⟩⟩, hroom, hsz, hb⟩

/-- Two maps are alike. -/
def eqMapB (v : Int) (xs : List Int) (v' : Int) (ys : List Int) : Bool := decide (v = v') && eqIns xs ys
theorem eqMapB_self (v : Int) (xs : List Int) : eqMapB v xs v xs = true := by simp [eqMapB, eqIns_self]

end Go.Proofs.Ytfankbnlgmfdjaa
