/- Holds and locks: how the laws mark them, and look whether the marks are held. -/
import Derived.Test.YtefbmbdemlcajaaHkC
namespace Go.Proofs.Ytefbmbdemlcajaa
open Go.RowKit

set_option maxRecDepth 100000 in
set_option maxHeartbeats 2000000 in
theorem markHds_own (g n cap : Nat) (k : Int) (w : World) (hn : n ≤ 1048576) (hk : 0 ≤ k) (hk' : k ≤ 100000000) (hr : Room w g (n * 4)) :
    Calls Try.prog 30 #[.slice (some ⟨g, 0, none⟩) n cap, .int .i64 k] w fun e w' => e = .returned (.int .i64 (k + 4 * (n : Int))) ∧ w.grownBy w' (some g) ∧ HdCells w' g 0 n (hmarks k n) ∧ Room w' g (n * 4) := by
  go_enter Try.func30, Try.ntmps30
  go_wp2
  go_loopw [1, 5] (fun q i wr => ∃ j : Nat, j ≤ n ∧ i = .int .i64 j ∧ q = .int .i64 (k + 4 * (j : Int)) ∧ w.grownBy wr (some g) ∧ Room wr g (n * 4) ∧ HdCells wr g 0 j (hmarks k n)) (fun _ i _ => n - (intOf i).toNat)
  case atStart => exact ⟨0, Nat.zero_le _, rfl, by simp, grownBy_refl _ _, hr, fun i hi => absurd hi (Nat.not_lt_zero _)⟩
  case round =>
    obtain ⟨j, hj, rfl, rfl, hg, hroom, hcs⟩ := hrel
    by_cases hlt : j < n
    · obtain ⟨⟨u0, r0⟩, f0⟩ := hroom (j * 4) (by omega)
      obtain ⟨⟨u1, r1⟩, f1⟩ := hroom (j * 4 + 1) (by omega)
      obtain ⟨⟨u2, r2⟩, f2⟩ := hroom (j * 4 + 2) (by omega)
      obtain ⟨⟨u3, r3⟩, f3⟩ := hroom (j * 4 + 3) (by omega)
      have HG := hide hg
      have HRM := hide hroom
      have HCS := hide hcs
      have HKM := hide (hmarks_at k n j hlt)
      clear hg hroom hcs hr
      have s1 : ∀ u, (wr.setCell ⟨g, j * 4, none⟩ u).cell? ⟨g, j * 4 + 1, none⟩ = some u1 := fun u => by rw [cell_set_far (by omega)]; exact r1
      have s2 : ∀ u v, ((wr.setCell ⟨g, j * 4, none⟩ u).setCell ⟨g, j * 4 + 1, none⟩ v).cell? ⟨g, j * 4 + 2, none⟩ = some u2 := fun u v => by rw [cell_set_far (by omega), cell_set_far (by omega)]; exact r2
      have s3 : ∀ u v x, (((wr.setCell ⟨g, j * 4, none⟩ u).setCell ⟨g, j * 4 + 1, none⟩ v).setCell ⟨g, j * 4 + 2, none⟩ x).cell? ⟨g, j * 4 + 3, none⟩ = some u3 := fun u v x => by rw [cell_set_far (by omega), cell_set_far (by omega), cell_set_far (by omega)]; exact r3
      go_wp2
      go_roundw
      case rel =>
        refine ⟨j + 1, hlt, by go_num, by go_num, grownBy_set (grownBy_set (grownBy_set (grownBy_set (unhide HG) _ _) _ _) _ _) _ _, ((((unhide HRM).set _ _).set _ _).set _ _).set _ _, ?_⟩
        have := (unhide HCS).push (unhide HRM) (by omega) (unhide HKM)
        simpa using this
      case measure => simp [intOf]; omega
    · go_wp2
      go_ret
      obtain rfl : j = n := by omega
      exact ⟨rfl, hg, hcs, hroom⟩

set_option maxHeartbeats 1000000 in
theorem markHds_nil (k : Int) (w : World) :
    Calls Try.prog 30 #[.slice none 0 0, .int .i64 k] w fun e w' => e = .returned (.int .i64 k) ∧ w' = w := by
  go_enter Try.func30, Try.ntmps30
  go_wp2
  refine wp_loop_rounds 1 ?_
  rw [rounds_succ]
  go_wp2
  go_ret
  exact ⟨rfl, rfl⟩

theorem markHds_any (v : Value) (n lo : Nat) (k : Int) (w : World) (hn : n ≤ 1048576) (hk : 0 ≤ k) (hk' : k ≤ 100000000) (h : OwnK w v n lo 4) :
    Calls Try.prog 30 #[v, .int .i64 k] w fun e w' => e = .returned (.int .i64 (k + 4 * (n : Int))) ∧ w.grownBy w' v.ownBlock ∧ MarkedH w' v n k := by
  rcases h with ⟨rfl, rfl⟩ | ⟨g, cap, rfl, hl, hlt, hr⟩
  · refine (markHds_nil k w).mono ?_
    rintro e w' ⟨rfl, rfl⟩
    exact ⟨ret_int (by simp), grownBy_refl _ _, ⟨none, 0, rfl, .inl rfl⟩⟩
  · refine (markHds_own g n cap k w hn hk hk' hr).mono ?_
    rintro e w' ⟨rfl, hg, hc, hr'⟩
    exact ⟨rfl, hg, ⟨_, _, rfl, .inr ⟨g, rfl, hc⟩⟩⟩

set_option maxRecDepth 100000 in
set_option maxHeartbeats 2000000 in
theorem heldHds_any (a : Option Addr) (n cap : Nat) (k : Int) (w : World) (hn : n ≤ 1048576) (hk : 0 ≤ k) (hk' : k ≤ 100000000) (hc : n = 0 ∨ ∃ g, a = some ⟨g, 0, none⟩ ∧ HdCells w g 0 n (hmarks k n)) :
    Calls Try.prog 33 #[.slice a n cap, .int .i64 k] w fun e w' => e = .returned (.int .i64 (k + 4 * (n : Int))) ∧ w' = w := by
  go_enter Try.func33, Try.ntmps33
  go_wp2
  go_loop [1, 5] (fun q i => ∃ j : Nat, j ≤ n ∧ i = .int .i64 j ∧ q = .int .i64 (k + 4 * (j : Int))) (fun _ i => n - (intOf i).toNat)
  case atStart => exact ⟨0, Nat.zero_le _, rfl, by simp⟩
  case round =>
    obtain ⟨j, hj, rfl, rfl⟩ := hrel
    by_cases hlt : j < n
    · obtain ⟨g, rfl, hcs⟩ : ∃ g, a = some ⟨g, 0, none⟩ ∧ HdCells w g 0 n (hmarks k n) := by
        rcases hc with hc | hc
        · omega
        · exact hc
      obtain ⟨c0, c1, c2, c3⟩ := hcs j hlt
      rw [hmarks_at k n j hlt] at c0 c1 c2 c3
      simp only [Nat.zero_add] at c0 c1 c2 c3
      have e2 : (((k + 4 * (j : Int) + 1 + 1) % 3 == 0) != ((k + 4 * (j : Int) + 1 + 1) % 3 == 0)) = false := by simp
      have e3 : (((k + 4 * (j : Int) + 1 + 1 + 1) % 3 == 0) != ((k + 4 * (j : Int) + 1 + 1 + 1) % 3 == 0)) = false := by simp
      clear hcs hc
      go_wp2
      go_round
      case rel => exact ⟨j + 1, hlt, by go_num, by go_num⟩
      case measure => simp [intOf]; omega
    · go_wp2
      go_ret
      obtain rfl : j = n := by omega
      exact ⟨rfl, rfl⟩

theorem heldHds_marked (v : Value) (n : Nat) (k : Int) (w : World) (hn : n ≤ 1048576) (hk : 0 ≤ k) (hk' : k ≤ 100000000) (h : MarkedH w v n k) :
    Calls Try.prog 33 #[v, .int .i64 k] w fun e w' => e = .returned (.int .i64 (k + 4 * (n : Int))) ∧ w' = w := by
  obtain ⟨a, cap, rfl, h1⟩ := h
  exact heldHds_any a n cap k w hn hk hk' h1

end Go.Proofs.Ytefbmbdemlcajaa
