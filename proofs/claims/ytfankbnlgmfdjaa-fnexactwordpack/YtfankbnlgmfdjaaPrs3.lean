/- Pairs: how the law marks them, and looks whether the marks are held; how a key's value is looked up. -/
import Derived.Test.YtfankbnlgmfdjaaPrs2
namespace Go.Proofs.Ytfankbnlgmfdjaa
open Go.RowKit

/-- The marks from k on. -/
def marks (k : Int) (n : Nat) : List Pr := (List.range n).map fun (i : Nat) => ⟨k + 2 * (i : Int), k + 2 * (i : Int) + 1⟩

theorem marks_length (k : Int) (n : Nat) : (marks k n).length = n := by simp [marks]
theorem marks_at (k : Int) (n i : Nat) (h : i < n) : (marks k n).getD i Pr.z = ⟨k + 2 * (i : Int), k + 2 * (i : Int) + 1⟩ := by simp [marks, List.getD, h]

set_option maxHeartbeats 1000000 in
theorem markPrs_own (g n cap : Nat) (k : Int) (w : World) (hn : n ≤ 1048576) (hk : 0 ≤ k) (hk' : k ≤ 100000000) (hr : Room w g (n * 2)) :
    Calls Try.prog 67 #[.slice (some ⟨g, 0, none⟩) n cap, .int .i64 k] w fun e w' => e = .returned (.int .i64 (k + 2 * (n : Int))) ∧ w.grownBy w' (some g) ∧ PrCells w' g 0 n (marks k n) ∧ Room w' g (n * 2) := by
  go_enter Try.func67, Try.ntmps67
  go_wp2
  go_loopw [1, 5] (fun q i wr => ∃ j : Nat, j ≤ n ∧ i = .int .i64 j ∧ q = .int .i64 (k + 2 * (j : Int)) ∧ w.grownBy wr (some g) ∧ Room wr g (n * 2) ∧ PrCells wr g 0 j (marks k n)) (fun _ i _ => n - (intOf i).toNat)
  case atStart => exact ⟨0, Nat.zero_le _, rfl, by simp, grownBy_refl _ _, hr, fun i hi => absurd hi (Nat.not_lt_zero _)⟩
  case round =>
    obtain ⟨j, hj, rfl, rfl, hg, hroom, hcs⟩ := hrel
    by_cases hlt : j < n
    · obtain ⟨⟨u0, r0⟩, f0⟩ := hroom (j * 2) (by omega)
      obtain ⟨⟨u1, r1⟩, f1⟩ := hroom (j * 2 + 1) (by omega)
      have r1' : ∀ u, (wr.setCell ⟨g, j * 2, none⟩ u).cell? ⟨g, j * 2 + 1, none⟩ = some u1 := fun u => by rw [cell_set_far (by omega)]; exact r1
      go_wp2
      go_roundw
      case rel =>
        refine ⟨j + 1, hlt, by go_num, ?_, grownBy_set (grownBy_set hg _ _) _ _, (hroom.set _ _).set _ _, ?_⟩
        · go_num
        · have := hcs.push hroom (by omega) (marks_at k n j hlt)
          simpa using this
      case measure => simp [intOf]; omega
    · go_wp2
      go_ret
      obtain rfl : j = n := by omega
      exact ⟨rfl, hg, hcs, hroom⟩

set_option maxHeartbeats 1000000 in
theorem markPrs_nil (k : Int) (w : World) :
    Calls Try.prog 67 #[.slice none 0 0, .int .i64 k] w fun e w' => e = .returned (.int .i64 k) ∧ w' = w := by
  go_enter Try.func67, Try.ntmps67
  go_wp2
  refine wp_loop_rounds 1 ?_
  rw [rounds_succ]
  go_wp2
  go_ret
  exact ⟨rfl, rfl⟩

set_option maxHeartbeats 1000000 in
theorem heldPrs_any (a : Option Addr) (n cap : Nat) (k : Int) (w : World) (hn : n ≤ 1048576) (hk : 0 ≤ k) (hk' : k ≤ 100000000) (hc : n = 0 ∨ ∃ g, a = some ⟨g, 0, none⟩ ∧ PrCells w g 0 n (marks k n)) :
    Calls Try.prog 70 #[.slice a n cap, .int .i64 k] w fun e w' => e = .returned (.int .i64 (k + 2 * (n : Int))) ∧ w' = w := by
  go_enter Try.func70, Try.ntmps70
  go_wp2
  go_loop [1, 5] (fun q i => ∃ j : Nat, j ≤ n ∧ i = .int .i64 j ∧ q = .int .i64 (k + 2 * (j : Int))) (fun _ i => n - (intOf i).toNat)
  case atStart => exact ⟨0, Nat.zero_le _, rfl, by simp⟩
  case round =>
    obtain ⟨j, hj, rfl, rfl⟩ := hrel
    by_cases hlt : j < n
    · obtain ⟨g, rfl, hcs⟩ : ∃ g, a = some ⟨g, 0, none⟩ ∧ PrCells w g 0 n (marks k n) := by
        rcases hc with hc | hc
        · omega
        · exact hc
      obtain ⟨c0, c1⟩ := hcs j hlt
      rw [marks_at k n j hlt] at c0 c1
      simp only [Nat.zero_add] at c0 c1
      clear hcs hc
      go_wp2
      go_round
      case rel => exact ⟨j + 1, hlt, by go_num, by go_num⟩
      case measure => simp [intOf]; omega
    · go_wp2
      go_ret
      obtain rfl : j = n := by omega
      exact ⟨rfl, rfl⟩

/-- A key's value, 0 if it has none. -/
def getP : List Pr → Int → Int
  | [], _ => 0
  | p :: r, k => if p.key = k then p.val else getP r k

theorem getP_drop_hit {ps : List Pr} {j : Nat} {k : Int} (hj : j < ps.length) (h : (ps.getD j Pr.z).key = k) : getP (ps.drop j) k = (ps.getD j Pr.z).val := by
  have : ps.drop j = ps.getD j Pr.z :: ps.drop (j + 1) := by
    rw [List.drop_eq_getElem_cons hj]; simp [List.getD, hj]
  rw [this]; simp only [getP, h, if_true]

theorem getP_drop_miss {ps : List Pr} {j : Nat} {k : Int} (hj : j < ps.length) (h : ¬ (ps.getD j Pr.z).key = k) : getP (ps.drop j) k = getP (ps.drop (j + 1)) k := by
  have : ps.drop j = ps.getD j Pr.z :: ps.drop (j + 1) := by
    rw [List.drop_eq_getElem_cons hj]; simp [List.getD, hj]
  rw [this]; simp only [getP, h, if_false]

end Go.Proofs.Ytfankbnlgmfdjaa
