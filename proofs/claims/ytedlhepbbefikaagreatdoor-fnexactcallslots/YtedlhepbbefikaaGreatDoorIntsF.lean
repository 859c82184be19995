/- Slices of numbers: how the laws compare, mark and look at them. -/
import Derived.Test.YtedlhepbbefikaaGreatDoorRows
import Derived.Test.YtedlhepbbefikaaGreatDoorIntsK
namespace Go.Proofs.YtedlhepbbefikaaGreatDoor
open Go.RowKit
attribute [local go_sem ↓] Go.wp_at_zero Go.wp_at_succ

set_option maxHeartbeats 1000000 in
theorem markIns_own (g n cap : Nat) (k : Int) (w : World) (hn : n ≤ 1048576) (hk : 0 ≤ k) (hk' : k ≤ 100000000) (hr : Room w g n) :
    Calls Tryz.prog 16 #[.slice (some ⟨g, 0, none⟩) n cap, .int .i64 k] w fun e w' => e = .returned (.int .i64 (k + (n : Int))) ∧ w.grownBy w' (some g) ∧ InCells w' g 0 n (imarks k n) ∧ Room w' g n := by
  go_enter Tryz.func16, Tryz.ntmps16
  go_wp2
  go_loopw [1, 5] (fun q i wr => ∃ j : Nat, j ≤ n ∧ i = .int .i64 j ∧ q = .int .i64 (k + (j : Int)) ∧ w.grownBy wr (some g) ∧ Room wr g n ∧ InCells wr g 0 j (imarks k n)) (fun _ i _ => n - (intOf i).toNat)
  case atStart => exact ⟨0, Nat.zero_le _, rfl, by simp, grownBy_refl _ _, hr, fun i hi => absurd hi (Nat.not_lt_zero _)⟩
  case round =>
    obtain ⟨j, hj, rfl, rfl, hg, hroom, hcs⟩ := hrel
    by_cases hlt : j < n
    · obtain ⟨⟨u0, r0⟩, f0⟩ := hroom j hlt
      go_wp2
      go_roundw
      case rel => exact ⟨j + 1, hlt, by go_num, by go_num, grownBy_set hg _ _, hroom.set _ _, hcs.push hroom hlt (imarks_at k n j hlt)⟩
      case measure => simp [intOf]; omega
    · go_wp2
      go_ret
      obtain rfl : j = n := by omega
      exact ⟨rfl, hg, hcs, hroom⟩

set_option maxHeartbeats 1000000 in
theorem markIns_nil (k : Int) (w : World) :
    Calls Tryz.prog 16 #[.slice none 0 0, .int .i64 k] w fun e w' => e = .returned (.int .i64 k) ∧ w' = w := by
  go_enter Tryz.func16, Tryz.ntmps16
  go_wp2
  refine wp_loop_rounds 1 ?_
  rw [rounds_succ]
  go_wp2
  go_ret
  exact ⟨rfl, rfl⟩

set_option maxHeartbeats 1000000 in
theorem heldIns_any (a : Option Addr) (n cap : Nat) (k : Int) (w : World) (hn : n ≤ 1048576) (hk : 0 ≤ k) (hk' : k ≤ 100000000) (hc : n = 0 ∨ ∃ g, a = some ⟨g, 0, none⟩ ∧ InCells w g 0 n (imarks k n)) :
    Calls Tryz.prog 17 #[.slice a n cap, .int .i64 k] w fun e w' => e = .returned (.int .i64 (k + (n : Int))) ∧ w' = w := by
  go_enter Tryz.func17, Tryz.ntmps17
  go_wp2
  go_loop [1, 5] (fun q i => ∃ j : Nat, j ≤ n ∧ i = .int .i64 j ∧ q = .int .i64 (k + (j : Int))) (fun _ i => n - (intOf i).toNat)
  case atStart => exact ⟨0, Nat.zero_le _, rfl, by simp⟩
  case round =>
    obtain ⟨j, hj, rfl, rfl⟩ := hrel
    by_cases hlt : j < n
    · obtain ⟨g, rfl, hcs⟩ : ∃ g, a = some ⟨g, 0, none⟩ ∧ InCells w g 0 n (imarks k n) := by
        rcases hc with hc | hc
        · omega
        · exact hc
      have c0 := hcs j hlt
      rw [imarks_at k n j hlt, Nat.zero_add] at c0
      clear hcs hc
      go_wp2
      go_round
      case rel => exact ⟨j + 1, hlt, by go_num, by go_num⟩
      case measure => simp [intOf]; omega
    · go_wp2
      go_ret
      obtain rfl : j = n := by omega
      exact ⟨rfl, rfl⟩

set_option maxHeartbeats 1000000 in
theorem eqInsE_any (v u : Value) (xs ys : List Int) (w : World) (hv : InsAt w v xs) (hu : InsAt w u ys) :
    Calls Tryz.prog 15 #[v, u] w fun e w' => e = .returned (.bool (eqIns xs ys)) ∧ Below w.heap.size w w' := by
  obtain ⟨a, cap, rfl, h1, h2, h3⟩ := hv
  obtain ⟨a', cap', rfl, h1', h2', h3'⟩ := hu
  generalize hN : xs.length = N at *
  generalize hM : ys.length = M at *
  have HN := hide hN
  have HM := hide hM
  clear hN hM
  unfold maxLen at h2 h2'
  by_cases hNM : N = M
  · subst hNM
    have hne : ((N : Int) != (N : Int)) = false := by simp
    go_enter Tryz.func15, Tryz.ntmps15
    go_wp2
    go_loopw [5] (fun i wr => ∃ k : Nat, k ≤ N ∧ i = .int .i64 k ∧ Below w.heap.size w wr ∧ xs.take k = ys.take k) (fun i _ => N - (intOf i).toNat)
    case atStart => exact ⟨0, Nat.zero_le _, rfl, Below.refl _ _, by simp⟩
    case round =>
      obtain ⟨k, hk, rfl, hb, htk⟩ := hrel
      have HT := hide htk
      clear htk
      by_cases hlt : k < N
      · obtain ⟨b, off, rfl, hc⟩ : ∃ b off, a = some ⟨b, off, none⟩ ∧ InCells w b off N xs := by
          rcases h3 with h3 | h3
          · have := unhide HN; subst h3; simp at this; omega
          · exact h3
        obtain ⟨b', off', rfl, hc'⟩ : ∃ b off, a' = some ⟨b, off, none⟩ ∧ InCells w b off N ys := by
          rcases h3' with h3 | h3
          · have := unhide HM; subst h3; simp at this; omega
          · exact h3
        have c0 := (hc.kept hb) k hlt
        have d0 := (hc'.kept hb) k hlt
        generalize hx : xs.getD k 0 = x at c0
        generalize hy : ys.getD k 0 = y at d0
        have HX := hide hx
        have HY := hide hy
        have hkI : (k : Int) < (N : Int) := by omega
        have hk0 : (0 : Int) ≤ (k : Int) := by omega
        clear h3 h3' hc hc' hx hy
        by_cases hxy : x = y
        · have hxb : (x != y) = false := by simpa using hxy
          have HXY := hide hxy
          clear hxy
          go_wp2
          go_quiet (fail)
          go_wp2
          go_roundw
          case rel =>
            have h1 := unhide HX; have h2 := unhide HY; have h3 := unhide HXY
            exact ⟨k + 1, hlt, by go_num, below_drewN hb _, take_eq_step (d := 0) (unhide HT) (by rw [unhide HN]; exact hlt) (by rw [unhide HM]; exact hlt) (by rw [h1, h2, h3])⟩
          case measure => simp [intOf]; omega
        · have hxb : (x != y) = true := by simpa using hxy
          have HXY := hide hxy
          clear hxy
          go_wp2
          go_quiet (fail)
          go_wp2
          go_ret
          refine ⟨ret_bool ?_, below_drewN hb _⟩
          have h1 := unhide HX; have h2 := unhide HY; have h3 := unhide HXY
          have : eqIns xs ys = false := by
            simp only [eqIns, decide_eq_false_iff_not]
            intro e; apply h3; rw [← h1, ← h2, e]
          rw [this]
      · go_wp2
        go_ret
        refine ⟨ret_bool ?_, hb⟩
        obtain rfl : k = N := by omega
        have h1 := unhide HT; have h2 := unhide HN; have h3 := unhide HM
        rw [List.take_of_length_le (by omega), List.take_of_length_le (by omega)] at h1
        simp [eqIns, h1]
  · have hne : ((N : Int) != (M : Int)) = true := by simp; omega
    go_enter Tryz.func15, Tryz.ntmps15
    go_wp2
    go_ret
    refine ⟨?_, Below.refl _ _⟩
    have : eqIns xs ys = false := by
      have h1 := unhide HN; have h2 := unhide HM
      simp only [eqIns, decide_eq_false_iff_not]; intro e; subst e; omega
    rw [this]; rfl

theorem markIns_any (v : Value) (n lo : Nat) (k : Int) (w : World) (hn : n ≤ 1048576) (hk : 0 ≤ k) (hk' : k ≤ 100000000) (h : OwnIn w v n lo) :
    Calls Tryz.prog 16 #[v, .int .i64 k] w fun e w' => e = .returned (.int .i64 (k + (n : Int))) ∧ w.grownBy w' v.ownBlock ∧ MarkedIn w' v n k := by
  rcases h with ⟨rfl, rfl⟩ | ⟨g, cap, rfl, hl, hlt, hr⟩
  · refine (markIns_nil k w).mono ?_
    rintro e w' ⟨rfl, rfl⟩
    exact ⟨ret_int (by simp), grownBy_refl _ _, ⟨none, 0, rfl, .inl rfl⟩⟩
  · refine (markIns_own g n cap k w hn hk hk' hr).mono ?_
    rintro e w' ⟨rfl, hg, hc, hr'⟩
    exact ⟨rfl, hg, ⟨_, _, rfl, .inr ⟨g, rfl, hc⟩⟩⟩

theorem heldIns_marked (v : Value) (n : Nat) (k : Int) (w : World) (hn : n ≤ 1048576) (hk : 0 ≤ k) (hk' : k ≤ 100000000) (h : MarkedIn w v n k) :
    Calls Tryz.prog 17 #[v, .int .i64 k] w fun e w' => e = .returned (.int .i64 (k + (n : Int))) ∧ w' = w := by
  obtain ⟨a, cap, rfl, h1⟩ := h
  exact heldIns_any a n cap k w hn hk hk' h1

end Go.Proofs.YtedlhepbbefikaaGreatDoor
