/- Slices of numbers: how the laws compare, mark and look at them. -/
import Derived.Test.YtpcbpliigplgoaaRows
import Derived.Test.YtpcbpliigplgoaaIntsK
namespace Go.Proofs.Ytpcbpliigplgoaa
open Go.RowKit
attribute [local go_sem ↓] Go.wp_at_zero Go.wp_at_succ

set_option maxHeartbeats 1000000 in
theorem eqInsE_any (v u : Value) (xs ys : List Int) (w : World) (hv : InsAt w v xs) (hu : InsAt w u ys) :
    Calls Try.prog 37 #[v, u] w fun e w' => e = .returned (.bool (eqIns xs ys)) ∧ Below w.heap.size w w' := by
  obtain ⟨a, cap, rfl, h1, h2, h3⟩ := hv
  obtain ⟨a', cap', rfl, h1', h2', h3'⟩ := hu
  generalize hN : xs.length = N at *
  generalize hM : ys.length = M at *
  have HN := hide hN
  have HM := hide hM
  clear hN hM
  unfold maxLen at h2 h2'
  by_cases hNM : N = M
  · subst hNM
    have hne : ((N : Int) != (N : Int)) = false := by simp
    go_enter Try.func37, Try.ntmps37
    go_wp2
    go_loopw [5] (fun i wr => ∃ k : Nat, k ≤ N ∧ i = .int .i64 k ∧ Below w.heap.size w wr ∧ xs.take k = ys.take k) (fun i _ => N - (intOf i).toNat)
    case atStart => exact ⟨0, Nat.zero_le _, rfl, Below.refl _ _, by simp⟩
    case round =>
      obtain ⟨k, hk, rfl, hb, htk⟩ := hrel
      have HT := hide htk
      clear htk
      by_cases hlt : k < N
      · obtain ⟨b, off, rfl, hc⟩ : ∃ b off, a = some ⟨b, off, none⟩ ∧ InCells w b off N xs := by
          rcases h3 with h3 | h3
          · have := unhide HN; subst h3; simp at this; omega
          · exact h3
        obtain ⟨b', off', rfl, hc'⟩ : ∃ b off, a' = some ⟨b, off, none⟩ ∧ InCells w b off N ys := by
          rcases h3' with h3 | h3
          · have := unhide HM; subst h3; simp at this; omega
          · exact h3
        have c0 := (hc.kept hb) k hlt
        have d0 := (hc'.kept hb) k hlt
        generalize hx : xs.getD k 0 = x at c0
        generalize hy : ys.getD k 0 = y at d0
        have HX := hide hx
        have HY := hide hy
        have hkI : (k : Int) < (N : Int) := by omega
        have hk0 : (0 : Int) ≤ (k : Int) := by omega
        clear h3 h3' hc hc' hx hy
        by_cases hxy : x = y
        · have hxb : (x != y) = false := by simpa using hxy
          have HXY := hide hxy
          clear hxy
          go_wp2
          go_quiet (fail)
          go_wp2
          go_roundw
          case rel =>
            have h1 := unhide HX; have h2 := unhide HY; have h3 := unhide HXY
            exact ⟨k + 1, hlt, by go_num, below_drewN hb _, take_eq_step (d := 0) (unhide HT) (by rw [unhide HN]; exact hlt) (by rw [unhide HM]; exact hlt) (by rw [h1, h2, h3])⟩
          case measure => simp [intOf]; omega
        · have hxb : (x != y) = true := by simpa using hxy
          have HXY := hide hxy
          clear hxy
          go_wp2
          go_quiet (fail)
          go_wp2
          go_ret
          refine ⟨ret_bool ?_, below_drewN hb _⟩
          have h1 := unhide HX; have h2 := unhide HY; have h3 := unhide HXY
          have : eqIns xs ys = false := by
            simp only [eqIns, decide_eq_false_iff_not]
            intro e; apply h3; rw [← h1, ← h2, e]
          rw [this]
      · go_wp2
        go_ret
        refine ⟨ret_bool ?_, hb⟩
        obtain rfl : k = N := by omega
        have h1 := unhide HT; have h2 := unhide HN; have h3 := unhide HM
        rw [List.take_of_length_le (by omega), List.take_of_length_le (by omega)] at h1
        simp [eqIns, h1]
  · have hne : ((N : Int) != (M : Int)) = true := by simp; omega
    go_enter Try.func37, Try.ntmps37
    go_wp2
    go_ret
    refine ⟨?_, Below.refl _ _⟩
    have : eqIns xs ys = false := by
      have h1 := unhide HN; have h2 := unhide HM
      simp only [eqIns, decide_eq_false_iff_not]; intro e; subst e; omega
    rw [this]; rfl

end Go.Proofs.Ytpcbpliigplgoaa
