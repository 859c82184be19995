/- What was said, and books: how the laws compare, copy and size them. -/
import Derived.Test.YtpcbpliigplgoaaSdT
namespace Go.Proofs.Ytpcbpliigplgoaa
open Go.RowKit

theorem Box.five {w : World} {g : Nat} {T : TypeId} {a b c d e : Value} (h : Box w g T #[a, b, c, d, e]) :
    w.cell? ⟨g, 0, none⟩ = some a ∧ w.cell? ⟨g, 1, none⟩ = some b ∧ w.cell? ⟨g, 2, none⟩ = some c ∧ w.cell? ⟨g, 3, none⟩ = some d ∧ w.cell? ⟨g, 4, none⟩ = some e := ⟨h.cell 0, h.cell 1, h.cell 2, h.cell 3, h.cell 4⟩

set_option maxRecDepth 100000 in
set_option maxHeartbeats 2000000 in
theorem eqSds_any (v u : Value) (xs ys : List Sd) (w : World) (hv : SdsAt w v xs) (hu : SdsAt w u ys) :
    Calls Try.prog 51 #[v, u] w fun e w' => e = .returned (.bool (eqSds xs ys)) ∧ Below w.heap.size w w' := by
  obtain ⟨a, cap, rfl, h1, h2, h3⟩ := hv
  obtain ⟨a', cap', rfl, h1', h2', h3'⟩ := hu
  generalize hN : xs.length = N at *
  generalize hM : ys.length = M at *
  have HN := hide hN
  have HM := hide hM
  clear hN hM
  unfold maxLen at h2 h2'
  by_cases hNM : N = M
  · subst hNM
    have hne : ((N : Int) != (N : Int)) = false := by simp
    go_enter Try.func51, Try.ntmps51
    go_wp2
    go_loopw [5] (fun i wr => ∃ k : Nat, k ≤ N ∧ i = .int .i64 k ∧ Below w.heap.size w wr ∧ xs.take k = ys.take k) (fun i _ => N - (intOf i).toNat)
    case atStart => exact ⟨0, Nat.zero_le _, rfl, Below.refl _ _, by simp⟩
    case round =>
      obtain ⟨k, hk, rfl, hb, htk⟩ := hrel
      have HT := hide htk
      clear htk
      by_cases hlt : k < N
      · obtain ⟨b, off, rfl, hc⟩ : ∃ b off, a = some ⟨b, off, none⟩ ∧ SdCells w b off N xs := by
          rcases h3 with h3 | h3
          · have := unhide HN; subst h3; simp at this; omega
          · exact h3
        obtain ⟨b', off', rfl, hc'⟩ : ∃ b off, a' = some ⟨b, off, none⟩ ∧ SdCells w b off N ys := by
          rcases h3' with h3 | h3
          · have := unhide HM; subst h3; simp at this; omega
          · exact h3
        obtain ⟨c0, c1, c2, cu, c3, c4⟩ := (hc.kept hb) k hlt
        obtain ⟨d0, d1, d2, du, d3, d4⟩ := (hc'.kept hb) k hlt
        generalize hx : xs.getD k Sd.z = x at c0 c1 c2 c4
        generalize hy : ys.getD k Sd.z = y at d0 d1 d2 d4
        have HX := hide hx
        have HY := hide hy
        have HI := hide (c4.kept (w' := wr.drew) ((Below.refl _ _).drew))
        have HJ := hide (d4.kept (w' := wr.drew) ((Below.refl _ _).drew))
        obtain ⟨ua, uc, rfl, -⟩ := c4.slice
        obtain ⟨va, vc, rfl, -⟩ := d4.slice
        have hkI : (k : Int) < (N : Int) := by omega
        have hk0 : (0 : Int) ≤ (k : Int) := by omega
        generalize x.vals.length = xl at *
        generalize y.vals.length = yl at *
        clear h3 h3' hc hc' hx hy c4 d4
        go_wp2
        go_region_held3 (fun w' => w'.cell? ⟨b, off + k * 4, none⟩ = some (.int .i64 x.ses) ∧ w'.cell? ⟨b, off + k * 4 + 1, none⟩ = some (.int .i64 x.num) ∧ w'.cell? ⟨b, off + k * 4 + 2, none⟩ = some (.int .i64 x.code) ∧ w'.cell? ⟨b, off + k * 4 + 3, none⟩ = some (.slice ua xl uc) ∧ w'.cell? ⟨b', off' + k * 4, none⟩ = some (.int .i64 y.ses) ∧ w'.cell? ⟨b', off' + k * 4 + 1, none⟩ = some (.int .i64 y.num) ∧ w'.cell? ⟨b', off' + k * 4 + 2, none⟩ = some (.int .i64 y.code) ∧ w'.cell? ⟨b', off' + k * 4 + 3, none⟩ = some (.slice va yl vc)) (first | ((try dsimp only); (try go_split_ands); (repeat' apply And.intro); all_goals (first | assumption | (refine cell_kept hb1 ?_; assumption) | (go_keep; done))))
          (first | (go_at_call 68; refine (eqSd_any x y _ _ _ (unhide HI) (unhide HJ)).mono ?_; rintro e w' ⟨rfl, hb1⟩))
        have hbw : Below w.heap.size w w' := hb.trans (Below.trans (Below.refl _ _).drew (hb1.mono hb.size))
        cases hxy : eqSd x y
        · go_wp2
          go_ret
          refine ⟨?_, hbw⟩
          refine ret_bool ?_
          have : eqSds xs ys = false := by
            have h1 := unhide HX; have h2 := unhide HY
            simp only [eqSd, decide_eq_false_iff_not] at hxy
            simp only [eqSds, decide_eq_false_iff_not]
            intro e; apply hxy; rw [← h1, ← h2, map_tupS_inj e]
          rw [this]
        · go_wp2
          go_roundw
          case rel =>
            have h1 := unhide HX; have h2 := unhide HY
            simp only [eqSd, decide_eq_true_eq] at hxy
            exact ⟨k + 1, hlt, by go_num, hbw, take_eq_step (unhide HT) (by rw [unhide HN]; exact hlt) (by rw [unhide HM]; exact hlt) (by rw [h1, h2, Sd.tup_inj hxy])⟩
          case measure => simp [intOf]; omega
      · go_wp2
        go_ret
        refine ⟨ret_bool ?_, hb⟩
        obtain rfl : k = N := by omega
        have h1 := unhide HT; have h2 := unhide HN; have h3 := unhide HM
        rw [List.take_of_length_le (by omega), List.take_of_length_le (by omega)] at h1
        simp [eqSds, h1]
  · have hne : ((N : Int) != (M : Int)) = true := by simp; omega
    go_enter Try.func51, Try.ntmps51
    go_wp2
    go_ret
    refine ⟨?_, Below.refl _ _⟩
    have : eqSds xs ys = false := by
      have h1 := unhide HN; have h2 := unhide HM
      simp only [eqSds, decide_eq_false_iff_not]; intro e; have := map_tupS_inj e; subst this; omega
    rw [this]; rfl

end Go.Proofs.Ytpcbpliigplgoaa
