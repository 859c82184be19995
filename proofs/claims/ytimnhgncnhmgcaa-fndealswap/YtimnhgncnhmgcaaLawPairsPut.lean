/- The law FnPairsPut answers true at every code. -/
import Derived.Test.YtimnhgncnhmgcaaPutM
namespace Go.Proofs.Ytimnhgncnhmgcaa
open Go.RowKit

theorem ownBlock_prs {w : World} {v : Value} {ps : List Pr} {base : Nat} (h : (v = .slice none 0 0 ∧ ps = []) ∨ ∃ g cap, v = .slice (some ⟨g, 0, none⟩) ps.length cap ∧ base ≤ g ∧ g < w.heap.size ∧ Room w g (ps.length * 2)) :
    v.ownBlock = none ∨ ∃ g, v.ownBlock = some g ∧ base ≤ g ∧ g < w.heap.size := by
  rcases h with ⟨rfl, _⟩ | ⟨g, cap, rfl, hl, hlt, _⟩
  · exact .inl rfl
  · exact .inr ⟨g, rfl, hl, hlt⟩

set_option maxRecDepth 100000 in
set_option maxHeartbeats 1000000 in
theorem drawPut_any (v : Value) (n : Nat) (w : World) (hv : BytesAt w v n) :
    Calls Try.prog 22 #[v] w fun e w' => ∃ r s xs ys, e = .returned (.tuple #[r, s]) ∧ PrsAt w' r xs ∧ PrsAt w' s ys ∧ xs.length ≤ 20 ∧ ys.length ≤ 20 ∧ Below w.heap.size w w' := by
  go_enter Try.func22, Try.ntmps22
  go_wp2_with fail
  refine (open_any v n w hv).mono ?_; rintro e w1 ⟨rfl, hr1, h1, hs1⟩
  go_wp2_with fail
  refine (drawPairs_any w.heap.size 0 w1 hr1 (by omega)).mono ?_; rintro e w2 ⟨r, xs, p2, rfl, ho2, hl2, hr2, hp2, h2⟩
  obtain ⟨hx2, hox⟩ := owned_prs ho2
  have hbx := ownBlock_prs hox
  clear ho2 hox
  go_wp2_with fail
  refine (drawPairs_any w.heap.size p2 w2 hr2 (by omega)).mono ?_; rintro e w3 ⟨s, ys, p3, rfl, ho3, hl3, hr3, hp3, h3⟩
  obtain ⟨hy3, -⟩ := owned_prs ho3
  go_wp2_with fail
  go_ret2
  refine ⟨r, s, xs, ys, rfl, hx2.far h3 ?_, hy3, hl2, hl3, ?_⟩
  · rcases hbx with h | ⟨g, hg, hlo, _⟩
    · exact .inl h
    · right; rw [hg]; intro e; simp at e; omega
  · have b1 := h1.grown h2 (by omega) (fun k hk => by simp at hk; omega)
    exact b1.grown h3 (by have := h2.size; omega) (fun k hk => by simp at hk; omega)

set_option maxRecDepth 100000 in
set_option maxHeartbeats 4000000 in
theorem lawPairsPut_any (v : Value) (n : Nat) (w : World) (hv : BytesAt w v n) :
    Calls Try.prog 10 #[v] w fun e w' => e = .returned (.bool true) ∧ Below w.heap.size w w' := by
  have HV := hide hv
  obtain ⟨a, cap, rfl, h1, h2, h3⟩ := hv
  unfold maxLen at h2
  clear h3
  by_cases hn : 1048576 < (n : Int)
  · go_enter Try.func10, Try.ntmps10
    go_wp2_with fail
    go_ret
    exact ⟨rfl, Below.refl _ _⟩
  go_enter Try.func10, Try.ntmps10
  go_wp2_with fail
  refine (drawPut_any _ n w (unhide HV)).mono ?_; rintro e w1 ⟨r, s, xs, ys, rfl, hx, hy, hxl, hyl, b1⟩
  clear HV h1 h2
  go_wp2_with fail
  refine (specPut_any _ _ xs ys _ hx hy).mono ?_; rintro e w2 ⟨t, rfl, ho2, h2⟩
  have b2 := b1.trans (h2.mono b1.size)
  have ht2 := (owned_prs ho2).1
  clear ho2
  go_wp2_with fail
  refine (implPut_any _ _ xs ys _ (hx.kept h2) (hy.kept h2)).mono ?_; rintro e w3 ⟨g, rfl, ho3, h3⟩
  have b3 := b2.trans (h3.mono b2.size)
  have hg3 := (owned_prs ho3).1
  have ht3 := ht2.kept h3
  have hx3 := (hx.kept h2).kept h3
  have hy3 := (hy.kept h2).kept h3
  clear ho3 ht2 hx hy
  have hee := eqPrs_self (putP xs ys)
  have hpl := putP_length xs ys
  obtain ⟨at', ct, rfl, -⟩ := ht3.slice
  go_wp2_with fail
  refine (loPrs_any _ _ (putP xs ys) (putP xs ys) _ hg3 ht3).mono ?_; rintro e w4 ⟨rfl, h4⟩
  have b4 := b3.trans (h4.mono b3.size)
  have hg4 := hg3.kept h4
  have ht4 := ht3.kept h4
  have hx4 := hx3.kept h4
  have hy4 := hy3.kept h4
  clear hg3 ht3 hx3 hy3
  by_cases hz : putP xs ys = []
  · have hz0 : (((putP xs ys).length : Int) == 0) = true := by rw [hz]; rfl
    have HZ := hide hz
    clear hz
    go_wp2_with fail
    refine (loPrs_any _ _ (putP xs ys) (putP xs ys) _ hg4 ht4).mono ?_; rintro e w5 ⟨rfl, h5⟩
    go_wp2_with fail
    go_ret
    exact ⟨rfl, b4.trans (h5.mono b4.size)⟩
  obtain ⟨hag, hget⟩ := putP_again hz
  have hz0 : (((putP xs ys).length : Int) == 0) = false := by
    have : (putP xs ys).length ≠ 0 := fun e => hz (List.eq_nil_of_length_eq_zero e)
    simp; omega
  have HAG := hide hag
  have HGET := hide hget
  have HX := hide hx4
  have HY := hide hy4
  have HG := hide hg4
  clear hag hget hz hx4 hg4 ht4
  obtain ⟨au, cu, rfl, hu1, hu2, hu3⟩ := hy4
  have HU3 := hide hu3
  clear hu3
  generalize hM : ys.length = M at *
  have HM := hide hM
  clear hM
  unfold maxLen at hu2
  go_wp2_with fail
  go_loop [7] (fun i => ∃ k : Nat, k ≤ 32 ∧ i = .int .i64 k) (fun i => 32 - (intOf i).toNat)
  case atStart => exact ⟨0, by omega, rfl⟩
  case round =>
    obtain ⟨k, hk, rfl⟩ := hrel
    by_cases hlt : k < 32
    · go_wp2_with fail
      refine (loGet_any _ xs k _ (unhide HX)).mono ?_; rintro e w' ⟨rfl, rfl⟩
      go_wp2_with fail
      go_loop [8, 9] (fun n i => ∃ j : Nat, j ≤ M ∧ i = .int .i64 j ∧ n = .int .i64 (lastP (getP xs k) (ys.take j) k)) (fun _ i => M - (intOf i).toNat)
      case atStart => exact ⟨0, Nat.zero_le _, rfl, rfl⟩
      case round =>
        obtain ⟨j, hj, rfl, rfl⟩ := hrel
        by_cases hjlt : j < M
        · obtain ⟨b, off, rfl, hc⟩ : ∃ b off, au = some ⟨b, off, none⟩ ∧ PrCells w' b off M ys := by
            rcases unhide HU3 with h3 | h3
            · have := unhide HM; subst h3; simp at this; omega
            · exact h3
          obtain ⟨c0, c1⟩ := hc j hjlt
          generalize hx : ys.getD j Pr.z = x at c0 c1
          have hst := lastP_step (n := getP xs k) (k := (k : Int)) (ps := ys) (j := j) (by rw [unhide HM]; exact hjlt)
          rw [hx] at hst
          have HST := hide hst
          clear hst hx hc
          by_cases hxk : x.key = k
          · have hbk : (x.key == (k : Int)) = true := by simpa using hxk
            have HXK := hide hxk
            clear hxk
            go_wp2
            go_round
            case rel => exact ⟨j + 1, hjlt, by go_num, by rw [unhide HST, if_pos (unhide HXK)]⟩
            case measure => simp [intOf]; omega
          · have hbk : (x.key == (k : Int)) = false := by simpa using hxk
            have HXK := hide hxk
            clear hxk
            go_wp2
            go_round
            case rel => exact ⟨j + 1, hjlt, by go_num, by rw [unhide HST, if_neg (unhide HXK)]⟩
            case measure => simp [intOf]; omega
        · obtain rfl : j = M := by omega
          have hpv : lastP (getP xs k) (ys.take j) k = putVal xs ys k := by
            rw [List.take_of_length_le (by rw [unhide HM]; omega)]; rfl
          rw [hpv]
          clear hpv
          go_wp2_with fail
          refine (loGet_any _ (putP xs ys) k _ (unhide HG)).mono ?_; rintro e w5 ⟨rfl, rfl⟩
          rw [unhide HGET k hlt]
          have hnn : (putVal xs ys k != putVal xs ys k) = false := by simp
          generalize putVal xs ys k = nv at *
          go_wp2
          go_round
          case rel => exact ⟨k + 1, hlt, by go_num⟩
          case measure => simp [intOf]; omega
    · go_wp2_with fail
      refine (implPut_any _ _ (putP xs ys) ys _ (unhide HG) (unhide HY)).mono ?_; rintro e w5 ⟨q, rfl, ho5, h5⟩
      rw [unhide HAG] at ho5
      have hq5 := (owned_prs ho5).1
      go_wp2_with fail
      refine (loPrs_any _ _ (putP xs ys) (putP xs ys) _ hq5 ((unhide HG).kept h5)).mono ?_; rintro e w6 ⟨rfl, h6⟩
      go_wp2_with fail
      go_ret
      have b5 := b4.trans (h5.mono b4.size)
      exact ⟨rfl, b5.trans (h6.mono b5.size)⟩

end Go.Proofs.Ytimnhgncnhmgcaa
