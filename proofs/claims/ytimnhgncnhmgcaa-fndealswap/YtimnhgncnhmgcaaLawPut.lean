/- The law FnExactPairsPut answers true at every two lists of pairs. -/
import Derived.Test.YtimnhgncnhmgcaaPut2
namespace Go.Proofs.Ytimnhgncnhmgcaa
open Go.RowKit

theorem putP_length (a b : List Pr) : (putP a b).length ≤ 32 := by
  unfold putP; split
  · exact putTo_length a b 32
  · simp

theorem PrsAt.slice {w : World} {v : Value} {ps : List Pr} (h : PrsAt w v ps) : ∃ a cap, v = .slice a ps.length cap ∧ ps.length ≤ maxLen := by
  obtain ⟨a, cap, hv, h1, h2, _⟩ := h
  exact ⟨a, cap, hv, Nat.le_trans h1 h2⟩

/-- A row of pairs that may be written: marks are laid into it. -/
def OwnPr (w : World) (v : Value) (n lo : Nat) : Prop := (v = .slice none 0 0 ∧ n = 0) ∨ ∃ g cap, v = .slice (some ⟨g, 0, none⟩) n cap ∧ lo ≤ g ∧ g < w.heap.size ∧ Room w g (n * 2)

/-- Marks lie in it. -/
def MarkedPr (w : World) (v : Value) (n : Nat) (k : Int) : Prop := ∃ a cap, v = .slice a n cap ∧ (n = 0 ∨ ∃ g, a = some ⟨g, 0, none⟩ ∧ PrCells w g 0 n (marks k n))

theorem MarkedPr.kept {w w' : World} {v : Value} {n : Nat} {k : Int} (h : MarkedPr w v n k) (hb : Below w.heap.size w w') : MarkedPr w' v n k := by
  obtain ⟨a, cap, hv, h1⟩ := h
  refine ⟨a, cap, hv, ?_⟩
  rcases h1 with h1 | ⟨g, ha, hc⟩
  · exact .inl h1
  · exact .inr ⟨g, ha, hc.kept hb⟩

theorem MarkedPr.far {w w' : World} {v : Value} {n : Nat} {k : Int} {row : Option Nat} (h : MarkedPr w v n k) (hg : w.grownBy w' row) (hne : v.ownBlock = none ∨ v.ownBlock ≠ row) : MarkedPr w' v n k := by
  obtain ⟨a, cap, rfl, h1⟩ := h
  refine ⟨a, cap, rfl, ?_⟩
  rcases h1 with h1 | ⟨g, rfl, hc⟩
  · exact .inl h1
  · refine .inr ⟨g, rfl, fun i hi => ?_⟩
    have hne' : some g ≠ row := by
      rcases hne with hne | hne
      · simp [Value.ownBlock] at hne
      · exact hne
    exact ⟨cell_far hg hne' (hc i hi).1, cell_far hg hne' (hc i hi).2⟩

theorem OwnPr.kept {w w' : World} {v : Value} {n lo : Nat} (h : OwnPr w v n lo) (hb : Below w.heap.size w w') : OwnPr w' v n lo := by
  rcases h with h | ⟨g, cap, hv, hl, hg, hr⟩
  · exact .inl h
  · exact .inr ⟨g, cap, hv, hl, Nat.lt_of_lt_of_le hg hb.size, hr.kept hb⟩

theorem OwnPr.far {w w' : World} {v : Value} {n lo : Nat} {row : Option Nat} (h : OwnPr w v n lo) (hg : w.grownBy w' row) (hne : v.ownBlock = none ∨ v.ownBlock ≠ row) : OwnPr w' v n lo := by
  rcases h with h | ⟨g, cap, rfl, hl, hlt, hr⟩
  · exact .inl h
  · refine .inr ⟨g, cap, rfl, hl, Nat.lt_of_lt_of_le hlt hg.size, hr.far hg ?_⟩
    rcases hne with hne | hne
    · simp [Value.ownBlock] at hne
    · exact hne

theorem OwnPr.block {w : World} {v : Value} {n lo : Nat} (h : OwnPr w v n lo) : v.ownBlock = none ∨ ∃ g, v.ownBlock = some g ∧ lo ≤ g ∧ g < w.heap.size := by
  rcases h with ⟨rfl, _⟩ | ⟨g, cap, rfl, hl, hlt, _⟩
  · exact .inl rfl
  · exact .inr ⟨g, rfl, hl, hlt⟩

set_option maxHeartbeats 1000000 in
theorem markPrs_any (v : Value) (n lo : Nat) (k : Int) (w : World) (hn : n ≤ 1048576) (hk : 0 ≤ k) (hk' : k ≤ 100000000) (h : OwnPr w v n lo) :
    Calls Try.prog 34 #[v, .int .i64 k] w fun e w' => e = .returned (.int .i64 (k + 2 * (n : Int))) ∧ w.grownBy w' v.ownBlock ∧ MarkedPr w' v n k ∧ OwnPr w' v n lo := by
  rcases h with ⟨rfl, rfl⟩ | ⟨g, cap, rfl, hl, hlt, hr⟩
  · refine (markPrs_nil k w).mono ?_
    rintro e w' ⟨rfl, rfl⟩
    exact ⟨ret_int (by simp), grownBy_refl _ _, ⟨none, 0, rfl, .inl rfl⟩, .inl ⟨rfl, rfl⟩⟩
  · refine (markPrs_own g n cap k w hn hk hk' hr).mono ?_
    rintro e w' ⟨rfl, hg, hc, hr'⟩
    exact ⟨rfl, hg, ⟨_, _, rfl, .inr ⟨g, rfl, hc⟩⟩, .inr ⟨g, cap, rfl, hl, Nat.lt_of_lt_of_le hlt hg.size, hr'⟩⟩

theorem heldPrs_marked (v : Value) (n : Nat) (k : Int) (w : World) (hn : n ≤ 1048576) (hk : 0 ≤ k) (hk' : k ≤ 100000000) (h : MarkedPr w v n k) :
    Calls Try.prog 37 #[v, .int .i64 k] w fun e w' => e = .returned (.int .i64 (k + 2 * (n : Int))) ∧ w' = w := by
  obtain ⟨a, cap, rfl, h1⟩ := h
  exact heldPrs_any a n cap k w hn hk hk' h1

/-- What a copy owns. -/
theorem copy_own {w w' : World} {ps : List Pr} (hr : Room w' w.heap.size (ps.length * 2)) (hs : w.heap.size < w'.heap.size) : OwnPr w' (.slice (some ⟨w.heap.size, 0, none⟩) ps.length ps.length) ps.length w.heap.size :=
  .inr ⟨w.heap.size, _, rfl, Nat.le_refl _, hs, hr⟩


set_option maxRecDepth 100000 in
set_option maxHeartbeats 4000000 in
theorem lawPut_any (v u : Value) (xs ys : List Pr) (w : World) (hv : PrsAt w v xs) (hu : PrsAt w u ys) :
    Calls Try.prog 13 #[v, u] w fun e w' => e = .returned (.bool true) ∧ Below w.heap.size w w' := by
  obtain ⟨a, cap, rfl, hl⟩ := hv.slice
  obtain ⟨a', cap', rfl, hl'⟩ := hu.slice
  have HV := hide hv
  have HU := hide hu
  clear hv hu
  by_cases hn : (xs.length : Int) ≤ 1048576
  case neg =>
    have hsz := fun wx => szPrs_any a xs.length cap 1048576 wx (by omega) (by omega) hl
    simp only [hn, if_false] at hsz
    have HSZ := hide hsz
    clear hsz
    go_enter Try.func13, Try.ntmps13
    go_wp2_with fail
    refine (unhide HSZ _).mono ?_; rintro e w' ⟨rfl, rfl⟩
    go_wp2_with fail
    go_ret
    exact ⟨rfl, Below.refl _ _⟩
  have hsz := fun wx => szPrs_any a xs.length cap 1048576 wx (by omega) (by omega) hl
  simp only [hn, if_true] at hsz
  have HSZ := hide hsz
  clear hsz
  by_cases hm : (ys.length : Int) ≤ 1048576 - (xs.length : Int)
  case neg =>
    have hsz' := fun wx => szPrs_any a' ys.length cap' (1048576 - (xs.length : Int)) wx (by omega) (by omega) hl'
    simp only [hm, if_false] at hsz'
    have HSZ' := hide hsz'
    clear hsz'
    go_enter Try.func13, Try.ntmps13
    go_wp2_with fail
    refine (unhide HSZ _).mono ?_; rintro e w' ⟨rfl, rfl⟩
    go_wp2_with fail
    refine (unhide HSZ' _).mono ?_; rintro e w' ⟨rfl, rfl⟩
    go_wp2_with fail
    go_ret
    exact ⟨rfl, Below.refl _ _⟩
  have hsz' := fun wx => szPrs_any a' ys.length cap' (1048576 - (xs.length : Int)) wx (by omega) (by omega) hl'
  simp only [hm, if_true] at hsz'
  have HSZ' := hide hsz'
  clear hsz'
  have hpl := putP_length xs ys
  have hxn : xs.length ≤ 1048576 := by omega
  have hyn : ys.length ≤ 1048576 := by omega
  go_enter Try.func13, Try.ntmps13
  go_wp2_with fail
  refine (unhide HSZ _).mono ?_; rintro e w' ⟨rfl, rfl⟩
  go_wp2_with fail
  refine (unhide HSZ' _).mono ?_; rintro e w0 ⟨rfl, rfl⟩
  clear HSZ HSZ' hl hl'
  go_wp2_with fail
  refine (toPrs_any _ xs _ (unhide HV) hxn).mono ?_; rintro e w1 ⟨rfl, hr1, -, -, h1⟩
  have b1 := h1
  go_wp2_with fail
  refine (toPrs_any _ ys _ ((unhide HU).kept b1) hyn).mono ?_; rintro e w2 ⟨rfl, hr2, -, -, h2⟩
  have b2 := b1.trans (h2.mono b1.size)
  go_wp2_with fail
  refine (specPut_any _ _ xs ys _ (hr1.kept h2) hr2).mono ?_; rintro e w3 ⟨s, rfl, ho3, h3⟩
  have b3 := b2.trans (h3.mono b2.size)
  obtain ⟨hs3, hso3⟩ := owned_prs ho3
  clear ho3 hr1 hr2
  have hsb : OwnPr w3 s (putP xs ys).length w2.heap.size := by
    rcases hso3 with ⟨e1, e2⟩ | h
    · exact .inl ⟨e1, by rw [e2]; rfl⟩
    · exact .inr h
  clear hso3
  have hsB := hsb.block
  clear hsb
  go_wp2_with fail
  refine (toPrs_any _ xs _ ((unhide HV).kept b3) hxn).mono ?_; rintro e w4 ⟨rfl, hx4, hq4, hs4, h4⟩
  have b4 := b3.trans (h4.mono b3.size)
  go_wp2_with fail
  refine (toPrs_any _ ys _ ((unhide HU).kept b4) hyn).mono ?_; rintro e w5 ⟨rfl, hx5, hq5, hs5, h5⟩
  have b5 := b4.trans (h5.mono b4.size)
  go_wp2_with fail
  refine (implPut_any _ _ xs ys _ (hx4.kept h5) hx5).mono ?_; rintro e w6 ⟨g, rfl, ho6, h6⟩
  have b6 := b5.trans (h6.mono b5.size)
  obtain ⟨hg6, hgo6⟩ := owned_prs ho6
  clear ho6
  have hgb : OwnPr w6 g (putP xs ys).length w5.heap.size := by
    rcases hgo6 with ⟨e1, e2⟩ | h
    · exact .inl ⟨e1, by rw [e2]; rfl⟩
    · exact .inr h
  clear hgo6
  have hs6 := (((hs3.kept h4).kept h5).kept h6)
  go_wp2_with fail
  refine (eqPrs_any _ _ (putP xs ys) (putP xs ys) _ hg6 hs6).mono ?_; rintro e w7 ⟨rfl, h7⟩
  have b7 := b6.trans (h7.mono b6.size)
  have hee := eqPrs_self (putP xs ys)
  have hex := eqPrs_self xs
  have hey := eqPrs_self ys
  go_wp2_with fail
  refine (toPrs_any _ xs _ ((unhide HV).kept b7) hxn).mono ?_; rintro e w8 ⟨rfl, hx8, -, -, h8⟩
  have b8 := b7.trans (h8.mono b7.size)
  go_wp2_with fail
  refine (eqPrs_any _ _ xs xs _ ((((hx4.kept h5).kept h6).kept h7).kept h8) hx8).mono ?_; rintro e w9 ⟨rfl, h9⟩
  have b9 := b8.trans (h9.mono b8.size)
  go_wp2_with fail
  refine (toPrs_any _ ys _ ((unhide HU).kept b9) hyn).mono ?_; rintro e w10 ⟨rfl, hx10, -, -, h10⟩
  have b10 := b9.trans (h10.mono b9.size)
  go_wp2_with fail
  refine (eqPrs_any _ _ ys ys _ (((((hx5.kept h6).kept h7).kept h8).kept h9).kept h10) hx10).mono ?_; rintro e w11 ⟨rfl, h11⟩
  have b11 := b10.trans (h11.mono b10.size)
  have o4 : OwnPr w11 (.slice (some ⟨w3.heap.size, 0, none⟩) xs.length xs.length) xs.length w3.heap.size := (((((((copy_own hq4 hs4).kept h5).kept h6).kept h7).kept h8).kept h9).kept h10).kept h11
  have o5 : OwnPr w11 (.slice (some ⟨w4.heap.size, 0, none⟩) ys.length ys.length) ys.length w4.heap.size := ((((((copy_own hq5 hs5).kept h6).kept h7).kept h8).kept h9).kept h10).kept h11
  have hg11 := ((((hg6.kept h7).kept h8).kept h9).kept h10).kept h11
  have hs11 := ((((hs6.kept h7).kept h8).kept h9).kept h10).kept h11
  have og11 := ((((hgb.kept h7).kept h8).kept h9).kept h10).kept h11
  clear hx4 hq4 hx5 hq5 hg6 hs6 hgb hx8 hx10 hs3
  go_wp2_with fail
  refine (markPrs_any _ _ _ 1 _ hxn (by omega) (by omega) o4).mono ?_; rintro e w12 ⟨rfl, hg12, -, -⟩
  have z2 := h3.size
  have z4 := h4.size
  have z5 := h5.size
  have z6 := h6.size
  have b12 : Below w0.heap.size w0 w12 := Below.grown b11 hg12 b11.size (fun k hk => by have := b3.size; simp [Value.ownBlock] at hk; omega)
  have gfar : g.ownBlock = none ∨ (g.ownBlock ≠ some w3.heap.size ∧ g.ownBlock ≠ some w4.heap.size) := by
    rcases og11.block with h | ⟨q, h, hq, _⟩
    · exact .inl h
    · right; rw [h]; constructor <;> (intro e; simp at e; omega)
  have sfar : s.ownBlock = none ∨ (s.ownBlock ≠ some w3.heap.size ∧ s.ownBlock ≠ some w4.heap.size) := by
    rcases hsB with h | ⟨q, h, hq, hq'⟩
    · exact .inl h
    · right; rw [h]; constructor <;> (intro e; simp at e; omega)
  have sgfar : s.ownBlock = none ∨ s.ownBlock ≠ g.ownBlock := by
    rcases hsB with h | ⟨q, h, hq, hq'⟩
    · exact .inl h
    · right; rw [h]
      rcases og11.block with h' | ⟨q', h', hq2, _⟩
      · rw [h']; simp
      · rw [h']; intro e; simp at e; omega
  have hg12' := hg11.far hg12 (gfar.imp id And.left)
  have hs12' := hs11.far hg12 (sfar.imp id And.left)
  have og12 := og11.far hg12 (gfar.imp id And.left)
  have o5' := o5.far hg12 (.inr (by intro e; simp [Value.ownBlock] at e; omega))
  clear o4 o5 hg11 hs11 og11
  go_wp2_with fail
  refine (markPrs_any _ _ _ (1 + 2 * (xs.length : Int)) _ hyn (by omega) (by omega) o5').mono ?_; rintro e w13 ⟨rfl, hg13, -, -⟩
  have b13 : Below w0.heap.size w0 w13 := Below.grown b12 hg13 b12.size (fun k hk => by have := b4.size; simp [Value.ownBlock] at hk; omega)
  have hg13' := hg12'.far hg13 (gfar.imp id And.right)
  have hs13' := hs12'.far hg13 (sfar.imp id And.right)
  have og13 := og12.far hg13 (gfar.imp id And.right)
  clear o5' hg12' hs12' og12
  have hkp : ¬ (1 + 2 * (xs.length : Int) + 2 * (ys.length : Int) < 0) := by omega
  go_wp2_with fail
  refine (eqPrs_any _ _ (putP xs ys) (putP xs ys) _ hg13' hs13').mono ?_; rintro e w14 ⟨rfl, h14⟩
  have b14 := b13.trans (h14.mono b13.size)
  have og14 := og13.kept h14
  have hs14 := hs13'.kept h14
  clear og13 hg13' hs13'
  go_wp2_with fail
  refine (markPrs_any _ _ _ 1 _ (by omega) (by omega) (by omega) og14).mono ?_; rintro e w15 ⟨rfl, hg15, hm15, -⟩
  have b15 : Below w0.heap.size w0 w15 := Below.grown b14 hg15 b14.size (fun k hk => by
    rcases og14.block with h | ⟨q, h, hq, _⟩
    · rw [h] at hk; cases hk
    · rw [h] at hk; have := b5.size; simp at hk; omega)
  have hs15 := hs14.far hg15 sgfar
  clear og14 hs14
  have hqp : ¬ (1 + 2 * ((putP xs ys).length : Int) < 0) := by omega
  go_wp2_with fail
  refine (heldPrs_marked _ _ 1 _ (by omega) (by omega) (by omega) hm15).mono ?_; rintro e w15' ⟨rfl, rfl⟩
  go_wp2_with fail
  refine (toPrs_any _ xs _ ((unhide HV).kept b15) hxn).mono ?_; rintro e w16 ⟨rfl, hx16, -, -, h16⟩
  have b16 := b15.trans (h16.mono b15.size)
  go_wp2_with fail
  refine (toPrs_any _ ys _ ((unhide HU).kept b16) hyn).mono ?_; rintro e w17 ⟨rfl, hx17, -, -, h17⟩
  have b17 := b16.trans (h17.mono b16.size)
  go_wp2_with fail
  refine (implPut_any _ _ xs ys _ (hx16.kept h17) hx17).mono ?_; rintro e w18 ⟨h, rfl, ho18, h18⟩
  have b18 := b17.trans (h18.mono b17.size)
  obtain ⟨hh18, -⟩ := owned_prs ho18
  go_wp2_with fail
  refine (eqPrs_any _ _ (putP xs ys) (putP xs ys) _ hh18 (((hs15.kept h16).kept h17).kept h18)).mono ?_; rintro e w19 ⟨rfl, h19⟩
  have b19 := b18.trans (h19.mono b18.size)
  go_wp2_with fail
  refine (heldPrs_marked _ _ 1 _ (by omega) (by omega) (by omega) ((((hm15.kept h16).kept h17).kept h18).kept h19)).mono ?_; rintro e w20 ⟨rfl, rfl⟩
  go_wp2_with fail
  go_ret
  exact ⟨rfl, b19⟩

end Go.Proofs.Ytimnhgncnhmgcaa
