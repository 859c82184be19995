/- The law FnExactDealRun answers true at every list of statements and every list of pairs. -/
import Derived.Test.YtimnhgncnhmgcaaDealRun
import Derived.Test.YtimnhgncnhmgcaaInts
import Derived.Test.YtimnhgncnhmgcaaLawDealOk
namespace Go.Proofs.Ytimnhgncnhmgcaa
open Go.RowKit

set_option maxHeartbeats 1000000 in
theorem markSts_own (g n cap : Nat) (k : Int) (w : World) (hn : n ≤ 1048576) (hk : 0 ≤ k) (hk' : k ≤ 100000000) (hr : Room w g (n * 3)) :
    Calls Try.prog 33 #[.slice (some ⟨g, 0, none⟩) n cap, .int .i64 k] w fun e w' => e = .returned (.int .i64 (k + 3 * (n : Int))) ∧ w.grownBy w' (some g) := by
  go_enter Try.func33, Try.ntmps33
  go_wp2
  go_loopw [1, 5] (fun q i wr => ∃ j : Nat, j ≤ n ∧ i = .int .i64 j ∧ q = .int .i64 (k + 3 * (j : Int)) ∧ w.grownBy wr (some g) ∧ Room wr g (n * 3)) (fun _ i _ => n - (intOf i).toNat)
  case atStart => exact ⟨0, Nat.zero_le _, rfl, by simp, grownBy_refl _ _, hr⟩
  case round =>
    obtain ⟨j, hj, rfl, rfl, hg, hroom⟩ := hrel
    by_cases hlt : j < n
    · obtain ⟨⟨u0, r0⟩, f0⟩ := hroom (j * 3) (by omega)
      obtain ⟨⟨u1, r1⟩, f1⟩ := hroom (j * 3 + 1) (by omega)
      obtain ⟨⟨u2, r2⟩, f2⟩ := hroom (j * 3 + 2) (by omega)
      have r1' : ∀ u, (wr.setCell ⟨g, j * 3, none⟩ u).cell? ⟨g, j * 3 + 1, none⟩ = some u1 := fun u => by rw [cell_set_far (by omega)]; exact r1
      have r2' : ∀ u u', ((wr.setCell ⟨g, j * 3, none⟩ u).setCell ⟨g, j * 3 + 1, none⟩ u').cell? ⟨g, j * 3 + 2, none⟩ = some u2 := fun u u' => by rw [cell_set_far (by omega), cell_set_far (by omega)]; exact r2
      go_wp2
      go_roundw
      case rel => exact ⟨j + 1, hlt, by go_num, by go_num, grownBy_set (grownBy_set (grownBy_set hg _ _) _ _) _ _, ((hroom.set _ _).set _ _).set _ _⟩
      case measure => simp [intOf]; omega
    · go_wp2
      go_ret
      obtain rfl : j = n := by omega
      exact ⟨rfl, hg⟩

/-- What a deal got, and what it changed, is little. -/
theorem runM_got {ss : List St} {s : Sta} : (gotM (runM ss s)).length ≤ s.g.length + ss.length := by
  induction ss generalizing s with
  | nil => simp [runM, gotM]
  | cons x r ih =>
    simp only [runM]
    cases hst : stepM x s with
    | error k => simp [gotM]
    | ok s' =>
      have h1 := @ih s'
      have h2 : s'.g.length ≤ s.g.length + 1 := by
        unfold stepM at hst
        repeat' split at hst
        all_goals (cases hst; try simp)
      simp only [List.length_cons]; omega

theorem dealM_got (ss : List St) (ps : List Pr) : (gotM (dealM ss ps)).length ≤ 6 := by
  unfold dealM; split
  · rename_i h
    simp only [Bool.and_eq_true] at h
    have h1 := @runM_got ss (startM ps)
    have h2 := dealOk_len h.1
    have h3 : (startM ps).g.length = 0 := rfl
    omega
  · simp [gotM]

theorem dealM_ch (ss : List St) (ps : List Pr) : (chM (dealM ss ps)).length ≤ 32 := by
  cases dealM ss ps with
  | error k => simp [chM]
  | ok s => exact chTo_length _ _ 32


set_option maxRecDepth 100000 in
set_option maxHeartbeats 8000000 in
theorem lawRun_any (v u : Value) (ss : List St) (ps : List Pr) (w : World) (hv : StsAt w v ss) (hu : PrsAt w u ps) :
    Calls Try.prog 12 #[v, u] w fun e w' => e = .returned (.bool true) ∧ Below w.heap.size w w' := by
  obtain ⟨a, cap, rfl, hl⟩ := hv.slice
  obtain ⟨a', cap', rfl, hl'⟩ := hu.slice
  have HV := hide hv
  have HU := hide hu
  clear hv hu
  by_cases hn : ss.length ≤ 1048576
  case neg =>
    have hsz := fun wx => szSts_any a ss.length cap wx hl
    simp only [hn, if_false] at hsz
    have HSZ := hide hsz
    clear hsz
    go_enter Try.func12, Try.ntmps12
    go_wp2_with fail
    refine (unhide HSZ _).mono ?_; rintro e w' ⟨rfl, rfl⟩
    go_wp2_with fail
    go_ret
    exact ⟨rfl, Below.refl _ _⟩
  have hsz := fun wx => szSts_any a ss.length cap wx hl
  simp only [hn, if_true] at hsz
  have HSZ := hide hsz
  clear hsz
  have hn' : (ss.length : Int) ≤ 1048576 := by omega
  by_cases hm : (ps.length : Int) ≤ 1048576 - (ss.length : Int)
  case neg =>
    have hsz' := fun wx => szPrs_any a' ps.length cap' (1048576 - (ss.length : Int)) wx (by omega) (by omega) hl'
    simp only [hm, if_false] at hsz'
    have HSZ' := hide hsz'
    clear hsz'
    go_enter Try.func12, Try.ntmps12
    go_wp2_with fail
    refine (unhide HSZ _).mono ?_; rintro e w' ⟨rfl, rfl⟩
    go_wp2_with fail
    refine (unhide HSZ' _).mono ?_; rintro e w' ⟨rfl, rfl⟩
    go_wp2_with fail
    go_ret
    exact ⟨rfl, Below.refl _ _⟩
  have hsz' := fun wx => szPrs_any a' ps.length cap' (1048576 - (ss.length : Int)) wx (by omega) (by omega) hl'
  simp only [hm, if_true] at hsz'
  have HSZ' := hide hsz'
  clear hsz'
  have hgl := dealM_got ss ps
  have hcl := dealM_ch ss ps
  have hxn : ss.length ≤ 1048576 := by omega
  have hyn : ps.length ≤ 1048576 := by omega
  obtain ⟨R, hR⟩ : ∃ R, R = dealM ss ps := ⟨_, rfl⟩
  obtain ⟨K, hK⟩ : ∃ K, K = codeM R := ⟨_, rfl⟩
  have HSP : Hid (∀ v u w, StsAt w v ss → PrsAt w u ps → Calls Try.prog 16 #[v, u] w fun e w' => ∃ a b, e = .returned (.tuple #[.int .i64 K, a, b]) ∧ RunAt w' w.heap.size R a b ∧ Below w.heap.size w w') := fun v u w h1 h2 => by
    rw [hK, hR]; exact specRun_any v u ss ps w h1 h2
  have HIM : Hid (∀ v u w, StsAt w v ss → PrsAt w u ps → Calls Try.prog 17 #[v, u] w fun e w' => ∃ a b, e = .returned (.tuple #[.int .i64 K, a, b]) ∧ RunAt w' w.heap.size R a b ∧ Below w.heap.size w w') := fun v u w h1 h2 => by
    rw [hK, hR]; exact implRun_any v u ss ps w h1 h2
  rw [← hR] at hgl hcl
  clear hR hK
  go_enter Try.func12, Try.ntmps12
  go_wp2_with fail
  refine (unhide HSZ _).mono ?_; rintro e w' ⟨rfl, rfl⟩
  go_wp2_with fail
  refine (unhide HSZ' _).mono ?_; rintro e w0 ⟨rfl, rfl⟩
  clear HSZ HSZ' hl hl'
  go_wp2_with fail
  refine (toSts_any _ ss _ (unhide HV) hxn).mono ?_; rintro e w1 ⟨rfl, hr1, -, -, h1⟩
  have b1 := h1
  go_wp2_with fail
  refine (toPrs_any _ ps _ ((unhide HU).kept b1) hyn).mono ?_; rintro e w2 ⟨rfl, hr2, -, -, h2⟩
  have b2 := b1.trans (h2.mono b1.size)
  go_wp2_with fail
  refine (unhide HSP _ _ _ (hr1.kept h2) hr2).mono ?_; rintro e w3 ⟨sa, sb, rfl, hR3, h3⟩
  have b3 := b2.trans (h3.mono b2.size)
  obtain ⟨hoa, hob, -⟩ := hR3
  have hsa := (owned_ins hoa).1
  have hsb := (owned_prs hob).1
  have ka := blk_own hoa
  have kb := blk_own hob
  clear hoa hob hr1 hr2
  go_wp2_with fail
  refine (toSts_any _ ss _ ((unhide HV).kept b3) hxn).mono ?_; rintro e w4 ⟨rfl, hx4, hq4, hs4, h4⟩
  have b4 := b3.trans (h4.mono b3.size)
  go_wp2_with fail
  refine (toPrs_any _ ps _ ((unhide HU).kept b4) hyn).mono ?_; rintro e w5 ⟨rfl, hx5, hq5, hs5, h5⟩
  have b5 := b4.trans (h5.mono b4.size)
  go_wp2_with fail
  refine (unhide HIM _ _ _ (hx4.kept h5) hx5).mono ?_; rintro e w6 ⟨ga, gb, rfl, hR6, h6⟩
  have b6 := b5.trans (h6.mono b5.size)
  obtain ⟨hga, hgb, hgd⟩ := hR6
  have hia := (owned_ins hga).1
  have hib := (owned_prs hgb).1
  have oia : OwnIn w6 ga (gotM R).length w5.heap.size := by
    rcases (owned_ins hga).2 with ⟨e1, e2⟩ | h
    · exact .inl ⟨e1, by rw [e2]; rfl⟩
    · exact .inr h
  have oib : OwnPr w6 gb (chM R).length w5.heap.size := by
    rcases (owned_prs hgb).2 with ⟨e1, e2⟩ | h
    · exact .inl ⟨e1, by rw [e2]; rfl⟩
    · exact .inr h
  have kga := blk_own hga
  have kgb := blk_own hgb
  clear hga hgb
  have hsa6 := ((hsa.kept h4).kept h5).kept h6
  have hsb6 := ((hsb.kept h4).kept h5).kept h6
  clear hsa hsb
  have heI := eqIns_self (gotM R)
  have heP := eqPrs_self (chM R)
  have heS := eqSts_self ss
  have heQ := eqPrs_self ps
  go_wp2_with fail
  refine (eqInsE_any _ _ (gotM R) (gotM R) _ hia hsa6).mono ?_; rintro e w7 ⟨rfl, h7⟩
  have b7 := b6.trans (h7.mono b6.size)
  go_wp2_with fail
  refine (eqPrs_any _ _ (chM R) (chM R) _ (hib.kept h7) (hsb6.kept h7)).mono ?_; rintro e w8 ⟨rfl, h8⟩
  have b8 := b7.trans (h8.mono b7.size)
  go_wp2_with fail
  refine (toSts_any _ ss _ ((unhide HV).kept b8) hxn).mono ?_; rintro e w9 ⟨rfl, hx9, -, -, h9⟩
  have b9 := b8.trans (h9.mono b8.size)
  go_wp2_with fail
  refine (eqSts_any _ _ ss ss _ (((((hx4.kept h5).kept h6).kept h7).kept h8).kept h9) hx9).mono ?_; rintro e w10 ⟨rfl, h10⟩
  have b10 := b9.trans (h10.mono b9.size)
  go_wp2_with fail
  refine (toPrs_any _ ps _ ((unhide HU).kept b10) hyn).mono ?_; rintro e w11 ⟨rfl, hx11, -, -, h11⟩
  have b11 := b10.trans (h11.mono b10.size)
  go_wp2_with fail
  refine (eqPrs_any _ _ ps ps _ ((((((hx5.kept h6).kept h7).kept h8).kept h9).kept h10).kept h11) hx11).mono ?_; rintro e w12 ⟨rfl, h12⟩
  have b12 := b11.trans (h12.mono b11.size)
  have r4 := (((((((hq4.kept h5).kept h6).kept h7).kept h8).kept h9).kept h10).kept h11).kept h12
  have o5 := (((((((copy_own hq5 hs5).kept h6).kept h7).kept h8).kept h9).kept h10).kept h11).kept h12
  have hia12 := (((((hia.kept h7).kept h8).kept h9).kept h10).kept h11).kept h12
  have hib12 := (((((hib.kept h7).kept h8).kept h9).kept h10).kept h11).kept h12
  have hsa12 := (((((hsa6.kept h7).kept h8).kept h9).kept h10).kept h11).kept h12
  have hsb12 := (((((hsb6.kept h7).kept h8).kept h9).kept h10).kept h11).kept h12
  have oia12 := (((((oia.kept h7).kept h8).kept h9).kept h10).kept h11).kept h12
  have oib12 := (((((oib.kept h7).kept h8).kept h9).kept h10).kept h11).kept h12
  have z3 := h3.size
  have z4 := h4.size
  have z5 := h5.size
  have z6 := h6.size
  clear hx4 hq4 hx5 hq5 hia hib oia oib hsa6 hsb6 hx9 hx11
  go_wp2_with fail
  refine (markSts_own _ _ _ 1 _ hxn (by omega) (by omega) r4).mono ?_; rintro e w13 ⟨rfl, g13⟩
  have b13 : Below w0.heap.size w0 w13 := Below.grown b12 g13 b12.size (fun k hk => by have := b3.size; simp at hk; omega)
  have hia13 := hia12.far g13 (kga.far (by omega))
  have hib13 := hib12.far g13 (kgb.far (by omega))
  have hsa13 := hsa12.far g13 (ka.far (by omega))
  have hsb13 := hsb12.far g13 (kb.far (by omega))
  have oia13 := oia12.far g13 (kga.far (by omega))
  have oib13 := oib12.far g13 (kgb.far (by omega))
  have o5' := o5.far g13 (.inr (by intro e; simp [Value.ownBlock] at e; omega))
  clear r4 o5 hia12 hib12 hsa12 hsb12 oia12 oib12
  go_wp2_with fail
  refine (markPrs_any _ _ _ (1 + 3 * (ss.length : Int)) _ hyn (by omega) (by omega) o5').mono ?_; rintro e w14 ⟨rfl, g14', -, -⟩
  have g14 : w13.grownBy w14 (some w4.heap.size) := g14'
  clear g14'
  have b14 : Below w0.heap.size w0 w14 := Below.grown b13 g14 b13.size (fun k hk => by have := b4.size; simp at hk; omega)
  have hia14 := hia13.far g14 (kga.far (by omega))
  have hib14 := hib13.far g14 (kgb.far (by omega))
  have hsa14 := hsa13.far g14 (ka.far (by omega))
  have hsb14 := hsb13.far g14 (kb.far (by omega))
  have oia14 := oia13.far g14 (kga.far (by omega))
  have oib14 := oib13.far g14 (kgb.far (by omega))
  clear o5' hia13 hib13 hsa13 hsb13 oia13 oib13
  have hkp : ¬ (1 + 3 * (ss.length : Int) + 2 * (ps.length : Int) < 0) := by omega
  go_wp2_with fail
  refine (eqInsE_any _ _ (gotM R) (gotM R) _ hia14 hsa14).mono ?_; rintro e w15 ⟨rfl, h15⟩
  have b15 := b14.trans (h15.mono b14.size)
  go_wp2_with fail
  refine (eqPrs_any _ _ (chM R) (chM R) _ (hib14.kept h15) (hsb14.kept h15)).mono ?_; rintro e w16 ⟨rfl, h16⟩
  have b16 := b15.trans (h16.mono b15.size)
  have hsa16 := (hsa14.kept h15).kept h16
  have hsb16 := (hsb14.kept h15).kept h16
  have oia16 := (oia14.kept h15).kept h16
  have oib16 := (oib14.kept h15).kept h16
  clear hia14 hib14 hsa14 hsb14 oia14 oib14
  have zw5 := b5.size
  go_wp2_with fail
  refine (markIns_any _ _ _ 1 _ (by omega) (by omega) (by omega) oia16).mono ?_; rintro e w17 ⟨rfl, g17, m17⟩
  have b17 : Below w0.heap.size w0 w17 := Below.grown b16 g17 b16.size (fun k hk => by have := kga.low k hk; omega)
  have oib17 := oib16.far g17 (dist_symm hgd)
  have hsa17 := hsa16.far g17 (ka.apart kga (by omega))
  have hsb17 := hsb16.far g17 (kb.apart kga (by omega))
  clear oia16 oib16 hsa16 hsb16
  go_wp2_with fail
  refine (markPrs_any _ _ _ (1 + ((gotM R).length : Int)) _ (by omega) (by omega) (by omega) oib17).mono ?_; rintro e w18 ⟨rfl, g18, m18, -⟩
  have b18 : Below w0.heap.size w0 w18 := Below.grown b17 g18 b17.size (fun k hk => by have := kgb.low k hk; omega)
  have m17' := m17.far g18 hgd
  have hsa18 := hsa17.far g18 (ka.apart kgb (by omega))
  have hsb18 := hsb17.far g18 (kb.apart kgb (by omega))
  clear oib17 hsa17 hsb17 m17
  have hq1 : ¬ (1 + ((gotM R).length : Int) < 0) := by omega
  have hq2 : ¬ (1 + ((gotM R).length : Int) + 2 * ((chM R).length : Int) < 0) := by omega
  go_wp2_with fail
  refine (heldIns_marked _ _ 1 _ (by omega) (by omega) (by omega) m17').mono ?_; rintro e w18' ⟨rfl, rfl⟩
  go_wp2_with fail
  refine (heldPrs_marked _ _ (1 + ((gotM R).length : Int)) _ (by omega) (by omega) (by omega) m18).mono ?_; rintro e w18'' ⟨rfl, rfl⟩
  go_wp2_with fail
  refine (toSts_any _ ss _ ((unhide HV).kept b18) hxn).mono ?_; rintro e w19 ⟨rfl, hx19, -, -, h19⟩
  have b19 := b18.trans (h19.mono b18.size)
  go_wp2_with fail
  refine (toPrs_any _ ps _ ((unhide HU).kept b19) hyn).mono ?_; rintro e w20 ⟨rfl, hx20, -, -, h20⟩
  have b20 := b19.trans (h20.mono b19.size)
  go_wp2_with fail
  refine (unhide HIM _ _ _ (hx19.kept h20) hx20).mono ?_; rintro e w21 ⟨ha, hb, rfl, hR21, h21⟩
  have b21 := b20.trans (h21.mono b20.size)
  obtain ⟨hha, hhb, -⟩ := hR21
  have hja := (owned_ins hha).1
  have hjb := (owned_prs hhb).1
  clear hha hhb
  go_wp2_with fail
  refine (eqInsE_any _ _ (gotM R) (gotM R) _ hja (((hsa18.kept h19).kept h20).kept h21)).mono ?_; rintro e w22 ⟨rfl, h22⟩
  have b22 := b21.trans (h22.mono b21.size)
  go_wp2_with fail
  refine (eqPrs_any _ _ (chM R) (chM R) _ (hjb.kept h22) ((((hsb18.kept h19).kept h20).kept h21).kept h22)).mono ?_; rintro e w23 ⟨rfl, h23⟩
  have b23 := b22.trans (h23.mono b22.size)
  have m23 := ((((m17'.kept h19).kept h20).kept h21).kept h22).kept h23
  have n23 := ((((m18.kept h19).kept h20).kept h21).kept h22).kept h23
  go_wp2_with fail
  refine (heldIns_marked _ _ 1 _ (by omega) (by omega) (by omega) m23).mono ?_; rintro e w24 ⟨rfl, rfl⟩
  go_wp2_with fail
  refine (heldPrs_marked _ _ (1 + ((gotM R).length : Int)) _ (by omega) (by omega) (by omega) n23).mono ?_; rintro e w25 ⟨rfl, rfl⟩
  go_wp2_with fail
  go_ret
  exact ⟨rfl, b23⟩

end Go.Proofs.Ytimnhgncnhmgcaa
