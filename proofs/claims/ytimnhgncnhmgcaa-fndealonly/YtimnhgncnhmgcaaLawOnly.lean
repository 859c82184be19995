/- The law FnDealOnly answers true at every code. -/
import Derived.Test.YtimnhgncnhmgcaaDealO
namespace Go.Proofs.Ytimnhgncnhmgcaa
open Go.RowKit

set_option maxRecDepth 100000 in
set_option maxHeartbeats 4000000 in
theorem lawOnly_any (v : Value) (n : Nat) (w : World) (hv : BytesAt w v n) :
    Calls Try.prog 5 #[v] w fun e w' => e = .returned (.bool true) ∧ Below w.heap.size w w' := by
  have HV := hide hv
  obtain ⟨a, cap, rfl, h1, h2, h3⟩ := hv
  unfold maxLen at h2
  clear h3
  by_cases hn : 1048576 < (n : Int)
  · go_enter Try.func5, Try.ntmps5
    go_wp2_with fail
    go_ret
    exact ⟨rfl, Below.refl _ _⟩
  obtain ⟨i0, hi, hz0, hz1, hz2⟩ := info_parts Try.infoPr2
  go_enter Try.func5, Try.ntmps5
  go_wp2_with fail
  refine (drawRun_any _ n w (unhide HV)).mono ?_; rintro e w1 ⟨r, s, D, ps, rfl, hx, hy, hxl, hyl, b1⟩
  clear HV h1 h2
  have HFIN : Hid (codeM (dealM D ps) ≠ 9 → codeM (dealM D (ownP D ps)) = codeM (dealM D ps) ∧ gotM (dealM D (ownP D ps)) = gotM (dealM D ps) ∧ chM (dealM D (ownP D ps)) = chM (dealM D ps) ∧ ∀ p ∈ chM (dealM D (ownP D ps)), namedB D p.key = true) := fun h => only_fin h
  have hcl := dealM_ch D ps
  go_wp2_with fail
  refine (specRun_any _ _ D ps _ hx hy).mono ?_; rintro e w2 ⟨a2, c2, rfl, ho2, h2⟩
  have b2 := b1.trans (h2.mono b1.size)
  have hx2 := hx.kept h2
  have hy2 := hy.kept h2
  have hg2 := GotAt.of ho2
  clear ho2 hx hy h2 b1
  generalize hR : dealM D ps = R at *
  have HR := hide hR
  clear hR
  generalize hK : codeM R = K at *
  have HK := hide hK
  clear hK
  by_cases h9 : K = 9
  · have e9 : (K == 9) = true := by simpa using h9
    have hce := code_eq (a := K)
    clear h9
    go_wp2_with fail
    refine (implRun_any _ _ D ps _ hx2 hy2).mono ?_; rintro e w3 ⟨a3, c3, rfl, ho3, h3⟩
    rw [unhide HR, unhide HK]
    go_wp2_with fail
    go_ret
    exact ⟨rfl, b2.trans (h3.mono b2.size)⟩
  have e9 : (K == 9) = false := by simpa using h9
  obtain ⟨hf1, hf2, hf3, hf4⟩ := unhide HFIN h9
  have HF1 := hide hf1
  have HF2 := hide hf2
  have HF4 := hide hf4
  have HF3 := hide hf3
  have HB2 := hide b2
  have HG2 := hide hg2
  have HX2 := hide hx2
  have hys := hy2
  clear hf1 hf2 hf3 hf4 h9 HFIN HR HK b2 hg2 hy2
  obtain ⟨ax, cx, rfl, hx1, hxc, hx3⟩ := hx2
  obtain ⟨ay, cy, rfl, hy1, hyc, hy3⟩ := hys
  have HX3 := hide hx3
  have HY3 := hide hy3
  clear hx3 hy3
  generalize hN : D.length = N at *
  have HN := hide hN
  clear hN
  generalize hM : ps.length = m at *
  have HM := hide hM
  clear hM
  unfold maxLen at hxc hyc
  go_wp2_with fail
  go_loopw [11, 12] (fun r i wr => ∃ k : Nat, k ≤ m ∧ i = .int .i64 k ∧ wr.ownsRow w2.heap.size 39 2 r (ownP D (ps.take k)).length (prFlat (ownP D (ps.take k))) ∧ Below w2.heap.size w2 wr) (fun _ i _ => m - (intOf i).toNat)
  case atStart => exact ⟨0, Nat.zero_le _, rfl, World.ownsRow_made w2 #[] 0 (Nat.le_refl _) (by simp [maxLen]) (by simp), (Below.refl _ _).alloc (Nat.le_refl _) _⟩
  case round =>
    obtain ⟨k, hk, rfl, hown, hb⟩ := hrel
    have hfl : (ownP D (ps.take k)).length ≤ k := by have := List.length_filter_le (fun p : Pr => namedB D p.key) (ps.take k); have := List.length_take_le k ps; simp only [ownP]; omega
    by_cases hlt : k < m
    · obtain ⟨bv, ov, rfl, hcv⟩ : ∃ b off, ay = some ⟨b, off, none⟩ ∧ PrCells w2 b off m ps := by
        rcases unhide HY3 with h3 | h3
        · have := unhide HM; subst h3; simp at this; omega
        · exact h3
      obtain ⟨c0, c1⟩ := (hcv.kept hb) k hlt
      have hst := own_take (D := D) (ps := ps) (k := k) (by rw [unhide HM]; exact hlt)
      generalize ps.getD k Pr.z = p at *
      have HST := hide hst
      have hkI : (k : Int) < (m : Int) := by omega
      have hk0' : (0 : Int) ≤ (k : Int) := by omega
      have hzr := hb.size
      have HOW := hide hown
      have HBR := hide hb
      clear hcv hst hown hb
      generalize ownP D (ps.take k) = F at *
      have hFl : F.length ≤ 20 := by omega
      rename World => wo
      go_wp2_with fail
      go_loopw [13, 14] (fun b j wq => ∃ q : Nat, q ≤ N ∧ j = .int .i64 q ∧ b = .bool ((D.take q).any (fun x => x.key == p.key)) ∧ Below wo.heap.size wo wq) (fun _ j _ => N - (intOf j).toNat)
      case atStart => exact ⟨0, Nat.zero_le _, rfl, rfl, Below.refl _ _⟩
      case round =>
        obtain ⟨q, hq, rfl, rfl, hb2⟩ := hrel
        by_cases hlt2 : q < N
        · obtain ⟨bd, od, rfl, hcd⟩ : ∃ b off, ax = some ⟨b, off, none⟩ ∧ StCells w2 b off N D := by
            rcases unhide HX3 with h3 | h3
            · have := unhide HN; subst h3; simp at this; omega
            · exact h3
          obtain ⟨d0, d1, d2⟩ := (hcd.kept ((unhide HBR).trans (hb2.mono (unhide HBR).size))) q hlt2
          have e0 := cell_kept hb2 c0
          have hany := any_take_getD (D := D) (p := fun x => x.key == p.key) (k := q) (by rw [unhide HN]; exact hlt2)
          generalize D.getD q St.z = x at *
          have HANY := hide hany
          have hqI : (q : Int) < (N : Int) := by omega
          have hq0 : (0 : Int) ≤ (q : Int) := by omega
          clear hcd hany c0 c1
          generalize (D.take q).any (fun x => x.key == p.key) = B at *
          cases B
          · go_wp2_with fail
            go_quiet (fail)
            go_wp2_with fail
            go_roundw
            case rel => exact ⟨q + 1, hlt2, by go_num, by rw [unhide HANY]; rfl, below_drewN hb2 _⟩
            case measure => simp [intOf]; omega
          · go_wp2_with fail
            go_quiet (fail)
            go_wp2_with fail
            go_roundw
            case rel => exact ⟨q + 1, hlt2, by go_num, by rw [unhide HANY]; rfl, below_drewN hb2 _⟩
            case measure => simp [intOf]; omega
        · obtain rfl : q = N := by omega
          have hall : (D.take q).any (fun x => x.key == p.key) = namedB D p.key := by rw [List.take_of_length_le (by rw [unhide HN]; omega)]; rfl
          rw [hall]
          clear hall
          have e0 := cell_kept hb2 c0
          have e1 := cell_kept hb2 c1
          have HOQ : Hid (wr.ownsRow w2.heap.size 39 2 u11 F.length (prFlat F)) := ownsRow_below (unhide HOW) hb2
          have HBQ : Hid (Below w2.heap.size w2 wr) := (unhide HBR).trans (hb2.mono (unhide HBR).size)
          have hzq := (unhide HBQ).size
          clear c0 c1 hb2
          cases hB : namedB D p.key
          · have HST2 : Hid (ownP D (ps.take (k + 1)) = F) := by show ownP D (ps.take (k + 1)) = F; rw [unhide HST, hB]; simp
            clear hB
            go_wp2_with fail
            go_roundw
            case rel =>
              refine ⟨k + 1, hlt, by go_num, ?_, unhide HBQ⟩
              rw [unhide HST2]; exact unhide HOQ
            case measure => simp [intOf]; omega
          · have HST2 : Hid (ownP D (ps.take (k + 1)) = F ++ [p]) := by show ownP D (ps.take (k + 1)) = F ++ [p]; rw [unhide HST, hB]; simp
            clear hB
            go_wp2_with (at_builtin; refine wpList_append_lies _ rfl _ _ 24 rfl w2.heap.size 39 i0 (.agg #[.int .i64 0, .int .i64 0]) 2 16 Try.underlying24 hi hz0 hz1 hz2 rfl (by decide) _ F.length _ rfl ((unhide HOQ).alloc _) ⟨wr.heap.size, 0, none⟩ 1 1 [.int .i64 p.key, .int .i64 p.val] rfl rfl (World.news_of_block (heap_alloc_new _ _)) (by simp [Value.oneCell']) (by decide) (by unfold maxLen; omega) (by omega) (by simp; omega) (wr.heap.size + 1) (by simp) ?_; intro ga cp w9 hown2 hgrow hat hlt2')
            have hbw : Below w2.heap.size w2 w9 := Below.grown ((unhide HBQ).alloc hzq _) hgrow (by simp; omega) (fun q hq => ((unhide HOQ).lt q hq).1)
            go_roundw
            case rel =>
              refine ⟨k + 1, hlt, by go_num, ?_, hbw⟩
              rw [unhide HST2, prFlat_append, List.length_append]; exact hown2
            case measure => simp [intOf]; omega
    · obtain rfl : k = m := by omega
      have hfull : ownP D (ps.take k) = ownP D ps := by rw [List.take_of_length_le (by rw [unhide HM]; omega)]
      rw [hfull] at hown
      have hop := (owned_prs hown).1
      have b3 := (unhide HB2).trans (hb.mono (unhide HB2).size)
      have hx3 := (unhide HX2).kept hb
      have hg3 := (unhide HG2).kept hb
      clear hfull hown hb HB2 HX2 HG2 HY3 HM hi hz0 hz1 hz2
      go_wp2_with fail
      refine (implRun_any _ _ D (ownP D ps) _ hx3 hop).mono ?_; rintro e w4 ⟨a4, c4, rfl, ho4, h4⟩
      rw [unhide HF1]
      have b4 := b3.trans (h4.mono b3.size)
      have hg4 := hg3.kept h4
      have hq4 := GotAt.of ho4
      have hgi := hq4.got
      have hgc := hq4.ch
      rw [unhide HF2] at hgi
      have HNM := hide (unhide HF4)
      rw [unhide HF3] at hgc
      have HN2 : Hid (∀ p ∈ chM R, namedB D p.key = true) := by have := unhide HF4; rw [unhide HF3] at this; exact this
      have hx4 := hx3.kept h4
      clear ho4 hq4 HF4 HF3 HF2 HF1 HNM hx3 hg3 hop b3 h4 HX3
      obtain ⟨ax', cx', hax, -, -, hx3⟩ := hx4
      simp at hax
      obtain ⟨rfl, hnn, rfl⟩ := hax
      rw [← hnn] at hx3
      have HX3 := hide hx3
      clear hx3 hnn
      have HGC := hide hgc
      have hei := eqIns_self (gotM R)
      have hep := eqPrs_self (chM R)
      have hce := code_eq (a := K)
      have HG4 := hide hg4
      have HGI := hide hgi
      have HB4 := hide b4
      clear hgi hg4 b4
      obtain ⟨ac, cc, rfl, hc1, hc2, hc3⟩ := hgc
      have HC3 := hide hc3
      clear hc3
      generalize hL : (chM R).length = l at *
      have HL := hide hL
      clear hL
      unfold maxLen at hc2
      go_wp2_with fail
      go_loopw [18] (fun i wr => ∃ k : Nat, k ≤ l ∧ i = .int .i64 k ∧ Below w4.heap.size w4 wr) (fun i _ => l - (intOf i).toNat)
      case atStart => exact ⟨0, Nat.zero_le _, rfl, Below.refl _ _⟩
      case round =>
        obtain ⟨k2, hk2, rfl, hb⟩ := hrel
        by_cases hlt : k2 < l
        · obtain ⟨bv, ov, rfl, hcv⟩ : ∃ b off, ac = some ⟨b, off, none⟩ ∧ PrCells w4 b off l (chM R) := by
            rcases unhide HC3 with h3 | h3
            · have := unhide HL; rw [h3] at this; simp at this; omega
            · exact h3
          obtain ⟨c0, c1⟩ := (hcv.kept hb) k2 hlt
          have hnp : namedB D ((chM R).getD k2 Pr.z).key = true := unhide HN2 _ (by
            have := unhide HL
            rw [show (chM R).getD k2 Pr.z = (chM R)[k2]'(by omega) by simp [List.getD, show k2 < (chM R).length by omega]]
            exact List.getElem_mem _)
          generalize (chM R).getD k2 Pr.z = p at *
          have HNP := hide hnp
          have hkI : (k2 : Int) < (l : Int) := by omega
          have hk0' : (0 : Int) ≤ (k2 : Int) := by omega
          have HBR := hide hb
          clear hcv hnp hb
          rename World => wo
          go_wp2_with fail
          go_loopw [19, 20] (fun b j wq => ∃ q : Nat, q ≤ N ∧ j = .int .i64 q ∧ b = .bool ((D.take q).any (fun x => x.key == p.key)) ∧ Below wo.heap.size wo wq) (fun _ j _ => N - (intOf j).toNat)
          case atStart => exact ⟨0, Nat.zero_le _, rfl, rfl, Below.refl _ _⟩
          case round =>
            obtain ⟨q, hq, rfl, rfl, hb2⟩ := hrel
            by_cases hlt2 : q < N
            · obtain ⟨bd, od, rfl, hcd⟩ : ∃ b off, ax = some ⟨b, off, none⟩ ∧ StCells w4 b off N D := by
                rcases unhide HX3 with h3 | h3
                · have := unhide HN; subst h3; simp at this; omega
                · exact h3
              obtain ⟨d0, d1, d2⟩ := (hcd.kept ((unhide HBR).trans (hb2.mono (unhide HBR).size))) q hlt2
              have e0 := cell_kept hb2 c0
              have hany := any_take_getD (D := D) (p := fun x => x.key == p.key) (k := q) (by rw [unhide HN]; exact hlt2)
              generalize D.getD q St.z = x at *
              have HANY := hide hany
              have hqI : (q : Int) < (N : Int) := by omega
              have hq0 : (0 : Int) ≤ (q : Int) := by omega
              clear hcd hany c0 c1
              generalize (D.take q).any (fun x => x.key == p.key) = B at *
              cases B
              · go_wp2_with fail
                go_quiet (fail)
                go_wp2_with fail
                go_roundw
                case rel => exact ⟨q + 1, hlt2, by go_num, by rw [unhide HANY]; rfl, below_drewN hb2 _⟩
                case measure => simp [intOf]; omega
              · go_wp2_with fail
                go_quiet (fail)
                go_wp2_with fail
                go_roundw
                case rel => exact ⟨q + 1, hlt2, by go_num, by rw [unhide HANY]; rfl, below_drewN hb2 _⟩
                case measure => simp [intOf]; omega
            · obtain rfl : q = N := by omega
              have hall : (D.take q).any (fun x => x.key == p.key) = namedB D p.key := by rw [List.take_of_length_le (by rw [unhide HN]; omega)]; rfl
              rw [hall]
              clear hall
              have e0 := cell_kept hb2 c0
              have e1 := cell_kept hb2 c1
              have HBQ : Hid (Below w4.heap.size w4 wr) := (unhide HBR).trans (hb2.mono (unhide HBR).size)
              rw [unhide HNP]
              clear c0 c1 hb2
              go_wp2_with fail
              go_roundw
              case rel => exact ⟨k2 + 1, hlt, by go_num, unhide HBQ⟩
              case measure => simp [intOf]; omega
        · obtain rfl : k2 = l := by omega
          have b5 := (unhide HB4).trans (hb.mono (unhide HB4).size)
          have hl := unhide HL
          go_wp2_with fail
          refine (loIns_any _ _ _ _ _ ((unhide HGI).kept hb) ((unhide HG4).kept hb).got).mono ?_; rintro e w6 ⟨rfl, h6⟩
          have b6 := b5.trans (h6.mono b5.size)
          go_wp2_with fail
          refine (loPrs_any _ _ _ _ _ (((unhide HGC).kept hb).kept h6) (((unhide HG4).kept hb).kept h6).ch).mono ?_; rintro e w7 ⟨rfl, h7⟩
          go_wp2_with fail
          go_ret
          exact ⟨rfl, b6.trans (h7.mono b6.size)⟩

end Go.Proofs.Ytimnhgncnhmgcaa
