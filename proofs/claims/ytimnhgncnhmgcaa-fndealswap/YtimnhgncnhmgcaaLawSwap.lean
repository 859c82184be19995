/- The law FnDealSwap answers true at every code. -/
import Derived.Test.YtimnhgncnhmgcaaDealW
namespace Go.Proofs.Ytimnhgncnhmgcaa
open Go.RowKit

set_option maxRecDepth 100000 in
set_option maxHeartbeats 1200000 in
theorem lawSwap_any (v : Value) (n : Nat) (w : World) (hv : BytesAt w v n) :
    Calls Try.prog 7 #[v] w fun e w' => e = .returned (.bool true) ∧ Below w.heap.size w w' := by
  have HV := hide hv
  obtain ⟨a, cap, rfl, h1, h2, h3⟩ := hv
  unfold maxLen at h2
  clear h3
  by_cases hn : 1048576 < (n : Int)
  · go_enter Try.func7, Try.ntmps7
    go_wp2_with fail
    go_ret
    exact ⟨rfl, Below.refl _ _⟩
  obtain ⟨i0, hi, hz0, hz1, hz2⟩ := info_parts Try.infoSt
  go_enter Try.func7, Try.ntmps7
  go_wp2_with fail
  refine (drawRun_any _ n w (unhide HV)).mono ?_; rintro e w1 ⟨r, s, ss, ps, rfl, hx, hy, hxl, hyl, b1⟩
  clear HV h1 h2
  have HB1 := hide b1
  have HY1 := hide hy
  obtain ⟨ax, cx, rfl, hx1, hx2, hx3⟩ := hx
  have HX3 := hide hx3
  clear hx3 hy b1
  generalize hM : ss.length = M at *
  have HM := hide hM
  clear hM
  unfold maxLen at hx2
  go_wp2_with fail
  go_loopw [5, 6] (fun r i wr => ∃ k : Nat, k ≤ M ∧ i = .int .i64 k ∧ wr.ownsRow w1.heap.size 33 3 r (makeF (ss.take k)).length (stFlat (makeF (ss.take k))) ∧ Below w1.heap.size w1 wr) (fun _ i _ => M - (intOf i).toNat)
  case atStart => exact ⟨0, Nat.zero_le _, rfl, World.ownsRow_made w1 #[] 0 (Nat.le_refl _) (by simp [maxLen]) (by simp), (Below.refl _ _).alloc (Nat.le_refl _) _⟩
  case round =>
    obtain ⟨k, hk, rfl, hown, hb⟩ := hrel
    have hfl : (makeF (ss.take k)).length ≤ k := by have := List.length_filter_le (isMake) (ss.take k); have := List.length_take_le k ss; simp only [makeF]; omega
    by_cases hlt : k < M
    · obtain ⟨b, off, rfl, hc⟩ : ∃ b off, ax = some ⟨b, off, none⟩ ∧ StCells w1 b off M ss := by
        rcases unhide HX3 with h3 | h3
        · have := unhide HM; subst h3; simp at this; omega
        · exact h3
      obtain ⟨c0, c1, c2⟩ := (hc.kept hb) k hlt
      have hst : makeF (ss.take (k + 1)) = makeF (ss.take k) ++ (if isMake (ss.getD k St.z) = true then [ss.getD k St.z] else []) := by
        exact filter_take_getD (p := isMake) (by rw [unhide HM]; exact hlt)
      generalize ss.getD k St.z = x at *
      have HST := hide hst
      have hkI : (k : Int) < (M : Int) := by omega
      have hk0' : (0 : Int) ≤ (k : Int) := by omega
      clear hc hst
      have hzr := hb.size
      have HOW := hide hown
      have HBR := hide hb
      clear hown hb
      generalize makeF (ss.take k) = F at *
      have hFl : F.length ≤ 8 := by omega
      by_cases hop : x.op = 2
      · have e1 : (x.op == 2) = true := by simpa using hop
        have HOP : Hid (isMake x = true) := by show (x.op == 2 || x.op == 3) = true; rw [e1]; rfl
        clear hop
        go_wp2_with (at_builtin; refine wpList_append_lies _ rfl _ _ 23 rfl w1.heap.size 33 i0 (.agg #[.int .i64 0, .int .i64 0, .int .i64 0]) 3 24 Try.underlying23 hi hz0 hz1 hz2 rfl (by decide) _ F.length _ rfl ((unhide HOW).alloc _) ⟨wr.heap.size, 0, none⟩ 1 1 [.int .i64 x.op, .int .i64 x.key, .int .i64 x.num] rfl rfl (World.news_of_block (heap_alloc_new _ _)) (by simp [Value.oneCell']) (by decide) (by unfold maxLen; omega) (by omega) (by simp; omega) (wr.heap.size + 1) (by simp) ?_; intro ga cp w9 hown2 hgrow hat hlt2)
        have hbw : Below w1.heap.size w1 w9 := Below.grown ((unhide HBR).alloc hzr _) hgrow (by simp; omega) (fun q hq => ((unhide HOW).lt q hq).1)
        go_roundw
        case rel =>
          refine ⟨k + 1, hlt, by go_num, ?_, hbw⟩
          rw [unhide HST, if_pos (unhide HOP), stFlat_append, List.length_append]; exact hown2
        case measure => simp [intOf]; omega
      by_cases hop4 : x.op = 3
      · have e1 : (x.op == 2) = false := by simpa using hop
        have e4 : (x.op == 3) = true := by simpa using hop4
        have HOP : Hid (isMake x = true) := by show (x.op == 2 || x.op == 3) = true; rw [e4]; simp
        clear hop hop4
        go_wp2_with (at_builtin; refine wpList_append_lies _ rfl _ _ 23 rfl w1.heap.size 33 i0 (.agg #[.int .i64 0, .int .i64 0, .int .i64 0]) 3 24 Try.underlying23 hi hz0 hz1 hz2 rfl (by decide) _ F.length _ rfl ((unhide HOW).alloc _) ⟨wr.heap.size, 0, none⟩ 1 1 [.int .i64 x.op, .int .i64 x.key, .int .i64 x.num] rfl rfl (World.news_of_block (heap_alloc_new _ _)) (by simp [Value.oneCell']) (by decide) (by unfold maxLen; omega) (by omega) (by simp; omega) (wr.heap.size + 1) (by simp) ?_; intro ga cp w9 hown2 hgrow hat hlt2)
        have hbw : Below w1.heap.size w1 w9 := Below.grown ((unhide HBR).alloc hzr _) hgrow (by simp; omega) (fun q hq => ((unhide HOW).lt q hq).1)
        go_roundw
        case rel =>
          refine ⟨k + 1, hlt, by go_num, ?_, hbw⟩
          rw [unhide HST, if_pos (unhide HOP), stFlat_append, List.length_append]; exact hown2
        case measure => simp [intOf]; omega
      · have e1 : (x.op == 2) = false := by simpa using hop
        have e4 : (x.op == 3) = false := by simpa using hop4
        have HOP : Hid (¬ isMake x = true) := by show ¬ ((x.op == 2 || x.op == 3) = true); rw [e1, e4]; simp
        clear hop hop4
        go_wp2_with fail
        go_roundw
        case rel =>
          refine ⟨k + 1, hlt, by go_num, ?_, unhide HBR⟩
          rw [unhide HST, if_neg (unhide HOP), List.append_nil]; exact unhide HOW
        case measure => simp [intOf]; omega
    · obtain rfl : k = M := by omega
      have hfull : makeF (ss.take k) = makeF ss := by rw [List.take_of_length_le (by rw [unhide HM]; omega)]
      rw [hfull] at hown hfl
      have hx := (owned_sts hown).1
      have hy := (unhide HY1).kept hb
      have b1 := (unhide HB1).trans (hb.mono (unhide HB1).size)
      have hmem := makeF_mem ss
      clear hfull hown hb HY1 HB1 HX3 HM
      generalize makeF ss = D at *
      have hcs := dealM_cases D ps
      have hgl := dealM_got D ps
      have hcl := dealM_ch D ps
      have HFIN : Hid (∀ s, dealM D ps = .ok s → 2 ≤ D.length → (D.getD 0 St.z).key ≠ (D.getD 1 St.z).key → dealM (D.getD 1 St.z :: D.getD 0 St.z :: D.drop 2) ps = dealM D ps ∧ gotM (dealM D ps) = []) := fun s h h2 hne => swap_fin hmem h h2 hne
      clear hmem
      go_wp2_with fail
      refine (specRun_any _ _ D ps _ hx hy).mono ?_; rintro e w2 ⟨a2, c2, rfl, ho2, h2⟩
      have b2 := b1.trans (h2.mono b1.size)
      have hx2 := hx.kept h2
      have hy2 := hy.kept h2
      have hg2 := GotAt.of ho2
      clear ho2 hx hy
      go_wp2_with fail
      refine (implRun_any _ _ D ps _ hx2 hy2).mono ?_; rintro e w3 ⟨a3, c3, rfl, ho3, h3⟩
      have b3 := b2.trans (h3.mono b2.size)
      have hx3 := hx2.kept h3
      have hy3 := hy2.kept h3
      have hg23 := hg2.kept h3
      have hg3 := GotAt.of ho3
      clear ho3 hx2 hy2 hg2 h2 h3 b1 b2
      have hei := eqIns_self (gotM (dealM D ps))
      have hep := eqPrs_self (chM (dealM D ps))
      have hcc := code_ne (a := codeM (dealM D ps))
      have hce := code_eq (a := codeM (dealM D ps))
      generalize hR : dealM D ps = R at *
      have HR := hide hR
      clear hR
      generalize hK : codeM R = K at *
      have HK := hide hK
      clear hK
      have HG3 := hide hg3
      have HG23 := hide hg23
      clear hg3 hg23
      have hxs := hx3
      obtain ⟨ax2, cx2, rfl, hx1, hx2, hx3'⟩ := hxs
      unfold maxLen at hx2
      by_cases hl2 : D.length < 2
      · have hl2a : decide (D.length < 2) = true := by simpa using hl2
        have hl2b : decide ((D.length : Int) < 2) = true := by simp; omega
        clear hx3' hcs
        go_wp2_with fail
        go_quiet ((first | (go_at_call 18; exact Calls.quiet_of (loInsQ_any _ _ _ _ _ ((unhide HG3).kept (below_drewN (Below.refl _ _) _)).got ((unhide HG23).kept (below_drewN (Below.refl _ _) _)).got)) | (go_at_call 19; exact Calls.quiet_of (loPrsQ_any _ _ _ _ _ ((unhide HG3).kept (below_drewN (Below.refl _ _) _)).ch ((unhide HG23).kept (below_drewN (Below.refl _ _) _)).ch))))
        go_wp2_with fail
        refine (loIns_any _ _ _ _ _ ((unhide HG3).kept (below_drewN (Below.refl _ _) _)).got ((unhide HG23).kept (below_drewN (Below.refl _ _) _)).got).mono ?_; rintro e w6 ⟨rfl, h6⟩
        have h6' := (below_drewN (Below.refl w3.heap.size w3) _).trans h6
        have b6 := b3.trans (h6'.mono b3.size)
        go_wp2_with fail
        refine (loPrs_any _ _ _ _ _ ((unhide HG3).kept h6').ch ((unhide HG23).kept h6').ch).mono ?_; rintro e w7 ⟨rfl, h7⟩
        go_wp2_with fail
        go_ret
        exact ⟨rfl, b6.trans (h7.mono b6.size)⟩
      have hl2a : decide (D.length < 2) = false := by simpa using hl2
      have hl2b : decide ((D.length : Int) < 2) = false := by simp; omega
      rcases hcs with ⟨hk0, -, -, -⟩ | ⟨hk0, sOk, hRs⟩
      · have e0 : (K != 0) = true := by simpa using hk0
        clear hk0 hx3'
        go_wp2_with fail
        go_quiet ((first | (go_at_call 18; exact Calls.quiet_of (loInsQ_any _ _ _ _ _ ((unhide HG3).kept (below_drewN (Below.refl _ _) _)).got ((unhide HG23).kept (below_drewN (Below.refl _ _) _)).got)) | (go_at_call 19; exact Calls.quiet_of (loPrsQ_any _ _ _ _ _ ((unhide HG3).kept (below_drewN (Below.refl _ _) _)).ch ((unhide HG23).kept (below_drewN (Below.refl _ _) _)).ch))))
        go_wp2_with fail
        refine (loIns_any _ _ _ _ _ ((unhide HG3).kept (below_drewN (Below.refl _ _) _)).got ((unhide HG23).kept (below_drewN (Below.refl _ _) _)).got).mono ?_; rintro e w6 ⟨rfl, h6⟩
        have h6' := (below_drewN (Below.refl w3.heap.size w3) _).trans h6
        have b6 := b3.trans (h6'.mono b3.size)
        go_wp2_with fail
        refine (loPrs_any _ _ _ _ _ ((unhide HG3).kept h6').ch ((unhide HG23).kept h6').ch).mono ?_; rintro e w7 ⟨rfl, h7⟩
        go_wp2_with fail
        go_ret
        exact ⟨rfl, b6.trans (h7.mono b6.size)⟩
      have HRS := hide hRs
      clear hRs
      subst hk0
      obtain ⟨b, off, rfl, hc⟩ : ∃ b off, ax2 = some ⟨b, off, none⟩ ∧ StCells w3 b off D.length D := by
        rcases hx3' with h3 | h3
        · rw [h3] at hl2; simp at hl2
        · exact h3
      obtain ⟨c0, c1, c2⟩ := hc 0 (by omega)
      obtain ⟨d0, d1, d2⟩ := hc 1 (by omega)
      simp only [Nat.zero_mul, Nat.add_zero, Nat.one_mul] at c0 c1 c2 d0 d1 d2
      have hdr := hx3.dropK rfl (show 2 ≤ D.length by omega)
      have HDR := hide hdr
      clear hdr hc hx3
      have HFI2 := hide (unhide HFIN sOk (unhide HRS) (by omega))
      have hdl : (D.drop 2).length = D.length - 2 := by simp
      have HDL := hide hdl
      clear HFIN HRS hdl
      generalize D.getD 0 St.z = x0 at *
      generalize D.getD 1 St.z = x1 at *
      generalize D.drop 2 = E at *
      generalize D.length = N at *
      have hN2 : (2 : Int) ≤ (N : Int) := by omega
      have hNc : (2 : Int) ≤ (cx2 : Int) := by omega
      have hNcc : (N : Int) ≤ (cx2 : Int) := by omega
      have hn1 : (1 : Int) < (N : Int) := by omega
      have hn0 : (0 : Int) < (N : Int) := by omega
      have hn0n : 0 < N := by omega
      have hn1n : 1 < N := by omega
      have hn2n : 2 ≤ N := by omega
      have hn2c : 2 ≤ cx2 := by omega
      by_cases hkk : x0.key = x1.key
      · have ek : (x0.key == x1.key) = true := by simpa using hkk
        clear hkk
        go_wp2_with fail
        go_quiet ((first | (go_at_call 18; exact Calls.quiet_of (loInsQ_any _ _ _ _ _ ((unhide HG3).kept (below_drewN (Below.refl _ _) _)).got ((unhide HG23).kept (below_drewN (Below.refl _ _) _)).got)) | (go_at_call 19; exact Calls.quiet_of (loPrsQ_any _ _ _ _ _ ((unhide HG3).kept (below_drewN (Below.refl _ _) _)).ch ((unhide HG23).kept (below_drewN (Below.refl _ _) _)).ch))))
        go_wp2_with fail
        refine (loIns_any _ _ _ _ _ ((unhide HG3).kept (below_drewN (Below.refl _ _) _)).got ((unhide HG23).kept (below_drewN (Below.refl _ _) _)).got).mono ?_; rintro e w6 ⟨rfl, h6⟩
        have h6' := (below_drewN (Below.refl w3.heap.size w3) _).trans h6
        have b6 := b3.trans (h6'.mono b3.size)
        go_wp2_with fail
        refine (loPrs_any _ _ _ _ _ ((unhide HG3).kept h6').ch ((unhide HG23).kept h6').ch).mono ?_; rintro e w7 ⟨rfl, h7⟩
        go_wp2_with fail
        go_ret
        exact ⟨rfl, b6.trans (h7.mono b6.size)⟩
      · have ek : (x0.key == x1.key) = false := by simpa using hkk
        obtain ⟨hsw, hgn⟩ := unhide HFI2 hkk
        have HSW := hide hsw
        have HGN := hide hgn
        clear hsw hgn HFI2 hkk
        go_wp2_with fail
        go_quiet ((first | (go_at_call 18; exact Calls.quiet_of (loInsQ_any _ _ _ _ _ ((unhide HG3).kept (below_drewN (Below.refl _ _) _)).got ((unhide HG23).kept (below_drewN (Below.refl _ _) _)).got)) | (go_at_call 19; exact Calls.quiet_of (loPrsQ_any _ _ _ _ _ ((unhide HG3).kept (below_drewN (Below.refl _ _) _)).ch ((unhide HG23).kept (below_drewN (Below.refl _ _) _)).ch))))
        go_wp2_with fail
        rename Nat => nq
        have hbz : Below w3.heap.size w3 (w3.drewN nq) := below_drewN (Below.refl _ _) nq
        have c0 := cell_kept hbz c0
        have c1 := cell_kept hbz c1
        have c2 := cell_kept hbz c2
        have d0 := cell_kept hbz d0
        have d1 := cell_kept hbz d1
        have d2 := cell_kept hbz d2
        have HDZ := hide ((unhide HDR).kept hbz)
        have HGZ := hide ((unhide HG3).kept hbz)
        have HYZ := hide (hy3.kept hbz)
        have HBZ := hide (b3.trans (hbz.mono b3.size))
        clear HDR HG3 HG23 hy3 b3 hbz
        generalize w3.drewN nq = wz at *
        have hbl : b < wz.heap.size := lt_of_cell c0
        have hbne : b ≠ wz.heap.size := by omega
        obtain ⟨ai, ci, rfl, -⟩ := (unhide HGZ).got.shapeD
        have hNm : N - 2 ≤ 6 := by omega
        have HEL : Hid (E.length = N - 2) := unhide HDL
        go_region_held3 (fun w' => w'.cell? ⟨b, off, none⟩ = some (.int .i64 x0.op) ∧ w'.cell? ⟨b, off + 1, none⟩ = some (.int .i64 x0.key) ∧ w'.cell? ⟨b, off + 2, none⟩ = some (.int .i64 x0.num) ∧ w'.cell? ⟨b, off + 3, none⟩ = some (.int .i64 x1.op) ∧ w'.cell? ⟨b, off + 3 + 1, none⟩ = some (.int .i64 x1.key) ∧ w'.cell? ⟨b, off + 3 + 2, none⟩ = some (.int .i64 x1.num)) (first | go_keep | (go_split_ands; refine ⟨?_, ?_, ?_, ?_, ?_, ?_⟩ <;> (rw [hgrow.cell_far _ (by simp; omega) (by simp [Value.ownBlock]; omega)]; first | assumption | (simp; assumption))))
          ((refine step_append_all (by rfl) _ _ 23 (by rfl) wz.heap.size 33 i0 (.agg #[.int .i64 0, .int .i64 0, .int .i64 0]) 3 24 Try.underlying23 hi hz0 hz1 hz2 rfl (by decide) _ 2 _ (by rfl) (World.ownsRow_lit _ #[.int .i64 x1.op, .int .i64 x1.key, .int .i64 x1.num, .int .i64 x0.op, .int .i64 x0.key, .int .i64 x0.num] 2 (Nat.le_refl _) (by simp [maxLen]) (by simp)) (if cx2 = 2 then some ⟨b, off, none⟩ else some ⟨b, off + 6, none⟩) (N - 2) (cx2 - 2) (stFlat E) (by rfl) (by rw [stFlat_len, unhide HEL]) (srcCut ((unhide HDZ).kept ((Below.refl _ _).drew.alloc (by simp) _)) hx1) (stFlat_one E) (by unfold maxLen; omega) (by omega) (by simp) (wz.heap.size + 1) (by simp) ?_; intro b9 cap9 w9 hown9 hgrow))
        have hXl : (x1 :: x0 :: E).length = 2 + (N - 2) := by have := unhide HEL; simp; omega
        have hX : StsAt w9 (.slice b9 (2 + (N - 2)) cap9) (x1 :: x0 :: E) := (owned_sts (base := wz.heap.size) (e := 33) (ss := x1 :: x0 :: E) (by rw [hXl]; exact hown9)).1
        have hb9 : Below wz.heap.size wz w9 := Below.grown (((Below.refl _ _).alloc (Nat.le_refl _) _).drew) hgrow (by simp) (fun q hq => by simp [Value.ownBlock] at hq; omega)
        have hNN : 2 + (N - 2) = N := by omega
        rw [hNN] at hX ⊢
        have HX := hide hX
        have HB9 := hide hb9
        clear hNN
        clear hX hb9 hown9 hgrow hXl c0 c1 c2 d0 d1 d2 HDZ
        go_wp2_with fail
        all_goals
          have hyz := (unhide HYZ).kept (unhide HB9)
          have hcc9 := implRun_any _ _ (x1 :: x0 :: E) ps w9 (unhide HX) hyz
          refine hcc9.mono ?_
          rintro e w10 ⟨a10, c10, rfl, ho10, h10⟩
          rw [unhide HSW] at ho10 ⊢
          rw [unhide HK]
          have hb9 := unhide HB9
          have b9' := (unhide HBZ).trans (hb9.mono (unhide HBZ).size)
          have b10 := b9'.trans (h10.mono b9'.size)
          have hg10 := GotAt.of ho10
          have hgz := ((unhide HGZ).kept hb9).kept h10
          obtain ⟨aq, cq, rfl, -⟩ := hg10.got.shapeD
          have hgn := unhide HGN
          rw [hgn]
          clear ho10 HSW HK HX HGN hgn
          go_wp2_with fail
          refine (loPrs_any _ _ _ _ _ hg10.ch hgz.ch).mono ?_; rintro e w11 ⟨rfl, h11⟩
          go_wp2_with fail
          go_ret
          exact ⟨rfl, b10.trans (h11.mono b10.size)⟩

end Go.Proofs.Ytimnhgncnhmgcaa
