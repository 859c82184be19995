/- The law FnDealPuts answers true at every code. -/
import Derived.Test.YtimnhgncnhmgcaaDealP
namespace Go.Proofs.Ytimnhgncnhmgcaa
open Go.RowKit

set_option maxRecDepth 100000 in
set_option maxHeartbeats 2000000 in
theorem lawPuts_any (v : Value) (n : Nat) (w : World) (hv : BytesAt w v n) :
    Calls Try.prog 8 #[v] w fun e w' => e = .returned (.bool true) ∧ Below w.heap.size w w' := by
  have HV := hide hv
  obtain ⟨a, cap, rfl, h1, h2, h3⟩ := hv
  unfold maxLen at h2
  clear h3
  by_cases hn : 1048576 < (n : Int)
  · go_enter Try.func8, Try.ntmps8
    go_wp2_with fail
    go_ret
    exact ⟨rfl, Below.refl _ _⟩
  obtain ⟨i0, hi, hz0, hz1, hz2⟩ := info_parts Try.infoSt
  go_enter Try.func8, Try.ntmps8
  go_wp2_with fail
  refine (drawRun_any _ n w (unhide HV)).mono ?_; rintro e w1 ⟨r, s, ss, ps, rfl, hx, hy, hxl, hyl, b1⟩
  clear HV h1 h2
  have HB1 := hide b1
  have HY1 := hide hy
  obtain ⟨ax, cx, rfl, hx1, hx2, hx3⟩ := hx
  have HX3 := hide hx3
  clear hx3 hy b1
  generalize hM : ss.length = M at *
  have HM := hide hM
  clear hM
  unfold maxLen at hx2
  go_wp2_with fail
  go_loopw [5, 6] (fun r i wr => ∃ k : Nat, k ≤ M ∧ i = .int .i64 k ∧ wr.ownsRow w1.heap.size 33 3 r (putF (ss.take k)).length (stFlat (putF (ss.take k))) ∧ Below w1.heap.size w1 wr) (fun _ i _ => M - (intOf i).toNat)
  case atStart => exact ⟨0, Nat.zero_le _, rfl, World.ownsRow_made w1 #[] 0 (Nat.le_refl _) (by simp [maxLen]) (by simp), (Below.refl _ _).alloc (Nat.le_refl _) _⟩
  case round =>
    obtain ⟨k, hk, rfl, hown, hb⟩ := hrel
    have hfl : (putF (ss.take k)).length ≤ k := by have := List.length_filter_le (isPut) (ss.take k); have := List.length_take_le k ss; simp only [putF]; omega
    by_cases hlt : k < M
    · obtain ⟨b, off, rfl, hc⟩ : ∃ b off, ax = some ⟨b, off, none⟩ ∧ StCells w1 b off M ss := by
        rcases unhide HX3 with h3 | h3
        · have := unhide HM; subst h3; simp at this; omega
        · exact h3
      obtain ⟨c0, c1, c2⟩ := (hc.kept hb) k hlt
      have hst : putF (ss.take (k + 1)) = putF (ss.take k) ++ (if isPut (ss.getD k St.z) = true then [ss.getD k St.z] else []) := by
        exact filter_take_getD (p := isPut) (by rw [unhide HM]; exact hlt)
      generalize ss.getD k St.z = x at *
      have HST := hide hst
      have hkI : (k : Int) < (M : Int) := by omega
      have hk0' : (0 : Int) ≤ (k : Int) := by omega
      clear hc hst
      have hzr := hb.size
      have HOW := hide hown
      have HBR := hide hb
      clear hown hb
      generalize putF (ss.take k) = F at *
      have hFl : F.length ≤ 8 := by omega
      by_cases hop : x.op = 2
      · have e4 : (x.op == 2) = true := by simpa using hop
        have HOP : Hid (isPut x = true) := e4
        clear hop
        go_wp2_with (at_builtin; refine wpList_append_lies _ rfl _ _ 23 rfl w1.heap.size 33 i0 (.agg #[.int .i64 0, .int .i64 0, .int .i64 0]) 3 24 Try.underlying23 hi hz0 hz1 hz2 rfl (by decide) _ F.length _ rfl ((unhide HOW).alloc _) ⟨wr.heap.size, 0, none⟩ 1 1 [.int .i64 x.op, .int .i64 x.key, .int .i64 x.num] rfl rfl (World.news_of_block (heap_alloc_new _ _)) (by simp [Value.oneCell']) (by decide) (by unfold maxLen; omega) (by omega) (by simp; omega) (wr.heap.size + 1) (by simp) ?_; intro ga cp w9 hown2 hgrow hat hlt2)
        have hbw : Below w1.heap.size w1 w9 := Below.grown ((unhide HBR).alloc hzr _) hgrow (by simp; omega) (fun q hq => ((unhide HOW).lt q hq).1)
        go_roundw
        case rel =>
          refine ⟨k + 1, hlt, by go_num, ?_, hbw⟩
          rw [unhide HST, if_pos (unhide HOP), stFlat_append, List.length_append]; exact hown2
        case measure => simp [intOf]; omega
      · have e4 : (x.op == 2) = false := by simpa using hop
        have HOP : Hid (¬ isPut x = true) := by show ¬ ((x.op == 2) = true); rw [e4]; simp
        clear hop
        go_wp2_with fail
        go_roundw
        case rel =>
          refine ⟨k + 1, hlt, by go_num, ?_, unhide HBR⟩
          rw [unhide HST, if_neg (unhide HOP), List.append_nil]; exact unhide HOW
        case measure => simp [intOf]; omega
    · obtain rfl : k = M := by omega
      have hfull : putF (ss.take k) = putF ss := by rw [List.take_of_length_le (by rw [unhide HM]; omega)]
      rw [hfull] at hown hfl
      have hx := (owned_sts hown).1
      have hy := (unhide HY1).kept hb
      have b1 := (unhide HB1).trans (hb.mono (unhide HB1).size)
      have hmem := putF_mem ss
      clear hfull hown hb HY1 HB1 HX3 HM hi hz0 hz1 hz2
      generalize putF ss = D at *
      have hcs := dealM_cases D ps
      have hgl := dealM_got D ps
      have hcl := dealM_ch D ps
      have HFIN : Hid (∀ s, dealM D ps = .ok s → inForm (putP ps (chM (dealM D ps))) = true ∧ ∀ ps', inForm ps' = true → codeM (dealM D ps') = 0 ∧ chM (dealM D ps') = chM (dealM D ps)) := fun s h => ⟨by
        have h1 := inForm_ch h; obtain ⟨_, hi, _⟩ := dealM_ok h
        rw [h]; show inForm (putP ps (chTo s.f s.c 32)) = true
        unfold putP; rw [hi, h1]; exact inForm_putTo hi h1, fun ps' hi' => puts_same hmem h hi'⟩
      clear hmem
      go_wp2_with fail
      refine (specRun_any _ _ D ps _ hx hy).mono ?_; rintro e w2 ⟨a2, c2, rfl, ho2, h2⟩
      have b2 := b1.trans (h2.mono b1.size)
      have hx2 := hx.kept h2
      have hy2 := hy.kept h2
      have hg2 := GotAt.of ho2
      clear ho2 hx hy
      go_wp2_with fail
      refine (implRun_any _ _ D ps _ hx2 hy2).mono ?_; rintro e w3 ⟨a3, c3, rfl, ho3, h3⟩
      have b3 := b2.trans (h3.mono b2.size)
      have hx3 := hx2.kept h3
      have hy3 := hy2.kept h3
      have hg23 := hg2.kept h3
      have hg3 := GotAt.of ho3
      clear ho3 hx2 hy2 hg2 h2 h3 b1 b2
      have hei := eqIns_self (gotM (dealM D ps))
      have hep := eqPrs_self (chM (dealM D ps))
      have hcc := code_ne (a := codeM (dealM D ps))
      have hce := code_eq (a := codeM (dealM D ps))
      generalize hR : dealM D ps = R at *
      have HR := hide hR
      clear hR
      generalize hK : codeM R = K at *
      have HK := hide hK
      clear hK
      go_wp2_with fail
      refine (loIns_any _ _ _ _ _ hg3.got hg23.got).mono ?_; rintro e w4 ⟨rfl, h4⟩
      have b4 := b3.trans (h4.mono b3.size)
      have hx4 := hx3.kept h4
      have hy4 := hy3.kept h4
      have hg4 := hg3.kept h4
      have hg24 := hg23.kept h4
      clear hx3 hy3 hg3 hg23 h4 b3
      go_wp2_with fail
      refine (loPrs_any _ _ _ _ _ hg4.ch hg24.ch).mono ?_; rintro e w5 ⟨rfl, h5⟩
      have b5 := b4.trans (h5.mono b4.size)
      have hx5 := hx4.kept h5
      have hy5 := hy4.kept h5
      have hg5 := hg4.kept h5
      have hg25 := hg24.kept h5
      clear hx4 hy4 hg4 hg24 h5 b4
      obtain ⟨ai, ci, rfl, -⟩ := hg5.got.shapeD
      obtain ⟨ap, cp, rfl, -⟩ := hg5.ch.slice
      rcases hcs with ⟨hk0, -, -, -⟩ | ⟨hk0, sOk, hRs⟩
      · have e0 : (K != 0) = true := by simpa using hk0
        clear hk0
        go_wp2_with fail
        refine (loIns_any _ _ _ _ _ hg5.got hg25.got).mono ?_; rintro e w6 ⟨rfl, h6⟩
        have b6 := b5.trans (h6.mono b5.size)
        go_wp2_with fail
        refine (loPrs_any _ _ _ _ _ (hg5.kept h6).ch (hg25.kept h6).ch).mono ?_; rintro e w7 ⟨rfl, h7⟩
        go_wp2_with fail
        go_ret
        exact ⟨rfl, b6.trans (h7.mono b6.size)⟩
      · obtain ⟨hip, hsame⟩ := unhide HFIN sOk hRs
        obtain ⟨hs1, hs2⟩ := hsame _ hip
        obtain ⟨hn1, hn2⟩ := hsame [] rfl
        subst hk0
        have HS1 := hide hs1
        have HS2 := hide hs2
        have HN1 := hide hn1
        have HN2 := hide hn2
        clear hs1 hs2 hn1 hn2 hsame hip HFIN hRs HR HK
        have hpc := hg5.ch
        clear hg25
        go_wp2_with fail
        refine (implPut_any _ _ ps (chM R) _ hy5 hpc).mono ?_; rintro e w6 ⟨g6, rfl, ho6, h6⟩
        have b6 := b5.trans (h6.mono b5.size)
        have hp6 := (owned_prs ho6).1
        have hx6 := hx5.kept h6
        have hg6 := hpc.kept h6
        clear ho6 hx5 hpc hy5 hg5 h6 b5
        go_wp2_with fail
        refine (implRun_any _ _ D (putP ps (chM R)) _ hx6 hp6).mono ?_; rintro e w7 ⟨a7, c7, rfl, ho7, h7⟩
        rw [unhide HS1]
        have b7 := b6.trans (h7.mono b6.size)
        have hq7 := (GotAt.of ho7).ch
        rw [unhide HS2] at hq7
        have hx7 := hx6.kept h7
        have hg7 := hg6.kept h7
        clear ho7 hx6 hp6 hg6 h7 b6
        go_wp2_with fail
        refine (implRun_any _ _ D [] _ hx7 ⟨none, 0, rfl, by simp, by simp [maxLen], .inl rfl⟩).mono ?_; rintro e w8 ⟨a8, c8, rfl, ho8, h8⟩
        rw [unhide HN1]
        have b8 := b7.trans (h8.mono b7.size)
        have hr8 := (GotAt.of ho8).ch
        rw [unhide HN2] at hr8
        have hq8 := hq7.kept h8
        have hg8 := hg7.kept h8
        clear ho8 hx7 hq7 hg7 h8 b7
        go_wp2_with fail
        refine (loPrs_any _ _ _ _ _ hq8 hg8).mono ?_; rintro e w9 ⟨rfl, h9⟩
        have b9 := b8.trans (h9.mono b8.size)
        go_wp2_with fail
        refine (loPrs_any _ _ _ _ _ (hr8.kept h9) (hg8.kept h9)).mono ?_; rintro e w10 ⟨rfl, h10⟩
        go_wp2_with fail
        go_ret
        exact ⟨rfl, b9.trans (h10.mono b9.size)⟩

end Go.Proofs.Ytimnhgncnhmgcaa
