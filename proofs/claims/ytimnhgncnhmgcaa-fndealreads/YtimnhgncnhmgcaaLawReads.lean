/- The law FnDealReads answers true at every code. -/
import Derived.Test.YtimnhgncnhmgcaaDealF2
namespace Go.Proofs.Ytimnhgncnhmgcaa
open Go.RowKit

set_option maxRecDepth 100000 in
set_option maxHeartbeats 8000000 in
theorem lawReads_any (v : Value) (n : Nat) (w : World) (hv : BytesAt w v n) :
    Calls Try.prog 6 #[v] w fun e w' => e = .returned (.bool true) ∧ Below w.heap.size w w' := by
  have HV := hide hv
  obtain ⟨a, cap, rfl, h1, h2, h3⟩ := hv
  unfold maxLen at h2
  clear h3
  by_cases hn : 1048576 < (n : Int)
  · go_enter Try.func6, Try.ntmps6
    go_wp2_with fail
    go_ret
    exact ⟨rfl, Below.refl _ _⟩
  obtain ⟨i0, hi, hz0, hz1, hz2⟩ := info_parts Try.infoSt
  go_enter Try.func6, Try.ntmps6
  go_wp2_with fail
  refine (drawRun_any _ n w (unhide HV)).mono ?_; rintro e w1 ⟨r, s, ss, ps, rfl, hx, hy, hxl, hyl, b1⟩
  clear HV h1 h2
  have HB1 := hide b1
  have HY1 := hide hy
  obtain ⟨ax, cx, rfl, hx1, hx2, hx3⟩ := hx
  have HX3 := hide hx3
  clear hx3 hy b1
  generalize hM : ss.length = M at *
  have HM := hide hM
  clear hM
  unfold maxLen at hx2
  go_wp2_with fail
  go_loopw [5, 6] (fun r i wr => ∃ k : Nat, k ≤ M ∧ i = .int .i64 k ∧ wr.ownsRow w1.heap.size 33 3 r (lookF (ss.take k)).length (stFlat (lookF (ss.take k))) ∧ Below w1.heap.size w1 wr) (fun _ i _ => M - (intOf i).toNat)
  case atStart => exact ⟨0, Nat.zero_le _, rfl, World.ownsRow_made w1 #[] 0 (Nat.le_refl _) (by simp [maxLen]) (by simp), (Below.refl _ _).alloc (Nat.le_refl _) _⟩
  case round =>
    obtain ⟨k, hk, rfl, hown, hb⟩ := hrel
    have hfl : (lookF (ss.take k)).length ≤ k := by have := List.length_filter_le (isLook) (ss.take k); have := List.length_take_le k ss; simp only [lookF]; omega
    by_cases hlt : k < M
    · obtain ⟨b, off, rfl, hc⟩ : ∃ b off, ax = some ⟨b, off, none⟩ ∧ StCells w1 b off M ss := by
        rcases unhide HX3 with h3 | h3
        · have := unhide HM; subst h3; simp at this; omega
        · exact h3
      obtain ⟨c0, c1, c2⟩ := (hc.kept hb) k hlt
      have hst : lookF (ss.take (k + 1)) = lookF (ss.take k) ++ (if isLook (ss.getD k St.z) = true then [ss.getD k St.z] else []) := by
        exact filter_take_getD (p := isLook) (by rw [unhide HM]; exact hlt)
      generalize ss.getD k St.z = x at *
      have HST := hide hst
      have hkI : (k : Int) < (M : Int) := by omega
      have hk0' : (0 : Int) ≤ (k : Int) := by omega
      clear hc hst
      have hzr := hb.size
      have HOW := hide hown
      have HBR := hide hb
      clear hown hb
      generalize lookF (ss.take k) = F at *
      have hFl : F.length ≤ 8 := by omega
      by_cases hop : x.op = 1
      · have e1 : (x.op == 1) = true := by simpa using hop
        have HOP : Hid (isLook x = true) := by show (x.op == 1 || x.op == 4) = true; rw [e1]; rfl
        clear hop
        go_wp2_with (at_builtin; refine wpList_append_lies _ rfl _ _ 23 rfl w1.heap.size 33 i0 (.agg #[.int .i64 0, .int .i64 0, .int .i64 0]) 3 24 Try.underlying23 hi hz0 hz1 hz2 rfl (by decide) _ F.length _ rfl ((unhide HOW).alloc _) ⟨wr.heap.size, 0, none⟩ 1 1 [.int .i64 x.op, .int .i64 x.key, .int .i64 x.num] rfl rfl (World.news_of_block (heap_alloc_new _ _)) (by simp [Value.oneCell']) (by decide) (by unfold maxLen; omega) (by omega) (by simp; omega) (wr.heap.size + 1) (by simp) ?_; intro ga cp w9 hown2 hgrow hat hlt2)
        have hbw : Below w1.heap.size w1 w9 := Below.grown ((unhide HBR).alloc hzr _) hgrow (by simp; omega) (fun q hq => ((unhide HOW).lt q hq).1)
        go_roundw
        case rel =>
          refine ⟨k + 1, hlt, by go_num, ?_, hbw⟩
          rw [unhide HST, if_pos (unhide HOP), stFlat_append, List.length_append]; exact hown2
        case measure => simp [intOf]; omega
      by_cases hop4 : x.op = 4
      · have e1 : (x.op == 1) = false := by simpa using hop
        have e4 : (x.op == 4) = true := by simpa using hop4
        have HOP : Hid (isLook x = true) := by show (x.op == 1 || x.op == 4) = true; rw [e4]; simp
        clear hop hop4
        go_wp2_with (at_builtin; refine wpList_append_lies _ rfl _ _ 23 rfl w1.heap.size 33 i0 (.agg #[.int .i64 0, .int .i64 0, .int .i64 0]) 3 24 Try.underlying23 hi hz0 hz1 hz2 rfl (by decide) _ F.length _ rfl ((unhide HOW).alloc _) ⟨wr.heap.size, 0, none⟩ 1 1 [.int .i64 x.op, .int .i64 x.key, .int .i64 x.num] rfl rfl (World.news_of_block (heap_alloc_new _ _)) (by simp [Value.oneCell']) (by decide) (by unfold maxLen; omega) (by omega) (by simp; omega) (wr.heap.size + 1) (by simp) ?_; intro ga cp w9 hown2 hgrow hat hlt2)
        have hbw : Below w1.heap.size w1 w9 := Below.grown ((unhide HBR).alloc hzr _) hgrow (by simp; omega) (fun q hq => ((unhide HOW).lt q hq).1)
        go_roundw
        case rel =>
          refine ⟨k + 1, hlt, by go_num, ?_, hbw⟩
          rw [unhide HST, if_pos (unhide HOP), stFlat_append, List.length_append]; exact hown2
        case measure => simp [intOf]; omega
      · have e1 : (x.op == 1) = false := by simpa using hop
        have e4 : (x.op == 4) = false := by simpa using hop4
        have HOP : Hid (¬ isLook x = true) := by show ¬ ((x.op == 1 || x.op == 4) = true); rw [e1, e4]; simp
        clear hop hop4
        go_wp2_with fail
        go_roundw
        case rel =>
          refine ⟨k + 1, hlt, by go_num, ?_, unhide HBR⟩
          rw [unhide HST, if_neg (unhide HOP), List.append_nil]; exact unhide HOW
        case measure => simp [intOf]; omega
    · obtain rfl : k = M := by omega
      have hfull : lookF (ss.take k) = lookF ss := by rw [List.take_of_length_le (by rw [unhide HM]; omega)]
      rw [hfull] at hown hfl
      have hx := (owned_sts hown).1
      have hy := (unhide HY1).kept hb
      have b1 := (unhide HB1).trans (hb.mono (unhide HB1).size)
      have hmem := lookF_mem ss
      clear hfull hown hb HY1 HB1 HX3 HM hi hz0 hz1 hz2
      generalize lookF ss = D at *
      have hcs := dealM_cases D ps
      have hgl := dealM_got D ps
      have hcl := dealM_ch D ps
      have HFIN := hide (looks_fin (ps := ps) hmem)
      clear hmem
      go_wp2_with fail
      refine (specRun_any _ _ D ps _ hx hy).mono ?_; rintro e w2 ⟨a2, c2, rfl, ho2, h2⟩
      have b2 := b1.trans (h2.mono b1.size)
      have hx2 := hx.kept h2
      have hy2 := hy.kept h2
      have hg2 := GotAt.of ho2
      clear ho2 hx hy
      go_wp2_with fail
      refine (implRun_any _ _ D ps _ hx2 hy2).mono ?_; rintro e w3 ⟨a3, c3, rfl, ho3, h3⟩
      have b3 := b2.trans (h3.mono b2.size)
      have hx3 := hx2.kept h3
      have hy3 := hy2.kept h3
      have hg23 := hg2.kept h3
      have hg3 := GotAt.of ho3
      clear ho3 hx2 hy2 hg2 h2 h3 b1 b2
      have hei := eqIns_self (gotM (dealM D ps))
      have hep := eqPrs_self (chM (dealM D ps))
      have hcc := code_ne (a := codeM (dealM D ps))
      have hce := code_eq (a := codeM (dealM D ps))
      generalize hR : dealM D ps = R at *
      have HR := hide hR
      clear hR
      generalize hK : codeM R = K at *
      have HK := hide hK
      clear hK
      go_wp2_with fail
      refine (loIns_any _ _ _ _ _ hg3.got hg23.got).mono ?_; rintro e w4 ⟨rfl, h4⟩
      have b4 := b3.trans (h4.mono b3.size)
      have hx4 := hx3.kept h4
      have hy4 := hy3.kept h4
      have hg4 := hg3.kept h4
      have hg24 := hg23.kept h4
      clear hx3 hy3 hg3 hg23 h4 b3
      go_wp2_with fail
      refine (loPrs_any _ _ _ _ _ hg4.ch hg24.ch).mono ?_; rintro e w5 ⟨rfl, h5⟩
      have b5 := b4.trans (h5.mono b4.size)
      have hx5 := hx4.kept h5
      have hy5 := hy4.kept h5
      have hg5 := hg4.kept h5
      have hg25 := hg24.kept h5
      clear hx4 hy4 hg4 hg24 h5 b4
      obtain ⟨ai, ci, rfl, -⟩ := hg5.got.shapeD
      obtain ⟨ap, cp, rfl, -⟩ := hg5.ch.slice
      obtain ⟨hcn, hk2, hgot⟩ := unhide HFIN
      have ek2 : (K != 2) = true := by simpa using hk2
      have HY5 := hide hy5
      have HB5 := hide b5
      have HGO := hide hgot
      have HGI := hide hg5.got
      rw [hcn]
      clear HFIN hy5 hcn hg5 hg25 b5 hcs HR HK hcl hei hep hk2 hgot
      obtain ⟨ax2, cx2, rfl, hx1, hx2, hx3⟩ := hx5
      have HX3 := hide hx3
      clear hx3
      generalize hM : D.length = m at *
      have HM := hide hM
      clear hM
      unfold maxLen at hx2
      by_cases hK0 : K = 0
      · have ek0 : (K == 0) = true := by simpa using hK0
        have hgot := unhide HGO hK0
        have HGI2 := unhide HGI
        rw [hgot] at HGI2 ⊢
        clear hK0 hgot HGI HGO hgl
        have HGI3 := hide HGI2
        obtain ⟨ag, cg, hag, hg1, hg2, hg3⟩ := HGI2
        unfold maxLen at hg2
        have HAG := hide hag
        have HG3 := hide hg3
        clear hag hg3
        generalize hGL : (List.map (fun x => getP ps x.key) (List.filter (fun x => x.op == 1) D)) = GL at *
        have HGL := hide hGL
        clear hGL
        generalize hGN : GL.length = gn at *
        have HGN := hide hGN
        clear hGN
        have hai : ai = ag ∧ ci = cg := by have := unhide HAG; simpa using this
        obtain ⟨rfl, rfl⟩ := hai
        clear HAG HGI3
        go_wp2_with fail
        go_loopw [13, 14] (fun c i wr => ∃ k : Nat, k ≤ m ∧ i = .int .i64 k ∧ c = .int .i64 (gets (D.take k) : Nat) ∧ Below w5.heap.size w5 wr) (fun _ i _ => m - (intOf i).toNat)
        case atStart => exact ⟨0, Nat.zero_le _, rfl, rfl, Below.refl _ _⟩
        case round =>
          obtain ⟨k2, hk2, rfl, rfl, hb⟩ := hrel
          have hgle : gets (D.take k2) ≤ k2 := by have := gets_le (D.take k2); have := List.length_take_le k2 D; omega
          by_cases hlt : k2 < m
          · obtain ⟨b, off, rfl, hc⟩ : ∃ b off, ax2 = some ⟨b, off, none⟩ ∧ StCells w5 b off m D := by
              rcases unhide HX3 with h3 | h3
              · have := unhide HM; subst h3; simp at this; omega
              · exact h3
            obtain ⟨c0, c1, c2⟩ := (hc.kept hb) k2 hlt
            have hgt := gets_take (ss := D) (k := k2) (by rw [unhide HM]; exact hlt)
            have hat := gets_at (ps := ps) (D := D) (k := k2) (by rw [unhide HM]; exact hlt)
            rw [unhide HGL, unhide HGN] at hat
            have HYR : Hid (PrsAt wr s ps) := (unhide HY5).kept hb
            generalize D.getD k2 St.z = x at *
            have HGT := hide hgt
            have HBR := hide hb
            have hkI : (k2 : Int) < (m : Int) := by omega
            have hk0' : (0 : Int) ≤ (k2 : Int) := by omega
            clear hc hgt
            by_cases h1 : x.op = 1
            · have e1 : (x.op == 1) = true := by simpa using h1
              obtain ⟨hat1, hat2⟩ := hat h1
              generalize gets (D.take k2) = J at *
              obtain ⟨bg, og, rfl, hgc⟩ : ∃ bg og, ai = some ⟨bg, og, none⟩ ∧ (∀ i, i < gn → wr.cell? ⟨bg, og + i, none⟩ = some (.int .i64 (GL.getD i 0))) := by
                rcases unhide HG3 with h3 | ⟨bg, og, rfl, h3⟩
                · have := unhide HGN; subst h3; simp at this; omega
                · exact ⟨bg, og, rfl, fun i hi => cell_kept hb (h3 i hi)⟩
              have d0 := hgc J hat1
              rw [hat2] at d0
              have hJI : (J : Int) < (gn : Int) := by omega
              have hJ0 : (0 : Int) ≤ (J : Int) := by omega
              have hJg : decide (gn ≤ J) = false := by simp; omega
              have hnn : (getP ps x.key != getP ps x.key) = false := by simp
              have H1 := hide h1
              clear h1 hat hgc hat1 hat2 hb
              go_wp2_with fail
              go_quiet ((go_at_call 20; exact Calls.quiet_of_same (loGet_any _ ps _ _ (unhide HYR))))
              go_wp2_with fail
              go_roundw
              case rel => exact ⟨k2 + 1, hlt, by go_num, by rw [unhide HGT, if_pos (unhide H1)]; go_num, below_drewN (unhide HBR) _⟩
              case measure => simp [intOf]; omega
            · have e1 : (x.op == 1) = false := by simpa using h1
              have H1 := hide h1
              clear h1 hat hb
              go_wp2_with fail
              go_roundw
              case rel => exact ⟨k2 + 1, hlt, by go_num, by rw [unhide HGT, if_neg (unhide H1)]; rfl, unhide HBR⟩
              case measure => simp [intOf]; omega
          · obtain rfl : k2 = m := by omega
            have hfin := (unhide HB5).trans (hb.mono (unhide HB5).size)
            go_wp2_with fail
            go_ret
            exact ⟨rfl, hfin⟩
      · have ek0 : (K == 0) = false := by simpa using hK0
        clear hK0
        go_wp2_with fail
        go_loopw [13, 14] (fun c i wr => i = .int .i64 0 ∧ c = .int .i64 0 ∧ wr = w5) (fun _ i _ => 0)
        case atStart => exact ⟨rfl, rfl, rfl⟩
        case round =>
          obtain ⟨rfl, rfl, rfl⟩ := hrel
          by_cases hm0 : 0 < m
          · have hm1 : (0 : Int) < (m : Int) := by omega
            go_wp2_with fail
            go_ret
            exact ⟨rfl, unhide HB5⟩
          · obtain rfl : m = 0 := by omega
            go_wp2_with fail
            go_ret
            exact ⟨rfl, unhide HB5⟩

end Go.Proofs.Ytimnhgncnhmgcaa
