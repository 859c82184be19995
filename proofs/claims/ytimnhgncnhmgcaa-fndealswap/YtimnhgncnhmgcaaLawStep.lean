/- The law FnDealStep answers true at every code. -/
import Derived.Test.YtimnhgncnhmgcaaDealS
import Derived.Test.YtimnhgncnhmgcaaAppK
namespace Go.Proofs.Ytimnhgncnhmgcaa
open Go.RowKit

theorem StsAt.takeK {w : World} {b off N cx : Nat} {D : List St} (h : StsAt w (.slice (some ⟨b, off, none⟩) N cx) D) (hN : D.length = N) {C : Nat} (hC : C ≤ N) : StsAt w (.slice (some ⟨b, off, none⟩) C cx) (D.take C) := by
  obtain ⟨a, cap, he, h1, h2, h3⟩ := h
  simp at he
  obtain ⟨rfl, _, rfl⟩ := he
  have hl : (D.take C).length = C := by simp; omega
  refine ⟨_, cx, by rw [hl], by omega, h2, ?_⟩
  rcases h3 with h3 | ⟨b', off', he, hc⟩
  · left; rw [h3]; simp
  · right
    refine ⟨b', off', he, fun i hi => ?_⟩
    rw [hl] at hi
    have := hc i (by omega)
    have e : (D.take C).getD i St.z = D.getD i St.z := by simp [List.getD, hi]
    rw [e]; exact this

theorem StsAt.dropK {w : World} {b off N cx : Nat} {D : List St} (h : StsAt w (.slice (some ⟨b, off, none⟩) N cx) D) (hN : D.length = N) {C : Nat} (hC : C ≤ N) : StsAt w (.slice (some ⟨b, off + C * 3, none⟩) (N - C) (cx - C)) (D.drop C) := by
  obtain ⟨a, cap, he, h1, h2, h3⟩ := h
  simp at he
  obtain ⟨rfl, _, rfl⟩ := he
  have hl : (D.drop C).length = N - C := by simp; omega
  refine ⟨_, cx - C, by rw [hl], by omega, by omega, ?_⟩
  rcases h3 with h3 | ⟨b', off', he, hc⟩
  · left; rw [h3]; simp
  · right
    simp at he
    obtain ⟨rfl, rfl⟩ := he
    refine ⟨b, off + C * 3, rfl, fun i hi => ?_⟩
    rw [hl] at hi
    have := hc (C + i) (by omega)
    have e : (D.drop C).getD i St.z = D.getD (C + i) St.z := by simp [List.getD]
    rw [e, show off + C * 3 + i * 3 = off + (C + i) * 3 by omega]; exact this

theorem InsAt.src {w : World} {ad : Option Addr} {m c : Nat} {xs : List Int} (h : InsAt w (.slice ad m c) xs) : m = xs.length ∧ SrcAt w ad xs.length (xs.map (Value.int .i64)) := by
  obtain ⟨a, cap, he, h1, h2, h3⟩ := h
  simp at he
  obtain ⟨rfl, rfl, rfl⟩ := he
  refine ⟨rfl, ?_⟩
  rcases h3 with rfl | ⟨b, off, rfl, hc⟩
  · exact .inl ⟨rfl, rfl⟩
  · rcases Nat.eq_zero_or_pos xs.length with h0 | hp
    · left; exact ⟨h0, by rw [List.eq_nil_of_length_eq_zero h0]; rfl⟩
    · refine .inr ⟨hp, _, rfl, fun j u hj => ?_⟩
      rw [List.getElem?_map] at hj
      cases hx : xs[j]? with
      | none => rw [hx] at hj; cases hj
      | some x =>
        rw [hx] at hj; cases hj
        have hjl : j < xs.length := (List.getElem?_eq_some_iff.1 hx).1
        have := hc j hjl
        rw [show xs.getD j 0 = x by simp [List.getD, hx]] at this
        by_cases h0 : j = 0
        · subst h0; simpa [Addr.add] using this
        · simpa [Addr.add, h0] using this

theorem cutN (n N : Nat) (h : 2 ≤ N) : ∃ C : Nat, 1 ≤ C ∧ C < N ∧ (1 + (n : Int) % ((N : Int) - 1)) = (C : Int) := by
  refine ⟨1 + n % (N - 1), by omega, ?_, ?_⟩
  · have := Nat.mod_lt n (show N - 1 > 0 by omega); omega
  · have : ((N : Int) - 1) = ((N - 1 : Nat) : Int) := by omega
    rw [this]; simp

set_option maxRecDepth 100000 in
set_option maxHeartbeats 2000000 in
theorem lawStep_any (v u : Value) (n n2 : Nat) (w : World) (hv : BytesAt w v n) (hu : BytesAt w u n2) :
    Calls Try.prog 4 #[v, u] w fun e w' => e = .returned (.bool true) ∧ Below w.heap.size w w' := by
  have HV := hide hv
  obtain ⟨a, cap, rfl, h1, h2, h3⟩ := hv
  obtain ⟨a', cap', rfl, h1', h2', h3'⟩ := hu
  unfold maxLen at h2 h2'
  clear h3 h3'
  by_cases hn : 1048576 < (n : Int)
  · go_enter Try.func4, Try.ntmps4
    go_wp2_with fail
    go_ret
    exact ⟨rfl, Below.refl _ _⟩
  by_cases hn2 : 1048576 < (n2 : Int)
  · go_enter Try.func4, Try.ntmps4
    go_wp2_with fail
    go_ret
    exact ⟨rfl, Below.refl _ _⟩
  obtain ⟨i0, hi, hz0, hz1, hz2⟩ := info_parts Try.infoInt2
  go_enter Try.func4, Try.ntmps4
  go_wp2_with fail
  refine (drawRun_any _ n w (unhide HV)).mono ?_; rintro e w1 ⟨r, s, D, ps, rfl, hx, hy, hxl, hyl, b1⟩
  clear HV h1 h2
  have hcs := dealM_cases D ps
  have hgl := dealM_got D ps
  have hcl := dealM_ch D ps
  have HFIN : Hid (∀ (s : Sta) (C : Nat), dealM D ps = .ok s → 1 ≤ C → C < D.length → codeM (dealM (D.take C) ps) = 0 ∧ codeM (dealM (D.drop C) (putP ps (chM (dealM (D.take C) ps)))) = 0 ∧
    gotM (dealM (D.take C) ps) ++ gotM (dealM (D.drop C) (putP ps (chM (dealM (D.take C) ps)))) = gotM (dealM D ps) ∧
    putP (putP ps (chM (dealM (D.take C) ps))) (chM (dealM (D.drop C) (putP ps (chM (dealM (D.take C) ps))))) = putP ps (chM (dealM D ps))) := fun s C h h1 h2 => step_fin h h1 h2
  go_wp2_with fail
  refine (specRun_any _ _ D ps _ hx hy).mono ?_; rintro e w2 ⟨a2, c2, rfl, ho2, h2⟩
  have b2 := b1.trans (h2.mono b1.size)
  have hx2 := hx.kept h2
  have hy2 := hy.kept h2
  have hg2 := GotAt.of ho2
  clear ho2 hx hy
  go_wp2_with fail
  refine (implRun_any _ _ D ps _ hx2 hy2).mono ?_; rintro e w3 ⟨a3, c3, rfl, ho3, h3⟩
  have b3 := b2.trans (h3.mono b2.size)
  have hx3 := hx2.kept h3
  have hy3 := hy2.kept h3
  have hg23 := hg2.kept h3
  have hg3 := GotAt.of ho3
  clear ho3 hx2 hy2 hg2 h2 h3 b1 b2
  have hei := eqIns_self (gotM (dealM D ps))
  have hep := eqPrs_self (chM (dealM D ps))
  have hcc := code_ne (a := codeM (dealM D ps))
  have hce := code_eq (a := codeM (dealM D ps))
  generalize hR : dealM D ps = R at *
  clear hR
  generalize hK : codeM R = K at *
  clear hK
  go_wp2_with fail
  refine (loIns_any _ _ _ _ _ hg3.got hg23.got).mono ?_; rintro e w4 ⟨rfl, h4⟩
  have b4 := b3.trans (h4.mono b3.size)
  have hx4 := hx3.kept h4
  have hy4 := hy3.kept h4
  have hg4 := hg3.kept h4
  have hg24 := hg23.kept h4
  clear hx3 hy3 hg3 hg23 h4 b3
  go_wp2_with fail
  refine (loPrs_any _ _ _ _ _ hg4.ch hg24.ch).mono ?_; rintro e w5 ⟨rfl, h5⟩
  have b5 := b4.trans (h5.mono b4.size)
  have hx5 := hx4.kept h5
  have hy5 := hy4.kept h5
  have hg5 := hg4.kept h5
  have hg25 := hg24.kept h5
  clear hx4 hy4 hg4 hg24 h5 b4
  have hxs := hx5
  obtain ⟨ax, cx, rfl, hx1, hxc, hx3⟩ := hxs
  unfold maxLen at hxc
  rcases hcs with ⟨hk0, -, -, -⟩ | ⟨hk0, sOk, hRs⟩
  · have e0 : (K != 0) = true := by simpa using hk0
    clear hk0 hx3
    go_wp2_with fail
    refine (loIns_any _ _ _ _ _ hg5.got hg25.got).mono ?_; rintro e w6 ⟨rfl, h6⟩
    have b6 := b5.trans (h6.mono b5.size)
    go_wp2_with fail
    refine (loPrs_any _ _ _ _ _ (hg5.kept h6).ch (hg25.kept h6).ch).mono ?_; rintro e w7 ⟨rfl, h7⟩
    go_wp2_with fail
    go_ret
    exact ⟨rfl, b6.trans (h7.mono b6.size)⟩
  have HRS := hide hRs
  clear hRs
  subst hk0
  by_cases hl2 : D.length < 2
  · have hl2' : (D.length : Int) < 2 := by omega
    clear hx3
    go_wp2_with fail
    refine (loIns_any _ _ _ _ _ hg5.got hg25.got).mono ?_; rintro e w6 ⟨rfl, h6⟩
    have b6 := b5.trans (h6.mono b5.size)
    go_wp2_with fail
    refine (loPrs_any _ _ _ _ _ (hg5.kept h6).ch (hg25.kept h6).ch).mono ?_; rintro e w7 ⟨rfl, h7⟩
    go_wp2_with fail
    go_ret
    exact ⟨rfl, b6.trans (h7.mono b6.size)⟩
  obtain ⟨b, off, rfl, hc⟩ : ∃ b off, ax = some ⟨b, off, none⟩ ∧ StCells w5 b off D.length D := by
    rcases hx3 with h3 | h3
    · rw [h3] at hl2; simp at hl2
    · exact h3
  obtain ⟨C, hC1, hC2, hCe⟩ := cutN n2 D.length (by omega)
  obtain ⟨f1, f2, f3, f4⟩ := unhide HFIN sOk C (unhide HRS) hC1 hC2
  have HF1 := hide f1
  have HF2 := hide f2
  have HF3 := hide f3
  have HF4 := hide f4
  have hta := hx5.takeK rfl (Nat.le_of_lt hC2)
  have hdr := hx5.dropK rfl (Nat.le_of_lt hC2)
  have hgla := dealM_got (D.take C) ps
  have hglb := dealM_got (D.drop C) (putP ps (chM (dealM (D.take C) ps)))
  clear f1 f2 f3 f4 HFIN HRS hx5 hc
  generalize hN : D.length = N at *
  clear hN
  have HTA := hide hta
  have HDR := hide hdr
  have hC0 : (0 : Int) ≤ (C : Int) := by omega
  have hCN : (C : Int) ≤ (N : Int) := by omega
  have hCX : (C : Int) ≤ (cx : Int) := by omega
  clear hta hdr
  go_wp2_with fail
  refine (implRun_any _ _ (D.take C) ps _ (unhide HTA) hy5).mono ?_; rintro e w6 ⟨a6, c6, rfl, ho6, h6⟩
  rw [unhide HF1]
  have b6 := b5.trans (h6.mono b5.size)
  have hg6 := GotAt.of ho6
  have hgR6 := hg5.kept h6
  have hy6 := hy5.kept h6
  have HDR6 := hide ((unhide HDR).kept h6)
  clear ho6 HF1 HTA HDR hg5 hg25 hy5 h6 b5
  generalize dealM (D.take C) ps = RA at *
  go_wp2_with fail
  refine (implPut_any _ _ ps (chM RA) _ hy6 hg6.ch).mono ?_; rintro e w7 ⟨g7, rfl, ho7, h7⟩
  have b7 := b6.trans (h7.mono b6.size)
  have hn7 := (owned_prs ho7).1
  have hg7 := hg6.kept h7
  have hgR7 := hgR6.kept h7
  have hy7 := hy6.kept h7
  have HDR7 := hide ((unhide HDR6).kept h7)
  clear ho7 hg6 hgR6 hy6 HDR6 h7 b6
  go_wp2_with fail
  refine (implRun_any _ _ (D.drop C) (putP ps (chM RA)) _ (unhide HDR7) hn7).mono ?_; rintro e w8 ⟨a8, c8, rfl, ho8, h8⟩
  rw [unhide HF2]
  have b8 := b7.trans (h8.mono b7.size)
  have hg8 := hg7.kept h8
  have hgB8 := GotAt.of ho8
  have hgR8 := hgR7.kept h8
  have hy8 := hy7.kept h8
  have hn8 := hn7.kept h8
  clear ho8 hg7 hgR7 hy7 hn7 HDR7 HF2 h8 b7
  generalize dealM (D.drop C) (putP ps (chM RA)) = RB at *
  obtain ⟨ai, ci, rfl, -⟩ := hg8.got.shapeD
  obtain ⟨aj, cj, rfl, -⟩ := hgB8.got.shapeD
  have HGA := hide hg8.got
  have HGB := hide hgB8.got
  have HCB := hide hgB8.ch
  have HGR := hide hgR8
  have HY8 := hide hy8
  have HN8 := hide hn8
  have HB8 := hide b8
  clear hg8 hgB8 hgR8 hy8 hn8 b8
  go_wp2_with (first
    | (have hh := HO9; clear hh; at_builtin; refine wpList_append_allG (by rfl) _ _ 27 rfl w8.heap.size 3 i0 (.int .i64 0) 1 8 Try.underlying27 hi hz0 hz1 hz2 rfl (by decide) _ (gotM RA).length _ rfl (unhide HO9) aj (gotM RB).length cj ((gotM RB).map (Value.int .i64)) rfl (by simp) (((unhide HGB).kept (unhide HBW9)).src.2) (by simp [Value.oneCell']) (by unfold maxLen; omega) (by omega) ((unhide HBW9).size) w9.heap.size rfl ?_; intro b10 cap10 w10 hown10 hgrow10; have HO10 := hide hown10; have HG10 := hide hgrow10; clear hown10 hgrow10)
    | (at_builtin; refine wpList_append_allG (by rfl) _ _ 27 rfl w8.heap.size 3 i0 (.int .i64 0) 1 8 Try.underlying27 hi hz0 hz1 hz2 rfl (by decide) (.slice (some ⟨w8.heap.size, 0, none⟩) 0 0) 0 [] rfl (World.ownsRow_made w8 #[] 0 (Nat.le_refl _) (by simp [maxLen]) (by simp)) ai (gotM RA).length ci ((gotM RA).map (Value.int .i64)) rfl (by simp) (((unhide HGA).kept ((Below.refl _ _).alloc (Nat.le_refl _) _)).src.2) (by simp [Value.oneCell']) (by unfold maxLen; omega) (by omega) (by simp) (w8.heap.size + 1) (by simp) ?_; intro b9 cap9 w9 hown9 hgrow9; rw [Nat.zero_add] at hown9 ⊢; have HO9 : Hid (w9.ownsRow w8.heap.size 3 1 (.slice b9 (gotM RA).length cap9) (gotM RA).length ((gotM RA).map (Value.int .i64))) := hown9; have HBW9 : Hid (Below w8.heap.size w8 w9) := Below.grown ((Below.refl _ _).alloc (Nat.le_refl _) _) hgrow9 (by simp) (fun q hq => by simp [Value.ownBlock] at hq; omega); clear hown9 hgrow9))
  have hcat : InsAt w10 (.slice b10 ((gotM RA).length + (gotM RB).length) cap10) (gotM RA ++ gotM RB) := by
    have := (owned_ins (xs := gotM RA ++ gotM RB) (base := w8.heap.size) (e := 3) (w := w10) (v := .slice b10 ((gotM RA).length + (gotM RB).length) cap10) (by rw [List.length_append, List.map_append]; exact unhide HO10)).1
    exact this
  have hb10 : Below w8.heap.size w8 w10 := Below.grown (unhide HBW9) (unhide HG10) ((unhide HBW9).size) (fun q hq => ((unhide HO9).lt q hq).1)
  rw [unhide HF3] at hcat
  have b10 := (unhide HB8).trans (hb10.mono (unhide HB8).size)
  refine (loIns_any _ _ _ _ _ hcat ((unhide HGR).kept hb10).got).mono ?_; rintro e w11 ⟨rfl, h11⟩
  have b11 := b10.trans (h11.mono b10.size)
  have hb11 := hb10.trans (h11.mono hb10.size)
  clear hcat HO9 HBW9 HO10 HG10 HGA HGB
  go_wp2_with fail
  refine (implPut_any _ _ (putP ps (chM RA)) (chM RB) _ ((unhide HN8).kept hb11) ((unhide HCB).kept hb11)).mono ?_; rintro e w12 ⟨g12, rfl, ho12, h12⟩
  have b12 := b11.trans (h12.mono b11.size)
  have hb12 := hb11.trans (h12.mono hb11.size)
  have hp12 := (owned_prs ho12).1
  rw [unhide HF4] at hp12
  clear ho12
  go_wp2_with fail
  refine (implPut_any _ _ ps (chM R) _ ((unhide HY8).kept hb12) ((unhide HGR).kept hb12).ch).mono ?_; rintro e w13 ⟨g13, rfl, ho13, h13⟩
  have b13 := b12.trans (h13.mono b12.size)
  have hp13 := (owned_prs ho13).1
  clear ho13
  have hpp := eqPrs_self (putP ps (chM R))
  go_wp2_with fail
  refine (loPrs_any _ _ _ _ _ (hp12.kept h13) hp13).mono ?_; rintro e w14 ⟨rfl, h14⟩
  go_wp2_with fail
  go_ret
  exact ⟨rfl, b13.trans (h14.mono b13.size)⟩

end Go.Proofs.Ytimnhgncnhmgcaa
