/- The law FnExactWordPack answers true. -/
import Derived.Test.YtfankbnlgmfdjaaLawWd1
import Derived.Test.YtfankbnlgmfdjaaWdTR
import Derived.Test.YtfankbnlgmfdjaaPkT
import Derived.Test.YtfankbnlgmfdjaaPkS2
import Derived.Test.YtfankbnlgmfdjaaPkI3
namespace Go.Proofs.Ytfankbnlgmfdjaa
open Go.RowKit

/-- The cells C are those of W in rows of one's own. -/
structure WordR (W : Wd) (w : World) (C : Array Value) (g1 g2 g3 : Nat) : Prop where
  eq : C = wdC W (.slice (some ⟨g1, 0, none⟩) W.slots.length W.slots.length) (.slice (some ⟨g2, 0, none⟩) W.prs.length W.prs.length) (.slice (some ⟨g3, 0, none⟩) W.vals.length W.vals.length)
  r1 : InsAtR w g1 W.slots
  r2 : PrsAtR w g2 W.prs
  r3 : InsAtR w g3 W.vals
  o12 : g1 < g2
  o23 : g2 < g3
theorem WordR.kept {W : Wd} {w w' : World} {C : Array Value} {g1 g2 g3 : Nat} (h : WordR W w C g1 g2 g3) (hb : Below w.heap.size w w') : WordR W w' C g1 g2 g3 := ⟨h.eq, h.r1.kept hb, h.r2.kept hb, h.r3.kept hb, h.o12, h.o23⟩
theorem WordR.c {W : Wd} {w : World} {C : Array Value} {g1 g2 g3 : Nat} (h : WordR W w C g1 g2 g3) (ht : W.text.size ≤ maxLen) : WordC W w C := by
  rw [h.eq]; exact .of ⟨h.r1.at_, h.r2.at_, h.r3.at_, ht⟩
theorem toWordRC (W : Wd) (A : Array Value) (w : World) (h : WordC W w A) (hf : WdFit W) :
    Calls Try.prog 17 #[.agg A] w fun e w' => ∃ C g1 g2 g3, e = .returned (.agg C) ∧ WordC W w' C ∧ WordR W w' C g1 g2 g3 ∧ w.heap.size ≤ g1 ∧ Below w.heap.size w w' := by
  obtain ⟨-, -, a, b, c, rfl, h⟩ := h
  have ht := h.text
  exact (toWordR_any W a b c w h hf).mono fun _ _ ⟨g1, g2, g3, h1, h2, h3, h4, h5, h6, h7, h8⟩ => ⟨_, g1, g2, g3, h1, (WordR.mk rfl h2 h3 h4 h6 h7).c ht, ⟨rfl, h2, h3, h4, h6, h7⟩, h5, h8⟩
theorem specPackC (W : Wd) (A : Array Value) (w : World) (h : WordC W w A) :
    Calls Try.prog 9 #[.agg A] w fun e w' => ∃ r, e = .returned r ∧ OwnB w' w.heap.size r (packL W) ∧ Below w.heap.size w w' := by
  obtain ⟨-, -, a, b, c, rfl, h⟩ := h
  obtain ⟨a0, c0, rfl, -⟩ := h.slots.slice
  obtain ⟨a1, c1, rfl, -⟩ := h.prs.shape
  obtain ⟨a2, c2, rfl, -⟩ := h.vals.slice
  obtain ⟨kd, sr, ds, sp, ty, wt, ye, ss, ps, cd, vs, se, nu, ck, tx, sl, ho⟩ := W
  exact specPackC_any kd sr ds sp ty wt ye ss ps cd vs se nu ck tx sl ho a0 a1 a2 c0 c1 c2 w h
theorem implPackC (W : Wd) (A : Array Value) (w : World) (h : WordC W w A) :
    Calls Try.prog 11 #[.agg A] w fun e w' => ∃ r, e = .returned r ∧ OwnB w' w.heap.size r (packL W) ∧ Below w.heap.size w w' := by
  obtain ⟨-, -, a, b, c, rfl, h⟩ := h
  obtain ⟨a0, c0, rfl, -⟩ := h.slots.slice
  obtain ⟨a1, c1, rfl, -⟩ := h.prs.shape
  obtain ⟨a2, c2, rfl, -⟩ := h.vals.slice
  obtain ⟨kd, sr, ds, sp, ty, wt, ye, ss, ps, cd, vs, se, nu, ck, tx, sl, ho⟩ := W
  exact implPackC_any kd sr ds sp ty wt ye ss ps cd vs se nu ck tx sl ho a0 a1 a2 c0 c1 c2 w h
theorem markWordC (W : Wd) (C : Array Value) (g1 g2 g3 : Nat) (w : World) (h : WordR W w C g1 g2 g3) (hf : WdFit W) :
    Calls Try.prog 20 #[.agg C, .int .i64 1] w fun e w' => ∃ q : Int, 0 ≤ q ∧ e = .returned (.int .i64 q) ∧ Fw w w' (fun k => k = g1 ∨ k = g2 ∨ k = g3) := by
  rw [h.eq]; exact markWordR_any W g1 g2 g3 w h.r1 h.r2 h.r3 h.o12 h.o23 hf
theorem pack_len (W : Wd) : (packL W).length ≤ 1000 := by
  unfold packL
  split
  · rename_i h
    have hb := word_bd h
    have h0 := nbsB_len hb.head
    have h1 := nbB_len (n := (W.slots.length : Int)) (by omega) (by have := hb.slots; omega)
    have h2 := nbsB_len hb.slotsB
    have h3 := nbB_len (n := (W.vals.length : Int)) (by omega) (by have := hb.vals; omega)
    have h4 := nbsB_len hb.valsB
    have h5 := nbB_len (n := (W.prs.length : Int)) (by omega) (by have := hb.prs; omega)
    have h6 := nbsB_len (prBd hb.prsB)
    have h7 := prL_length W.prs
    have h8 := textB_length W.text
    have h9 : (headL W).length = 14 := rfl
    have := hb.slots
    have := hb.vals
    have := hb.prs
    have := hb.text
    simp only [List.length_append]
    omega
  · simp
theorem RowAt.fw {α : Type} {enc : α → List Value} {w w' : World} {v : Value} {xs : List α} {S : Nat → Prop} (h : RowAt enc w v xs) (hf : Fw w w' S) (hn : ∀ q, v.ownBlock = some q → ¬ S q) : RowAt enc w' v xs := by
  obtain ⟨a, cap, rfl, h1, h2, h3⟩ := h
  refine ⟨a, cap, rfl, h1, h2, ?_⟩
  rcases h3 with h3 | ⟨b, off, rfl, hc⟩
  · exact .inl h3
  · exact .inr ⟨b, off, rfl, fun j u hu => hf.cell (hn b rfl) (hc j u hu)⟩

set_option maxRecDepth 100000 in
set_option maxHeartbeats 4000000 in
theorem lawPackC (W : Wd) (A : Array Value) (w : World) (h : WordC W w A) :
    Calls Try.prog 6 #[.agg A] w fun e w' => e = .returned (.bool true) ∧ Below w.heap.size w w' := by
  have HU := hide h
  have HSZ := hide h.size
  have HMS := hide (fun ww hk => szWordC W A ww hk)
  have HTO := hide (fun ww hk hf => toWordRC W A ww hk hf)
  have HSP := hide (fun C ww hk => specPackC W C ww hk)
  have HIM := hide (fun C ww hk => implPackC W C ww hk)
  have HEQ := hide (fun C C' ww hk hk' => eqWordC W C C' ww hk hk')
  have HMK := hide (fun C g1 g2 g3 ww hk hf => markWordC W C g1 g2 g3 ww hk hf)
  have hpl := pack_len W
  generalize packL W = P at *
  have bA : Below w.heap.size w (w.alloc (.cells A 39)) := (Below.refl _ _).alloc (Nat.le_refl _) _
  have HA := hide bA
  have HX := hide (Box.made w 39 A)
  clear h bA
  go_enter Try.func6, Try.ntmps6
  go_wp2_with (refine wpList_load_row rfl 39 _ rfl w.heap.size rfl 39 A _ _ (unhide HX).row Try.underlying39 rfl (by rw [unhide HSZ]; kernel_rfl) ?_)
  refine (unhide HMS _ ((unhide HU).kept (unhide HA))).mono ?_; rintro e w1 ⟨r, rfl, hr, hb1⟩
  have HB1 := hide ((unhide HA).trans (hb1.mono (unhide HA).size))
  have HX1 := hide ((unhide HX).kept hb1)
  have HR := hide hr
  clear hb1 HX hr HMS
  by_cases hr0 : r < 0
  · go_wp2_with fail
    go_ret
    exact ⟨rfl, unhide HB1⟩
  have hfit := (unhide HR).resolve_left hr0 |>.2
  have HFT := hide hfit
  clear hfit HR
  go_wp2_with (refine wpList_load_row rfl 39 _ rfl w.heap.size rfl 39 A _ _ (unhide HX1).row Try.underlying39 rfl (by rw [unhide HSZ]; kernel_rfl) ?_)
  refine (unhide HTO _ ((unhide HU).kept (unhide HB1)) (unhide HFT)).mono ?_; rintro e w2 ⟨C2, -, -, -, rfl, hk2, -, -, hb2⟩
  have HB2 := hide ((unhide HB1).trans (hb2.mono (unhide HB1).size))
  have HX2 := hide ((unhide HX1).kept hb2)
  have HK2 := hide hk2
  clear hb2 hk2 HX1
  go_wp2_with fail
  refine (unhide HSP _ _ (unhide HK2)).mono ?_; rintro e w3 ⟨v1, rfl, ho3, hb3⟩
  have HB3 := hide ((unhide HB2).trans (hb3.mono (unhide HB2).size))
  have HX3 := hide ((unhide HX2).kept hb3)
  have HV3 := hide ho3.at
  have HVB : Hid (∀ q, v1.ownBlock = some q → q < w3.heap.size) := fun q e => (ho3.lt q e).2
  clear ho3 hb3 HX2 HK2 HSP
  go_wp2_with (refine wpList_load_row rfl 39 _ rfl w.heap.size rfl 39 A _ _ (unhide HX3).row Try.underlying39 rfl (by rw [unhide HSZ]; kernel_rfl) ?_)
  refine (unhide HTO _ ((unhide HU).kept (unhide HB3)) (unhide HFT)).mono ?_; rintro e w4 ⟨C4, g1, g2, g3, rfl, hk4, hr4, hg4, hb4⟩
  have z34 := hb4.size
  have HO4 := hide (Box.made w4 28 C4)
  have bB : Below w4.heap.size w4 (w4.alloc (.cells C4 28)) := (Below.refl _ _).alloc (Nat.le_refl _) _
  have b4 := (unhide HB3).trans (hb4.mono (unhide HB3).size)
  have HB4 := hide (b4.trans (bB.mono b4.size))
  have HX4 := hide (((unhide HX3).kept hb4).kept bB)
  have HK4 := hide (hk4.kept bB)
  have HR4 := hide (hr4.kept bB)
  have HG4 : Hid (g1 < w4.heap.size ∧ g2 < w4.heap.size ∧ g3 < w4.heap.size ∧ w3.heap.size ≤ g1 ∧ g1 < g2 ∧ g2 < g3) := ⟨hr4.r1.lt, hr4.r2.lt, hr4.r3.lt, hg4, hr4.o12, hr4.o23⟩
  have HV4 := hide (((unhide HV3).kept hb4).kept bB)
  have HS4 := hide hk4.size
  have HO4' := hide hk4.one
  have lx4 := ((unhide HX3).kept hb4).lt
  have lx3 := (unhide HX3).lt
  clear hb4 hk4 hr4 hg4 bB b4 HX3 HV3
  go_wp2_with (first | (refine wpList_store_row rfl 28 _ _ rfl w4.heap.size C4 rfl rfl 28 _ (heap_alloc_new _ _) (by rw [unhide HS4]; kernel_rfl) (by rw [unhide HS4]; rfl) (unhide HO4') ?_; rw [setRow_alloc_new]) | (refine wpList_load_row rfl 28 _ rfl w4.heap.size rfl 28 C4 _ _ (unhide HO4).row Try.underlying28 rfl (by rw [unhide HS4]; kernel_rfl) ?_))
  refine (unhide HIM _ _ (unhide HK4)).mono ?_; rintro e w5 ⟨v2, rfl, ho5, hb5⟩
  have HB5 := hide ((unhide HB4).trans (hb5.mono (unhide HB4).size))
  have HX5 := hide ((unhide HX4).kept hb5)
  have HO5 := hide ((unhide HO4).kept hb5)
  have HK5 := hide ((unhide HK4).kept hb5)
  have HR5 := hide ((unhide HR4).kept hb5)
  have HV5 := hide ((unhide HV4).kept hb5)
  have HW5 := hide ho5.at
  have HY5 := hide ho5.oin
  have HWB : Hid (∀ q, v2.ownBlock = some q → w4.heap.size < q) := fun q e => by have := (ho5.lt q e).1; simp at this; omega
  clear hb5 HX4 HO4 HK4 HR4 HV4 ho5
  go_wp2_with fail
  refine (eqBytes_same _ _ P _ (unhide HW5) (unhide HV5)).mono ?_; rintro e w6 ⟨rfl, hb6⟩
  have HB6 := hide ((unhide HB5).trans (hb6.mono (unhide HB5).size))
  have HX6 := hide ((unhide HX5).kept hb6)
  have HO6 := hide ((unhide HO5).kept hb6)
  have HK6 := hide ((unhide HK5).kept hb6)
  have HR6 := hide ((unhide HR5).kept hb6)
  have HV6 := hide ((unhide HV5).kept hb6)
  have HW6 := hide ((unhide HW5).kept hb6)
  have HY6 := hide ((unhide HY5).kept hb6)
  clear hb6 HX5 HO5 HK5 HR5 HV5 HW5 HY5
  go_wp2_with fail
  refine wp_region_held_drew (S := fun w' => Box w' w.heap.size 39 A ∧ Box w' w4.heap.size 28 C4) (by kernel_rfl) ⟨⟨(unhide HX6).row⟩, ⟨(unhide HO6).row⟩⟩ (fun hHeld => ?_)
  refine wpAnyH_take (i := 0) (v := .agg C4) rfl (by kernel_rfl) (by kernel_rfl) (by kernel_rfl) (fun _ _ _ h => h) (Or.inl ⟨by rfl, ?ha⟩) (by assumption) ?_
  case ha => exact fun w0 hSw => load_yields 28 (.tmp 5) rfl rfl hSw.2 Try.underlying28 (by rw [unhide HS4]; kernel_rfl)
  try simp only [Act.put]
  refine wpAnyH_take (i := 1) (v := .agg A) rfl (by kernel_rfl) (by kernel_rfl) (by kernel_rfl) (fun _ _ _ h => h) (Or.inl ⟨by rfl, ?hb⟩) (by assumption) ?_
  case hb => exact fun w0 hSw => load_yields 39 (.tmp 1) rfl rfl hSw.1 Try.underlying39 (by rw [unhide HSZ]; kernel_rfl)
  try simp only [Act.put]
  refine wpAnyH_ready (rs := [2]) (by kernel_rfl) (by simp) ?_
  refine AllReadyH.cons rfl (fun K hK => ?_) AllReadyH.nil
  go_simp
  go_at_call 17
  refine (unhide HTO _ ((unhide HU).kept (unhide HB6).drew) (unhide HFT)).mono ?_; rintro e w7 ⟨C7, -, -, -, rfl, hk7, -, -, hb7⟩
  have hb7' : Below w6.heap.size w6 w7 := ((Below.refl _ _).drew).trans hb7
  have HK7 := hide hk7
  have HB7 := hide hb7'
  clear hk7 hb7 hb7'
  try go_wp2_with fail
  clear hHeld
  refine hK.out _ _ ⟨(unhide HX6).kept (unhide HB7), (unhide HO6).kept (unhide HB7)⟩ (fun hHeld => ?_)
  clear hK K
  refine wpAnyH_ready (rs := [3]) (by kernel_rfl) (by simp) ?_
  refine AllReadyH.cons rfl (fun K hK => ?_) AllReadyH.nil
  go_simp
  go_at_call 18
  refine (unhide HEQ _ _ _ ((unhide HK6).kept (unhide HB7)) (unhide HK7)).mono ?_; rintro e w8 ⟨rfl, hb8⟩
  have HB68 := hide ((unhide HB7).trans (hb8.mono (unhide HB7).size))
  clear hb8
  try go_wp2_with fail
  clear hHeld
  refine hK.out _ _ ⟨(unhide HX6).kept (unhide HB68), (unhide HO6).kept (unhide HB68)⟩ (fun hHeld => ?_)
  clear hK K
  refine wpAnyH_take (i := 4) (v := ?v4) rfl (by kernel_rfl) (by kernel_rfl) (by kernel_rfl) (fun _ _ _ h => h) (Or.inl ⟨by rfl, ?hc⟩) (by assumption) ?_
  case hc => (intro w0 hSw; (try dsimp only at hSw); go_simp; try (with_reducible rfl))
  try simp only [Act.put]
  refine wpAnyH_done (by kernel_rfl) ?_ _
  clear hHeld
  have HB8 := hide ((unhide HB6).trans ((unhide HB68).mono (unhide HB6).size))
  have HX8 := hide ((unhide HX6).kept (unhide HB68))
  have HO8 := hide ((unhide HO6).kept (unhide HB68))
  have HR8 := hide ((unhide HR6).kept (unhide HB68))
  have HV8 := hide ((unhide HV6).kept (unhide HB68))
  have HW8 := hide ((unhide HW6).kept (unhide HB68))
  have HY8 := hide ((unhide HY6).kept (unhide HB68))
  clear HX6 HO6 HK6 HR6 HV6 HW6 HY6 HB7 HK7 HB68 HEQ
  go_wp2_with (refine wpList_load_row rfl 28 _ rfl w4.heap.size rfl 28 C4 _ _ (unhide HO8).row Try.underlying28 rfl (by rw [unhide HS4]; kernel_rfl) ?_)
  refine (unhide HMK _ _ _ _ _ (unhide HR8) (unhide HFT)).mono ?_; rintro e w9 ⟨q, hq0, rfl, hf9⟩
  obtain ⟨y1, y2, y3, y4, y5, y6⟩ := unhide HG4
  have z9 := hf9.size
  have lxA := (unhide HX8).lt
  have hlow : ∀ k, k < w3.heap.size → ¬ (k = g1 ∨ k = g2 ∨ k = g3) := fun k hk e => by omega
  have hhigh : ∀ k, w4.heap.size < k → ¬ (k = g1 ∨ k = g2 ∨ k = g3) := fun k hk e => by omega
  have zw : w.heap.size < w3.heap.size := lx3
  have HB9 := hide (hf9.below (unhide HB8) (Nat.le_of_lt lxA) (fun k hk => hlow k (by omega)))
  have HX9 := hide (hf9.box (unhide HX8) (hlow _ zw))
  have HV9 := hide ((unhide HV8).fw hf9 (fun q e => hlow q (unhide HVB q e)))
  have HW9 := hide ((unhide HW8).fw hf9 (fun q e => hhigh q (unhide HWB q e)))
  have HY9 : Hid (OwnIn w9 v2 P.length (w4.heap.size + 1)) := by
    rcases unhide HY8 with h | ⟨g, cap, hv, hl, hlt, hr⟩
    · exact .inl h
    · have hg := unhide HWB g (by rw [hv]; rfl)
      refine .inr ⟨g, cap, hv, hg, Nat.lt_of_lt_of_le hlt z9, fun j hj => ?_⟩
      obtain ⟨⟨u, hu⟩, hfz⟩ := hr j hj
      refine ⟨⟨u, hf9.cell (hhigh g hg) hu⟩, ?_⟩
      have hbk := hf9.block g hlt (hhigh g hg)
      simp only [World.frozen?] at hfz ⊢
      rw [hbk]; exact hfz
  clear hf9 hlow hhigh HX8 HO8 HR8 HV8 HW8 HY8 HMK y1 y2 y3 y4 y5 y6
  go_wp2_with fail
  refine (eqBytes_same _ _ P _ (unhide HW9) (unhide HV9)).mono ?_; rintro e wa ⟨rfl, hba⟩
  have HBa := hide ((unhide HB9).trans (hba.mono (unhide HB9).size))
  have HXa := hide ((unhide HX9).kept hba)
  have HVa := hide ((unhide HV9).kept hba)
  have HYa := hide ((unhide HY9).kept hba)
  clear hba HX9 HV9 HW9 HY9
  generalize hPN : P.length = N at *
  have HPN := hide hPN
  clear hPN
  go_wp2_with fail
  refine (markBytes_any v2 N _ 1 wa (by omega) (by omega) (by omega) (unhide HYa)).mono ?_; rintro e wb ⟨rfl, hgb, av, cv, hv2, hmk⟩
  have zb := hgb.size
  have HBb : Hid (Below w.heap.size w wb) := Below.grown (unhide HBa) hgb (unhide HBa).size (fun q e => by have := unhide HWB q e; omega)
  have HXb := hide ((unhide HXa).far hgb (fun e => by have := unhide HWB _ e.symm; omega))
  have HVb := hide ((unhide HVa).fw (fw_gr hgb) (fun q e e' => by have := unhide HVB q e; have := unhide HWB q e'; omega))
  have HMb := hide hmk
  have HUb := hide ((unhide HU).kept (unhide HBb))
  clear hgb HXa HVa HYa hmk
  subst hv2
  go_wp2_with fail
  refine (heldBytes_any av N cv 1 wb (by omega) (by omega) (by omega) (unhide HMb)).mono ?_; rintro e wb' ⟨rfl, rfl⟩
  have hnn : (1 + (N : Int) != 1 + (N : Int)) = false := by simp
  go_wp2_with (refine wpList_load_row rfl 39 _ rfl w.heap.size rfl 39 A _ _ (unhide HXb).row Try.underlying39 rfl (by rw [unhide HSZ]; kernel_rfl) ?_)
  refine (unhide HTO _ (unhide HUb) (unhide HFT)).mono ?_; rintro e wc ⟨C9, -, -, -, rfl, hkc, -, -, hbc⟩
  have HBbc := hide hbc
  have HKc := hide hkc
  clear hbc hkc
  go_wp2_with fail
  refine (unhide HIM _ _ (unhide HKc)).mono ?_; rintro e wd ⟨v3, rfl, hod, hbd⟩
  have HBbd := hide ((unhide HBbc).trans (hbd.mono (unhide HBbc).size))
  have HWd := hide hod.at
  clear hod hbd HKc
  go_wp2_with fail
  refine (eqBytes_same _ _ P _ (unhide HWd) ((unhide HVb).kept (unhide HBbd))).mono ?_; rintro e we ⟨rfl, hbe⟩
  have HBbe := hide ((unhide HBbd).trans (hbe.mono (unhide HBbd).size))
  clear hbe
  go_wp2_with fail
  refine (heldBytes_any av N cv 1 we (by omega) (by omega) (by omega) ?_).mono ?_
  · rcases unhide HMb with h | ⟨g, h1, h2⟩
    · exact .inl h
    · exact .inr ⟨g, h1, fun i hi => cell_kept (unhide HBbe) (h2 i hi)⟩
  rintro e we' ⟨rfl, rfl⟩
  go_wp2_with fail
  go_ret
  exact ⟨rfl, (unhide HBb).trans ((unhide HBbe).mono (unhide HBb).size)⟩

theorem lawPack_any (W : Wd) (a b c : Value) (w : World) (h : WdAt w W a b c) :
    Calls Try.prog 6 #[wdV W a b c] w fun e w' => e = .returned (.bool true) ∧ Below w.heap.size w w' := lawPackC W _ w (.of h)

end Go.Proofs.Ytfankbnlgmfdjaa
