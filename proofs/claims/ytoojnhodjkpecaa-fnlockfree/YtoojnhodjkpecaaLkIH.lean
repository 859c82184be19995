/- The program asks for a lock. -/
import Derived.Test.YtoojnhodjkpecaaLkIG
namespace Go.Proofs.Ytoojnhodjkpecaa
open Go.RowKit Go.Shelf

/-- The lock without who asks, and without those from whom it is taken. -/
def askRest (l : Lk) (h : Hd) : Lk := ⟨l.slot, stayL (takesB h) (withoutL l.held h.stamp h.try_), withoutL l.waits h.stamp h.try_⟩
def askGone (l : Lk) (h : Hd) : List Hd := goneL (takesB h) (withoutL l.held h.stamp h.try_)
def badB (h : Hd) : Bool := !holdOkB h || h.firm
def fullB (l : Lk) (h : Hd) : Bool := decide (16 ≤ (askRest l h).held.length + (askRest l h).waits.length)
def askL (l : Lk) (h : Hd) : Lk := if lockOkB l = true then (if (badB h || (standsB l h || fullB l h)) = true then l else letInL (askRest l h) h) else ⟨0, [], []⟩
def askC (l : Lk) (h : Hd) : Bool := lockOkB l && (!badB h && (if standsB l h = true then standsH l h else (!fullB l h && letInC (askRest l h) h)))
def askT (l : Lk) (h : Hd) : List Hd := if (lockOkB l && !(badB h || (standsB l h || fullB l h))) = true then askGone l h else []

theorem ask_no {l : Lk} {h : Hd} (k : lockOkB l = false) : askL l h = ⟨0, [], []⟩ ∧ askC l h = false ∧ askT l h = [] := by simp [askL, askC, askT, k]
theorem ask_bad {l : Lk} {h : Hd} (k : lockOkB l = true) (k1 : badB h = true) : askL l h = l ∧ askC l h = false ∧ askT l h = [] := by simp [askL, askC, askT, k, k1]
theorem ask_stands {l : Lk} {h : Hd} (k : lockOkB l = true) (k1 : badB h = false) (k2 : standsB l h = true) : askL l h = l ∧ askC l h = standsH l h ∧ askT l h = [] := by simp [askL, askC, askT, k, k1, k2]
theorem ask_full {l : Lk} {h : Hd} (k : lockOkB l = true) (k1 : badB h = false) (k2 : standsB l h = false) (k3 : fullB l h = true) : askL l h = l ∧ askC l h = false ∧ askT l h = [] := by simp [askL, askC, askT, k, k1, k2, k3]
theorem ask_let {l : Lk} {h : Hd} (k : lockOkB l = true) (k1 : badB h = false) (k2 : standsB l h = false) (k3 : fullB l h = false) : askL l h = letInL (askRest l h) h ∧ askC l h = letInC (askRest l h) h ∧ askT l h = askGone l h := by simp [askL, askC, askT, k, k1, k2, k3]
theorem stay_length (p : Hd → Bool) (hs : List Hd) : (stayL p hs).length ≤ hs.length := List.length_filter_le _ _
theorem gone_length (p : Hd → Bool) (hs : List Hd) : (goneL p hs).length ≤ hs.length := List.length_filter_le _ _
theorem ask_le (l : Lk) (h : Hd) : (askL l h).held.length ≤ 1048576 ∧ (askL l h).waits.length ≤ 1048576 ∧ (askT l h).length ≤ 1048576 := by
  have e1 := stay_length (takesB h) (withoutL l.held h.stamp h.try_)
  have e2 := gone_length (takesB h) (withoutL l.held h.stamp h.try_)
  have e3 := without_length l.held h.stamp h.try_
  have e4 := without_length l.waits h.stamp h.try_
  cases hk : lockOkB l
  · rw [(ask_no hk).1, (ask_no hk).2.2]; simp
  · have h16 := (lockOk_parts hk).2.1
    have hT : (askT l h).length ≤ 1048576 := by
      unfold askT
      split
      · unfold askGone; omega
      · simp
    have hL : (askL l h).held.length ≤ 1048576 ∧ (askL l h).waits.length ≤ 1048576 := by
      unfold askL
      rw [if_pos hk]
      split
      · omega
      · have := letIn_length (askRest l h) h
        simp only [askRest] at this ⊢
        omega
    exact ⟨hL.1, hL.2, hT⟩

set_option maxRecDepth 100000 in
set_option maxHeartbeats 4000000 in
theorem implAsk_any (l : Lk) (a b : Value) (h : Hd) (w : World) (hv : LkAt w l a b) (hn : l.held.length ≤ 1048576) (hm : l.waits.length ≤ 1048576) :
    Calls Try.prog 18 #[lkV l a b, hdV h] w fun e w' => ∃ a' b' r, e = .returned (.tuple #[lkV (askL l h) a' b', .bool (askC l h), r]) ∧ OwnLk w' w.heap.size (askL l h) a' b' ∧ (OwnR w' w.heap.size (askT l h) r ∧ (r.ownBlock = none ∨ r.ownBlock ≠ a'.ownBlock) ∧ (r.ownBlock = none ∨ r.ownBlock ≠ b'.ownBlock)) ∧ Below w.heap.size w w' := by
  have HU := hide hv
  have HOK := hide (fun ww hk => lockOkI_any l a b ww hk hn hm)
  rw [lockOk_eq] at HOK
  have HCP := hide (fun ww hk h1 h2 => copyLock_any l a b ww hk h1 h2)
  have HFO := hide (fun ww => inForm_any h ww)
  have HST := hide (fun ww hk h1 h2 => stands_any l a b h ww hk h1 h2)
  have HWI := hide (fun ww hk h1 h2 => withoutI_any l a b h.stamp h.try_ ww hk h1 h2)
  have hshape : ∃ a0 c0 a1 c1, a = .slice a0 l.held.length c0 ∧ b = .slice a1 l.waits.length c1 := by
    obtain ⟨a0, c0, rfl, -⟩ := hv.held.shape
    obtain ⟨a1, c1, rfl, -⟩ := hv.waits.shape
    exact ⟨a0, c0, a1, c1, rfl, rfl⟩
  obtain ⟨a0, c0, a1, c1, rfl, rfl⟩ := hshape
  clear hv
  obtain ⟨A0, hA0⟩ : ∃ A0, A0 = ((w.alloc (.cells #[.int .i64 l.slot, .slice a0 l.held.length c0, .slice a1 l.waits.length c1] 25)).alloc (.cells #[.int .i64 h.stamp, .int .i64 h.try_, .bool h.share, .bool h.firm] 27)).alloc (.cells #[.int .i64 0, .slice none 0 0, .slice none 0 0] 25) := ⟨_, rfl⟩
  have HX0 : Hid (Bx A0 w.heap.size 25 #[.int .i64 l.slot, .slice a0 l.held.length c0, .slice a1 l.waits.length c1]) := by rw [hA0]; exact ((Bx.made w _ _).allocK).allocK
  have HY0 : Hid (Bx A0 (w.heap.size + 1) 27 #[.int .i64 h.stamp, .int .i64 h.try_, .bool h.share, .bool h.firm]) := by rw [hA0]; exact Bx.made2 w _ _ _ rfl
  have HR0 : Hid (Bx A0 (w.heap.size + 1 + 1) 25 #[.int .i64 0, .slice none 0 0, .slice none 0 0]) := by rw [hA0]; exact Bx.made3 w _ _ _ rfl
  have HB0 : Hid (Below w.heap.size w A0) := by rw [hA0]; exact (((Below.refl _ _).alloc (Nat.le_refl _) _).alloc (by simp) _).alloc (by simp; omega) _
  have HA0 := hide hA0
  clear hA0
  cases hok : lockOkB l
  · have HF := hide (ask_no (h := h) hok)
    rw [hok] at HOK
    simp only [lkV, hdV] at *
    go_enter Try.func18, Try.ntmps18
    go_wp2_with fail
    rw [← unhide HA0]
    refine (unhide HOK _ ((unhide HU).kept (unhide HB0))).mono ?_; rintro e w1 ⟨rfl, hb1⟩
    have HR1 := hide ((unhide HR0).kept hb1)
    have HB1 := hide ((unhide HB0).trans (hb1.mono (unhide HB0).size))
    clear hb1
    obtain ⟨r0, r1, r2⟩ := (unhide HR1).three
    obtain ⟨f0, f1, f2⟩ := (unhide HR1).free3
    go_wp2_with fail
    refine bodyPost_ret (results_row_tmp2 rfl _ _ (w.heap.size + 1 + 1) _ _ _ _ rfl ((((unhide HR1).setC 0 (.int .i64 0)).setC 1 (.slice none 0 0)).setC 2 (.slice none 0 0)).row Try.underlying25 rfl (by kernel_rfl)) rfl ?_
    rw [(unhide HF).1, (unhide HF).2.1, (unhide HF).2.2]
    exact ⟨_, _, _, ret_three rfl rfl rfl, OwnLk.zero _ _, ⟨⟨RowAt.nil _, .inl ⟨rfl, rfl⟩⟩, .inl rfl, .inl rfl⟩, (((unhide HB1).setCell (by simp; omega) _).setCell (by simp; omega) _).setCell (by simp; omega) _⟩
  obtain ⟨-, h16, -, -, -, -⟩ := lockOk_parts hok
  have HOK1 := hide hok
  rw [hok] at HOK
  have HLN : Hid (l.held.length ≤ 1000) := by show l.held.length ≤ 1000; omega
  have HLM : Hid (l.waits.length ≤ 1000) := by show l.waits.length ≤ 1000; omega
  have hl16 : l.held.length ≤ 16 := by omega
  have hm16 : l.waits.length ≤ 16 := by omega
  have HBD := hide (fun k1 => ask_bad (h := h) (unhide HOK1) k1)
  have HSD := hide (fun k1 k2 => ask_stands (h := h) (unhide HOK1) k1 k2)
  have HFD := hide (fun k1 k2 k3 => ask_full (h := h) (unhide HOK1) k1 k2 k3)
  have HLD := hide (fun k1 k2 k3 => ask_let (h := h) (unhide HOK1) k1 k2 k3)
  have HBE : Hid (badB h = (!holdOkB h || h.firm)) := rfl
  have HFE : Hid (fullB l h = decide (16 ≤ (stayL (takesB h) (withoutL l.held h.stamp h.try_)).length + (withoutL l.waits h.stamp h.try_).length)) := rfl
  have HRE : Hid (askRest l h = ⟨l.slot, stayL (takesB h) (withoutL l.held h.stamp h.try_), withoutL l.waits h.stamp h.try_⟩) := rfl
  have HGE : Hid (askGone l h = goneL (takesB h) (withoutL l.held h.stamp h.try_)) := rfl
  have HWK : Hid (withoutK l h.stamp h.try_ = ⟨l.slot, withoutL l.held h.stamp h.try_, withoutL l.waits h.stamp h.try_⟩) := rfl
  rw [unhide HWK] at HWI
  have e3 := without_length l.held h.stamp h.try_
  have e4 := without_length l.waits h.stamp h.try_
  have e1 := stay_length (takesB h) (withoutL l.held h.stamp h.try_)
  have HTF := hide (fun g a b ww hbx ho hn => takeFor_any g l.slot (withoutL l.held h.stamp h.try_) a b h ww hbx ho hn)
  have HLI := hide (fun g a b base ww h1 h2 h3 h4 h5 h6 h7 => letIn_any g (askRest l h) a b h base ww h1 h2 h3 h4 h5 h6 h7)
  clear hok h16 hn hm HWK
  generalize hAL : askL l h = AL at *
  generalize hAC : askC l h = AC at *
  generalize hAT : askT l h = AT at *
  generalize badB h = BD at *
  generalize fullB l h = FU at *
  generalize standsB l h = SB at *
  generalize standsH l h = SH at *
  generalize withoutL l.held h.stamp h.try_ = H1 at *
  generalize withoutL l.waits h.stamp h.try_ = W1 at *
  generalize stayL (takesB h) H1 = H2 at *
  generalize goneL (takesB h) H1 = G2 at *
  generalize askRest l h = RL at *
  generalize askGone l h = AG at *
  generalize letInL RL h = LL at *
  generalize letInC RL h = LC at *
  generalize holdOkB h = HO at *
  clear hAL hAC hAT
  obtain ⟨slot, H, W⟩ := l
  obtain ⟨hs, ht, hsh, hf⟩ := h
  simp only [lkV, hdV] at *
  go_enter Try.func18, Try.ntmps18
  go_wp2_with fail
  rw [← unhide HA0]
  refine (unhide HOK _ ((unhide HU).kept (unhide HB0))).mono ?_; rintro e w1 ⟨rfl, hb1⟩
  have HX1 := hide ((unhide HX0).kept hb1)
  have HY1 := hide ((unhide HY0).kept hb1)
  have HR1 := hide ((unhide HR0).kept hb1)
  have HB1 := hide ((unhide HB0).trans (hb1.mono (unhide HB0).size))
  clear hb1 HX0 HY0 HR0 HB0 HA0
  obtain ⟨y0, y1, y2, y3⟩ := (unhide HY1).four
  go_wp2_with fail
  refine (unhide HFO _).mono ?_; rintro e w2 ⟨rfl, hb2⟩
  have HX2 := hide ((unhide HX1).kept hb2)
  have HY2 := hide ((unhide HY1).kept hb2)
  have HR2 := hide ((unhide HR1).kept hb2)
  have HB2 := hide ((unhide HB1).trans (hb2.mono (unhide HB1).size))
  clear hb2 HX1 HY1 HR1 HB1 y0 y1 y2 y3
  obtain ⟨y0, y1, y2, y3⟩ := (unhide HY2).four
  obtain ⟨q0, q1, q2⟩ := (unhide HX2).three
  cases HO
  case false =>
    have HF := hide (unhide HBD (by rw [unhide HBE]; rfl))
    go_wp2_with fail
    refine (unhide HCP _ ((unhide HU).kept (unhide HB2)) (unhide HLN) (unhide HLM)).mono ?_; rintro e w9 ⟨a', b', rfl, hoa, hob, hne, hb9⟩
    have HO9 := hide (OwnLk.mk (l := ⟨slot, H, W⟩) hoa hob hne)
    obtain ⟨a2, ca, a3, cb, rfl, rfl⟩ := (unhide HO9).shape
    have HR9 := hide ((unhide HR2).kept hb9)
    have HB9 := hide ((unhide HB2).trans (hb9.mono (unhide HB2).size))
    have lr := (unhide HR2).lt
    have zz9 := (unhide HB2).size
    clear hoa hob hne hb9
    obtain ⟨r0, r1, r2⟩ := (unhide HR9).three
    obtain ⟨f0, f1, f2⟩ := (unhide HR9).free3
    go_wp2_with fail
    refine bodyPost_ret (results_row_tmp2 rfl _ _ (w.heap.size + 1 + 1) _ _ _ _ rfl ((((unhide HR9).setC 0 (.int .i64 slot)).setC 1 (.slice a2 H.length ca)).setC 2 (.slice a3 W.length cb)).row Try.underlying25 rfl (by kernel_rfl)) rfl ?_
    rw [(unhide HF).1, (unhide HF).2.1, (unhide HF).2.2]
    exact ⟨.slice a2 H.length ca, .slice a3 W.length cb, .slice none 0 0, ret_three rfl rfl rfl, ((((unhide HO9).set lr _ _).set lr _ _).set lr _ _).low zz9, ⟨⟨RowAt.nil _, .inl ⟨rfl, rfl⟩⟩, .inl rfl, .inl rfl⟩, (((unhide HB9).setCell (by simp; omega) _).setCell (by simp; omega) _).setCell (by simp; omega) _⟩
  cases hf
  case true =>
    have HF := hide (unhide HBD (by rw [unhide HBE]; rfl))
    go_wp2_with fail
    refine (unhide HCP _ ((unhide HU).kept (unhide HB2)) (unhide HLN) (unhide HLM)).mono ?_; rintro e w9 ⟨a', b', rfl, hoa, hob, hne, hb9⟩
    have HO9 := hide (OwnLk.mk (l := ⟨slot, H, W⟩) hoa hob hne)
    obtain ⟨a2, ca, a3, cb, rfl, rfl⟩ := (unhide HO9).shape
    have HR9 := hide ((unhide HR2).kept hb9)
    have HB9 := hide ((unhide HB2).trans (hb9.mono (unhide HB2).size))
    have lr := (unhide HR2).lt
    have zz9 := (unhide HB2).size
    clear hoa hob hne hb9
    obtain ⟨r0, r1, r2⟩ := (unhide HR9).three
    obtain ⟨f0, f1, f2⟩ := (unhide HR9).free3
    go_wp2_with fail
    refine bodyPost_ret (results_row_tmp2 rfl _ _ (w.heap.size + 1 + 1) _ _ _ _ rfl ((((unhide HR9).setC 0 (.int .i64 slot)).setC 1 (.slice a2 H.length ca)).setC 2 (.slice a3 W.length cb)).row Try.underlying25 rfl (by kernel_rfl)) rfl ?_
    rw [(unhide HF).1, (unhide HF).2.1, (unhide HF).2.2]
    exact ⟨.slice a2 H.length ca, .slice a3 W.length cb, .slice none 0 0, ret_three rfl rfl rfl, ((((unhide HO9).set lr _ _).set lr _ _).set lr _ _).low zz9, ⟨⟨RowAt.nil _, .inl ⟨rfl, rfl⟩⟩, .inl rfl, .inl rfl⟩, (((unhide HB9).setCell (by simp; omega) _).setCell (by simp; omega) _).setCell (by simp; omega) _⟩
  have HBD0 : Hid (BD = false) := by show BD = false; rw [unhide HBE]; rfl
  go_wp2_with fail
  refine (unhide HST _ ((unhide HU).kept (unhide HB2)) (unhide HLN) (unhide HLM)).mono ?_; rintro e w3 ⟨rfl, hb3⟩
  have HX3 := hide ((unhide HX2).kept hb3)
  have HY3 := hide ((unhide HY2).kept hb3)
  have HR3 := hide ((unhide HR2).kept hb3)
  have HB3 := hide ((unhide HB2).trans (hb3.mono (unhide HB2).size))
  clear hb3 HX2 HY2 HR2 HB2 y0 y1 y2 y3 q0 q1 q2
  obtain ⟨y0, y1, y2, y3⟩ := (unhide HY3).four
  obtain ⟨q0, q1, q2⟩ := (unhide HX3).three
  cases SB
  case true =>
    have HF := hide (unhide HSD (unhide HBD0) rfl)
    go_wp2_with fail
    refine (unhide HCP _ ((unhide HU).kept (unhide HB3)) (unhide HLN) (unhide HLM)).mono ?_; rintro e w9 ⟨a', b', rfl, hoa, hob, hne, hb9⟩
    have HO9 := hide (OwnLk.mk (l := ⟨slot, H, W⟩) hoa hob hne)
    obtain ⟨a2, ca, a3, cb, rfl, rfl⟩ := (unhide HO9).shape
    have HR9 := hide ((unhide HR3).kept hb9)
    have HB9 := hide ((unhide HB3).trans (hb9.mono (unhide HB3).size))
    have lr := (unhide HR3).lt
    have zz9 := (unhide HB3).size
    clear hoa hob hne hb9
    obtain ⟨r0, r1, r2⟩ := (unhide HR9).three
    obtain ⟨f0, f1, f2⟩ := (unhide HR9).free3
    go_wp2_with fail
    refine bodyPost_ret (results_row_tmp2 rfl _ _ (w.heap.size + 1 + 1) _ _ _ _ rfl ((((unhide HR9).setC 0 (.int .i64 slot)).setC 1 (.slice a2 H.length ca)).setC 2 (.slice a3 W.length cb)).row Try.underlying25 rfl (by kernel_rfl)) rfl ?_
    rw [(unhide HF).1, (unhide HF).2.1, (unhide HF).2.2]
    exact ⟨.slice a2 H.length ca, .slice a3 W.length cb, .slice none 0 0, ret_three rfl rfl rfl, ((((unhide HO9).set lr _ _).set lr _ _).set lr _ _).low zz9, ⟨⟨RowAt.nil _, .inl ⟨rfl, rfl⟩⟩, .inl rfl, .inl rfl⟩, (((unhide HB9).setCell (by simp; omega) _).setCell (by simp; omega) _).setCell (by simp; omega) _⟩
  have lr3 := (unhide HR3).lt
  go_wp2_with fail
  refine (unhide HWI _ ((unhide HU).kept (unhide HB3)) (unhide HLN) (unhide HLM)).mono ?_; rintro e w4 ⟨a4, b4, rfl, ho4, hb4⟩
  obtain ⟨a5, c5, b5, d5, rfl, rfl⟩ := ho4.shape
  have bW : Below w4.heap.size w4 (w4.alloc (.cells #[.int .i64 slot, .slice a5 H1.length c5, .slice b5 W1.length d5] 25)) := (Below.refl _ _).alloc (Nat.le_refl _) _
  have HN4 := hide (Bx.made w4 25 #[.int .i64 slot, .slice a5 H1.length c5, .slice b5 W1.length d5])
  have HX4 := hide (((unhide HX3).kept hb4).kept bW)
  have HY4 := hide (((unhide HY3).kept hb4).kept bW)
  have HR4 := hide (((unhide HR3).kept hb4).kept bW)
  have b4' := (unhide HB3).trans (hb4.mono (unhide HB3).size)
  have HB4 := hide (b4'.trans (bW.mono b4'.size))
  have HO4 := hide (ho4.kept bW)
  have HGW := hide (fun q hq => ho4.waits.lt q hq)
  have hz4 := hb4.size
  have zB := (unhide HB3).size
  have lw4 : w4.heap.size < (w4.alloc (.cells #[.int .i64 slot, .slice a5 H1.length c5, .slice b5 W1.length d5] 25)).heap.size := by simp
  clear ho4 hb4 bW b4' HX3 HY3 HR3 HB3 y0 y1 y2 y3 q0 q1 q2
  obtain ⟨x4, hx4⟩ : ∃ x4, x4 = w4.alloc (.cells #[.int .i64 slot, .slice a5 H1.length c5, .slice b5 W1.length d5] 25) := ⟨_, rfl⟩
  have HE4 := hide hx4
  rw [← hx4] at HN4 HX4 HY4 HR4 HB4 HO4 lw4
  clear hx4
  obtain ⟨y0, y1, y2, y3⟩ := (unhide HY4).four
  rw [unhide HE4] at y0 y1 y2 y3
  go_wp2_with fail
  rw [← unhide HE4]
  refine (unhide HTF _ _ _ _ (unhide HN4) (unhide HO4).at.held (by omega)).mono ?_; rintro e w5 ⟨a6, r6, rfl, hbx5, ho5, hr5, hne5, hfr5⟩
  obtain ⟨a7, c7, rfl, -⟩ := ownsRow_slice ho5
  obtain ⟨r7, e7, rfl, -⟩ := ownsRow_slice hr5
  have hz5 := hfr5.size
  have HX5 := hide (hfr5.bx (unhide HX4) (by omega))
  have HY5 := hide (hfr5.bx (unhide HY4) (by omega))
  have HR5 := hide (hfr5.bx (unhide HR4) (by omega))
  have HB5 := hide (hfr5.below (unhide HB4) (by omega) (fun q hq e => by omega))
  have HW5 := hide (hfr5.row (unhide HO4).waits (fun q hq e => by subst e; have := (unhide HGW _ hq).2; omega))
  have HN5 := hide hbx5
  have HH5 := hide ho5
  have HG5 := hide hr5
  have HNE := hide hne5
  clear hbx5 ho5 hr5 hne5 hfr5 HX4 HY4 HR4 HB4 HO4 HN4 HE4 y0 y1 y2 y3
  have HD1 : Hid ((Value.slice a7 H2.length c7).ownBlock = none ∨ (Value.slice a7 H2.length c7).ownBlock ≠ (Value.slice b5 W1.length d5).ownBlock) := by
    cases hq : (Value.slice a7 H2.length c7).ownBlock with
    | none => exact .inl rfl
    | some q =>
      right; intro e
      have h1 := ((unhide HH5).lt q hq).1
      have h2 := (unhide HGW q e.symm).2
      omega
  have HD2 : Hid ((Value.slice r7 G2.length e7).ownBlock = none ∨ (Value.slice r7 G2.length e7).ownBlock ≠ (Value.slice b5 W1.length d5).ownBlock) := by
    cases hq : (Value.slice r7 G2.length e7).ownBlock with
    | none => exact .inl rfl
    | some q =>
      right; intro e
      have h1 := ((unhide HG5).lt q hq).1
      have h2 := (unhide HGW q e.symm).2
      omega
  have HOL : Hid (OwnLk w5 w3.heap.size ⟨slot, H2, W1⟩ (.slice a7 H2.length c7) (.slice b5 W1.length d5)) := ⟨ownsRow_base (unhide HH5) (by omega), unhide HW5, unhide HD1⟩
  obtain ⟨q0, q1, q2⟩ := (unhide HN5).three
  go_wp2_with fail
  refine (size_any ⟨slot, H2, W1⟩ _ _ _ (unhide HOL).at (by show H2.length ≤ 1000; omega) (by show W1.length ≤ 1000; omega)).mono ?_; rintro e w6 ⟨rfl, hb6⟩
  simp only
  have hz6 := hb6.size
  have HX6 := hide ((unhide HX5).kept hb6)
  have HY6 := hide ((unhide HY5).kept hb6)
  have HR6 := hide ((unhide HR5).kept hb6)
  have HN6 := hide ((unhide HN5).kept hb6)
  have HB6 := hide ((unhide HB5).trans (hb6.mono (unhide HB5).size))
  have HOL6 := hide ((unhide HOL).kept hb6)
  have HG6 := hide (ownsRow_below (unhide HG5) hb6)
  have HA6 := hide (fun q hq => (unhide HH5).lt q hq)
  have HA7 := hide (fun q hq => (unhide HG5).lt q hq)
  clear hb6 q0 q1 q2 HX5 HY5 HR5 HN5 HB5 HOL HH5 HG5 HW5
  obtain ⟨y0, y1, y2, y3⟩ := (unhide HY6).four
  obtain ⟨q0, q1, q2⟩ := (unhide HX6).three
  by_cases hfu : 16 ≤ H2.length + W1.length
  · have HF := hide (unhide HFD (unhide HBD0) (by first | rfl | trivial) (by rw [unhide HFE]; simpa using hfu))
    have hfi : (16 : Int) ≤ (H2.length : Int) + (W1.length : Int) := by omega
    go_wp2_with fail
    refine (unhide HCP _ ((unhide HU).kept (unhide HB6)) (unhide HLN) (unhide HLM)).mono ?_; rintro e w9 ⟨a', b', rfl, hoa, hob, hne, hb9⟩
    have HO9 := hide (OwnLk.mk (l := ⟨slot, H, W⟩) hoa hob hne)
    obtain ⟨a2, ca, a3, cb, rfl, rfl⟩ := (unhide HO9).shape
    have HR9 := hide ((unhide HR6).kept hb9)
    have HB9 := hide ((unhide HB6).trans (hb9.mono (unhide HB6).size))
    have lr := (unhide HR6).lt
    have zz9 := (unhide HB6).size
    clear hoa hob hne hb9
    obtain ⟨r0, r1, r2⟩ := (unhide HR9).three
    obtain ⟨f0, f1, f2⟩ := (unhide HR9).free3
    go_wp2_with fail
    refine bodyPost_ret (results_row_tmp2 rfl _ _ (w.heap.size + 1 + 1) _ _ _ _ rfl ((((unhide HR9).setC 0 (.int .i64 slot)).setC 1 (.slice a2 H.length ca)).setC 2 (.slice a3 W.length cb)).row Try.underlying25 rfl (by kernel_rfl)) rfl ?_
    rw [(unhide HF).1, (unhide HF).2.1, (unhide HF).2.2]
    exact ⟨.slice a2 H.length ca, .slice a3 W.length cb, .slice none 0 0, ret_three rfl rfl rfl, ((((unhide HO9).set lr _ _).set lr _ _).set lr _ _).low zz9, ⟨⟨RowAt.nil _, .inl ⟨rfl, rfl⟩⟩, .inl rfl, .inl rfl⟩, (((unhide HB9).setCell (by simp; omega) _).setCell (by simp; omega) _).setCell (by simp; omega) _⟩
  have HF := hide (unhide HLD (unhide HBD0) (by first | rfl | trivial) (by rw [unhide HFE]; simpa using hfu))
  have hfi : ¬ (16 : Int) ≤ (H2.length : Int) + (W1.length : Int) := by omega
  have hgE : G2 = AG := (unhide HGE).symm
  have hrE : RL = ⟨slot, H2, W1⟩ := unhide HRE
  subst hrE hgE
  go_wp2_with fail
  refine (unhide HLI w4.heap.size _ _ w3.heap.size _ (unhide HN6) (unhide HOL6) (fun e => by have := (unhide HA6 _ e).1; omega) (fun e => by have := (unhide HGW _ e).2; omega) (by omega) (by show H2.length ≤ 1000; omega) (by show W1.length ≤ 1000; omega)).mono ?_
  rintro e w8 ⟨a', b', rfl, hbx8, hol8, hfr, ha8, hb8⟩
  obtain ⟨qa, qc, qb, qd, rfl, rfl⟩ := hol8.shape
  have hz8 := hfr.size
  have HN8 := hide hbx8
  have HOL8 := hide hol8
  have HR8 := hide (hfr.bx (unhide HR6) (by
    rintro (h | h | h)
    · omega
    · have := (unhide HA6 _ h).1; omega
    · have := (unhide HGW _ h).1; omega))
  have HG8 := hide (hfr.row (unhide HG6) (fun q hq => by
    rintro (h | h | h)
    · subst h; have := (unhide HA7 _ hq).1; omega
    · exact not_own (ne_sym (unhide HNE)) hq h
    · exact not_own (unhide HD2) hq h))
  have HB8 := hide (hfr.below (unhide HB6) (unhide HB6).size (fun q hq => by
    rintro (h | h | h)
    · omega
    · have := (unhide HA6 _ h).1; omega
    · have := (unhide HGW _ h).1; omega))
  have D1 := hide (ne_alt ha8 (ne_sym (unhide HNE)) (fun q hq => by have := (unhide HA7 q hq).2; omega))
  have D2 := hide (ne_alt hb8 (unhide HD2) (fun q hq => by have := (unhide HA7 q hq).2; omega))
  clear hbx8 hol8 hfr ha8 hb8 q0 q1 q2 y0 y1 y2 y3 HX6 HY6 HR6 HN6 HB6 HOL6 HG6
  obtain ⟨r0, r1, r2⟩ := (unhide HR8).three
  obtain ⟨f0, f1, f2⟩ := (unhide HR8).free3
  obtain ⟨n0, n1, n2⟩ := (unhide HN8).three
  go_wp2_with fail
  refine bodyPost_ret (results_row_tmp2 rfl _ _ (w.heap.size + 1 + 1) _ _ _ _ rfl ((((unhide HR8).setC 0 (.int .i64 LL.slot)).setC 1 (.slice qa LL.held.length qc)).setC 2 (.slice qb LL.waits.length qd)).row Try.underlying25 rfl (by kernel_rfl)) rfl ?_
  rw [(unhide HF).1, (unhide HF).2.1, (unhide HF).2.2]
  have ng : (Value.slice r7 G2.length e7).ownBlock ≠ some (w.heap.size + 1 + 1) := fun e => by have := (unhide HA7 _ e).1; omega
  have hR3 := ownsRow_setCell_other (j := 2) (u := .slice qb LL.waits.length qd) (ownsRow_setCell_other (j := 1) (u := .slice qa LL.held.length qc) (ownsRow_setCell_other (j := 0) (u := .int .i64 LL.slot) (unhide HG8) ng) ng) ng
  exact ⟨.slice qa LL.held.length qc, .slice qb LL.waits.length qd, .slice r7 G2.length e7, ret_three rfl rfl rfl, ((((unhide HOL8).set lr3 _ _).set lr3 _ _).set lr3 _ _).low zB, ⟨⟨RowAt.of_own hR3, (OwnK.of_own hR3).low (by omega)⟩, unhide D1, unhide D2⟩, (((unhide HB8).setCell (by simp; omega) _).setCell (by simp; omega) _).setCell (by simp; omega) _⟩

end Go.Proofs.Ytoojnhodjkpecaa
