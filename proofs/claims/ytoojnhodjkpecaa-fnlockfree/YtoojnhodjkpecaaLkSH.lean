/- The specification asks for a lock. -/
import Derived.Test.YtoojnhodjkpecaaLkIH
import Derived.Test.YtoojnhodjkpecaaLkM2
namespace Go.Proofs.Ytoojnhodjkpecaa
open Go.RowKit Go.Shelf

def takesS (h x : Hd) : Bool := (meetB x h && !x.firm) && decide (h.stamp < x.stamp)
def sRest (l : Lk) (h : Hd) : Lk := ⟨l.slot, stayL (takesS h) (withoutL l.held h.stamp h.try_), withoutL l.waits h.stamp h.try_⟩
def sGone (l : Lk) (h : Hd) : List Hd := goneL (takesS h) (withoutL l.held h.stamp h.try_)
def sHeld (l : Lk) (h : Hd) : Bool := decide (0 ≤ atL l.held h.stamp) && ((l.held.getD (atL l.held h.stamp).toNat Hd.z).firm || decide (h.try_ ≤ (l.held.getD (atL l.held h.stamp).toNat Hd.z).try_))
def sSame (l : Lk) (h : Hd) : Bool := eqHd (l.held.getD (atL l.held h.stamp).toNat Hd.z) h
def sWait (l : Lk) (h : Hd) : Bool := decide (0 ≤ atL l.waits h.stamp) && decide (h.try_ < (l.waits.getD (atL l.waits h.stamp).toNat Hd.z).try_)
def sFull (l : Lk) (h : Hd) : Bool := decide (15 < (sRest l h).held.length + (sRest l h).waits.length)
def sIn (l : Lk) (h : Hd) : Lk := if mayB (sRest l h) h = true then ⟨l.slot, putL (sRest l h).held h, (sRest l h).waits⟩ else ⟨l.slot, (sRest l h).held, putL (sRest l h).waits h⟩
def askSL (l : Lk) (h : Hd) : Lk := if lockOkB l = true then (if (badB h || (sHeld l h || (sWait l h || sFull l h))) = true then l else sIn l h) else ⟨0, [], []⟩
def askSC (l : Lk) (h : Hd) : Bool := lockOkB l && (!badB h && (if sHeld l h = true then sSame l h else (!sWait l h && (!sFull l h && mayB (sRest l h) h))))
def askST (l : Lk) (h : Hd) : List Hd := if (lockOkB l && !(badB h || (sHeld l h || (sWait l h || sFull l h)))) = true then sGone l h else []

theorem sask_no {l : Lk} {h : Hd} (k : lockOkB l = false) : askSL l h = ⟨0, [], []⟩ ∧ askSC l h = false ∧ askST l h = [] := by simp [askSL, askSC, askST, k]
theorem sask_bad {l : Lk} {h : Hd} (k : lockOkB l = true) (k1 : badB h = true) : askSL l h = l ∧ askSC l h = false ∧ askST l h = [] := by simp [askSL, askSC, askST, k, k1]
theorem sask_held {l : Lk} {h : Hd} (k : lockOkB l = true) (k1 : badB h = false) (k2 : sHeld l h = true) : askSL l h = l ∧ askSC l h = sSame l h ∧ askST l h = [] := by simp [askSL, askSC, askST, k, k1, k2]
theorem sask_wait {l : Lk} {h : Hd} (k : lockOkB l = true) (k1 : badB h = false) (k2 : sHeld l h = false) (k3 : sWait l h = true) : askSL l h = l ∧ askSC l h = false ∧ askST l h = [] := by simp [askSL, askSC, askST, k, k1, k2, k3]
theorem sask_full {l : Lk} {h : Hd} (k : lockOkB l = true) (k1 : badB h = false) (k2 : sHeld l h = false) (k3 : sWait l h = false) (k4 : sFull l h = true) : askSL l h = l ∧ askSC l h = false ∧ askST l h = [] := by simp [askSL, askSC, askST, k, k1, k2, k3, k4]
theorem sask_in {l : Lk} {h : Hd} (k : lockOkB l = true) (k1 : badB h = false) (k2 : sHeld l h = false) (k3 : sWait l h = false) (k4 : sFull l h = false) : askSL l h = sIn l h ∧ askSC l h = mayB (sRest l h) h ∧ askST l h = sGone l h := by simp [askSL, askSC, askST, k, k1, k2, k3, k4]
theorem sHeld_no {l : Lk} {h : Hd} (k : atL l.held h.stamp = -1) : sHeld l h = false := by simp [sHeld, k]
theorem sHeld_at {l : Lk} {h : Hd} {i : Nat} (k : atL l.held h.stamp = i) : sHeld l h = ((l.held.getD i Hd.z).firm || decide (h.try_ ≤ (l.held.getD i Hd.z).try_)) ∧ sSame l h = eqHd (l.held.getD i Hd.z) h := by
  constructor
  · simp only [sHeld, k]; simp
  · simp only [sSame, k]; simp
theorem sWait_no {l : Lk} {h : Hd} (k : atL l.waits h.stamp = -1) : sWait l h = false := by simp [sWait, k]
theorem sWait_at {l : Lk} {h : Hd} {i : Nat} (k : atL l.waits h.stamp = i) : sWait l h = decide (h.try_ < (l.waits.getD i Hd.z).try_) := by simp only [sWait, k]; simp

theorem three_far {w : World} {b o R : Nat} {v u0 u1 u2 : Value} (hne : R ≠ b) (h : w.cell? ⟨b, o, none⟩ = some v) : ((((w.setCell ⟨R, 0, none⟩ u0).setCell ⟨R, 1, none⟩ u1).setCell ⟨R, 2, none⟩ u2).drew).cell? ⟨b, o, none⟩ = some v :=
  (cell_set_far (.inl hne)).trans ((cell_set_far (.inl hne)).trans ((cell_set_far (.inl hne)).trans h))

set_option maxRecDepth 100000 in
set_option maxHeartbeats 4000000 in
theorem specAsk_any (l : Lk) (a b : Value) (h : Hd) (w : World) (hv : LkAt w l a b) (hn : l.held.length ≤ 1048576) (hm : l.waits.length ≤ 1048576) :
    Calls Try.prog 16 #[lkV l a b, hdV h] w fun e w' => ∃ a' b' r, e = .returned (.tuple #[lkV (askSL l h) a' b', .bool (askSC l h), r]) ∧ OwnLk w' w.heap.size (askSL l h) a' b' ∧ (OwnR w' w.heap.size (askST l h) r ∧ (r.ownBlock = none ∨ r.ownBlock ≠ a'.ownBlock) ∧ (r.ownBlock = none ∨ r.ownBlock ≠ b'.ownBlock)) ∧ Below w.heap.size w w' := by
  have HU := hide hv
  have HOK := hide (fun ww hk => lockOk_any l a b ww hk hn hm)
  have HCP := hide (fun ww hk h1 h2 => lkCopy_any l a b ww hk h1 h2)
  have HFO := hide (fun ww => holdOk_any h ww)
  have HAH := hide (fun v ww hk => at_any v l.held h.stamp ww hk)
  have HAW := hide (fun v ww hk => at_any v l.waits h.stamp ww hk)
  have hshape : ∃ a0 c0 a1 c1, a = .slice a0 l.held.length c0 ∧ b = .slice a1 l.waits.length c1 := by
    obtain ⟨a0, c0, rfl, -⟩ := hv.held.shape
    obtain ⟨a1, c1, rfl, -⟩ := hv.waits.shape
    exact ⟨a0, c0, a1, c1, rfl, rfl⟩
  obtain ⟨a0, c0, a1, c1, rfl, rfl⟩ := hshape
  clear hv
  obtain ⟨A0, hA0⟩ : ∃ A0, A0 = (((w.alloc (.cells #[.int .i64 l.slot, .slice a0 l.held.length c0, .slice a1 l.waits.length c1] 25)).alloc (.cells #[.int .i64 h.stamp, .int .i64 h.try_, .bool h.share, .bool h.firm] 27)).alloc (.cells #[.int .i64 0, .slice none 0 0, .slice none 0 0] 25)).alloc (.cells #[] 27) := ⟨_, rfl⟩
  have HX0 : Hid (Bx A0 w.heap.size 25 #[.int .i64 l.slot, .slice a0 l.held.length c0, .slice a1 l.waits.length c1]) := by rw [hA0]; exact (((Bx.made w _ _).allocK).allocK).allocK
  have HY0 : Hid (Bx A0 (w.heap.size + 1) 27 #[.int .i64 h.stamp, .int .i64 h.try_, .bool h.share, .bool h.firm]) := by rw [hA0]; exact (Bx.made2 w _ _ _ rfl).allocK
  have HR0 : Hid (Bx A0 (w.heap.size + 1 + 1) 25 #[.int .i64 0, .slice none 0 0, .slice none 0 0]) := by rw [hA0]; exact (Bx.made3 w _ _ _ rfl).allocK
  have HG0 : Hid (A0.ownsRow (w.heap.size + 1 + 1 + 1) 27 4 (.slice (some ⟨w.heap.size + 1 + 1 + 1, 0, none⟩) 0 0) 0 []) := by
    rw [hA0]; exact ownsRow_madeS _ _ (by simp) (by simp)
  have HB0 : Hid (Below w.heap.size w A0) := by rw [hA0]; exact ((((Below.refl _ _).alloc (Nat.le_refl _) _).alloc (by simp) _).alloc (by simp; omega) _).alloc (by simp; omega) _
  have HA0 := hide hA0
  clear hA0
  cases hok : lockOkB l
  · have HF := hide (sask_no (h := h) hok)
    rw [hok] at HOK
    simp only [lkV, hdV] at *
    go_enter Try.func16, Try.ntmps16
    go_wp2_with fail
    rw [← unhide HA0]
    refine (unhide HOK _ ((unhide HU).kept (unhide HB0))).mono ?_; rintro e w1 ⟨rfl, hb1⟩
    have HR1 := hide ((unhide HR0).kept hb1)
    have HG1 := hide (ownsRow_below (unhide HG0) hb1)
    have HB1 := hide ((unhide HB0).trans (hb1.mono (unhide HB0).size))
    clear hb1
    have HO1 : Hid (OwnLk w1 (w.heap.size + 1 + 1 + 1) ⟨0, [], []⟩ (.slice none 0 0) (.slice none 0 0)) := OwnLk.zero _ _
    obtain ⟨r0, r1, r2⟩ := (unhide HR1).three
    obtain ⟨f0, f1, f2⟩ := (unhide HR1).free3
    go_wp2_with fail
    refine bodyPost_ret (results_row_tmp2 rfl _ _ (w.heap.size + 1 + 1) _ _ _ _ rfl ((((unhide HR1).setC 0 (.int .i64 0)).setC 1 (.slice none 0 0)).setC 2 (.slice none 0 0)).row Try.underlying25 rfl (by kernel_rfl)) rfl ?_
    rw [(unhide HF).1, (unhide HF).2.1, (unhide HF).2.2]
    have ng : (.slice (some ⟨w.heap.size + 1 + 1 + 1, 0, none⟩) 0 0 : Value).ownBlock ≠ some (w.heap.size + 1 + 1) := fun e => by have := ((unhide HG1).lt _ e).1; omega
    have hR3 := ownsRow_setCell_other (j := 2) (u := (.slice none 0 0)) (ownsRow_setCell_other (j := 1) (u := (.slice none 0 0)) (ownsRow_setCell_other (j := 0) (u := .int .i64 0) (unhide HG1) ng) ng) ng
    exact ⟨(.slice none 0 0), (.slice none 0 0), .slice (some ⟨w.heap.size + 1 + 1 + 1, 0, none⟩) 0 0, ret_three rfl rfl rfl, ((((unhide HO1).set (g := w.heap.size + 1 + 1) (by omega) _ _).set (g := w.heap.size + 1 + 1) (by omega) _ _).set (g := w.heap.size + 1 + 1) (by omega) _ _).low (by omega), ⟨⟨RowAt.of_own (xs := ([] : List Hd)) hR3, (OwnK.of_own hR3).low (by omega)⟩, .inr (by simp [Value.ownBlock]), .inr (by simp [Value.ownBlock])⟩, (((unhide HB1).setCell (by simp; omega) _).setCell (by simp; omega) _).setCell (by simp; omega) _⟩
  obtain ⟨-, h16, -, -, -, -⟩ := lockOk_parts hok
  have HOK1 := hide hok
  rw [hok] at HOK
  have HLN : Hid (l.held.length ≤ 1000) := by show l.held.length ≤ 1000; omega
  have HLM : Hid (l.waits.length ≤ 1000) := by show l.waits.length ≤ 1000; omega
  have hl16 : l.held.length ≤ 16 := by omega
  have hm16 : l.waits.length ≤ 16 := by omega
  have HBD := hide (fun k1 => sask_bad (h := h) (unhide HOK1) k1)
  have HSD := hide (fun k1 k2 => sask_held (h := h) (unhide HOK1) k1 k2)
  have HSW := hide (fun k1 k2 k3 => sask_wait (h := h) (unhide HOK1) k1 k2 k3)
  have HFD := hide (fun k1 k2 k3 k4 => sask_full (h := h) (unhide HOK1) k1 k2 k3 k4)
  have HLD := hide (fun k1 k2 k3 k4 => sask_in (h := h) (unhide HOK1) k1 k2 k3 k4)
  have HBE : Hid (badB h = (!holdOkB h || h.firm)) := rfl
  have HFE : Hid (sFull l h = decide (15 < (stayL (takesS h) (withoutL l.held h.stamp h.try_)).length + (withoutL l.waits h.stamp h.try_).length)) := rfl
  have HRE : Hid (sRest l h = ⟨l.slot, stayL (takesS h) (withoutL l.held h.stamp h.try_), withoutL l.waits h.stamp h.try_⟩) := rfl
  have HGE : Hid (sGone l h = goneL (takesS h) (withoutL l.held h.stamp h.try_)) := rfl
  have HIE : Hid (sIn l h = if mayB (sRest l h) h = true then ⟨l.slot, putL (sRest l h).held h, (sRest l h).waits⟩ else ⟨l.slot, (sRest l h).held, putL (sRest l h).waits h⟩) := rfl
  have HHN := hide (fun k => sHeld_no (l := l) (h := h) k)
  have HHA := hide (fun i k => sHeld_at (l := l) (h := h) (i := i) k)
  have HWN := hide (fun k => sWait_no (l := l) (h := h) k)
  have HWA := hide (fun i k => sWait_at (l := l) (h := h) (i := i) k)
  have HCH := hide (atL_cases l.held h.stamp)
  have HCW := hide (atL_cases l.waits h.stamp)
  have HEQ := hide (fun x => eq_hd x h)
  have HWO := hide (fun v ww hv => without_any v l.held h.stamp h.try_ ww hv (unhide HLN))
  have HWO' := hide (fun v ww hv => without_any v l.waits h.stamp h.try_ ww hv (unhide HLM))
  have e3 := without_length l.held h.stamp h.try_
  have e4 := without_length l.waits h.stamp h.try_
  have HMT := hide (fun x ww => meet_any x h ww)
  have HMA := hide (fun a b ww hk => may_any (sRest l h) a b h ww hk)
  have HTS : Hid (∀ x, takesS h x = ((meetB x h && !x.firm) && decide (h.stamp < x.stamp))) := fun x => rfl
  clear hok h16 hn hm
  generalize hAL : askSL l h = AL at *
  generalize hAC : askSC l h = AC at *
  generalize hAT : askST l h = AT at *
  generalize badB h = BD at *
  generalize sFull l h = FU at *
  generalize sHeld l h = SB at *
  generalize sSame l h = SH at *
  generalize sWait l h = SW at *
  generalize sIn l h = SI at *
  generalize withoutL l.held h.stamp h.try_ = H1 at *
  generalize withoutL l.waits h.stamp h.try_ = W1 at *
  generalize sRest l h = RL at *
  generalize sGone l h = AG at *
  generalize holdOkB h = HO at *
  clear hAL hAC hAT
  obtain ⟨slot, H, W⟩ := l
  obtain ⟨hh, hhe⟩ : ∃ hh, hh = h := ⟨_, rfl⟩
  rw [← hhe] at HMA HTS HRE HGE HIE HFE HHA HWA HEQ HMT HLD
  have HHH := hide hhe
  clear hhe
  have HTRY : Hid (hh.try_ = h.try_ ∧ hh.stamp = h.stamp) := by rw [unhide HHH]; exact ⟨rfl, rfl⟩
  have HPH := hide (fun v ww hv hm => put_any v RL.held hh ww hv hm)
  have HPW := hide (fun v ww hv hm => put_any v RL.waits hh ww hv hm)
  have HVV : Hid (hdV hh = .agg #[.int .i64 h.stamp, .int .i64 h.try_, .bool h.share, .bool h.firm]) := by show hdV hh = _; rw [unhide HHH]; rfl
  rw [unhide HVV] at HPH HPW HMA HMT
  have HEQ2 : Hid (∀ x : Hd, ∀ ws, (binOp .eql 27 (.agg #[.int .i64 x.stamp, .int .i64 x.try_, .bool x.share, .bool x.firm]) (.agg #[.int .i64 h.stamp, .int .i64 h.try_, .bool h.share, .bool h.firm])).run Try.prog ws = .ok (.bool (eqHd x hh)) ws) := fun x ws => by have := unhide HEQ x ws; rw [unhide HHH] at this ⊢; exact this
  have HHF : Hid (hh.firm = h.firm) := by show hh.firm = h.firm; rw [unhide HHH]
  clear HEQ HHH HVV
  obtain ⟨hs, ht, hsh, hf⟩ := h
  simp only [lkV, hdV] at *
  go_enter Try.func16, Try.ntmps16
  go_wp2_with fail
  rw [← unhide HA0]
  refine (unhide HOK _ ((unhide HU).kept (unhide HB0))).mono ?_; rintro e w1 ⟨rfl, hb1⟩
  have HX1 := hide ((unhide HX0).kept hb1)
  have HY1 := hide ((unhide HY0).kept hb1)
  have HR1 := hide ((unhide HR0).kept hb1)
  have HG1 := hide (ownsRow_below (unhide HG0) hb1)
  have HB1 := hide ((unhide HB0).trans (hb1.mono (unhide HB0).size))
  have l0 := ((unhide HG1).lt (w.heap.size + 1 + 1 + 1) rfl).2
  clear hb1 HX0 HY0 HR0 HB0 HA0 HG0
  obtain ⟨q0, q1, q2⟩ := (unhide HX1).three
  go_wp2_with fail
  refine (unhide HCP _ ((unhide HU).kept (unhide HB1)) (unhide HLN) (unhide HLM)).mono ?_; rintro e w2 ⟨a', b', rfl, hoa, hob, hne, hb2⟩
  have HO2' := hide (OwnLk.mk (l := ⟨slot, H, W⟩) hoa hob hne)
  obtain ⟨a2, ca, a3, cb, rfl, rfl⟩ := (unhide HO2').shape
  have bW : Below w2.heap.size w2 (w2.alloc (.cells #[.int .i64 slot, .slice a2 H.length ca, .slice a3 W.length cb] 25)) := (Below.refl _ _).alloc (Nat.le_refl _) _
  have HN2 := hide (Bx.made w2 25 #[.int .i64 slot, .slice a2 H.length ca, .slice a3 W.length cb])
  have HX2 := hide (((unhide HX1).kept hb2).kept bW)
  have HY2 := hide (((unhide HY1).kept hb2).kept bW)
  have HR2 := hide (((unhide HR1).kept hb2).kept bW)
  have HG2 := hide (ownsRow_below (ownsRow_below (unhide HG1) hb2) bW)
  have b2' := (unhide HB1).trans (hb2.mono (unhide HB1).size)
  have HB2 := hide (b2'.trans (bW.mono b2'.size))
  have HO2 := hide ((unhide HO2').kept bW)
  have HL2 := hide (fun q hq => hoa.lt q hq)
  have HL3 := hide (fun q hq => hob.lt q hq)
  have hz2 := hb2.size
  have lw2 : w2.heap.size < (w2.alloc (.cells #[.int .i64 slot, .slice a2 H.length ca, .slice a3 W.length cb] 25)).heap.size := by simp
  clear hoa hob hne hb2 bW b2' HX1 HY1 HR1 HB1 HG1 HO2' q0 q1 q2
  obtain ⟨x2, hx2⟩ : ∃ x2, x2 = w2.alloc (.cells #[.int .i64 slot, .slice a2 H.length ca, .slice a3 W.length cb] 25) := ⟨_, rfl⟩
  have HE2 := hide hx2
  rw [← hx2] at HN2 HX2 HY2 HR2 HG2 HB2 HO2 lw2
  clear hx2
  obtain ⟨y0, y1, y2, y3⟩ := (unhide HY2).four
  rw [unhide HE2] at y0 y1 y2 y3
  go_wp2_with fail
  rw [← unhide HE2]
  refine (unhide HFO _).mono ?_; rintro e w3 ⟨rfl, hb3⟩
  have hz3 := hb3.size
  have HN3 := hide ((unhide HN2).kept hb3)
  have HX3 := hide ((unhide HX2).kept hb3)
  have HY3 := hide ((unhide HY2).kept hb3)
  have HR3 := hide ((unhide HR2).kept hb3)
  have HG3 := hide (ownsRow_below (unhide HG2) hb3)
  have HB3 := hide ((unhide HB2).trans (hb3.mono (unhide HB2).size))
  have HO3 := hide ((unhide HO2).kept hb3)
  clear hb3 HN2 HX2 HY2 HR2 HG2 HB2 HO2 HE2 y0 y1 y2 y3
  obtain ⟨y0, y1, y2, y3⟩ := (unhide HY3).four
  obtain ⟨n0, n1, n2⟩ := (unhide HN3).three
  have zB3 := (unhide HB3).size
  cases HO
  case false =>
    have HF := hide (unhide HBD (by rw [unhide HBE]; rfl))
    obtain ⟨r0, r1, r2⟩ := (unhide HR3).three
    obtain ⟨f0, f1, f2⟩ := (unhide HR3).free3
    go_wp2_with fail
    refine bodyPost_ret (results_row_tmp2 rfl _ _ (w.heap.size + 1 + 1) _ _ _ _ rfl ((((unhide HR3).setC 0 (.int .i64 slot)).setC 1 (.slice a2 H.length ca)).setC 2 (.slice a3 W.length cb)).row Try.underlying25 rfl (by kernel_rfl)) rfl ?_
    rw [(unhide HF).1, (unhide HF).2.1, (unhide HF).2.2]
    have ng : (.slice (some ⟨w.heap.size + 1 + 1 + 1, 0, none⟩) 0 0 : Value).ownBlock ≠ some (w.heap.size + 1 + 1) := fun e => by have := ((unhide HG3).lt _ e).1; omega
    have hR3 := ownsRow_setCell_other (j := 2) (u := (.slice a3 W.length cb)) (ownsRow_setCell_other (j := 1) (u := (.slice a2 H.length ca)) (ownsRow_setCell_other (j := 0) (u := .int .i64 slot) (unhide HG3) ng) ng) ng
    exact ⟨(.slice a2 H.length ca), (.slice a3 W.length cb), .slice (some ⟨w.heap.size + 1 + 1 + 1, 0, none⟩) 0 0, ret_three rfl rfl rfl, ((((unhide HO3).set (g := w.heap.size + 1 + 1) (by omega) _ _).set (g := w.heap.size + 1 + 1) (by omega) _ _).set (g := w.heap.size + 1 + 1) (by omega) _ _).low (by omega), ⟨⟨RowAt.of_own (xs := ([] : List Hd)) hR3, (OwnK.of_own hR3).low (by omega)⟩, .inr (fun e => by have := (unhide HL2 _ e.symm).1; dsimp only at this; omega), .inr (fun e => by have := (unhide HL3 _ e.symm).1; dsimp only at this; omega)⟩, (((unhide HB3).setCell (by simp; omega) _).setCell (by simp; omega) _).setCell (by simp; omega) _⟩
  cases hf
  case true =>
    have HF := hide (unhide HBD (by rw [unhide HBE]; rfl))
    obtain ⟨r0, r1, r2⟩ := (unhide HR3).three
    obtain ⟨f0, f1, f2⟩ := (unhide HR3).free3
    go_wp2_with fail
    refine bodyPost_ret (results_row_tmp2 rfl _ _ (w.heap.size + 1 + 1) _ _ _ _ rfl ((((unhide HR3).setC 0 (.int .i64 slot)).setC 1 (.slice a2 H.length ca)).setC 2 (.slice a3 W.length cb)).row Try.underlying25 rfl (by kernel_rfl)) rfl ?_
    rw [(unhide HF).1, (unhide HF).2.1, (unhide HF).2.2]
    have ng : (.slice (some ⟨w.heap.size + 1 + 1 + 1, 0, none⟩) 0 0 : Value).ownBlock ≠ some (w.heap.size + 1 + 1) := fun e => by have := ((unhide HG3).lt _ e).1; omega
    have hR3 := ownsRow_setCell_other (j := 2) (u := (.slice a3 W.length cb)) (ownsRow_setCell_other (j := 1) (u := (.slice a2 H.length ca)) (ownsRow_setCell_other (j := 0) (u := .int .i64 slot) (unhide HG3) ng) ng) ng
    exact ⟨(.slice a2 H.length ca), (.slice a3 W.length cb), .slice (some ⟨w.heap.size + 1 + 1 + 1, 0, none⟩) 0 0, ret_three rfl rfl rfl, ((((unhide HO3).set (g := w.heap.size + 1 + 1) (by omega) _ _).set (g := w.heap.size + 1 + 1) (by omega) _ _).set (g := w.heap.size + 1 + 1) (by omega) _ _).low (by omega), ⟨⟨RowAt.of_own (xs := ([] : List Hd)) hR3, (OwnK.of_own hR3).low (by omega)⟩, .inr (fun e => by have := (unhide HL2 _ e.symm).1; dsimp only at this; omega), .inr (fun e => by have := (unhide HL3 _ e.symm).1; dsimp only at this; omega)⟩, (((unhide HB3).setCell (by simp; omega) _).setCell (by simp; omega) _).setCell (by simp; omega) _⟩
  have HBD0 : Hid (BD = false) := by show BD = false; rw [unhide HBE]; rfl
  go_wp2_with fail
  refine (unhide HAH _ _ (unhide HO3).at.held).mono ?_; rintro e w3 ⟨rfl, rfl⟩
  cases SB
  case true =>
    have hfnd : ∃ i : Nat, i < H.length ∧ atL H hs = i := by
      rcases unhide HCH with ⟨h1, -⟩ | ⟨i, hi, h1, -, -⟩
      · have := unhide HHN h1; simp at this
      · exact ⟨i, hi, h1⟩
    obtain ⟨i, hi, h1⟩ := hfnd
    rw [h1]
    have HHA1 := hide (unhide HHA i (by rw [(unhide HTRY).2]; exact h1))
    obtain ⟨bb, off, rfl⟩ := (unhide HO3).at.held.some_of (show 0 < H.length by omega)
    obtain ⟨c0, c1, c2, c3⟩ := hd_cells (unhide HO3).at.held (i := i) hi
    generalize H.getD i Hd.z = x at c0 c1 c2 c3 HHA1
    have HF := hide (unhide HSD (unhide HBD0) (by first | rfl | trivial))
    have hkn : (i : Int) < (H.length : Int) := by omega
    have hk0 : (0 : Int) ≤ (i : Int) := by omega
    have hkd : decide ((0 : Int) ≤ (i : Int)) = true := by simp
    have heq := unhide HEQ2 x
    obtain ⟨xs, xt, xsh, xf⟩ := x
    simp only at *
    clear h1
    cases xf
    · have hle : decide (ht ≤ xt) = true := by have := (unhide HHA1).1; rw [(unhide HTRY).1] at this; simpa using this.symm
      go_wp2_with fail
      go_quiet (fail)
      rename Nat => nq
      have hbq : Below w3.heap.size w3 (w3.drewN nq) := below_drewN (Below.refl _ _) nq
      have HN4 := hide ((unhide HN3).kept hbq)
      have HY4 := hide ((unhide HY3).kept hbq)
      have HR4 := hide ((unhide HR3).kept hbq)
      have HG4 := hide (ownsRow_below (unhide HG3) hbq)
      have HB4 := hide ((unhide HB3).trans (hbq.mono zB3))
      have HO4 := hide ((unhide HO3).kept hbq)
      have k0 := cell_kept hbq c0
      have k1 := cell_kept hbq c1
      have k2 := cell_kept hbq c2
      have k3 := cell_kept hbq c3
      have hz4 := hbq.size
      generalize w3.drewN nq = w4 at *
      clear hbq n0 n1 n2 y0 y1 y2 y3 c0 c1 c2 c3
      obtain ⟨n0, n1, n2⟩ := (unhide HN4).three
      obtain ⟨y0, y1, y2, y3⟩ := (unhide HY4).four
      go_wp2_with fail
      obtain ⟨r0, r1, r2⟩ := (unhide HR4).three
      obtain ⟨f0, f1, f2⟩ := (unhide HR4).free3
      have lbb := (unhide HL2 bb rfl).1
      have d1 : w.heap.size + 1 + 1 ≠ w2.heap.size := by omega
      have d2 : w.heap.size + 1 + 1 ≠ bb := by omega
      have d3 : w.heap.size + 1 + 1 ≠ w.heap.size + 1 := by omega
      go_region_held3 (fun w' => w'.cell? ⟨w2.heap.size, 0, none⟩ = some (.int .i64 slot) ∧ w'.cell? ⟨w2.heap.size, 1, none⟩ = some (.slice (some ⟨bb, off, none⟩) H.length ca) ∧ w'.cell? ⟨w2.heap.size, 2, none⟩ = some (.slice a3 W.length cb) ∧ w'.cell? ⟨bb, off + i * 4, none⟩ = some (.int .i64 xs) ∧ w'.cell? ⟨bb, off + i * 4 + 1, none⟩ = some (.int .i64 xt) ∧ w'.cell? ⟨bb, off + i * 4 + 2, none⟩ = some (.bool xsh) ∧ w'.cell? ⟨bb, off + i * 4 + 3, none⟩ = some (.bool false) ∧ w'.cell? ⟨w.heap.size + 1, 0, none⟩ = some (.int .i64 hs) ∧ w'.cell? ⟨w.heap.size + 1, 1, none⟩ = some (.int .i64 ht) ∧ w'.cell? ⟨w.heap.size + 1, 2, none⟩ = some (.bool hsh) ∧ w'.cell? ⟨w.heap.size + 1, 3, none⟩ = some (.bool false)) (first | go_keep | exact ⟨three_far d1 n0, three_far d1 n1, three_far d1 n2, three_far d2 k0, three_far d2 k1, three_far d2 k2, three_far d2 k3, three_far d3 y0, three_far d3 y1, three_far d3 y2, three_far d3 y3⟩) (fail)
      all_goals go_wp2_with fail
      refine bodyPost_ret (results_row_tmp2 rfl _ _ (w.heap.size + 1 + 1) _ _ _ _ rfl (((((unhide HR4).setC 0 (.int .i64 slot)).setC 1 (.slice (some ⟨bb, off, none⟩) H.length ca)).setC 2 (.slice a3 W.length cb)).drewK).row Try.underlying25 rfl (by kernel_rfl)) rfl ?_
      rw [(unhide HF).1, (unhide HF).2.1, (unhide HF).2.2]
      have ng : (.slice (some ⟨w.heap.size + 1 + 1 + 1, 0, none⟩) 0 0 : Value).ownBlock ≠ some (w.heap.size + 1 + 1) := fun e => by have := ((unhide HG4).lt _ e).1; omega
      have hR3 := World.ownsRow.drew (ownsRow_setCell_other (j := 2) (u := .slice a3 W.length cb) (ownsRow_setCell_other (j := 1) (u := .slice (some ⟨bb, off, none⟩) H.length ca) (ownsRow_setCell_other (j := 0) (u := .int .i64 slot) (unhide HG4) ng) ng) ng)
      exact ⟨.slice (some ⟨bb, off, none⟩) H.length ca, .slice a3 W.length cb, .slice (some ⟨w.heap.size + 1 + 1 + 1, 0, none⟩) 0 0, ret_three rfl (rb (a := eqHd ⟨xs, xt, xsh, false⟩ hh) (unhide HHA1).2.symm) rfl, (((((unhide HO4).set (g := w.heap.size + 1 + 1) (by omega) _ _).set (g := w.heap.size + 1 + 1) (by omega) _ _).set (g := w.heap.size + 1 + 1) (by omega) _ _).kept ((Below.refl _ _).drew)).low (by omega), ⟨⟨RowAt.of_own (xs := ([] : List Hd)) hR3, (OwnK.of_own hR3).low (by omega)⟩, .inr (fun e => by have := (unhide HL2 _ e.symm).1; dsimp only at this; omega), .inr (fun e => by have := (unhide HL3 _ e.symm).1; dsimp only at this; omega)⟩, ((((unhide HB4).setCell (by simp; omega) _).setCell (by simp; omega) _).setCell (by simp; omega) _).drew⟩
    · go_wp2_with fail
      go_quiet (fail)
      rename Nat => nq
      have hbq : Below w3.heap.size w3 (w3.drewN nq) := below_drewN (Below.refl _ _) nq
      have HN4 := hide ((unhide HN3).kept hbq)
      have HY4 := hide ((unhide HY3).kept hbq)
      have HR4 := hide ((unhide HR3).kept hbq)
      have HG4 := hide (ownsRow_below (unhide HG3) hbq)
      have HB4 := hide ((unhide HB3).trans (hbq.mono zB3))
      have HO4 := hide ((unhide HO3).kept hbq)
      have k0 := cell_kept hbq c0
      have k1 := cell_kept hbq c1
      have k2 := cell_kept hbq c2
      have k3 := cell_kept hbq c3
      have hz4 := hbq.size
      generalize w3.drewN nq = w4 at *
      clear hbq n0 n1 n2 y0 y1 y2 y3 c0 c1 c2 c3
      obtain ⟨n0, n1, n2⟩ := (unhide HN4).three
      obtain ⟨y0, y1, y2, y3⟩ := (unhide HY4).four
      go_wp2_with fail
      obtain ⟨r0, r1, r2⟩ := (unhide HR4).three
      obtain ⟨f0, f1, f2⟩ := (unhide HR4).free3
      have lbb := (unhide HL2 bb rfl).1
      have d1 : w.heap.size + 1 + 1 ≠ w2.heap.size := by omega
      have d2 : w.heap.size + 1 + 1 ≠ bb := by omega
      have d3 : w.heap.size + 1 + 1 ≠ w.heap.size + 1 := by omega
      go_region_held3 (fun w' => w'.cell? ⟨w2.heap.size, 0, none⟩ = some (.int .i64 slot) ∧ w'.cell? ⟨w2.heap.size, 1, none⟩ = some (.slice (some ⟨bb, off, none⟩) H.length ca) ∧ w'.cell? ⟨w2.heap.size, 2, none⟩ = some (.slice a3 W.length cb) ∧ w'.cell? ⟨bb, off + i * 4, none⟩ = some (.int .i64 xs) ∧ w'.cell? ⟨bb, off + i * 4 + 1, none⟩ = some (.int .i64 xt) ∧ w'.cell? ⟨bb, off + i * 4 + 2, none⟩ = some (.bool xsh) ∧ w'.cell? ⟨bb, off + i * 4 + 3, none⟩ = some (.bool true) ∧ w'.cell? ⟨w.heap.size + 1, 0, none⟩ = some (.int .i64 hs) ∧ w'.cell? ⟨w.heap.size + 1, 1, none⟩ = some (.int .i64 ht) ∧ w'.cell? ⟨w.heap.size + 1, 2, none⟩ = some (.bool hsh) ∧ w'.cell? ⟨w.heap.size + 1, 3, none⟩ = some (.bool false)) (first | go_keep | exact ⟨three_far d1 n0, three_far d1 n1, three_far d1 n2, three_far d2 k0, three_far d2 k1, three_far d2 k2, three_far d2 k3, three_far d3 y0, three_far d3 y1, three_far d3 y2, three_far d3 y3⟩) (fail)
      all_goals go_wp2_with fail
      refine bodyPost_ret (results_row_tmp2 rfl _ _ (w.heap.size + 1 + 1) _ _ _ _ rfl (((((unhide HR4).setC 0 (.int .i64 slot)).setC 1 (.slice (some ⟨bb, off, none⟩) H.length ca)).setC 2 (.slice a3 W.length cb)).drewK).row Try.underlying25 rfl (by kernel_rfl)) rfl ?_
      rw [(unhide HF).1, (unhide HF).2.1, (unhide HF).2.2]
      have ng : (.slice (some ⟨w.heap.size + 1 + 1 + 1, 0, none⟩) 0 0 : Value).ownBlock ≠ some (w.heap.size + 1 + 1) := fun e => by have := ((unhide HG4).lt _ e).1; omega
      have hR3 := World.ownsRow.drew (ownsRow_setCell_other (j := 2) (u := .slice a3 W.length cb) (ownsRow_setCell_other (j := 1) (u := .slice (some ⟨bb, off, none⟩) H.length ca) (ownsRow_setCell_other (j := 0) (u := .int .i64 slot) (unhide HG4) ng) ng) ng)
      exact ⟨.slice (some ⟨bb, off, none⟩) H.length ca, .slice a3 W.length cb, .slice (some ⟨w.heap.size + 1 + 1 + 1, 0, none⟩) 0 0, ret_three rfl (rb (a := eqHd ⟨xs, xt, xsh, true⟩ hh) (unhide HHA1).2.symm) rfl, (((((unhide HO4).set (g := w.heap.size + 1 + 1) (by omega) _ _).set (g := w.heap.size + 1 + 1) (by omega) _ _).set (g := w.heap.size + 1 + 1) (by omega) _ _).kept ((Below.refl _ _).drew)).low (by omega), ⟨⟨RowAt.of_own (xs := ([] : List Hd)) hR3, (OwnK.of_own hR3).low (by omega)⟩, .inr (fun e => by have := (unhide HL2 _ e.symm).1; dsimp only at this; omega), .inr (fun e => by have := (unhide HL3 _ e.symm).1; dsimp only at this; omega)⟩, ((((unhide HB4).setCell (by simp; omega) _).setCell (by simp; omega) _).setCell (by simp; omega) _).drew⟩
  go_wp2_with fail
  go_cut [9, 57] (fun _ v wz => v = .bool false ∧ Below w3.heap.size w3 wz)
  case first =>
    rcases unhide HCH with ⟨h1, -⟩ | ⟨i, hi, h1, -, -⟩
    · rw [h1]
      clear h1
      go_wp2_with fail
      go_quiet (fail)
      go_wp2_with fail
      go_meet
      case rel => exact ⟨rfl, below_drewN (Below.refl _ _) _⟩
    · rw [h1]
      have HHA1 := hide (unhide HHA i (by rw [(unhide HTRY).2]; exact h1))
      obtain ⟨bb, off, rfl⟩ := (unhide HO3).at.held.some_of (show 0 < H.length by omega)
      obtain ⟨c0, c1, c2, c3⟩ := hd_cells (unhide HO3).at.held (i := i) hi
      generalize H.getD i Hd.z = x at c0 c1 c2 c3 HHA1
      have hkn : (i : Int) < (H.length : Int) := by omega
      have hk0 : (0 : Int) ≤ (i : Int) := by omega
      have hkd : decide ((0 : Int) ≤ (i : Int)) = true := by simp
      obtain ⟨xs, xt, xsh, xf⟩ := x
      simp only at *
      clear h1
      have hxf : xf = false ∧ decide (ht ≤ xt) = false := by
        have := (unhide HHA1).1; rw [(unhide HTRY).1] at this
        cases xf
        · exact ⟨rfl, by simpa using this.symm⟩
        · simp at this
      obtain ⟨rfl, hle⟩ := hxf
      go_wp2_with fail
      go_quiet (fail)
      go_wp2_with fail
      go_meet
      case rel => exact ⟨rfl, below_drewN (Below.refl _ _) _⟩
  case rest =>
    rename World => w4
    obtain ⟨rfl, hb4⟩ := hcut
    have hz4 := hb4.size
    have HN4 := hide ((unhide HN3).kept hb4)
    have HX4 := hide ((unhide HX3).kept hb4)
    have HY4 := hide ((unhide HY3).kept hb4)
    have HR4 := hide ((unhide HR3).kept hb4)
    have HG4 := hide (ownsRow_below (unhide HG3) hb4)
    have HB4 := hide ((unhide HB3).trans (hb4.mono zB3))
    have HO4 := hide ((unhide HO3).kept hb4)
    clear hb4 HN3 HX3 HY3 HR3 HG3 HB3 HO3 y0 y1 y2 y3 n0 n1 n2
    obtain ⟨y0, y1, y2, y3⟩ := (unhide HY4).four
    obtain ⟨n0, n1, n2⟩ := (unhide HN4).three
    have zB4 := (unhide HB4).size
    go_wp2_with fail
    refine (unhide HAW _ _ (unhide HO4).at.waits).mono ?_; rintro e w4 ⟨rfl, rfl⟩
    cases SW
    case true =>
      have hfnd : ∃ i : Nat, i < W.length ∧ atL W hs = i := by
        rcases unhide HCW with ⟨h1, -⟩ | ⟨i, hi, h1, -, -⟩
        · have := unhide HWN h1; simp at this
        · exact ⟨i, hi, h1⟩
      obtain ⟨i, hi, h1⟩ := hfnd
      rw [h1]
      have HWA1 := hide (unhide HWA i (by rw [(unhide HTRY).2]; exact h1))
      obtain ⟨bb, off, rfl⟩ := (unhide HO4).at.waits.some_of (show 0 < W.length by omega)
      obtain ⟨c0, c1, c2, c3⟩ := hd_cells (unhide HO4).at.waits (i := i) hi
      generalize W.getD i Hd.z = x at c0 c1 c2 c3 HWA1
      have HF := hide (unhide HSW (unhide HBD0) (by first | rfl | trivial) (by first | rfl | trivial))
      have hkn : (i : Int) < (W.length : Int) := by omega
      have hk0 : (0 : Int) ≤ (i : Int) := by omega
      have hkd : decide ((0 : Int) ≤ (i : Int)) = true := by simp
      have hle : decide (ht < x.try_) = true := by have := unhide HWA1; rw [(unhide HTRY).1] at this; exact this.symm
      clear h1
      go_wp2_with fail
      go_quiet (fail)
      rename Nat => nq
      have hbq : Below w4.heap.size w4 (w4.drewN nq) := below_drewN (Below.refl _ _) nq
      have HN5 := hide ((unhide HN4).kept hbq)
      have HR5 := hide ((unhide HR4).kept hbq)
      have HG5 := hide (ownsRow_below (unhide HG4) hbq)
      have HB5 := hide ((unhide HB4).trans (hbq.mono zB4))
      have HO5 := hide ((unhide HO4).kept hbq)
      have hz5 := hbq.size
      generalize w4.drewN nq = w5 at *
      clear hbq n0 n1 n2 y0 y1 y2 y3 c0 c1 c2 c3
      obtain ⟨n0, n1, n2⟩ := (unhide HN5).three
      obtain ⟨r0, r1, r2⟩ := (unhide HR5).three
      obtain ⟨f0, f1, f2⟩ := (unhide HR5).free3
      go_wp2_with fail
      refine bodyPost_ret (results_row_tmp2 rfl _ _ (w.heap.size + 1 + 1) _ _ _ _ rfl ((((unhide HR5).setC 0 (.int .i64 slot)).setC 1 (.slice a2 H.length ca)).setC 2 (.slice (some ⟨bb, off, none⟩) W.length cb)).row Try.underlying25 rfl (by kernel_rfl)) rfl ?_
      rw [(unhide HF).1, (unhide HF).2.1, (unhide HF).2.2]
      have ng : (.slice (some ⟨w.heap.size + 1 + 1 + 1, 0, none⟩) 0 0 : Value).ownBlock ≠ some (w.heap.size + 1 + 1) := fun e => by have := ((unhide HG5).lt _ e).1; omega
      have hR3 := ownsRow_setCell_other (j := 2) (u := (.slice (some ⟨bb, off, none⟩) W.length cb)) (ownsRow_setCell_other (j := 1) (u := (.slice a2 H.length ca)) (ownsRow_setCell_other (j := 0) (u := .int .i64 slot) (unhide HG5) ng) ng) ng
      exact ⟨(.slice a2 H.length ca), (.slice (some ⟨bb, off, none⟩) W.length cb), .slice (some ⟨w.heap.size + 1 + 1 + 1, 0, none⟩) 0 0, ret_three rfl rfl rfl, ((((unhide HO5).set (g := w.heap.size + 1 + 1) (by omega) _ _).set (g := w.heap.size + 1 + 1) (by omega) _ _).set (g := w.heap.size + 1 + 1) (by omega) _ _).low (by omega), ⟨⟨RowAt.of_own (xs := ([] : List Hd)) hR3, (OwnK.of_own hR3).low (by omega)⟩, .inr (fun e => by have := (unhide HL2 _ e.symm).1; dsimp only at this; omega), .inr (fun e => by have := (unhide HL3 _ e.symm).1; dsimp only at this; omega)⟩, (((unhide HB5).setCell (by simp; omega) _).setCell (by simp; omega) _).setCell (by simp; omega) _⟩
    go_wp2_with fail
    go_cut [10, 84] (fun _ v wz => v = .bool false ∧ Below w4.heap.size w4 wz)
    case first =>
      rcases unhide HCW with ⟨h1, -⟩ | ⟨i, hi, h1, -, -⟩
      · rw [h1]
        clear h1
        go_wp2_with fail
        go_quiet (fail)
        go_wp2_with fail
        go_meet
        case rel => exact ⟨rfl, below_drewN (Below.refl _ _) _⟩
      · rw [h1]
        have HWA1 := hide (unhide HWA i (by rw [(unhide HTRY).2]; exact h1))
        obtain ⟨bb, off, rfl⟩ := (unhide HO4).at.waits.some_of (show 0 < W.length by omega)
        obtain ⟨c0, c1, c2, c3⟩ := hd_cells (unhide HO4).at.waits (i := i) hi
        generalize W.getD i Hd.z = x at c0 c1 c2 c3 HWA1
        have hkn : (i : Int) < (W.length : Int) := by omega
        have hk0 : (0 : Int) ≤ (i : Int) := by omega
        have hkd : decide ((0 : Int) ≤ (i : Int)) = true := by simp
        have hle : decide (ht < x.try_) = false := by have := unhide HWA1; rw [(unhide HTRY).1] at this; exact this.symm
        clear h1
        go_wp2_with fail
        go_quiet (fail)
        go_wp2_with fail
        go_meet
        case rel => exact ⟨rfl, below_drewN (Below.refl _ _) _⟩
    case rest =>
      rename World => w5
      obtain ⟨rfl, hb5⟩ := hcut
      have hz5 := hb5.size
      have HN5 := hide ((unhide HN4).kept hb5)
      have HX5 := hide ((unhide HX4).kept hb5)
      have HY5 := hide ((unhide HY4).kept hb5)
      have HR5 := hide ((unhide HR4).kept hb5)
      have HG5 := hide (ownsRow_below (unhide HG4) hb5)
      have HB5 := hide ((unhide HB4).trans (hb5.mono zB4))
      have HH5 := hide ((unhide HO4).at.held.kept hb5)
      have HW5 := hide ((unhide HO4).at.waits.kept hb5)
      clear hb5 HN4 HX4 HY4 HR4 HG4 HB4 HO4 y0 y1 y2 y3 n0 n1 n2
      obtain ⟨y0, y1, y2, y3⟩ := (unhide HY5).four
      obtain ⟨n0, n1, n2⟩ := (unhide HN5).three
      have lN5 := (unhide HN5).lt
      go_wp2_with fail
      refine (unhide HWO _ _ (unhide HH5)).mono ?_; rintro e w6 ⟨r6, rfl, ho6, hb6⟩
      obtain ⟨a6, c6, rfl, -⟩ := ownsRow_slice ho6
      have hz6 := hb6.size
      have HN6 := hide ((unhide HN5).kept hb6)
      have hg6 := grownBy_set (grownBy_refl w6 (some w2.heap.size)) 1 (.slice a6 H1.length c6)
      have fr6 := (fr_below hb6 (fun q => q = w2.heap.size)).set w2.heap.size 1 (.slice a6 H1.length c6) (fun _ => rfl)
      have HX6 := hide (fr6.bx (unhide HX5) (by omega))
      have HY6 := hide (fr6.bx (unhide HY5) (by omega))
      have HR6 := hide (fr6.bx (unhide HR5) (by omega))
      have HG6 := hide (fr6.row (unhide HG5) (fun q hq e => by subst e; have := ((unhide HG5).lt _ hq).2; simp [Value.ownBlock] at hq; omega))
      have HB6 := hide (fr6.below (unhide HB5) (unhide HB5).size (fun q hq e => by omega))
      have HW6 := hide (fr6.rowAt (unhide HW5) (fun q hq e => by subst e; have := (unhide HL3 _ hq).2; omega))
      have ng6 : (Value.slice a6 H1.length c6).ownBlock ≠ some w2.heap.size := fun e => by have := (ho6.lt _ e).1; omega
      have HO6 := hide (ho6.kept hg6 (.inr ng6))
      have HLA := hide (fun q hq => ho6.lt q hq)
      have HM6 : Hid (Bx (w6.setCell ⟨w2.heap.size, 1, none⟩ (.slice a6 H1.length c6)) w2.heap.size 25 #[.int .i64 slot, .slice a6 H1.length c6, .slice a3 W.length cb]) := hide (by have := (unhide HN6).setC 1 (.slice a6 H1.length c6); simpa using this)
      have hzv6 : (w6.setCell ⟨w2.heap.size, 1, none⟩ (.slice a6 H1.length c6)).heap.size = w6.heap.size := by simp [World.setCell]
      clear ho6 hb6 hg6 fr6 HN5 HX5 HY5 HR5 HG5 HB5 HH5 HW5 y0 y1 y2 y3 n0 n1 n2
      obtain ⟨n0, n1, n2⟩ := (unhide HN6).three
      obtain ⟨f0, f1, f2⟩ := (unhide HN6).free3
      obtain ⟨v6, hv6⟩ : ∃ v6, v6 = w6.setCell ⟨w2.heap.size, 1, none⟩ (.slice a6 H1.length c6) := ⟨_, rfl⟩
      have HV6 := hide hv6
      rw [← hv6] at HX6 HY6 HR6 HG6 HB6 HW6 HO6 HM6 hzv6
      clear hv6
      obtain ⟨m0, m1, m2⟩ := (unhide HM6).three
      rw [unhide HV6] at m0 m1 m2
      obtain ⟨y0, y1, y2, y3⟩ := (unhide HY6).four
      rw [unhide HV6] at y0 y1 y2 y3
      go_wp2_with fail
      rw [← unhide HV6]
      clear n0 n1 n2 f0 f1 f2 m0 m1 m2 y0 y1 y2 y3
      refine (unhide HWO' _ _ (unhide HW6)).mono ?_; rintro e w7 ⟨r7, rfl, ho7, hb7⟩
      obtain ⟨a7, c7, rfl, -⟩ := ownsRow_slice ho7
      have hz7 := hb7.size
      have HN7 := hide ((unhide HM6).kept hb7)
      have hg7 := grownBy_set (grownBy_refl w7 (some w2.heap.size)) 2 (.slice a7 W1.length c7)
      have fr7 := (fr_below hb7 (fun q => q = w2.heap.size)).set w2.heap.size 2 (.slice a7 W1.length c7) (fun _ => rfl)
      have HX7 := hide (fr7.bx (unhide HX6) (by omega))
      have HY7 := hide (fr7.bx (unhide HY6) (by omega))
      have HR7 := hide (fr7.bx (unhide HR6) (by omega))
      have HG7 := hide (fr7.row (unhide HG6) (fun q hq e => by subst e; simp [Value.ownBlock] at hq; omega))
      have HB7 := hide (fr7.below (unhide HB6) (unhide HB6).size (fun q hq e => by omega))
      have HP7 := hide (fr7.row (unhide HO6) (fun q hq e => by subst e; exact ng6 hq))
      have ng7 : (Value.slice a7 W1.length c7).ownBlock ≠ some w2.heap.size := fun e => by have := (ho7.lt _ e).1; omega
      have HQ7 := hide (ho7.kept hg7 (.inr ng7))
      have HLB := hide (fun q hq => ho7.lt q hq)
      have HM7 : Hid (Bx (w7.setCell ⟨w2.heap.size, 2, none⟩ (.slice a7 W1.length c7)) w2.heap.size 25 #[.int .i64 slot, .slice a6 H1.length c6, .slice a7 W1.length c7]) := hide (by have := (unhide HN7).setC 2 (.slice a7 W1.length c7); simpa using this)
      have hzv7 : (w7.setCell ⟨w2.heap.size, 2, none⟩ (.slice a7 W1.length c7)).heap.size = w7.heap.size := by simp [World.setCell]
      clear ho7 hb7 hg7 fr7 HX6 HY6 HR6 HG6 HB6 HW6 HO6 HM6 HV6 HN6
      obtain ⟨n0, n1, n2⟩ := (unhide HN7).three
      obtain ⟨f0, f1, f2⟩ := (unhide HN7).free3
      obtain ⟨v7, hv7⟩ : ∃ v7, v7 = w7.setCell ⟨w2.heap.size, 2, none⟩ (.slice a7 W1.length c7) := ⟨_, rfl⟩
      have HV7 := hide hv7
      rw [← hv7] at HX7 HY7 HR7 HG7 HB7 HP7 HQ7 HM7 hzv7
      clear hv7
      go_wp2_with fail
      rw [← unhide HV7]
      clear n0 n1 n2 f0 f1 f2
      have bV : Below v7.heap.size v7 ((v7.alloc (.cells #[] 27)).alloc (.cells #[] 27)) := ((Below.refl _ _).alloc (Nat.le_refl _) _).alloc (by simp) _
      have HBV := hide bV
      clear bV
      obtain ⟨i0, hi, hz0, hz1, hz2'⟩ := info_parts Try.infoHd
      obtain ⟨pp, hpp⟩ : ∃ pp, pp = takesS hh := ⟨_, rfl⟩
      rw [← hpp] at HRE HGE HFE HTS
      clear hpp
      go_loopw [11, 12, 13] (fun tk kp i wr => ∃ k : Nat, k ≤ H1.length ∧ i = .int .i64 k ∧ wr.ownsRow v7.heap.size 27 4 tk (goneL pp (H1.take k)).length ((goneL pp (H1.take k)).flatMap hdE) ∧ wr.ownsRow v7.heap.size 27 4 kp (stayL pp (H1.take k)).length ((stayL pp (H1.take k)).flatMap hdE) ∧ (tk.ownBlock = none ∨ tk.ownBlock ≠ kp.ownBlock) ∧ Below v7.heap.size v7 wr) (fun _ _ i _ => H1.length - (intOf i).toNat)
      case atStart =>
        refine ⟨0, Nat.zero_le _, rfl, ?_, ?_, .inr (by simp [Value.ownBlock]), unhide HBV⟩
        · exact ownsRow_below (ownsRow_madeS v7 _ hzv7 (Nat.le_refl _)) ((Below.refl _ _).alloc (Nat.le_refl _) _)
        · exact ownsRow_madeS _ _ (by simp [hzv7]) (by simp)
      case round =>
        obtain ⟨k, hk, rfl, htk, hkp, hne, hb⟩ := hrel
        obtain ⟨ta, tc, rfl, -⟩ := ownsRow_slice htk
        obtain ⟨ka, kc, rfl, -⟩ := ownsRow_slice hkp
        have l1 : (stayL pp (H1.take k)).length ≤ k := Nat.le_trans (List.length_filter_le _ _) (List.length_take_le k H1)
        have l2 : (goneL pp (H1.take k)).length ≤ k := Nat.le_trans (List.length_filter_le _ _) (List.length_take_le k H1)
        have HTK := hide htk
        have HKP := hide hkp
        have HNE := hide hne
        have HBR := hide hb
        have hzr := hb.size
        have HN8 := hide ((unhide HM7).kept hb)
        have HY8 := hide ((unhide HY7).kept hb)
        clear htk hkp hne hb
        obtain ⟨n0, n1, n2⟩ := (unhide HN8).three
        by_cases hlt : k < H1.length
        case neg =>
          obtain rfl : k = H1.length := by omega
          have hfull : H1.take H1.length = H1 := List.take_of_length_le (Nat.le_refl _)
          rw [hfull] at HTK HKP HNE l1 l2 ⊢
          clear hfull
          have lt' : ¬ (H1.length : Int) < (H1.length : Int) := by omega
          generalize stayL pp H1 = SS at *
          generalize goneL pp H1 = GG at *
          have HX8 := hide ((unhide HX7).kept (unhide HBR))
          have HR8 := hide ((unhide HR7).kept (unhide HBR))
          have HG8 := hide (ownsRow_below (unhide HG7) (unhide HBR))
          have HB8 := hide ((unhide HB7).trans ((unhide HBR).mono (unhide HB7).size))
          have HQ8 := hide (ownsRow_below (unhide HQ7) (unhide HBR))
          have fr9 := fr_set wr w2.heap.size 1 (.slice ka SS.length kc)
          have hg9 := grownBy_set (grownBy_refl wr (some w2.heap.size)) 1 (.slice ka SS.length kc)
          have ngk : (Value.slice ka SS.length kc).ownBlock ≠ some w2.heap.size := fun e => by have := ((unhide HKP).lt _ e).1; omega
          have ngt : (Value.slice ta GG.length tc).ownBlock ≠ some w2.heap.size := fun e => by have := ((unhide HTK).lt _ e).1; omega
          have HX9 := hide (fr9.bx (unhide HX8) (by omega))
          have HY9 := hide (fr9.bx (unhide HY8) (by omega))
          have HR9 := hide (fr9.bx (unhide HR8) (by omega))
          have HG9 := hide (fr9.row (unhide HG8) (fun q hq e => by subst e; simp [Value.ownBlock] at hq; omega))
          have HB9 := hide (fr9.below (unhide HB8) (unhide HB8).size (fun q hq e => by omega))
          have HQ9 := hide (fr9.row (unhide HQ8) (fun q hq e => by subst e; exact ng7 hq))
          have HK9 := hide (fr9.row (unhide HKP) (fun q hq e => by subst e; exact ngk hq))
          have HT9 := hide (fr9.row (unhide HTK) (fun q hq e => by subst e; exact ngt hq))
          have HM9 : Hid (Bx (wr.setCell ⟨w2.heap.size, 1, none⟩ (.slice ka SS.length kc)) w2.heap.size 25 #[.int .i64 slot, .slice ka SS.length kc, .slice a7 W1.length c7]) := hide (by have := (unhide HN8).setC 1 (.slice ka SS.length kc); simpa using this)
          have hzv9 : (wr.setCell ⟨w2.heap.size, 1, none⟩ (.slice ka SS.length kc)).heap.size = wr.heap.size := by simp [World.setCell]
          have HD1 : Hid ((Value.slice ka SS.length kc).ownBlock = none ∨ (Value.slice ka SS.length kc).ownBlock ≠ (Value.slice a7 W1.length c7).ownBlock) := by
            cases hq : (Value.slice ka SS.length kc).ownBlock with
            | none => exact .inl rfl
            | some q =>
              right; intro e
              have h1 := ((unhide HKP).lt q hq).1
              have h2 := (unhide HLB q e.symm).2
              omega
          have HD2 : Hid ((Value.slice ta GG.length tc).ownBlock = none ∨ (Value.slice ta GG.length tc).ownBlock ≠ (Value.slice a7 W1.length c7).ownBlock) := by
            cases hq : (Value.slice ta GG.length tc).ownBlock with
            | none => exact .inl rfl
            | some q =>
              right; intro e
              have h1 := ((unhide HTK).lt q hq).1
              have h2 := (unhide HLB q e.symm).2
              omega
          clear fr9 hg9
          obtain ⟨f0, f1, f2⟩ := (unhide HN8).free3
          obtain ⟨v9, hv9⟩ : ∃ v9, v9 = wr.setCell ⟨w2.heap.size, 1, none⟩ (.slice ka SS.length kc) := ⟨_, rfl⟩
          have HV9 := hide hv9
          rw [← hv9] at HX9 HY9 HR9 HG9 HB9 HQ9 HK9 HT9 HM9 hzv9
          clear hv9
          obtain ⟨m0, m1, m2⟩ := (unhide HM9).three
          rw [unhide HV9] at m0 m1 m2
          obtain ⟨y0, y1, y2, y3⟩ := (unhide HY9).four
          rw [unhide HV9] at y0 y1 y2 y3
          obtain ⟨u0, u1, u2⟩ := (unhide HX9).three
          rw [unhide HV9] at u0 u1 u2
          have hsl : SS.length ≤ 16 := by omega
          by_cases hfu : 15 < SS.length + W1.length
          · have HF := hide (unhide HFD (unhide HBD0) (by first | rfl | trivial) (by first | rfl | trivial) (by rw [unhide HFE]; simpa using hfu))
            have hfi : (15 : Int) < (SS.length : Int) + (W1.length : Int) := by omega
            go_wp2_with fail
            rw [← unhide HV9]
            clear m0 m1 m2 y0 y1 y2 y3 u0 u1 u2 n0 n1 n2 f0 f1 f2
            refine (unhide HCP _ ((unhide HU).kept (unhide HB9)) (unhide HLN) (unhide HLM)).mono ?_; rintro e w12 ⟨a', b', rfl, hoa, hob, hne, hb12⟩
            have HO12 := hide (OwnLk.mk (l := ⟨slot, H, W⟩) hoa hob hne)
            obtain ⟨a8, c8, a9, c9, rfl, rfl⟩ := (unhide HO12).shape
            have HL8 := hide (fun q hq => hoa.lt q hq)
            have HL9 := hide (fun q hq => hob.lt q hq)
            have HR12 := hide ((unhide HR9).kept hb12)
            have HG12 := hide (ownsRow_below (unhide HG9) hb12)
            have HB12 := hide ((unhide HB9).trans (hb12.mono (unhide HB9).size))
            clear hoa hob hne hb12
            obtain ⟨r0, r1, r2⟩ := (unhide HR12).three
            obtain ⟨f0, f1, f2⟩ := (unhide HR12).free3
            go_wp2_with fail
            refine bodyPost_ret (results_row_tmp2 rfl _ _ (w.heap.size + 1 + 1) _ _ _ _ rfl ((((unhide HR12).setC 0 (.int .i64 slot)).setC 1 (.slice a8 H.length c8)).setC 2 (.slice a9 W.length c9)).row Try.underlying25 rfl (by kernel_rfl)) rfl ?_
            rw [(unhide HF).1, (unhide HF).2.1, (unhide HF).2.2]
            have ng : (.slice (some ⟨w.heap.size + 1 + 1 + 1, 0, none⟩) 0 0 : Value).ownBlock ≠ some (w.heap.size + 1 + 1) := fun e => by have := ((unhide HG12).lt _ e).1; omega
            have hR3 := ownsRow_setCell_other (j := 2) (u := (.slice a9 W.length c9)) (ownsRow_setCell_other (j := 1) (u := (.slice a8 H.length c8)) (ownsRow_setCell_other (j := 0) (u := .int .i64 slot) (unhide HG12) ng) ng) ng
            exact ⟨(.slice a8 H.length c8), (.slice a9 W.length c9), .slice (some ⟨w.heap.size + 1 + 1 + 1, 0, none⟩) 0 0, ret_three rfl rfl rfl, ((((unhide HO12).set (g := w.heap.size + 1 + 1) (by omega) _ _).set (g := w.heap.size + 1 + 1) (by omega) _ _).set (g := w.heap.size + 1 + 1) (by omega) _ _).low (by omega), ⟨⟨RowAt.of_own (xs := ([] : List Hd)) hR3, (OwnK.of_own hR3).low (by omega)⟩, .inr (fun e => by have := (unhide HL8 _ e.symm).1; dsimp only at this; omega), .inr (fun e => by have := (unhide HL9 _ e.symm).1; dsimp only at this; omega)⟩, (((unhide HB12).setCell (by simp; omega) _).setCell (by simp; omega) _).setCell (by simp; omega) _⟩
          have hfi : ¬ (15 : Int) < (SS.length : Int) + (W1.length : Int) := by omega
          have HF := hide (unhide HLD (unhide HBD0) (by first | rfl | trivial) (by first | rfl | trivial) (by rw [unhide HFE]; simpa using hfu))
          have hgE : GG = AG := (unhide HGE).symm
          have hrE : RL = ⟨slot, SS, W1⟩ := unhide HRE
          subst hrE hgE
          simp only at *
          go_wp2_with fail
          rw [← unhide HV9]
          clear m0 m1 m2 y0 y1 y2 y3 u0 u1 u2 n0 n1 n2 f0 f1 f2
          refine (unhide HMA _ _ _ ⟨RowAt.of_own (unhide HK9), RowAt.of_own (unhide HQ9)⟩).mono ?_; rintro e w10 ⟨rfl, hb10⟩
          have hz10 := hb10.size
          have HY10 := hide ((unhide HY9).kept hb10)
          have HR10 := hide ((unhide HR9).kept hb10)
          have HB10 := hide ((unhide HB9).trans (hb10.mono (unhide HB9).size))
          have HQ10 := hide (ownsRow_below (unhide HQ9) hb10)
          have HK10 := hide (ownsRow_below (unhide HK9) hb10)
          have HT10 := hide (ownsRow_below (unhide HT9) hb10)
          have HM10 := hide ((unhide HM9).kept hb10)
          clear hb10 HX9 HY9 HR9 HB9 HQ9 HK9 HT9 HM9
          obtain ⟨m0, m1, m2⟩ := (unhide HM10).three
          obtain ⟨y0, y1, y2, y3⟩ := (unhide HY10).four
          cases hmy : mayB ⟨slot, SS, W1⟩ hh
          · have HSI : Hid (SI = ⟨slot, SS, putL W1 hh⟩) := by show SI = _; rw [unhide HIE, hmy]; rfl
            have HMY := hide hmy
            rw [hmy] at HF
            clear hmy
            go_wp2_with fail
            refine (unhide HPW _ _ (RowAt.of_own (unhide HQ10)) (by omega)).mono ?_; rintro e w11 ⟨r11, rfl, ho11, hb11⟩
            obtain ⟨pa, pc, rfl, -⟩ := ownsRow_slice ho11
            have hz11 := hb11.size
            have HM11 := hide ((unhide HM10).kept hb11)
            have fr11 := (fr_below hb11 (fun q => q = w2.heap.size)).set w2.heap.size 2 (.slice pa (putL W1 hh).length pc) (fun _ => rfl)
            have ngp : ((.slice pa (putL W1 hh).length pc) : Value).ownBlock ≠ some w2.heap.size := fun e => by have := (ho11.lt _ e).1; omega
            have HR12 := hide (fr11.bx (unhide HR10) (by omega))
            have HB12 := hide (fr11.below (unhide HB10) (unhide HB10).size (fun q hq e => by omega))
            have HO12 := hide (fr11.row (unhide HK10) (fun q hq e => by subst e; exact ngk hq))
            have HT12 := hide (fr11.row (unhide HT10) (fun q hq e => by subst e; exact ngt hq))
            have HP12 := hide (ownsRow_setCell_other (j := 2) (u := (.slice pa (putL W1 hh).length pc)) ho11 ngp)
            have HM12 : Hid (Bx (w11.setCell ⟨w2.heap.size, 2, none⟩ (.slice pa (putL W1 hh).length pc)) w2.heap.size 25 #[.int .i64 slot, (.slice ka SS.length kc), (.slice pa (putL W1 hh).length pc)]) := hide (by have := (unhide HM11).setC 2 (.slice pa (putL W1 hh).length pc); simpa using this)
            have HPL' := hide (fun q hq => ho11.lt q hq)
            have hzv12 : (w11.setCell ⟨w2.heap.size, 2, none⟩ (.slice pa (putL W1 hh).length pc)).heap.size = w11.heap.size := by simp [World.setCell]
            have N1 : Hid (((.slice ka SS.length kc) : Value).ownBlock = none ∨ ((.slice ka SS.length kc) : Value).ownBlock ≠ ((.slice pa (putL W1 hh).length pc) : Value).ownBlock) := by
              refine ne_sym ?_
              cases hq : ((.slice pa (putL W1 hh).length pc) : Value).ownBlock with
              | none => exact .inl rfl
              | some q =>
                right; intro e
                have h1 := (unhide HPL' q hq).1
                have h2 := ((unhide HK10).lt q e.symm).2
                omega
            have N2 : Hid ((Value.slice ta GG.length tc).ownBlock = none ∨ (Value.slice ta GG.length tc).ownBlock ≠ ((.slice pa (putL W1 hh).length pc) : Value).ownBlock) := by
              cases hq : (Value.slice ta GG.length tc).ownBlock with
              | none => exact .inl rfl
              | some q =>
                right; intro e
                have h1 := ((unhide HT10).lt q hq).2
                have h2 := (unhide HPL' q e.symm).1
                omega
            clear ho11 hb11 fr11 m0 m1 m2 y0 y1 y2 y3
            obtain ⟨m0, m1, m2⟩ := (unhide HM11).three
            obtain ⟨f0, f1, f2⟩ := (unhide HM11).free3
            obtain ⟨v12, hv12⟩ : ∃ v12, v12 = w11.setCell ⟨w2.heap.size, 2, none⟩ (.slice pa (putL W1 hh).length pc) := ⟨_, rfl⟩
            have HV12 := hide hv12
            rw [← hv12] at HR12 HB12 HO12 HT12 HP12 HM12 hzv12
            clear hv12
            obtain ⟨k0, k1, k2⟩ := (unhide HM12).three
            rw [unhide HV12] at k0 k1 k2
            obtain ⟨r0, r1, r2⟩ := (unhide HR12).three
            rw [unhide HV12] at r0 r1 r2
            obtain ⟨g0, g1, g2⟩ := (unhide HR12).free3
            rw [unhide HV12] at g0 g1 g2
            go_wp2_with fail
            rw [← unhide HV12]
            refine bodyPost_ret (results_row_tmp2 rfl _ _ (w.heap.size + 1 + 1) _ _ _ _ rfl ((((unhide HR12).setC 0 (.int .i64 slot)).setC 1 (.slice ka SS.length kc)).setC 2 (.slice pa (putL W1 hh).length pc)).row Try.underlying25 rfl (by kernel_rfl)) rfl ?_
            rw [(unhide HF).1, (unhide HF).2.1, (unhide HF).2.2, unhide HSI]
            have ng : (Value.slice ta GG.length tc).ownBlock ≠ some (w.heap.size + 1 + 1) := fun e => by have := ((unhide HT12).lt _ e).1; omega
            have hR3 := ownsRow_setCell_other (j := 2) (u := (.slice pa (putL W1 hh).length pc)) (ownsRow_setCell_other (j := 1) (u := (.slice ka SS.length kc)) (ownsRow_setCell_other (j := 0) (u := .int .i64 slot) (unhide HT12) ng) ng) ng
            have hOO : OwnLk v12 (w.heap.size + 1 + 1 + 1) ⟨slot, SS, putL W1 hh⟩ (.slice ka SS.length kc) (.slice pa (putL W1 hh).length pc) := ⟨ownsRow_base (unhide HO12) (by omega), ownsRow_base (unhide HP12) (by omega), unhide N1⟩
            exact ⟨(.slice ka SS.length kc), (.slice pa (putL W1 hh).length pc), .slice ta GG.length tc, ret_three rfl rfl rfl, (((hOO.set (g := w.heap.size + 1 + 1) (by omega) _ _).set (g := w.heap.size + 1 + 1) (by omega) _ _).set (g := w.heap.size + 1 + 1) (by omega) _ _).low (by omega), ⟨⟨RowAt.of_own hR3, (OwnK.of_own hR3).low (by omega)⟩, unhide HNE, unhide N2⟩, (((unhide HB12).setCell (by simp; omega) _).setCell (by simp; omega) _).setCell (by simp; omega) _⟩
          · have HSI : Hid (SI = ⟨slot, putL SS hh, W1⟩) := by show SI = _; rw [unhide HIE, hmy]; rfl
            have HMY := hide hmy
            rw [hmy] at HF
            clear hmy
            go_wp2_with fail
            refine (unhide HPH _ _ (RowAt.of_own (unhide HK10)) (by omega)).mono ?_; rintro e w11 ⟨r11, rfl, ho11, hb11⟩
            obtain ⟨pa, pc, rfl, -⟩ := ownsRow_slice ho11
            have hz11 := hb11.size
            have HM11 := hide ((unhide HM10).kept hb11)
            have fr11 := (fr_below hb11 (fun q => q = w2.heap.size)).set w2.heap.size 1 (.slice pa (putL SS hh).length pc) (fun _ => rfl)
            have ngp : ((.slice pa (putL SS hh).length pc) : Value).ownBlock ≠ some w2.heap.size := fun e => by have := (ho11.lt _ e).1; omega
            have HR12 := hide (fr11.bx (unhide HR10) (by omega))
            have HB12 := hide (fr11.below (unhide HB10) (unhide HB10).size (fun q hq e => by omega))
            have HO12 := hide (fr11.row (unhide HQ10) (fun q hq e => by subst e; exact ng7 hq))
            have HT12 := hide (fr11.row (unhide HT10) (fun q hq e => by subst e; exact ngt hq))
            have HP12 := hide (ownsRow_setCell_other (j := 1) (u := (.slice pa (putL SS hh).length pc)) ho11 ngp)
            have HM12 : Hid (Bx (w11.setCell ⟨w2.heap.size, 1, none⟩ (.slice pa (putL SS hh).length pc)) w2.heap.size 25 #[.int .i64 slot, (.slice pa (putL SS hh).length pc), (.slice a7 W1.length c7)]) := hide (by have := (unhide HM11).setC 1 (.slice pa (putL SS hh).length pc); simpa using this)
            have HPL' := hide (fun q hq => ho11.lt q hq)
            have hzv12 : (w11.setCell ⟨w2.heap.size, 1, none⟩ (.slice pa (putL SS hh).length pc)).heap.size = w11.heap.size := by simp [World.setCell]
            have N1 : Hid (((.slice pa (putL SS hh).length pc) : Value).ownBlock = none ∨ ((.slice pa (putL SS hh).length pc) : Value).ownBlock ≠ ((.slice a7 W1.length c7) : Value).ownBlock) := by

              cases hq : ((.slice pa (putL SS hh).length pc) : Value).ownBlock with
              | none => exact .inl rfl
              | some q =>
                right; intro e
                have h1 := (unhide HPL' q hq).1
                have h2 := ((unhide HQ10).lt q e.symm).2
                omega
            have N2 : Hid ((Value.slice ta GG.length tc).ownBlock = none ∨ (Value.slice ta GG.length tc).ownBlock ≠ ((.slice pa (putL SS hh).length pc) : Value).ownBlock) := by
              cases hq : (Value.slice ta GG.length tc).ownBlock with
              | none => exact .inl rfl
              | some q =>
                right; intro e
                have h1 := ((unhide HT10).lt q hq).2
                have h2 := (unhide HPL' q e.symm).1
                omega
            clear ho11 hb11 fr11 m0 m1 m2 y0 y1 y2 y3
            obtain ⟨m0, m1, m2⟩ := (unhide HM11).three
            obtain ⟨f0, f1, f2⟩ := (unhide HM11).free3
            obtain ⟨v12, hv12⟩ : ∃ v12, v12 = w11.setCell ⟨w2.heap.size, 1, none⟩ (.slice pa (putL SS hh).length pc) := ⟨_, rfl⟩
            have HV12 := hide hv12
            rw [← hv12] at HR12 HB12 HO12 HT12 HP12 HM12 hzv12
            clear hv12
            obtain ⟨k0, k1, k2⟩ := (unhide HM12).three
            rw [unhide HV12] at k0 k1 k2
            obtain ⟨r0, r1, r2⟩ := (unhide HR12).three
            rw [unhide HV12] at r0 r1 r2
            obtain ⟨g0, g1, g2⟩ := (unhide HR12).free3
            rw [unhide HV12] at g0 g1 g2
            go_wp2_with fail
            rw [← unhide HV12]
            refine bodyPost_ret (results_row_tmp2 rfl _ _ (w.heap.size + 1 + 1) _ _ _ _ rfl ((((unhide HR12).setC 0 (.int .i64 slot)).setC 1 (.slice pa (putL SS hh).length pc)).setC 2 (.slice a7 W1.length c7)).row Try.underlying25 rfl (by kernel_rfl)) rfl ?_
            rw [(unhide HF).1, (unhide HF).2.1, (unhide HF).2.2, unhide HSI]
            have ng : (Value.slice ta GG.length tc).ownBlock ≠ some (w.heap.size + 1 + 1) := fun e => by have := ((unhide HT12).lt _ e).1; omega
            have hR3 := ownsRow_setCell_other (j := 2) (u := (.slice a7 W1.length c7)) (ownsRow_setCell_other (j := 1) (u := (.slice pa (putL SS hh).length pc)) (ownsRow_setCell_other (j := 0) (u := .int .i64 slot) (unhide HT12) ng) ng) ng
            have hOO : OwnLk v12 (w.heap.size + 1 + 1 + 1) ⟨slot, putL SS hh, W1⟩ (.slice pa (putL SS hh).length pc) (.slice a7 W1.length c7) := ⟨ownsRow_base (unhide HP12) (by omega), ownsRow_base (unhide HO12) (by omega), unhide N1⟩
            exact ⟨(.slice pa (putL SS hh).length pc), (.slice a7 W1.length c7), .slice ta GG.length tc, ret_three rfl rfl rfl, (((hOO.set (g := w.heap.size + 1 + 1) (by omega) _ _).set (g := w.heap.size + 1 + 1) (by omega) _ _).set (g := w.heap.size + 1 + 1) (by omega) _ _).low (by omega), ⟨⟨RowAt.of_own hR3, (OwnK.of_own hR3).low (by omega)⟩, unhide N2, unhide HD2⟩, (((unhide HB12).setCell (by simp; omega) _).setCell (by simp; omega) _).setCell (by simp; omega) _⟩
        obtain ⟨bb, off, rfl⟩ := (RowAt.of_own (unhide HP7)).some_of (show 0 < H1.length by omega)
        obtain ⟨c0, c1, c2, c3⟩ := hd_cells ((RowAt.of_own (unhide HP7)).kept (unhide HBR)) (i := k) hlt
        have hst := stay_step (p := pp) (hs := H1) (k := k) hlt
        have hgt := gone_step (p := pp) (hs := H1) (k := k) hlt
        generalize H1.getD k Hd.z = x at *
        have hps := unhide HTS x
        have HST := hide hst
        have HGT := hide hgt
        have HPS := hide hps
        clear hst hgt hps
        generalize stayL pp (H1.take k) = SK at *
        generalize goneL pp (H1.take k) = GK at *
        have hkn : (k : Int) < (H1.length : Int) := by omega
        have hk0 : (0 : Int) ≤ (k : Int) := by omega
        obtain ⟨y0, y1, y2, y3⟩ := (unhide HY8).four
        have bX : Below wr.heap.size wr (wr.alloc (.cells #[.int .i64 x.stamp, .int .i64 x.try_, .bool x.share, .bool x.firm] 27)) := (Below.refl _ _).alloc (Nat.le_refl _) _
        have HXB := hide (Bx.made wr 27 #[.int .i64 x.stamp, .int .i64 x.try_, .bool x.share, .bool x.firm])
        have HYB := hide ((unhide HY8).kept bX)
        have HTB := hide (ownsRow_below (unhide HTK) bX)
        have HKB := hide (ownsRow_below (unhide HKP) bX)
        have HBB := hide ((unhide HBR).trans (bX.mono hzr))
        have ly8 := (unhide HY8).lt
        clear bX
        go_wp2_with fail
        refine (unhide HMT x _).mono ?_; rintro e w9 ⟨rfl, hb9⟩
        have hz9 := hb9.size
        simp at hz9
        have HX9 := hide ((unhide HXB).kept hb9)
        have HT9 := hide (ownsRow_below (unhide HTB) hb9)
        have HK9 := hide (ownsRow_below (unhide HKB) hb9)
        have HB9 := hide ((unhide HBB).trans (hb9.mono (unhide HBB).size))
        obtain ⟨z0, z1, z2, z3⟩ := ((unhide HYB).kept hb9).four
        obtain ⟨x0, x1, x2, x3⟩ := (unhide HX9).four
        clear hb9 n0 n1 n2 c0 c1 c2 c3 y0 y1 y2 y3 HXB HYB HTB HKB HBB
        have hcase : pp x = true ∨ pp x = false := by cases pp x <;> simp
        obtain ⟨xs, xt, xsh, xf⟩ := x
        simp only at *
        cases tm : meetB ⟨xs, xt, xsh, xf⟩ hh
        · have HP0 : Hid (pp ⟨xs, xt, xsh, xf⟩ = false) := by show pp ⟨xs, xt, xsh, xf⟩ = false; rw [unhide HPS, tm]; rfl
          have HS2 : Hid (stayL pp (H1.take (k + 1)) = SK ++ [⟨xs, xt, xsh, xf⟩]) := by show stayL pp (H1.take (k + 1)) = _; rw [unhide HST, unhide HP0]; simp
          have HG2' : Hid (goneL pp (H1.take (k + 1)) = GK) := by show goneL pp (H1.take (k + 1)) = _; rw [unhide HGT, unhide HP0]; simp
          clear tm hcase
          go_wp2_with (at_builtin; refine wpList_append_at rfl _ _ 23 rfl v7.heap.size 27 i0 (.agg #[.int .i64 0, .int .i64 0, .bool false, .bool false]) 4 24 Try.underlying23 hi hz0 hz1 hz2' rfl (by decide) _ SK.length _ rfl ((unhide HK9).alloc _) (some ⟨w9.heap.size, 0, none⟩) 1 1 [.int .i64 xs, .int .i64 xt, .bool xsh, .bool xf] rfl rfl (.inr ⟨by decide, _, rfl, World.news_of_block (heap_alloc_new _ _)⟩) (by simp [Value.oneCell']) (by unfold maxLen; omega) (by omega) (by simp; omega) (w9.heap.size + 1) (by simp) ?_; intro b9 cap9 w10 hown9 hgrow9 hat9; have HO9 := hide hown9; have HGG := hide hgrow9; have HT10 := hide hat9; clear hown9 hgrow9 hat9)
          have hat : (Value.slice b9 (SK.length + 1) cap9).ownBlock = (Value.slice ka SK.length kc).ownBlock ∨ ∃ q, (Value.slice b9 (SK.length + 1) cap9).ownBlock = some q ∧ w9.heap.size ≤ q := (unhide HT10).elim .inl (fun e => .inr ⟨_, e, by omega⟩)
          have bC : Below w9.heap.size w9 (w9.alloc (.cells #[.int .i64 xs, .int .i64 xt, .bool xsh, .bool xf] 27)) := (Below.refl _ _).alloc (Nat.le_refl _) _
          have b10 : Below v7.heap.size v7 w10 := Below.grown ((unhide HB9).alloc (by omega) _) (unhide HGG) (by simp; omega) (fun q hq => ((unhide HK9).lt _ hq).1)
          have hoth := (ownsRow_below (unhide HT9) bC).kept (unhide HGG) (unhide HNE)
          have hne2 := ne_alt hat (unhide HNE) (fun q hq => ((unhide HT9).lt q hq).2)
          go_roundw
          case rel =>
            refine ⟨k + 1, hlt, by go_num, ?_, ?_, hne2, b10⟩
            · rw [unhide HG2']; exact hoth
            · rw [unhide HS2]; rw [List.flatMap_append, List.length_append]; exact unhide HO9
          case measure => simp [intOf]; omega
        · cases xf
          · by_cases hsx : hs < xs
            · have HP0 : Hid (pp ⟨xs, xt, xsh, false⟩ = true) := by show pp ⟨xs, xt, xsh, false⟩ = true; rw [unhide HPS, tm, (unhide HTRY).2]; simp [hsx]
              have HS2 : Hid (stayL pp (H1.take (k + 1)) = SK) := by show stayL pp (H1.take (k + 1)) = _; rw [unhide HST, unhide HP0]; simp
              have HG2' : Hid (goneL pp (H1.take (k + 1)) = GK ++ [⟨xs, xt, xsh, false⟩]) := by show goneL pp (H1.take (k + 1)) = _; rw [unhide HGT, unhide HP0]; simp
              clear tm hcase
              go_wp2_with (at_builtin; refine wpList_append_at rfl _ _ 23 rfl v7.heap.size 27 i0 (.agg #[.int .i64 0, .int .i64 0, .bool false, .bool false]) 4 24 Try.underlying23 hi hz0 hz1 hz2' rfl (by decide) _ GK.length _ rfl ((unhide HT9).alloc _) (some ⟨w9.heap.size, 0, none⟩) 1 1 [.int .i64 xs, .int .i64 xt, .bool xsh, .bool false] rfl rfl (.inr ⟨by decide, _, rfl, World.news_of_block (heap_alloc_new _ _)⟩) (by simp [Value.oneCell']) (by unfold maxLen; omega) (by omega) (by simp; omega) (w9.heap.size + 1) (by simp) ?_; intro b9 cap9 w10 hown9 hgrow9 hat9; have HO9 := hide hown9; have HGG := hide hgrow9; have HT10 := hide hat9; clear hown9 hgrow9 hat9)
              have hat : (Value.slice b9 (GK.length + 1) cap9).ownBlock = (Value.slice ta GK.length tc).ownBlock ∨ ∃ q, (Value.slice b9 (GK.length + 1) cap9).ownBlock = some q ∧ w9.heap.size ≤ q := (unhide HT10).elim .inl (fun e => .inr ⟨_, e, by omega⟩)
              have bC : Below w9.heap.size w9 (w9.alloc (.cells #[.int .i64 xs, .int .i64 xt, .bool xsh, .bool false] 27)) := (Below.refl _ _).alloc (Nat.le_refl _) _
              have b10 : Below v7.heap.size v7 w10 := Below.grown ((unhide HB9).alloc (by omega) _) (unhide HGG) (by simp; omega) (fun q hq => ((unhide HT9).lt _ hq).1)
              have hoth := (ownsRow_below (unhide HK9) bC).kept (unhide HGG) (ne_sym (unhide HNE))
              have hne2 := ne_alt hat (ne_sym (unhide HNE)) (fun q hq => ((unhide HK9).lt q hq).2)
              go_roundw
              case rel =>
                refine ⟨k + 1, hlt, by go_num, ?_, ?_, ne_sym hne2, b10⟩
                · rw [unhide HG2']; rw [List.flatMap_append, List.length_append]; exact unhide HO9
                · rw [unhide HS2]; exact hoth
              case measure => simp [intOf]; omega
            · have HP0 : Hid (pp ⟨xs, xt, xsh, false⟩ = false) := by show pp ⟨xs, xt, xsh, false⟩ = false; rw [unhide HPS, tm, (unhide HTRY).2]; simp [hsx]
              have HS2 : Hid (stayL pp (H1.take (k + 1)) = SK ++ [⟨xs, xt, xsh, false⟩]) := by show stayL pp (H1.take (k + 1)) = _; rw [unhide HST, unhide HP0]; simp
              have HG2' : Hid (goneL pp (H1.take (k + 1)) = GK) := by show goneL pp (H1.take (k + 1)) = _; rw [unhide HGT, unhide HP0]; simp
              clear tm hcase
              go_wp2_with (at_builtin; refine wpList_append_at rfl _ _ 23 rfl v7.heap.size 27 i0 (.agg #[.int .i64 0, .int .i64 0, .bool false, .bool false]) 4 24 Try.underlying23 hi hz0 hz1 hz2' rfl (by decide) _ SK.length _ rfl ((unhide HK9).alloc _) (some ⟨w9.heap.size, 0, none⟩) 1 1 [.int .i64 xs, .int .i64 xt, .bool xsh, .bool false] rfl rfl (.inr ⟨by decide, _, rfl, World.news_of_block (heap_alloc_new _ _)⟩) (by simp [Value.oneCell']) (by unfold maxLen; omega) (by omega) (by simp; omega) (w9.heap.size + 1) (by simp) ?_; intro b9 cap9 w10 hown9 hgrow9 hat9; have HO9 := hide hown9; have HGG := hide hgrow9; have HT10 := hide hat9; clear hown9 hgrow9 hat9)
              have hat : (Value.slice b9 (SK.length + 1) cap9).ownBlock = (Value.slice ka SK.length kc).ownBlock ∨ ∃ q, (Value.slice b9 (SK.length + 1) cap9).ownBlock = some q ∧ w9.heap.size ≤ q := (unhide HT10).elim .inl (fun e => .inr ⟨_, e, by omega⟩)
              have bC : Below w9.heap.size w9 (w9.alloc (.cells #[.int .i64 xs, .int .i64 xt, .bool xsh, .bool false] 27)) := (Below.refl _ _).alloc (Nat.le_refl _) _
              have b10 : Below v7.heap.size v7 w10 := Below.grown ((unhide HB9).alloc (by omega) _) (unhide HGG) (by simp; omega) (fun q hq => ((unhide HK9).lt _ hq).1)
              have hoth := (ownsRow_below (unhide HT9) bC).kept (unhide HGG) (unhide HNE)
              have hne2 := ne_alt hat (unhide HNE) (fun q hq => ((unhide HT9).lt q hq).2)
              go_roundw
              case rel =>
                refine ⟨k + 1, hlt, by go_num, ?_, ?_, hne2, b10⟩
                · rw [unhide HG2']; exact hoth
                · rw [unhide HS2]; rw [List.flatMap_append, List.length_append]; exact unhide HO9
              case measure => simp [intOf]; omega
          · have HP0 : Hid (pp ⟨xs, xt, xsh, true⟩ = false) := by show pp ⟨xs, xt, xsh, true⟩ = false; rw [unhide HPS, tm]; simp
            have HS2 : Hid (stayL pp (H1.take (k + 1)) = SK ++ [⟨xs, xt, xsh, true⟩]) := by show stayL pp (H1.take (k + 1)) = _; rw [unhide HST, unhide HP0]; simp
            have HG2' : Hid (goneL pp (H1.take (k + 1)) = GK) := by show goneL pp (H1.take (k + 1)) = _; rw [unhide HGT, unhide HP0]; simp
            clear tm hcase
            go_wp2_with (at_builtin; refine wpList_append_at rfl _ _ 23 rfl v7.heap.size 27 i0 (.agg #[.int .i64 0, .int .i64 0, .bool false, .bool false]) 4 24 Try.underlying23 hi hz0 hz1 hz2' rfl (by decide) _ SK.length _ rfl ((unhide HK9).alloc _) (some ⟨w9.heap.size, 0, none⟩) 1 1 [.int .i64 xs, .int .i64 xt, .bool xsh, .bool true] rfl rfl (.inr ⟨by decide, _, rfl, World.news_of_block (heap_alloc_new _ _)⟩) (by simp [Value.oneCell']) (by unfold maxLen; omega) (by omega) (by simp; omega) (w9.heap.size + 1) (by simp) ?_; intro b9 cap9 w10 hown9 hgrow9 hat9; have HO9 := hide hown9; have HGG := hide hgrow9; have HT10 := hide hat9; clear hown9 hgrow9 hat9)
            have hat : (Value.slice b9 (SK.length + 1) cap9).ownBlock = (Value.slice ka SK.length kc).ownBlock ∨ ∃ q, (Value.slice b9 (SK.length + 1) cap9).ownBlock = some q ∧ w9.heap.size ≤ q := (unhide HT10).elim .inl (fun e => .inr ⟨_, e, by omega⟩)
            have bC : Below w9.heap.size w9 (w9.alloc (.cells #[.int .i64 xs, .int .i64 xt, .bool xsh, .bool true] 27)) := (Below.refl _ _).alloc (Nat.le_refl _) _
            have b10 : Below v7.heap.size v7 w10 := Below.grown ((unhide HB9).alloc (by omega) _) (unhide HGG) (by simp; omega) (fun q hq => ((unhide HK9).lt _ hq).1)
            have hoth := (ownsRow_below (unhide HT9) bC).kept (unhide HGG) (unhide HNE)
            have hne2 := ne_alt hat (unhide HNE) (fun q hq => ((unhide HT9).lt q hq).2)
            go_roundw
            case rel =>
              refine ⟨k + 1, hlt, by go_num, ?_, ?_, hne2, b10⟩
              · rw [unhide HG2']; exact hoth
              · rw [unhide HS2]; rw [List.flatMap_append, List.length_append]; exact unhide HO9
            case measure => simp [intOf]; omega

end Go.Proofs.Ytoojnhodjkpecaa
