/- The law FnExactLockAsk answers true. -/
import Derived.Test.YtkloilekpdhdmaaLkM3
import Derived.Test.YtkloilekpdhdmaaLkL
import Derived.Test.YtkloilekpdhdmaaLkAE
import Derived.Deep.DeepCutAuto
import Derived.Deep.RegionHeld3
namespace Go.Proofs.Ytkloilekpdhdmaa
open Go.RowKit

set_option maxRecDepth 100000 in
set_option maxHeartbeats 8000000 in
theorem fnExactLockAsk_any (l : Lk) (a b : Value) (p0 : Hd) (w : World) (h : LkAt w l a b) :
    Calls Try.prog 12 #[lkV l a b, hdV p0] w fun e w' => e = .returned (.bool true) ∧ Below w.heap.size w w' := by
  have HU := hide h
  have hshape : ∃ a0 c0 a1 c1, a = .slice a0 l.held.length c0 ∧ b = .slice a1 l.waits.length c1 := by
    obtain ⟨a0, c0, rfl, -⟩ := h.held.shape
    obtain ⟨a1, c1, rfl, -⟩ := h.waits.shape
    exact ⟨a0, c0, a1, c1, rfl, rfl⟩
  obtain ⟨a0, c0, a1, c1, rfl, rfl⟩ := hshape
  have HSZ := hide (fun ww hk => szLock_any l (.slice a0 l.held.length c0) (.slice a1 l.waits.length c1) ww hk)
  have HTO := hide (fun ww hk hn hm => toLockX_any l (.slice a0 l.held.length c0) (.slice a1 l.waits.length c1) ww hk hn hm)
  have HSP := hide (fun x y ww hk hn hm => specAskI_any l x y p0 ww hk hn hm)
  have HIM := hide (fun x y ww hk hn hm => implAsk_any l x y p0 ww hk hn hm)
  have HTH := hide (fun ww => toHold_any p0.stamp p0.try_ p0.share p0.firm ww)
  have HEX := hide (fun x y x' y' ww hk hk' => eqLock_any l l x y x' y' ww hk hk')
  rw [eqLkB_self] at HEX
  have HLE := hide (ask_le l p0)
  generalize askL l p0 = FL at *
  generalize askC l p0 = FC at *
  generalize askT l p0 = FH at *
  have HEQ := hide (fun x y x' y' ww hk hk' => eqLock_any FL FL x y x' y' ww hk hk')
  rw [eqLkB_self] at HEQ
  have HER := hide (fun x x' ww hk hk' => eqHds_any x x' FH FH ww hk hk')
  rw [eqHds_self] at HER
  have hcc : (FC != FC) = false := by simp
  obtain ⟨fn, fm, fk⟩ := unhide HLE
  obtain ⟨slot, H, W⟩ := l
  obtain ⟨slotF, HF, WF⟩ := FL
  obtain ⟨ps, pt, psh, pf⟩ := p0
  simp only [lkV, hdV] at *
  obtain ⟨A0, hA0⟩ : ∃ A0, A0 = (w.alloc (.cells #[.int .i64 slot, .slice a0 H.length c0, .slice a1 W.length c1] 45)).alloc (.cells #[.int .i64 ps, .int .i64 pt, .bool psh, .bool pf] 49) := ⟨_, rfl⟩
  have HB0 : Hid (Below w.heap.size w A0) := by rw [hA0]; exact ((Below.refl _ _).alloc (Nat.le_refl _) _).alloc (by simp) _
  have HA0 : Hid (Bx A0 w.heap.size 45 #[.int .i64 slot, .slice a0 H.length c0, .slice a1 W.length c1]) := by rw [hA0]; exact (Bx.made w _ _).allocK
  have HJ0 : Hid (Bx A0 (w.heap.size + 1) 49 #[.int .i64 ps, .int .i64 pt, .bool psh, .bool pf]) := by
    rw [hA0]
    have := Bx.made (w.alloc (.cells #[.int .i64 slot, .slice a0 H.length c0, .slice a1 W.length c1] 45)) 49 #[.int .i64 ps, .int .i64 pt, .bool psh, .bool pf]
    rwa [show (w.alloc (.cells #[.int .i64 slot, .slice a0 H.length c0, .slice a1 W.length c1] 45)).heap.size = w.heap.size + 1 by simp] at this
  have HE0 := hide hA0
  clear h hA0 HLE
  go_enter Try.func12, Try.ntmps12
  go_wp2_with fail
  rw [← unhide HE0]
  refine (unhide HSZ _ ((unhide HU).kept (unhide HB0))).mono ?_; rintro e w1 ⟨r, rfl, hr, hb1⟩
  have HB1 := hide ((unhide HB0).trans (hb1.mono (unhide HB0).size))
  have HA1 := hide ((unhide HA0).kept hb1)
  have HJ1 := hide ((unhide HJ0).kept hb1)
  have HR := hide hr
  clear hb1 HA0 HB0 HJ0 HE0 hr
  by_cases hr0 : r < 0
  · go_wp2_with fail
    go_ret
    exact ⟨rfl, unhide HB1⟩
  have hfit : H.length + W.length ≤ 1048576 := by
    rcases unhide HR with h | h
    · omega
    · exact h.2
  have HFN : Hid (H.length ≤ 1048576) := by show H.length ≤ 1048576; omega
  have HFM : Hid (W.length ≤ 1048576) := by show W.length ≤ 1048576; omega
  have lJ1 := (unhide HJ1).lt
  have lA1 := (unhide HA1).lt
  clear hfit HR
  obtain ⟨q0, q1, q2⟩ := (unhide HA1).three
  obtain ⟨j0, j1, j2, j3⟩ := (unhide HJ1).four
  go_wp2_with fail
  go_cut [6, 7, 8] (fun p b r wz => AskCut w1 slotF HF WF FH FC p b r wz)
  case first =>
    go_region_held3 (fun w' => w'.cell? ⟨w.heap.size, 0, none⟩ = some (.int .i64 slot) ∧ w'.cell? ⟨w.heap.size, 1, none⟩ = some (.slice a0 H.length c0) ∧ w'.cell? ⟨w.heap.size, 2, none⟩ = some (.slice a1 W.length c1) ∧ w'.cell? ⟨w.heap.size + 1, 0, none⟩ = some (.int .i64 ps) ∧ w'.cell? ⟨w.heap.size + 1, 1, none⟩ = some (.int .i64 pt) ∧ w'.cell? ⟨w.heap.size + 1, 2, none⟩ = some (.bool psh) ∧ w'.cell? ⟨w.heap.size + 1, 3, none⟩ = some (.bool pf)) (((try dsimp only); (try go_split_ands); (repeat' apply And.intro) <;> (first | with_reducible assumption | (with_reducible exact cell_kept hbf (by assumption)) | (with_reducible exact cell_kept hbh (by assumption)) | (with_reducible exact cell_kept hbl (by assumption)) | (with_reducible rw [cell_set_far (.inl (by omega)), cell_set_far (.inl (by omega)), cell_set_far (.inl (by omega))]; assumption) | (with_reducible apply cell_realloc <;> (first | with_reducible assumption | (dsimp only; omega))) | go_keep))) (first
      | (go_at_call 29; refine (unhide HTO _ ((unhide HU).kept (by with_reducible (repeat (first | exact unhide HB1 | apply Below.drew | apply belowA)))) (unhide HFN) (unhide HFM)).mono ?_; rintro e wl ⟨x1, x2, rfl, hxl, hbl⟩; have hbl' : Below w1.heap.size w1 wl := Below.trans (by with_reducible (repeat (first | exact Below.refl _ _ | apply Below.drew | apply belowA))) (hbl.mono (by simp)); have j0' := cell_kept hbl' j0; have j1' := cell_kept hbl' j1; have j2' := cell_kept hbl' j2; have j3' := cell_kept hbl' j3; have HXL := hide hxl.at'; have HBL := hide hbl'; have zl := hbl'.size; have lj := Nat.lt_of_lt_of_le (unhide HJ1).lt zl; have la := Nat.lt_of_lt_of_le (unhide HA1).lt zl; obtain ⟨x3, y3, x4, y4, rfl, rfl⟩ := hxl.slices; (try (first | (with_reducible have bl := Bx.kept (Bx.drewK (Bx.made w1 25 #[.int .i64 0, .slice none 0 0, .slice none 0 0])) hbl) | (with_reducible have bl := Bx.kept (Bx.made w1 25 #[.int .i64 0, .slice none 0 0, .slice none 0 0]) hbl))); (try (obtain ⟨bl0, bl1, bl2⟩ := bl.three; obtain ⟨bl3, bl4, bl5⟩ := bl.free3)); clear hxl hbl')
      | (go_at_call 31; (try clear hbl); refine (unhide HTH _).mono ?_; rintro e wh ⟨rfl, hbh⟩; have hbh' : Below wl.heap.size wl wh := Below.trans (by with_reducible (repeat (first | exact Below.refl _ _ | apply Below.drew | apply belowA))) (hbh.mono (by simp)); have HBH := hide ((unhide HBL).trans (hbh'.mono (unhide HBL).size)); have HXH := hide ((unhide HXL).kept hbh'); have zh := hbh'.size; have lj' := Nat.lt_of_lt_of_le lj zh; have la' := Nat.lt_of_lt_of_le la zh; (try (first | (with_reducible have bh := Bx.kept bl hbh) | (with_reducible have bh := Bx.kept (Bx.drewK (Bx.made wl 25 #[.int .i64 0, .slice none 0 0, .slice none 0 0])) hbh) | (with_reducible have bh := Bx.kept (Bx.made wl 25 #[.int .i64 0, .slice none 0 0, .slice none 0 0]) hbh))); (try (obtain ⟨bh0, bh1, bh2⟩ := bh.three; obtain ⟨bh3, bh4, bh5⟩ := bh.free3)); clear hbh')
      | (go_at_call 16; (try clear hbh); refine (unhide HSP _ _ _ ((unhide HXH).kept (by with_reducible (repeat (first | exact Below.refl _ _ | apply Below.drew | apply belowA)))) (unhide HFN) (unhide HFM)).mono ?_; rintro e wf ⟨af, bf, rf, rfl, hof, hqf, hbf⟩; obtain ⟨d0, e0, d1, e1, rfl, rfl⟩ := hof.shape; obtain ⟨d2, e2, rfl⟩ := hqf.1.oa.slice; have hbf' : Below wh.heap.size wh wf := Below.trans (by with_reducible (repeat (first | exact Below.refl _ _ | apply Below.drew | apply belowA))) (hbf.mono (by simp)); have HOF := hide hof; have HQF := hide hqf; have HBF := hide ((unhide HBH).trans (hbf'.mono (unhide HBH).size)); have zf := hbf'.size; (try (first | (with_reducible have bf := Bx.kept bh hbf) | (with_reducible have bf := Bx.kept (Bx.drewK (Bx.made wh 25 #[.int .i64 0, .slice none 0 0, .slice none 0 0])) hbf) | (with_reducible have bf := Bx.kept (Bx.made wh 25 #[.int .i64 0, .slice none 0 0, .slice none 0 0]) hbf))); (try (obtain ⟨bf0, bf1, bf2⟩ := bf.three; obtain ⟨bf3, bf4, bf5⟩ := bf.free3)); clear hof hqf hbf'))
    all_goals
      go_wp2_with fail
      go_meet
      case rel =>
        have zh' := (unhide HBH).size
        first
          | exact askEndNew (by first | omega | (simp; omega)) (unhide HOF) (unhide HQF) (unhide HBF)
          | exact askEnd (by omega) (by first | (simp; done) | (have := bh.lt; first | omega | (simp; omega)) | (have := bl.lt; first | omega | (simp; omega))) bf (unhide HOF) (unhide HQF) (unhide HBF)
  case rest =>
    rename World => w3
    obtain ⟨G3, d0, e0, d1, e1, d2, e2, rfl, rfl, rfl, hg31, hg32, hbx3, hox3, hor3, -, -, -, -, -, hb3⟩ := hcut
    have z3 := hb3.size
    have HB3 := hide ((unhide HB1).trans (hb3.mono (unhide HB1).size))
    have HA3 := hide ((unhide HA1).kept hb3)
    have HJ3 := hide ((unhide HJ1).kept hb3)
    have HW3 := hide hbx3
    have HLW3 := hide hox3.at'
    have HRW3 := hide hor3.at'
    have HKA3 := hide hox3.oa.blk
    have HKB3 := hide hox3.ob.blk
    have HKR3 := hide hor3.oa.blk
    have lA3 := (unhide HA3).lt
    clear hbx3 hox3 hor3 hb3 q0 q1 q2 j0 j1 j2 j3 HA1 HJ1 HB1
    obtain ⟨q0, q1, q2⟩ := (unhide HA3).three
    go_wp2_with fail
    refine (unhide HTO _ ((unhide HU).kept (unhide HB3)) (unhide HFN) (unhide HFM)).mono ?_; rintro e w4 ⟨x3, x4, rfl, hx4, hb4⟩
    have z4 := hb4.size
    have HKX1 := hide hx4.oa.blk
    have HKX2 := hide hx4.ob.blk
    have HNX := hide (ne_symm hx4.ne)
    obtain ⟨x3, y3, x4, y4, rfl, rfl⟩ := hx4.slices
    have bX : Below w4.heap.size w4 (w4.alloc (.cells #[.int .i64 slot, .slice x3 H.length y3, .slice x4 W.length y4] 25)) := (Below.refl _ _).alloc (Nat.le_refl _) _
    have HXu := hide (Bx.made w4 25 #[.int .i64 slot, .slice x3 H.length y3, .slice x4 W.length y4])
    have HOu := hide (hx4.kept bX)
    have HWu := hide (((unhide HW3).kept hb4).kept bX)
    have HAu := hide (((unhide HA3).kept hb4).kept bX)
    have HJu := hide (((unhide HJ3).kept hb4).kept bX)
    have HLWu := hide (((unhide HLW3).kept hb4).kept bX)
    have HRWu := hide (((unhide HRW3).kept hb4).kept bX)
    have b4 := (unhide HB3).trans (hb4.mono (unhide HB3).size)
    have HBu := hide (b4.trans (bX.mono b4.size))
    clear q0 q1 q2 hx4 hb4 bX b4 HA3 HJ3 HB3 HW3 HLW3 HRW3
    obtain ⟨wu, hwu⟩ : ∃ wu, wu = w4.alloc (.cells #[.int .i64 slot, .slice x3 H.length y3, .slice x4 W.length y4] 25) := ⟨_, rfl⟩
    have zu : wu.heap.size = w4.heap.size + 1 := by rw [hwu]; simp
    have HEu := hide hwu
    rw [← hwu] at HXu HOu HWu HAu HJu HLWu HRWu HBu
    clear hwu
    go_wp2_with fail
    rw [← unhide HEu]
    clear HEu
    obtain ⟨q0, q1, q2⟩ := (unhide HXu).three
    obtain ⟨j0, j1, j2, j3⟩ := (unhide HJu).four
    have lJu := (unhide HJu).lt
    have lXu := (unhide HXu).lt
    have ZU := hide zu
    clear zu
    go_cut [10, 11, 12] (fun p b r wz => AskCut wu slotF HF WF FH FC p b r wz)
    case first =>
      go_region_held3 (fun w' => w'.cell? ⟨w4.heap.size, 0, none⟩ = some (.int .i64 slot) ∧ w'.cell? ⟨w4.heap.size, 1, none⟩ = some (.slice x3 H.length y3) ∧ w'.cell? ⟨w4.heap.size, 2, none⟩ = some (.slice x4 W.length y4) ∧ w'.cell? ⟨w.heap.size + 1, 0, none⟩ = some (.int .i64 ps) ∧ w'.cell? ⟨w.heap.size + 1, 1, none⟩ = some (.int .i64 pt) ∧ w'.cell? ⟨w.heap.size + 1, 2, none⟩ = some (.bool psh) ∧ w'.cell? ⟨w.heap.size + 1, 3, none⟩ = some (.bool pf)) (((try dsimp only); (try go_split_ands); (repeat' apply And.intro) <;> (first | with_reducible assumption | (with_reducible exact cell_kept hbf (by assumption)) | (with_reducible exact cell_kept hbh (by assumption)) | (with_reducible rw [cell_set_far (.inl (by omega)), cell_set_far (.inl (by omega)), cell_set_far (.inl (by omega))]; assumption) | (with_reducible apply cell_realloc <;> (first | with_reducible assumption | (dsimp only; omega))) | go_keep))) (first
        | (go_at_call 31; (try clear hbl); refine (unhide HTH _).mono ?_; rintro e wh ⟨rfl, hbh⟩; have hbh' : Below wu.heap.size wu wh := Below.trans (by with_reducible (repeat (first | exact Below.refl _ _ | apply Below.drew | apply belowA))) (hbh.mono (by simp)); have HBH := hide hbh'; have HXH := hide ((unhide HOu).at'.kept hbh'); have q0' := cell_kept hbh' q0; have q1' := cell_kept hbh' q1; have q2' := cell_kept hbh' q2; have zh := hbh'.size; have lq' := Nat.lt_of_lt_of_le (unhide HXu).lt zh; (try (first | (with_reducible have bh := Bx.kept (Bx.drewK (Bx.made wu 25 #[.int .i64 0, .slice none 0 0, .slice none 0 0])) hbh) | (with_reducible have bh := Bx.kept (Bx.made wu 25 #[.int .i64 0, .slice none 0 0, .slice none 0 0]) hbh))); (try (obtain ⟨bh0, bh1, bh2⟩ := bh.three; obtain ⟨bh3, bh4, bh5⟩ := bh.free3)); clear hbh')
        | (go_at_call 18; (try clear hbh); refine (unhide HIM _ _ _ ((unhide HXH).kept (by with_reducible (repeat (first | exact Below.refl _ _ | apply Below.drew | apply belowA)))) (unhide HFN) (unhide HFM)).mono ?_; rintro e wf ⟨af, bf, rf, rfl, hof, hqf, hbf⟩; obtain ⟨d0, e0, d1, e1, rfl, rfl⟩ := hof.shape; obtain ⟨d2, e2, rfl⟩ := hqf.1.oa.slice; have hbf' : Below wh.heap.size wh wf := Below.trans (by with_reducible (repeat (first | exact Below.refl _ _ | apply Below.drew | apply belowA))) (hbf.mono (by simp)); have HOF := hide hof; have HQF := hide hqf; have HBF := hide ((unhide HBH).trans (hbf'.mono (unhide HBH).size)); have zf := hbf'.size; (try (first | (with_reducible have bf := Bx.kept bh hbf) | (with_reducible have bf := Bx.kept (Bx.drewK (Bx.made wh 25 #[.int .i64 0, .slice none 0 0, .slice none 0 0])) hbf) | (with_reducible have bf := Bx.kept (Bx.made wh 25 #[.int .i64 0, .slice none 0 0, .slice none 0 0]) hbf))); (try (obtain ⟨bf0, bf1, bf2⟩ := bf.three; obtain ⟨bf3, bf4, bf5⟩ := bf.free3)); clear hof hqf hbf'))
      all_goals
        go_wp2_with fail
        go_meet
        case rel =>
          have zh' := (unhide HBH).size
          first
            | exact askEndNew (by first | omega | (simp; omega)) (unhide HOF) (unhide HQF) (unhide HBF)
            | exact askEnd (by omega) (by first | (simp; done) | (have := bh.lt; first | omega | (simp; omega))) bf (unhide HOF) (unhide HQF) (unhide HBF)
    case rest =>
      rename World => w5
      obtain ⟨G5, g3, k3, g4, k4, g5, k5, rfl, rfl, rfl, hg51, hg52, hbx5, hox5, hor5, kR5, kA5, kB5, hn1, hn2, hb5⟩ := hcut
      have z5 := hb5.size
      have zu := unhide ZU
      have HKG1 := hide hox5.oa.blk
      have HKG2 := hide hox5.ob.blk
      have HKR := hide hor5.oa.blk
      have HNG1 := hide (fun e => kA5 (Eq.symm e))
      have HNG2 := hide (fun e => kB5 (Eq.symm e))
      have HNG3 := hide (fun e => kR5 (Eq.symm e))
      have HNG := hide (ne_symm hox5.ne)
      have HNR1 := hide hn1
      have HNR2 := hide hn2
      have HG5 := hide hbx5
      have HP5 := hide hox5
      have HQ5 := hide hor5
      have HX5 := hide ((unhide HXu).kept hb5)
      have HO5 := hide ((unhide HOu).kept hb5)
      have HW5 := hide ((unhide HWu).kept hb5)
      have HA5 := hide ((unhide HAu).kept hb5)
      have HJ5 := hide ((unhide HJu).kept hb5)
      have HLW5 := hide ((unhide HLWu).kept hb5)
      have HRW5 := hide ((unhide HRWu).kept hb5)
      have HB5 := hide ((unhide HBu).trans (hb5.mono (unhide HBu).size))
      clear hbx5 hox5 hor5 kA5 kB5 kR5 hn1 hn2 hb5 q0 q1 q2 j0 j1 j2 j3 HXu HOu HWu HAu HJu HLWu HRWu HBu
      have lw : G3 < w5.heap.size := by omega
      have lx : w4.heap.size < w5.heap.size := by omega
      obtain ⟨p0, p1, p2⟩ := (unhide HG5).three
      obtain ⟨q0, q1, q2⟩ := (unhide HW5).three
      go_wp2_with fail
      refine (unhide HEQ _ _ _ _ _ (unhide HP5).at' (unhide HLW5)).mono ?_; rintro e w6 ⟨rfl, hb6⟩
      clear q0 q1 q2 p0 p1 p2
      have HG6 := hide ((unhide HG5).kept hb6)
      have HP6 := hide ((unhide HP5).kept hb6)
      have HQ6 := hide ((unhide HQ5).kept hb6)
      have HX6 := hide ((unhide HX5).kept hb6)
      have HO6 := hide ((unhide HO5).kept hb6)
      have HW6 := hide ((unhide HW5).kept hb6)
      have HA6 := hide ((unhide HA5).kept hb6)
      have HJ6 := hide ((unhide HJ5).kept hb6)
      have HLW6 := hide ((unhide HLW5).kept hb6)
      have HRW6 := hide ((unhide HRW5).kept hb6)
      have HB6 := hide ((unhide HB5).trans (hb6.mono (unhide HB5).size))
      have z6 := hb6.size
      clear hb6 HB5 HG5 HP5 HQ5 HX5 HO5 HW5 HA5 HJ5 HLW5 HRW5
      go_wp2_with fail
      refine (unhide HER _ _ _ (unhide HQ6).at' (unhide HRW6)).mono ?_; rintro e w6' ⟨rfl, hb6⟩
      have HG6' := hide ((unhide HG6).kept hb6)
      have HP6' := hide ((unhide HP6).kept hb6)
      have HQ6' := hide ((unhide HQ6).kept hb6)
      have HX6' := hide ((unhide HX6).kept hb6)
      have HO6' := hide ((unhide HO6).kept hb6)
      have HW6' := hide ((unhide HW6).kept hb6)
      have HA6' := hide ((unhide HA6).kept hb6)
      have HJ6' := hide ((unhide HJ6).kept hb6)
      have HLW6' := hide ((unhide HLW6).kept hb6)
      have HRW6' := hide ((unhide HRW6).kept hb6)
      have HB6' := hide ((unhide HB6).trans (hb6.mono (unhide HB6).size))
      have z6' := hb6.size
      clear hb6 HB6 HG6 HP6 HQ6 HX6 HO6 HW6 HA6 HJ6 HLW6 HRW6
      obtain ⟨q0, q1, q2⟩ := (unhide HX6').three
      obtain ⟨r0, r1, r2⟩ := (unhide HA6').three
      clear q0 q1 q2 r0 r1 r2
      go_wp2_with fail
      refine wp_region_held_drew (S := fun w' => Bx w' w4.heap.size 25 #[.int .i64 slot, .slice x3 H.length y3, .slice x4 W.length y4] ∧ Bx w' w.heap.size 45 #[.int .i64 slot, .slice a0 H.length c0, .slice a1 W.length c1]) (by kernel_rfl) ⟨⟨(unhide HX6').row⟩, ⟨(unhide HA6').row⟩⟩ (fun hHeld => ?_)
      refine wpAnyH_take (i := 0) (v := .agg #[.int .i64 slot, .slice x3 H.length y3, .slice x4 W.length y4]) rfl (by kernel_rfl) (by kernel_rfl) (by kernel_rfl) (fun _ _ _ h => h) (Or.inl ⟨by rfl, ?ha⟩) (by assumption) ?_
      case ha => exact fun w0 hSw => load_yieldsB 25 (.tmp 9) rfl rfl hSw.1 Try.underlying25 (by kernel_rfl)
      try simp only [Act.put]
      refine wpAnyH_take (i := 1) (v := .agg #[.int .i64 slot, .slice a0 H.length c0, .slice a1 W.length c1]) rfl (by kernel_rfl) (by kernel_rfl) (by kernel_rfl) (fun _ _ _ h => h) (Or.inl ⟨by rfl, ?hb⟩) (by assumption) ?_
      case hb => exact fun w0 hSw => load_yieldsB 45 (.tmp 2) rfl rfl hSw.2 Try.underlying45 (by kernel_rfl)
      try simp only [Act.put]
      refine wpAnyH_ready (rs := [2]) (by kernel_rfl) (by simp) ?_
      refine AllReadyH.cons rfl (fun K hK => ?_) AllReadyH.nil
      go_simp
      go_at_call 29
      refine (unhide HTO _ ((unhide HU).kept (unhide HB6').drew) (unhide HFN) (unhide HFM)).mono ?_; rintro e w7a ⟨m1, m2, rfl, hx7, hb7⟩
      have hb7' : Below w6'.heap.size w6' w7a := ((Below.refl _ _).drew).trans hb7
      have HX7 := hide hx7.at'
      have HB7 := hide hb7'
      obtain ⟨m3, n3, m4, n4, rfl, rfl⟩ := hx7.slices
      clear hx7 hb7 hb7'
      try go_wp2_with fail
      clear hHeld
      refine hK.out _ _ ⟨(unhide HX6').kept (unhide HB7), (unhide HA6').kept (unhide HB7)⟩ (fun hHeld => ?_)
      clear hK K
      refine wpAnyH_ready (rs := [3]) (by kernel_rfl) (by simp) ?_
      refine AllReadyH.cons rfl (fun K hK => ?_) AllReadyH.nil
      go_simp
      go_at_call 30
      refine (unhide HEX _ _ _ _ _ ((unhide HO6').at'.kept (unhide HB7)) (unhide HX7)).mono ?_; rintro e w7b ⟨rfl, hb8⟩
      have hbc := (unhide HB7).trans (hb8.mono (unhide HB7).size)
      have HBc := hide hbc
      clear hb8 hbc
      try go_wp2_with fail
      clear hHeld
      refine hK.out _ _ ⟨(unhide HX6').kept (unhide HBc), (unhide HA6').kept (unhide HBc)⟩ (fun hHeld => ?_)
      clear hK K
      refine wpAnyH_take (i := 4) (v := ?v4) rfl (by kernel_rfl) (by kernel_rfl) (by kernel_rfl) (fun _ _ _ h => h) (Or.inl ⟨by rfl, ?hc⟩) (by assumption) ?_
      case hc => (intro w0 hSw; (try dsimp only at hSw); go_simp; try (with_reducible rfl))
      try simp only [Act.put]
      refine wpAnyH_done (by kernel_rfl) ?_ _
      have hbc := unhide HBc
      clear hHeld HBc HX7 HB7
      have HGC := hide ((unhide HG6').kept hbc)
      have HPC := hide ((unhide HP6').kept hbc)
      have HQC := hide ((unhide HQ6').kept hbc)
      have HXC := hide ((unhide HX6').kept hbc)
      have HOC := hide ((unhide HO6').kept hbc)
      have HWC := hide ((unhide HW6').kept hbc)
      have HAC := hide ((unhide HA6').kept hbc)
      have HJC := hide ((unhide HJ6').kept hbc)
      have HLWC := hide ((unhide HLW6').kept hbc)
      have HRWC := hide ((unhide HRW6').kept hbc)
      have HBC := hide ((unhide HB6').trans (hbc.mono (unhide HB6').size))
      have zC := hbc.size
      clear hbc HB6' HG6' HP6' HQ6' HX6' HO6' HW6' HA6' HJ6' HLW6' HRW6'
      obtain ⟨q0, q1, q2⟩ := (unhide HXC).three
      have hp1 : ¬ (1 + 4 * (H.length : Int) + 4 * (W.length : Int)) < 0 := by omega
      have hp2 : ¬ (1 + 4 * (HF.length : Int) + 4 * (WF.length : Int)) < 0 := by omega
      go_wp2_with fail
      refine (markLock_any slot _ _ H.length W.length _ _ _ (unhide HFN) (unhide HFM) (unhide HOC).oa (unhide HOC).ob (unhide HNX)).mono ?_; rintro e w8 ⟨rfl, v8, hg8, hj8, -, -⟩
      have z8' := hg8.size
      have z8 := hj8.size
      have zB := (unhide HBC).size
      clear q0 q1 q2
      have HG8m := hide ((unhide HGC).far hg8 ((unhide HKX1).ne (by omega)))
      have HP8m := hide ((unhide HPC).far hg8 ((unhide HKG1).apart (unhide HKX1) (by omega)) ((unhide HKG2).apart (unhide HKX1) (by omega)))
      have HQ8m := hide ((unhide HQC).far hg8 ((unhide HKR).apart (unhide HKX1) (by omega)))
      have HW8m := hide ((unhide HWC).far hg8 ((unhide HKX1).ne (by omega)))
      have HA8m := hide ((unhide HAC).far hg8 ((unhide HKX1).ne (by omega)))
      have HJ8m := hide ((unhide HJC).far hg8 ((unhide HKX1).ne (by omega)))
      have HLW8m := hide ((unhide HLWC).far hg8 ((unhide HKA3).apart (unhide HKX1) (by omega)) ((unhide HKB3).apart (unhide HKX1) (by omega)))
      have HRW8m := hide ((unhide HRWC).far hg8 ((unhide HKR3).apart (unhide HKX1) (by omega)))
      have HB8m : Hid (Below w.heap.size w v8) := Below.grown (unhide HBC) hg8 (unhide HBC).size (fun q hq => by have := (unhide HKX1).low q hq; have := (unhide HBC).size; omega)
      have HG8 := hide ((unhide HG8m).far hj8 ((unhide HKX2).ne (by omega)))
      have HP8 := hide ((unhide HP8m).far hj8 ((unhide HKG1).apart (unhide HKX2) (by omega)) ((unhide HKG2).apart (unhide HKX2) (by omega)))
      have HQ8 := hide ((unhide HQ8m).far hj8 ((unhide HKR).apart (unhide HKX2) (by omega)))
      have HW8 := hide ((unhide HW8m).far hj8 ((unhide HKX2).ne (by omega)))
      have HA8 := hide ((unhide HA8m).far hj8 ((unhide HKX2).ne (by omega)))
      have HJ8 := hide ((unhide HJ8m).far hj8 ((unhide HKX2).ne (by omega)))
      have HLW8 := hide ((unhide HLW8m).far hj8 ((unhide HKA3).apart (unhide HKX2) (by omega)) ((unhide HKB3).apart (unhide HKX2) (by omega)))
      have HRW8 := hide ((unhide HRW8m).far hj8 ((unhide HKR3).apart (unhide HKX2) (by omega)))
      have HB8 : Hid (Below w.heap.size w w8) := Below.grown (unhide HB8m) hj8 (unhide HB8m).size (fun q hq => by have := (unhide HKX2).low q hq; have := (unhide HB8m).size; omega)
      clear hg8 hj8 HGC HG8m HPC HP8m HQC HQ8m HWC HW8m HAC HA8m HJC HJ8m HLWC HLW8m HRWC HRW8m HBC HB8m HXC HOC
      obtain ⟨q0, q1, q2⟩ := (unhide HG8).three
      obtain ⟨r0, r1, r2⟩ := (unhide HW8).three
      go_wp2_with fail
      refine (unhide HEQ _ _ _ _ _ (unhide HP8).at' (unhide HLW8)).mono ?_; rintro e w9 ⟨rfl, hb9⟩
      clear q0 q1 q2 r0 r1 r2
      have HG9 := hide ((unhide HG8).kept hb9)
      have HP9 := hide ((unhide HP8).kept hb9)
      have HQ9 := hide ((unhide HQ8).kept hb9)
      have HW9 := hide ((unhide HW8).kept hb9)
      have HA9 := hide ((unhide HA8).kept hb9)
      have HJ9 := hide ((unhide HJ8).kept hb9)
      have HLW9 := hide ((unhide HLW8).kept hb9)
      have HRW9 := hide ((unhide HRW8).kept hb9)
      have HB9 := hide ((unhide HB8).trans (hb9.mono (unhide HB8).size))
      have z9 := hb9.size
      clear hb9 HB8 HG8 HP8 HQ8 HW8 HA8 HJ8 HLW8 HRW8
      go_wp2_with fail
      refine (unhide HER _ _ _ (unhide HQ9).at' (unhide HRW9)).mono ?_; rintro e w9' ⟨rfl, hb9⟩
      have HG9' := hide ((unhide HG9).kept hb9)
      have HP9' := hide ((unhide HP9).kept hb9)
      have HQ9' := hide ((unhide HQ9).kept hb9)
      have HW9' := hide ((unhide HW9).kept hb9)
      have HA9' := hide ((unhide HA9).kept hb9)
      have HJ9' := hide ((unhide HJ9).kept hb9)
      have HLW9' := hide ((unhide HLW9).kept hb9)
      have HRW9' := hide ((unhide HRW9).kept hb9)
      have HB9' := hide ((unhide HB9).trans (hb9.mono (unhide HB9).size))
      have z9' := hb9.size
      clear hb9 HB9 HG9 HP9 HQ9 HW9 HA9 HJ9 HLW9 HRW9
      obtain ⟨q0, q1, q2⟩ := (unhide HG9').three
      go_wp2_with fail
      refine (markLock_any slotF _ _ HF.length WF.length _ _ _ fn fm (unhide HP9').oa (unhide HP9').ob (unhide HNG)).mono ?_; rintro e w10 ⟨rfl, v10, hg10, hj10, hm10, hn10⟩
      have z10' := hg10.size
      have z10 := hj10.size
      have HM110 := hide (hm10.far hj10 (ne_symm (unhide HNG)))
      have HM210 := hide hn10
      clear q0 q1 q2
      have HG10m := hide ((unhide HG9').far hg10 (unhide HNG1))
      have HQ10m := hide ((unhide HQ9').far hg10 (unhide HNR1))
      have HW10m := hide ((unhide HW9').far hg10 ((unhide HKG1).ne (by omega)))
      have HA10m := hide ((unhide HA9').far hg10 ((unhide HKG1).ne (by omega)))
      have HJ10m := hide ((unhide HJ9').far hg10 ((unhide HKG1).ne (by omega)))
      have HLW10m := hide ((unhide HLW9').far hg10 ((unhide HKA3).apart (unhide HKG1) (by omega)) ((unhide HKB3).apart (unhide HKG1) (by omega)))
      have HRW10m := hide ((unhide HRW9').far hg10 ((unhide HKR3).apart (unhide HKG1) (by omega)))
      have HB10m : Hid (Below w.heap.size w v10) := Below.grown (unhide HB9') hg10 (unhide HB9').size (fun q hq => by have := (unhide HKG1).low q hq; have := (unhide HB9').size; omega)
      have HG10 := hide ((unhide HG10m).far hj10 (unhide HNG2))
      have HQ10 := hide ((unhide HQ10m).far hj10 (unhide HNR2))
      have HW10 := hide ((unhide HW10m).far hj10 ((unhide HKG2).ne (by omega)))
      have HA10 := hide ((unhide HA10m).far hj10 ((unhide HKG2).ne (by omega)))
      have HJ10 := hide ((unhide HJ10m).far hj10 ((unhide HKG2).ne (by omega)))
      have HLW10 := hide ((unhide HLW10m).far hj10 ((unhide HKA3).apart (unhide HKG2) (by omega)) ((unhide HKB3).apart (unhide HKG2) (by omega)))
      have HRW10 := hide ((unhide HRW10m).far hj10 ((unhide HKR3).apart (unhide HKG2) (by omega)))
      have HB10 : Hid (Below w.heap.size w w10) := Below.grown (unhide HB10m) hj10 (unhide HB10m).size (fun q hq => by have := (unhide HKG2).low q hq; have := (unhide HB10m).size; omega)
      clear hg10 hj10 hm10 hn10 HG9' HG10m HQ9' HQ10m HW9' HW10m HA9' HA10m HJ9' HJ10m HLW9' HLW10m HRW9' HRW10m HB9' HB10m HP9'
      go_wp2_with fail
      refine (markHds_any _ FH.length _ _ _ fk (by omega) (by omega) (unhide HQ10).oa).mono ?_; rintro e w10' ⟨rfl, hg10, hm10⟩
      have z10'' := hg10.size
      have HM3T := hide hm10
      have HGT := hide ((unhide HG10).far hg10 (unhide HNG3))
      have HWT := hide ((unhide HW10).far hg10 ((unhide HKR).ne (by omega)))
      have HAT := hide ((unhide HA10).far hg10 ((unhide HKR).ne (by omega)))
      have HJT := hide ((unhide HJ10).far hg10 ((unhide HKR).ne (by omega)))
      have HLWT := hide ((unhide HLW10).far hg10 ((unhide HKA3).apart (unhide HKR) (by omega)) ((unhide HKB3).apart (unhide HKR) (by omega)))
      have HRWT := hide ((unhide HRW10).far hg10 ((unhide HKR3).apart (unhide HKR) (by omega)))
      have HM1T := hide ((unhide HM110).far hg10 (ne_symm (unhide HNR1)))
      have HM2T := hide ((unhide HM210).far hg10 (ne_symm (unhide HNR2)))
      have HBT : Hid (Below w.heap.size w w10') := Below.grown (unhide HB10) hg10 (unhide HB10).size (fun q hq => by have := (unhide HKR).low q hq; have := (unhide HB10).size; omega)
      clear hg10 hm10 HB10 HQ10 HG10 HW10 HA10 HJ10 HLW10 HRW10 HM110 HM210
      obtain ⟨q0, q1, q2⟩ := (unhide HGT).three
      go_wp2_with fail
      refine (heldLock_any slotF _ _ HF.length WF.length _ fn fm (unhide HM1T) (unhide HM2T)).mono ?_; rintro e w11 ⟨rfl, hb11⟩
      clear q0 q1 q2
      have HG11 := hide ((unhide HGT).kept hb11)
      have HW11 := hide ((unhide HWT).kept hb11)
      have HA11 := hide ((unhide HAT).kept hb11)
      have HJ11 := hide ((unhide HJT).kept hb11)
      have HLW11 := hide ((unhide HLWT).kept hb11)
      have HRW11 := hide ((unhide HRWT).kept hb11)
      have HM111 := hide ((unhide HM1T).kept hb11)
      have HM211 := hide ((unhide HM2T).kept hb11)
      have HM311 := hide ((unhide HM3T).kept hb11)
      have HB11 := hide ((unhide HBT).trans (hb11.mono (unhide HBT).size))
      have z11 := hb11.size
      clear hb11 HBT HGT HWT HAT HJT HLWT HRWT HM1T HM2T HM3T
      go_wp2_with fail
      refine (heldHds_marked _ FH.length _ _ fk (by omega) (by omega) (unhide HM311)).mono ?_; rintro e w11' ⟨rfl, rfl⟩
      have hp4 : ¬ (1 + 4 * (HF.length : Int) + 4 * (WF.length : Int) + 4 * (FH.length : Int)) < 0 := by omega
      have hp3 : ((1 + 4 * (HF.length : Int) + 4 * (WF.length : Int) + 4 * (FH.length : Int)) != (1 + 4 * (HF.length : Int) + 4 * (WF.length : Int) + 4 * (FH.length : Int))) = false := by simp
      rename World => w11
      obtain ⟨q0, q1, q2⟩ := (unhide HA11).three
      obtain ⟨j0, j1, j2, j3⟩ := (unhide HJ11).four
      have lJ11 := (unhide HJ11).lt
      have lA11 := (unhide HA11).lt
      go_wp2_with fail
      go_cut [16, 17, 18] (fun p b r wz => AskCut w11 slotF HF WF FH FC p b r wz)
      case first =>
        go_region_held3 (fun w' => w'.cell? ⟨w.heap.size, 0, none⟩ = some (.int .i64 slot) ∧ w'.cell? ⟨w.heap.size, 1, none⟩ = some (.slice a0 H.length c0) ∧ w'.cell? ⟨w.heap.size, 2, none⟩ = some (.slice a1 W.length c1) ∧ w'.cell? ⟨w.heap.size + 1, 0, none⟩ = some (.int .i64 ps) ∧ w'.cell? ⟨w.heap.size + 1, 1, none⟩ = some (.int .i64 pt) ∧ w'.cell? ⟨w.heap.size + 1, 2, none⟩ = some (.bool psh) ∧ w'.cell? ⟨w.heap.size + 1, 3, none⟩ = some (.bool pf)) (((try dsimp only); (try go_split_ands); (repeat' apply And.intro) <;> (first | with_reducible assumption | (with_reducible exact cell_kept hbf (by assumption)) | (with_reducible exact cell_kept hbh (by assumption)) | (with_reducible exact cell_kept hbl (by assumption)) | (with_reducible rw [cell_set_far (.inl (by omega)), cell_set_far (.inl (by omega)), cell_set_far (.inl (by omega))]; assumption) | (with_reducible apply cell_realloc <;> (first | with_reducible assumption | (dsimp only; omega))) | go_keep))) (first
          | (go_at_call 29; refine (unhide HTO _ ((unhide HU).kept (by with_reducible (repeat (first | exact unhide HB11 | apply Below.drew | apply belowA)))) (unhide HFN) (unhide HFM)).mono ?_; rintro e wl ⟨x1, x2, rfl, hxl, hbl⟩; have hbl' : Below w11.heap.size w11 wl := Below.trans (by with_reducible (repeat (first | exact Below.refl _ _ | apply Below.drew | apply belowA))) (hbl.mono (by simp)); have j0' := cell_kept hbl' j0; have j1' := cell_kept hbl' j1; have j2' := cell_kept hbl' j2; have j3' := cell_kept hbl' j3; have HXL := hide hxl.at'; have HBL := hide hbl'; have zl := hbl'.size; have lj := Nat.lt_of_lt_of_le (unhide HJ11).lt zl; have la := Nat.lt_of_lt_of_le (unhide HA11).lt zl; obtain ⟨x3, y3, x4, y4, rfl, rfl⟩ := hxl.slices; (try (first | (with_reducible have bl := Bx.kept (Bx.drewK (Bx.made w11 25 #[.int .i64 0, .slice none 0 0, .slice none 0 0])) hbl) | (with_reducible have bl := Bx.kept (Bx.made w11 25 #[.int .i64 0, .slice none 0 0, .slice none 0 0]) hbl))); (try (obtain ⟨bl0, bl1, bl2⟩ := bl.three; obtain ⟨bl3, bl4, bl5⟩ := bl.free3)); clear hxl hbl')
          | (go_at_call 31; (try clear hbl); refine (unhide HTH _).mono ?_; rintro e wh ⟨rfl, hbh⟩; have hbh' : Below wl.heap.size wl wh := Below.trans (by with_reducible (repeat (first | exact Below.refl _ _ | apply Below.drew | apply belowA))) (hbh.mono (by simp)); have HBH := hide ((unhide HBL).trans (hbh'.mono (unhide HBL).size)); have HXH := hide ((unhide HXL).kept hbh'); have zh := hbh'.size; have lj' := Nat.lt_of_lt_of_le lj zh; have la' := Nat.lt_of_lt_of_le la zh; (try (first | (with_reducible have bh := Bx.kept bl hbh) | (with_reducible have bh := Bx.kept (Bx.drewK (Bx.made wl 25 #[.int .i64 0, .slice none 0 0, .slice none 0 0])) hbh) | (with_reducible have bh := Bx.kept (Bx.made wl 25 #[.int .i64 0, .slice none 0 0, .slice none 0 0]) hbh))); (try (obtain ⟨bh0, bh1, bh2⟩ := bh.three; obtain ⟨bh3, bh4, bh5⟩ := bh.free3)); clear hbh')
          | (go_at_call 18; (try clear hbh); refine (unhide HIM _ _ _ ((unhide HXH).kept (by with_reducible (repeat (first | exact Below.refl _ _ | apply Below.drew | apply belowA)))) (unhide HFN) (unhide HFM)).mono ?_; rintro e wf ⟨af, bf, rf, rfl, hof, hqf, hbf⟩; obtain ⟨d0, e0, d1, e1, rfl, rfl⟩ := hof.shape; obtain ⟨d2, e2, rfl⟩ := hqf.1.oa.slice; have hbf' : Below wh.heap.size wh wf := Below.trans (by with_reducible (repeat (first | exact Below.refl _ _ | apply Below.drew | apply belowA))) (hbf.mono (by simp)); have HOF := hide hof; have HQF := hide hqf; have HBF := hide ((unhide HBH).trans (hbf'.mono (unhide HBH).size)); have zf := hbf'.size; (try (first | (with_reducible have bf := Bx.kept bh hbf) | (with_reducible have bf := Bx.kept (Bx.drewK (Bx.made wh 25 #[.int .i64 0, .slice none 0 0, .slice none 0 0])) hbf) | (with_reducible have bf := Bx.kept (Bx.made wh 25 #[.int .i64 0, .slice none 0 0, .slice none 0 0]) hbf))); (try (obtain ⟨bf0, bf1, bf2⟩ := bf.three; obtain ⟨bf3, bf4, bf5⟩ := bf.free3)); clear hof hqf hbf'))
        all_goals
          go_wp2_with fail
          go_meet
          case rel =>
            have zh' := (unhide HBH).size
            first
              | exact askEndNew (by first | omega | (simp; omega)) (unhide HOF) (unhide HQF) (unhide HBF)
              | exact askEnd (by omega) (by first | (simp; done) | (have := bh.lt; first | omega | (simp; omega)) | (have := bl.lt; first | omega | (simp; omega))) bf (unhide HOF) (unhide HQF) (unhide HBF)
      case rest =>
          rename World => w13
          obtain ⟨G13, g6, k6, g7, k7, g8, k8, rfl, rfl, rfl, hg131, hg132, hbx13, hox13, hor13, -, -, -, -, -, hb13⟩ := hcut
          have z13 := hb13.size
          have HH13 := hide hbx13
          have HT13 := hide hox13.at'
          have HTR13 := hide hor13.at'
          have HG13 := hide ((unhide HG11).kept hb13)
          have HW13 := hide ((unhide HW11).kept hb13)
          have HLW13 := hide ((unhide HLW11).kept hb13)
          have HRW13 := hide ((unhide HRW11).kept hb13)
          have HM113 := hide ((unhide HM111).kept hb13)
          have HM213 := hide ((unhide HM211).kept hb13)
          have HM313 := hide ((unhide HM311).kept hb13)
          have HB13 := hide ((unhide HB11).trans (hb13.mono (unhide HB11).size))
          clear q0 q1 q2 j0 j1 j2 j3 hbx13 hox13 hor13 hb13 HB11 HA11 HJ11 HG11 HW11 HLW11 HRW11 HM111 HM211 HM311
          obtain ⟨q0, q1, q2⟩ := (unhide HW13).three
          obtain ⟨p0, p1, p2⟩ := (unhide HH13).three
          go_wp2_with fail
          refine (unhide HEQ _ _ _ _ _ (unhide HT13) (unhide HLW13)).mono ?_; rintro e w14 ⟨rfl, hb14⟩
          clear q0 q1 q2 p0 p1 p2
          have HTR14 := hide ((unhide HTR13).kept hb14)
          have HG14 := hide ((unhide HG13).kept hb14)
          have HW14 := hide ((unhide HW13).kept hb14)
          have HLW14 := hide ((unhide HLW13).kept hb14)
          have HRW14 := hide ((unhide HRW13).kept hb14)
          have HM114 := hide ((unhide HM113).kept hb14)
          have HM214 := hide ((unhide HM213).kept hb14)
          have HM314 := hide ((unhide HM313).kept hb14)
          have HB14 := hide ((unhide HB13).trans (hb14.mono (unhide HB13).size))
          have z14 := hb14.size
          clear hb14 HB13 HG13 HW13 HLW13 HRW13 HM113 HM213 HM313
          go_wp2_with fail
          refine (unhide HER _ _ _ (unhide HTR14) (unhide HRW14)).mono ?_; rintro e w14' ⟨rfl, hb14⟩
          have HG14' := hide ((unhide HG14).kept hb14)
          have HW14' := hide ((unhide HW14).kept hb14)
          have HLW14' := hide ((unhide HLW14).kept hb14)
          have HRW14' := hide ((unhide HRW14).kept hb14)
          have HM114' := hide ((unhide HM114).kept hb14)
          have HM214' := hide ((unhide HM214).kept hb14)
          have HM314' := hide ((unhide HM314).kept hb14)
          have HB14' := hide ((unhide HB14).trans (hb14.mono (unhide HB14).size))
          have z14' := hb14.size
          clear hb14 HB14 HG14 HW14 HLW14 HRW14 HM114 HM214 HM314
          obtain ⟨q0, q1, q2⟩ := (unhide HG14').three
          go_wp2_with fail
          refine (heldLock_any slotF _ _ HF.length WF.length _ fn fm (unhide HM114') (unhide HM214')).mono ?_; rintro e w15 ⟨rfl, hb15⟩
          have HM315 := hide ((unhide HM314').kept hb15)
          go_wp2_with fail
          refine (heldHds_marked _ FH.length _ _ fk (by omega) (by omega) (unhide HM315)).mono ?_; rintro e w16 ⟨rfl, rfl⟩
          go_wp2_with fail
          go_ret
          exact ⟨rfl, (unhide HB14').trans (hb15.mono (unhide HB14').size)⟩

end Go.Proofs.Ytkloilekpdhdmaa
