/- The law FnExactLockFree answers true. -/
import Derived.Test.YtjcekojiaajgnaaLkM2
import Derived.Test.YtjcekojiaajgnaaLkL
import Derived.Deep.DeepCutAuto
namespace Go.Proofs.Ytjcekojiaajgnaa
open Go.RowKit

set_option maxRecDepth 100000 in
set_option maxHeartbeats 8000000 in
theorem fnExactLockFree_any (l : Lk) (a b : Value) (p0 : Int) (p1 : Int) (w : World) (h : LkAt w l a b) :
    Calls Try.prog 14 #[lkV l a b, .int .i64 p0, .int .i64 p1] w fun e w' => e = .returned (.bool true) ∧ Below w.heap.size w w' := by
  have HU := hide h
  have hshape : ∃ a0 c0 a1 c1, a = .slice a0 l.held.length c0 ∧ b = .slice a1 l.waits.length c1 := by
    obtain ⟨a0, c0, rfl, -⟩ := h.held.shape
    obtain ⟨a1, c1, rfl, -⟩ := h.waits.shape
    exact ⟨a0, c0, a1, c1, rfl, rfl⟩
  obtain ⟨a0, c0, a1, c1, rfl, rfl⟩ := hshape
  have HSZ := hide (fun ww hk => szLock_any l (.slice a0 l.held.length c0) (.slice a1 l.waits.length c1) ww hk)
  have HTO := hide (fun ww hk hn hm => toLockX_any l (.slice a0 l.held.length c0) (.slice a1 l.waits.length c1) ww hk hn hm)
  have HSP := hide (fun x y ww hk hn hm => specFreeI_any l x y p0 p1 ww hk hn hm)
  have HIM := hide (fun x y ww hk hn hm => implFree_any l x y p0 p1 ww hk hn hm)
  have HEX := hide (fun x y x' y' ww hk hk' => eqLock_any l l x y x' y' ww hk hk')
  rw [eqLkB_self] at HEX
  have HLE := hide (free_le l p0 p1)
  generalize freeL l p0 p1 = FL at *
  generalize freeG l p0 p1 = FH at *
  have HEQ := hide (fun x y x' y' ww hk hk' => eqLock_any FL FL x y x' y' ww hk hk')
  rw [eqLkB_self] at HEQ
  have HER := hide (fun x x' ww hk hk' => eqHds_any x x' FH FH ww hk hk')
  rw [eqHds_self] at HER
  obtain ⟨fn, fm, fk⟩ := unhide HLE
  obtain ⟨slot, H, W⟩ := l
  obtain ⟨slotF, HF, WF⟩ := FL
  simp only [lkV] at *
  have bA : Below w.heap.size w (w.alloc (.cells #[.int .i64 slot, .slice a0 H.length c0, .slice a1 W.length c1] 45)) := (Below.refl _ _).alloc (Nat.le_refl _) _
  have HB0 := hide bA
  have HA0 := hide (Bx.made w 45 #[.int .i64 slot, .slice a0 H.length c0, .slice a1 W.length c1])
  clear h bA HLE
  go_enter Try.func14, Try.ntmps14
  go_wp2_with fail
  refine (unhide HSZ _ ((unhide HU).kept (unhide HB0))).mono ?_; rintro e w1 ⟨r, rfl, hr, hb1⟩
  have HB1 := hide ((unhide HB0).trans (hb1.mono (unhide HB0).size))
  have HA1 := hide ((unhide HA0).kept hb1)
  have HR := hide hr
  clear hb1 HA0 HB0 hr
  by_cases hr0 : r < 0
  · go_wp2_with fail
    go_ret
    exact ⟨rfl, unhide HB1⟩
  have hfit : H.length + W.length ≤ 1048576 := by
    rcases unhide HR with h | h
    · omega
    · exact h.2
  have HFN : Hid (H.length ≤ 1048576) := by show H.length ≤ 1048576; omega
  have HFM : Hid (W.length ≤ 1048576) := by show W.length ≤ 1048576; omega
  clear hfit HR
  obtain ⟨q0, q1, q2⟩ := (unhide HA1).three
  go_wp2_with fail
  refine (unhide HTO _ ((unhide HU).kept (unhide HB1)) (unhide HFN) (unhide HFM)).mono ?_; rintro e w2 ⟨x1, x2, rfl, hx2, hb2⟩
  have HX2 := hide hx2.at'
  clear hx2
  go_wp2_with fail
  refine (unhide HSP _ _ _ (unhide HX2) (unhide HFN) (unhide HFM)).mono ?_; rintro e w3 ⟨a3, b3, r3, rfl, ho3, hq3, hb3⟩
  have z2 := hb2.size
  have z3 := hb3.size
  have hb13 := hb2.trans (hb3.mono hb2.size)
  have HB3 := hide ((unhide HB1).trans (hb13.mono (unhide HB1).size))
  have HA3 := hide ((unhide HA1).kept hb13)
  have lA3 := (unhide HA3).lt
  have HKA3 := hide ho3.x.oa.blk
  have HKB3 := hide ho3.x.ob.blk
  have HKR3 := hide hq3.1.oa.blk
  obtain ⟨d0, e0, d1, e1, rfl, rfl⟩ := ho3.shape
  have HLW3 := hide ho3.at
  obtain ⟨d2, e2, rfl⟩ := hq3.1.oa.slice
  have HRW3 := hide hq3.1.at'
  clear q0 q1 q2 hb2 hb3 hb13 ho3 hq3 HX2 HA1
  obtain ⟨q0, q1, q2⟩ := (unhide HA3).three
  have bW : Below w3.heap.size w3 (w3.alloc (.cells #[.int .i64 slotF, .slice d0 HF.length e0, .slice d1 WF.length e1] 25)) := (Below.refl _ _).alloc (Nat.le_refl _) _
  have HBu := hide ((unhide HB3).trans (bW.mono (unhide HB3).size))
  go_wp2_with fail
  refine (unhide HTO _ ((unhide HU).kept (unhide HBu)) (unhide HFN) (unhide HFM)).mono ?_; rintro e w4 ⟨x3, x4, rfl, hx4, hb4⟩
  have z4 := hb4.size
  simp at z4
  have lw4 : w3.heap.size < w4.heap.size := by omega
  have HKX1 := hide hx4.oa.blk
  have HKX2 := hide hx4.ob.blk
  simp at HKX1 HKX2
  have HNX := hide (ne_symm hx4.ne)
  obtain ⟨x3, y3, x4, y4, rfl, rfl⟩ := hx4.slices
  have bX : Below w4.heap.size w4 (w4.alloc (.cells #[.int .i64 slot, .slice x3 H.length y3, .slice x4 W.length y4] 25)) := (Below.refl _ _).alloc (Nat.le_refl _) _
  have HX4 := hide (Bx.made w4 25 #[.int .i64 slot, .slice x3 H.length y3, .slice x4 W.length y4])
  have HO4 := hide (hx4.kept bX)
  have HW4 := hide (((Bx.made w3 25 #[.int .i64 slotF, .slice d0 HF.length e0, .slice d1 WF.length e1]).kept hb4).kept bX)
  have HA4 := hide ((((unhide HA3).kept bW).kept hb4).kept bX)
  have HLW4 := hide ((((unhide HLW3).kept bW).kept hb4).kept bX)
  have HRW4 := hide ((((unhide HRW3).kept bW).kept hb4).kept bX)
  have b4 := (unhide HBu).trans (hb4.mono (unhide HBu).size)
  have HB4 := hide (b4.trans (bX.mono b4.size))
  clear q0 q1 q2 hx4 hb4 bX bW b4 HA3 HB3 HBu HLW3 HRW3
  go_wp2_with fail
  refine (unhide HIM _ _ _ (unhide HO4).at' (unhide HFN) (unhide HFM)).mono ?_; rintro e w5 ⟨a5, b5, r5, rfl, ho5, hq5, hb5⟩
  have z5 := hb5.size
  simp at z5
  have HKG1 := hide ho5.x.oa.blk
  have HKG2 := hide ho5.x.ob.blk
  simp at HKG1 HKG2
  have HNG := hide (ne_symm ho5.ne)
  obtain ⟨g3, k3, g4, k4, rfl, rfl⟩ := ho5.shape
  have HKR := hide hq5.1.oa.blk
  simp at HKR
  have HNR1 := hide hq5.2.1
  have HNR2 := hide hq5.2.2
  obtain ⟨g5, k5, rfl⟩ := hq5.1.oa.slice
  have bG : Below w5.heap.size w5 (w5.alloc (.cells #[.int .i64 slotF, .slice g3 HF.length k3, .slice g4 WF.length k4] 25)) := (Below.refl _ _).alloc (Nat.le_refl _) _
  have HG5 := hide (Bx.made w5 25 #[.int .i64 slotF, .slice g3 HF.length k3, .slice g4 WF.length k4])
  have HP5 := hide (ho5.x.kept bG)
  have HQ5 := hide (hq5.1.kept bG)
  have HX5 := hide (((unhide HX4).kept hb5).kept bG)
  have HO5 := hide (((unhide HO4).kept hb5).kept bG)
  have HW5 := hide (((unhide HW4).kept hb5).kept bG)
  have HA5 := hide (((unhide HA4).kept hb5).kept bG)
  have HLW5 := hide (((unhide HLW4).kept hb5).kept bG)
  have HRW5 := hide (((unhide HRW4).kept hb5).kept bG)
  have b5' := (unhide HB4).trans (hb5.mono (unhide HB4).size)
  have HB5 := hide (b5'.trans (bG.mono b5'.size))
  clear ho5 hq5 hb5 bG b5' HX4 HO4 HW4 HA4 HLW4 HRW4 HB4
  have lw : w3.heap.size < w5.heap.size := by omega
  have lx : w4.heap.size < w5.heap.size := by omega
  obtain ⟨p0', p1', p2'⟩ := (unhide HW5).three
  have q0 := p0'
  have q1 := p1'
  have q2 := p2'
  clear p0' p1' p2'
  go_wp2_with fail
  refine (unhide HEQ _ _ _ _ _ (unhide HP5).at' (unhide HLW5)).mono ?_; rintro e w6 ⟨rfl, hb6⟩
  clear q0 q1 q2
  have HG6 := hide ((unhide HG5).kept hb6)
  have HP6 := hide ((unhide HP5).kept hb6)
  have HQ6 := hide ((unhide HQ5).kept hb6)
  have HX6 := hide ((unhide HX5).kept hb6)
  have HO6 := hide ((unhide HO5).kept hb6)
  have HW6 := hide ((unhide HW5).kept hb6)
  have HA6 := hide ((unhide HA5).kept hb6)
  have HLW6 := hide ((unhide HLW5).kept hb6)
  have HRW6 := hide ((unhide HRW5).kept hb6)
  have HB6 := hide ((unhide HB5).trans (hb6.mono (unhide HB5).size))
  have z6 := hb6.size
  clear hb6 HB5 HG5 HP5 HQ5 HX5 HO5 HW5 HA5 HLW5 HRW5
  simp at z6
  go_wp2_with fail
  refine (unhide HER _ _ _ (unhide HQ6).at' (unhide HRW6)).mono ?_; rintro e w6' ⟨rfl, hb6⟩
  have HG6' := hide ((unhide HG6).kept hb6)
  have HP6' := hide ((unhide HP6).kept hb6)
  have HQ6' := hide ((unhide HQ6).kept hb6)
  have HX6' := hide ((unhide HX6).kept hb6)
  have HO6' := hide ((unhide HO6).kept hb6)
  have HW6' := hide ((unhide HW6).kept hb6)
  have HA6' := hide ((unhide HA6).kept hb6)
  have HLW6' := hide ((unhide HLW6).kept hb6)
  have HRW6' := hide ((unhide HRW6).kept hb6)
  have HB6' := hide ((unhide HB6).trans (hb6.mono (unhide HB6).size))
  have z6' := hb6.size
  clear hb6 HB6 HG6 HP6 HQ6 HX6 HO6 HW6 HA6 HLW6 HRW6
  obtain ⟨q0, q1, q2⟩ := (unhide HX6').three
  obtain ⟨r0, r1, r2⟩ := (unhide HA6').three
  go_wp2_with fail
  go_cut [54] (fun b wr => b = .bool false ∧ Below w6'.heap.size w6' wr)
  case first =>
    go_region_with (first
      | (go_at_call 29; refine (unhide HTO _ ((unhide HU).kept (unhide HB6').drew) (unhide HFN) (unhide HFM)).mono ?_; rintro e w7 ⟨m1, m2, rfl, hx7, hb7⟩; have hb7' : Below w6'.heap.size w6' w7 := ((Below.refl _ _).drew).trans hb7; have q0' := cell_kept hb7' q0; have q1' := cell_kept hb7' q1; have q2' := cell_kept hb7' q2; have HX7 := hide hx7.at'; have HB7 := hide hb7'; obtain ⟨m3, n3, m4, n4, rfl, rfl⟩ := hx7.slices; clear hx7 hb7 hb7')
      | (go_at_call 30; refine (unhide HEX _ _ _ _ _ ((unhide HO6').at'.kept (unhide HB7)) (unhide HX7)).mono ?_; rintro e w8 ⟨rfl, hb8⟩))
    all_goals (go_wp2_with fail; go_meet; case rel => exact ⟨rfl, (unhide HB7).trans (hb8.mono (unhide HB7).size)⟩)
  case rest =>
    obtain ⟨rfl, hbc⟩ := hcut
    clear q0 q1 q2 r0 r1 r2
    have HGC := hide ((unhide HG6').kept hbc)
    have HPC := hide ((unhide HP6').kept hbc)
    have HQC := hide ((unhide HQ6').kept hbc)
    have HXC := hide ((unhide HX6').kept hbc)
    have HOC := hide ((unhide HO6').kept hbc)
    have HWC := hide ((unhide HW6').kept hbc)
    have HAC := hide ((unhide HA6').kept hbc)
    have HLWC := hide ((unhide HLW6').kept hbc)
    have HRWC := hide ((unhide HRW6').kept hbc)
    have HBC := hide ((unhide HB6').trans (hbc.mono (unhide HB6').size))
    have zC := hbc.size
    clear hbc HB6' HG6' HP6' HQ6' HX6' HO6' HW6' HA6' HLW6' HRW6'
    obtain ⟨q0, q1, q2⟩ := (unhide HXC).three
    have hp1 : ¬ (1 + 4 * (H.length : Int) + 4 * (W.length : Int)) < 0 := by omega
    have hp2 : ¬ (1 + 4 * (HF.length : Int) + 4 * (WF.length : Int)) < 0 := by omega
    go_wp2_with fail
    refine (markLock_any slot _ _ H.length W.length _ _ _ (unhide HFN) (unhide HFM) (unhide HOC).oa (unhide HOC).ob (unhide HNX)).mono ?_; rintro e w8 ⟨rfl, v8, hg8, hj8, -, -⟩
    have z8' := hg8.size
    have z8 := hj8.size
    clear q0 q1 q2
    have zB := (unhide HBC).size
    have HG8m := hide ((unhide HGC).far hg8 ((unhide HKX1).ne (by omega)))
    have HP8m := hide ((unhide HPC).far hg8 ((unhide HKG1).apart (unhide HKX1) (by omega)) ((unhide HKG2).apart (unhide HKX1) (by omega)))
    have HQ8m := hide ((unhide HQC).far hg8 ((unhide HKR).apart (unhide HKX1) (by omega)))
    have HW8m := hide ((unhide HWC).far hg8 ((unhide HKX1).ne (by omega)))
    have HA8m := hide ((unhide HAC).far hg8 ((unhide HKX1).ne (by omega)))
    have HLW8m := hide ((unhide HLWC).far hg8 ((unhide HKA3).apart (unhide HKX1) (by omega)) ((unhide HKB3).apart (unhide HKX1) (by omega)))
    have HRW8m := hide ((unhide HRWC).far hg8 ((unhide HKR3).apart (unhide HKX1) (by omega)))
    have HB8m : Hid (Below w.heap.size w v8) := Below.grown (unhide HBC) hg8 (unhide HBC).size (fun q hq => by have := (unhide HKX1).low q hq; have := (unhide HBC).size; omega)
    have HG8 := hide ((unhide HG8m).far hj8 ((unhide HKX2).ne (by omega)))
    have HP8 := hide ((unhide HP8m).far hj8 ((unhide HKG1).apart (unhide HKX2) (by omega)) ((unhide HKG2).apart (unhide HKX2) (by omega)))
    have HQ8 := hide ((unhide HQ8m).far hj8 ((unhide HKR).apart (unhide HKX2) (by omega)))
    have HW8 := hide ((unhide HW8m).far hj8 ((unhide HKX2).ne (by omega)))
    have HA8 := hide ((unhide HA8m).far hj8 ((unhide HKX2).ne (by omega)))
    have HLW8 := hide ((unhide HLW8m).far hj8 ((unhide HKA3).apart (unhide HKX2) (by omega)) ((unhide HKB3).apart (unhide HKX2) (by omega)))
    have HRW8 := hide ((unhide HRW8m).far hj8 ((unhide HKR3).apart (unhide HKX2) (by omega)))
    have HB8 : Hid (Below w.heap.size w w8) := Below.grown (unhide HB8m) hj8 (unhide HB8m).size (fun q hq => by have := (unhide HKX2).low q hq; have := (unhide HB8m).size; omega)
    clear hg8 hj8 HGC HG8m HPC HP8m HQC HQ8m HWC HW8m HAC HA8m HLWC HLW8m HRWC HRW8m HBC HB8m HXC HOC
    obtain ⟨q0, q1, q2⟩ := (unhide HG8).three
    obtain ⟨r0, r1, r2⟩ := (unhide HW8).three
    go_wp2_with fail
    refine (unhide HEQ _ _ _ _ _ (unhide HP8).at' (unhide HLW8)).mono ?_; rintro e w9 ⟨rfl, hb9⟩
    clear q0 q1 q2 r0 r1 r2
    have HG9 := hide ((unhide HG8).kept hb9)
    have HP9 := hide ((unhide HP8).kept hb9)
    have HQ9 := hide ((unhide HQ8).kept hb9)
    have HW9 := hide ((unhide HW8).kept hb9)
    have HA9 := hide ((unhide HA8).kept hb9)
    have HLW9 := hide ((unhide HLW8).kept hb9)
    have HRW9 := hide ((unhide HRW8).kept hb9)
    have HB9 := hide ((unhide HB8).trans (hb9.mono (unhide HB8).size))
    have z9 := hb9.size
    clear hb9 HB8 HG8 HP8 HQ8 HW8 HA8 HLW8 HRW8
    go_wp2_with fail
    refine (unhide HER _ _ _ (unhide HQ9).at' (unhide HRW9)).mono ?_; rintro e w9' ⟨rfl, hb9⟩
    have HG9' := hide ((unhide HG9).kept hb9)
    have HP9' := hide ((unhide HP9).kept hb9)
    have HQ9' := hide ((unhide HQ9).kept hb9)
    have HW9' := hide ((unhide HW9).kept hb9)
    have HA9' := hide ((unhide HA9).kept hb9)
    have HLW9' := hide ((unhide HLW9).kept hb9)
    have HRW9' := hide ((unhide HRW9).kept hb9)
    have HB9' := hide ((unhide HB9).trans (hb9.mono (unhide HB9).size))
    have z9' := hb9.size
    clear hb9 HB9 HG9 HP9 HQ9 HW9 HA9 HLW9 HRW9
    obtain ⟨q0, q1, q2⟩ := (unhide HG9').three
    go_wp2_with fail
    refine (markLock_any slotF _ _ HF.length WF.length _ _ _ fn fm (unhide HP9').oa (unhide HP9').ob (unhide HNG)).mono ?_; rintro e w10 ⟨rfl, v10, hg10, hj10, hm10, hn10⟩
    have z10' := hg10.size
    have z10 := hj10.size
    have HM110 := hide (hm10.far hj10 (ne_symm (unhide HNG)))
    have HM210 := hide hn10
    clear q0 q1 q2
    have HG10m := hide ((unhide HG9').far hg10 ((unhide HKG1).ne (by omega)))
    have HQ10m := hide ((unhide HQ9').far hg10 (unhide HNR1))
    have HW10m := hide ((unhide HW9').far hg10 ((unhide HKG1).ne (by omega)))
    have HA10m := hide ((unhide HA9').far hg10 ((unhide HKG1).ne (by omega)))
    have HLW10m := hide ((unhide HLW9').far hg10 ((unhide HKA3).apart (unhide HKG1) (by omega)) ((unhide HKB3).apart (unhide HKG1) (by omega)))
    have HRW10m := hide ((unhide HRW9').far hg10 ((unhide HKR3).apart (unhide HKG1) (by omega)))
    have HB10m : Hid (Below w.heap.size w v10) := Below.grown (unhide HB9') hg10 (unhide HB9').size (fun q hq => by have := (unhide HKG1).low q hq; have := (unhide HB9').size; omega)
    have HG10 := hide ((unhide HG10m).far hj10 ((unhide HKG2).ne (by omega)))
    have HQ10 := hide ((unhide HQ10m).far hj10 (unhide HNR2))
    have HW10 := hide ((unhide HW10m).far hj10 ((unhide HKG2).ne (by omega)))
    have HA10 := hide ((unhide HA10m).far hj10 ((unhide HKG2).ne (by omega)))
    have HLW10 := hide ((unhide HLW10m).far hj10 ((unhide HKA3).apart (unhide HKG2) (by omega)) ((unhide HKB3).apart (unhide HKG2) (by omega)))
    have HRW10 := hide ((unhide HRW10m).far hj10 ((unhide HKR3).apart (unhide HKG2) (by omega)))
    have HB10 : Hid (Below w.heap.size w w10) := Below.grown (unhide HB10m) hj10 (unhide HB10m).size (fun q hq => by have := (unhide HKG2).low q hq; have := (unhide HB10m).size; omega)
    clear hg10 hj10 hm10 hn10 HG9' HG10m HQ9' HQ10m HW9' HW10m HA9' HA10m HLW9' HLW10m HRW9' HRW10m HB9' HB10m HP9'
    have HM' := HM110
    go_wp2_with fail
    refine (markHds_any _ FH.length _ _ _ fk (by omega) (by omega) (unhide HQ10).oa).mono ?_; rintro e w10' ⟨rfl, hg10, hm10⟩
    have z10'' := hg10.size
    have HM3T := hide hm10
    have HGT := hide ((unhide HG10).far hg10 ((unhide HKR).ne (by omega)))
    have HWT := hide ((unhide HW10).far hg10 ((unhide HKR).ne (by omega)))
    have HAT := hide ((unhide HA10).far hg10 ((unhide HKR).ne (by omega)))
    have HLWT := hide ((unhide HLW10).far hg10 ((unhide HKA3).apart (unhide HKR) (by omega)) ((unhide HKB3).apart (unhide HKR) (by omega)))
    have HRWT := hide ((unhide HRW10).far hg10 ((unhide HKR3).apart (unhide HKR) (by omega)))
    have HM1T := hide ((unhide HM110).far hg10 (ne_symm (unhide HNR1)))
    have HM2T := hide ((unhide HM210).far hg10 (ne_symm (unhide HNR2)))
    have HBT : Hid (Below w.heap.size w w10') := Below.grown (unhide HB10) hg10 (unhide HB10).size (fun q hq => by have := (unhide HKR).low q hq; have := (unhide HB10).size; omega)
    clear HM' hg10 hm10 HB10 HQ10 HG10 HW10 HA10 HLW10 HRW10 HM110 HM210
    obtain ⟨q0, q1, q2⟩ := (unhide HGT).three
    go_wp2_with fail
    refine (heldLock_any slotF _ _ HF.length WF.length _ fn fm (unhide HM1T) (unhide HM2T)).mono ?_; rintro e w11 ⟨rfl, hb11⟩
    clear q0 q1 q2
    have HG11 := hide ((unhide HGT).kept hb11)
    have HW11 := hide ((unhide HWT).kept hb11)
    have HA11 := hide ((unhide HAT).kept hb11)
    have HLW11 := hide ((unhide HLWT).kept hb11)
    have HRW11 := hide ((unhide HRWT).kept hb11)
    have HM111 := hide ((unhide HM1T).kept hb11)
    have HM211 := hide ((unhide HM2T).kept hb11)
    have HM311 := hide ((unhide HM3T).kept hb11)
    have HB11 := hide ((unhide HBT).trans (hb11.mono (unhide HBT).size))
    have z11 := hb11.size
    clear hb11 HBT HGT HWT HAT HLWT HRWT HM1T HM2T HM3T
    go_wp2_with fail
    refine (heldHds_marked _ FH.length _ _ fk (by omega) (by omega) (unhide HM311)).mono ?_; rintro e w11' ⟨rfl, rfl⟩
    have hp4 : ¬ (1 + 4 * (HF.length : Int) + 4 * (WF.length : Int) + 4 * (FH.length : Int)) < 0 := by omega
    have hp3 : ((1 + 4 * (HF.length : Int) + 4 * (WF.length : Int) + 4 * (FH.length : Int)) != (1 + 4 * (HF.length : Int) + 4 * (WF.length : Int) + 4 * (FH.length : Int))) = false := by simp
    obtain ⟨q0, q1, q2⟩ := (unhide HA11).three
    go_wp2_with fail
    refine (unhide HTO _ ((unhide HU).kept (unhide HB11)) (unhide HFN) (unhide HFM)).mono ?_; rintro e w12 ⟨x5, x6, rfl, hx12, hb12⟩
    have HX12 := hide hx12.at'
    clear hx12
    go_wp2_with fail
    refine (unhide HIM _ _ _ (unhide HX12) (unhide HFN) (unhide HFM)).mono ?_; rintro e w13 ⟨a13, b13, r13, rfl, ho13, hq13, hb13⟩
    obtain ⟨g6, k6, g7, k7, rfl, rfl⟩ := ho13.shape
    obtain ⟨g8, k8, rfl⟩ := hq13.1.oa.slice
    have hb113 := hb12.trans (hb13.mono hb12.size)
    have hz13 := hb113.size
    have bH : Below w13.heap.size w13 (w13.alloc (.cells #[.int .i64 slotF, .slice g6 HF.length k6, .slice g7 WF.length k7] 25)) := (Below.refl _ _).alloc (Nat.le_refl _) _
    have HH13 := hide (Bx.made w13 25 #[.int .i64 slotF, .slice g6 HF.length k6, .slice g7 WF.length k7])
    have HT13 := hide (ho13.at.kept bH)
    have HTR13 := hide (hq13.1.at'.kept bH)
    have HG13 := hide (((unhide HG11).kept hb113).kept bH)
    have HW13 := hide (((unhide HW11).kept hb113).kept bH)
    have HLW13 := hide (((unhide HLW11).kept hb113).kept bH)
    have HRW13 := hide (((unhide HRW11).kept hb113).kept bH)
    have HM113 := hide (((unhide HM111).kept hb113).kept bH)
    have HM213 := hide (((unhide HM211).kept hb113).kept bH)
    have HM313 := hide (((unhide HM311).kept hb113).kept bH)
    have b13' := (unhide HB11).trans (hb113.mono (unhide HB11).size)
    have HB13 := hide (b13'.trans (bH.mono b13'.size))
    clear q0 q1 q2 ho13 hq13 hb12 hb13 hb113 bH b13' HX12 HB11 HA11 HG11 HW11 HLW11 HRW11 HM111 HM211 HM311
    obtain ⟨q0, q1, q2⟩ := (unhide HW13).three
    have lw' : w3.heap.size < w13.heap.size := by omega
    have lx' : w5.heap.size < w13.heap.size := by omega
    go_wp2_with fail
    refine (unhide HEQ _ _ _ _ _ (unhide HT13) (unhide HLW13)).mono ?_; rintro e w14 ⟨rfl, hb14⟩
    clear q0 q1 q2
    have HTR14 := hide ((unhide HTR13).kept hb14)
    have HG14 := hide ((unhide HG13).kept hb14)
    have HW14 := hide ((unhide HW13).kept hb14)
    have HLW14 := hide ((unhide HLW13).kept hb14)
    have HRW14 := hide ((unhide HRW13).kept hb14)
    have HM114 := hide ((unhide HM113).kept hb14)
    have HM214 := hide ((unhide HM213).kept hb14)
    have HM314 := hide ((unhide HM313).kept hb14)
    have HB14 := hide ((unhide HB13).trans (hb14.mono (unhide HB13).size))
    have z14 := hb14.size
    clear hb14 HB13 HG13 HW13 HLW13 HRW13 HM113 HM213 HM313
    go_wp2_with fail
    refine (unhide HER _ _ _ (unhide HTR14) (unhide HRW14)).mono ?_; rintro e w14' ⟨rfl, hb14⟩
    have HG14' := hide ((unhide HG14).kept hb14)
    have HW14' := hide ((unhide HW14).kept hb14)
    have HLW14' := hide ((unhide HLW14).kept hb14)
    have HRW14' := hide ((unhide HRW14).kept hb14)
    have HM114' := hide ((unhide HM114).kept hb14)
    have HM214' := hide ((unhide HM214).kept hb14)
    have HM314' := hide ((unhide HM314).kept hb14)
    have HB14' := hide ((unhide HB14).trans (hb14.mono (unhide HB14).size))
    have z14' := hb14.size
    clear hb14 HB14 HG14 HW14 HLW14 HRW14 HM114 HM214 HM314
    obtain ⟨q0, q1, q2⟩ := (unhide HG14').three
    go_wp2_with fail
    refine (heldLock_any slotF _ _ HF.length WF.length _ fn fm (unhide HM114') (unhide HM214')).mono ?_; rintro e w15 ⟨rfl, hb15⟩
    have HM315 := hide ((unhide HM314').kept hb15)
    go_wp2_with fail
    refine (heldHds_marked _ FH.length _ _ fk (by omega) (by omega) (unhide HM315)).mono ?_; rintro e w16 ⟨rfl, rfl⟩
    go_wp2_with fail
    go_ret
    exact ⟨rfl, (unhide HB14').trans (hb15.mono (unhide HB14').size)⟩

end Go.Proofs.Ytjcekojiaajgnaa
