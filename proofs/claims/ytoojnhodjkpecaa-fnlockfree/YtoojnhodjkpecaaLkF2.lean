/- The program makes a lock firm. -/
import Derived.Test.YtoojnhodjkpecaaLkN
namespace Go.Proofs.Ytoojnhodjkpecaa
open Go.RowKit

set_option maxRecDepth 100000 in
set_option maxHeartbeats 4000000 in
theorem implFirm_any (l : Lk) (a b : Value) (s t : Int) (w : World) (hv : LkAt w l a b) (hn : l.held.length ≤ 1048576) (hm : l.waits.length ≤ 1048576) :
    Calls Try.prog 27 #[lkV l a b, .int .i64 s, .int .i64 t] w fun e w' => ∃ a' b', e = .returned (.tuple #[lkV (firmL l s t) a' b', .bool (firmC l s t)]) ∧ OwnLk w' w.heap.size (firmL l s t) a' b' ∧ Below w.heap.size w w' := by
  have HU := hide hv
  have HOK := hide (fun ww hk => lockOkI_any l a b ww hk hn hm)
  rw [lockOk_eq] at HOK
  have HCP := hide (fun ww hk h1 h2 => copyLock_any l a b ww hk h1 h2)
  have hshape : ∃ a0 c0 a1 c1, a = .slice a0 l.held.length c0 ∧ b = .slice a1 l.waits.length c1 := by
    obtain ⟨a0, c0, rfl, -⟩ := hv.held.shape
    obtain ⟨a1, c1, rfl, -⟩ := hv.waits.shape
    exact ⟨a0, c0, a1, c1, rfl, rfl⟩
  obtain ⟨a0, c0, a1, c1, rfl, rfl⟩ := hshape
  clear hv
  obtain ⟨A0, hA0⟩ : ∃ A0, A0 = (w.alloc (.cells #[.int .i64 l.slot, .slice a0 l.held.length c0, .slice a1 l.waits.length c1] 25)).alloc (.cells #[.int .i64 0, .slice none 0 0, .slice none 0 0] 25) := ⟨_, rfl⟩
  have HX0 : Hid (Bx A0 w.heap.size 25 #[.int .i64 l.slot, .slice a0 l.held.length c0, .slice a1 l.waits.length c1]) := by rw [hA0]; exact (Bx.made w _ _).allocK
  have HR0 : Hid (Bx A0 (w.heap.size + 1) 25 #[.int .i64 0, .slice none 0 0, .slice none 0 0]) := by
    have := Bx.made (w.alloc (.cells #[.int .i64 l.slot, .slice a0 l.held.length c0, .slice a1 l.waits.length c1] 25)) 25 #[.int .i64 0, .slice none 0 0, .slice none 0 0]
    rw [hA0]; rwa [show (w.alloc (.cells #[.int .i64 l.slot, .slice a0 l.held.length c0, .slice a1 l.waits.length c1] 25)).heap.size = w.heap.size + 1 by simp] at this
  have HB0 : Hid (Below w.heap.size w A0) := by rw [hA0]; exact ((Below.refl _ _).alloc (Nat.le_refl _) _).alloc (by simp) _
  have HA0 := hide hA0
  clear hA0
  cases hok : lockOkB l
  · have HF := hide (firm_no (s := s) (t := t) hok)
    rw [hok] at HOK
    simp only [lkV] at *
    go_enter Try.func27, Try.ntmps27
    go_wp2_with fail
    rw [← unhide HA0]
    refine (unhide HOK _ ((unhide HU).kept (unhide HB0))).mono ?_; rintro e w1 ⟨rfl, hb1⟩
    have HR1 := hide ((unhide HR0).kept hb1)
    have HB1 := hide ((unhide HB0).trans (hb1.mono (unhide HB0).size))
    clear hb1
    obtain ⟨r0, r1, r2⟩ := (unhide HR1).three
    obtain ⟨f0, f1, f2⟩ := (unhide HR1).free3
    go_wp2_with fail
    refine bodyPost_ret (results_row_tmp rfl _ _ (w.heap.size + 1) _ _ _ _ rfl ((((unhide HR1).setC 0 (.int .i64 0)).setC 1 (.slice none 0 0)).setC 2 (.slice none 0 0)).row Try.underlying25 rfl (by kernel_rfl)) rfl ?_
    rw [(unhide HF).1, (unhide HF).2]
    exact ⟨_, _, ret_two rfl rfl, OwnLk.zero _ _, (((unhide HB1).setCell (by simp) _).setCell (by simp) _).setCell (by simp) _⟩
  obtain ⟨-, h16, hho, -, -, -⟩ := lockOk_parts hok
  have hasc := asc_of_holds hho
  have HOK1 := hide hok
  rw [hok] at HOK
  have HASC := hide hasc
  have HLN : Hid (l.held.length ≤ 1000) := by show l.held.length ≤ 1000; omega
  have HLM : Hid (l.waits.length ≤ 1000) := by show l.waits.length ≤ 1000; omega
  have hl16 : l.held.length ≤ 16 := by omega
  clear hok hho hasc h16 hn hm
  have HFN := hide (fun h1 => firm_none (s := s) (t := t) (unhide HOK1) h1)
  have HFA := hide (fun k h1 => firm_at (k := k) (s := s) (t := t) (unhide HOK1) h1)
  generalize hFL : firmL l s t = FL at *
  generalize hFC : firmC l s t = FC at *
  obtain ⟨slot, H, W⟩ := l
  simp only [lkV] at *
  clear hFL hFC
  go_enter Try.func27, Try.ntmps27
  go_wp2_with fail
  rw [← unhide HA0]
  refine (unhide HOK _ ((unhide HU).kept (unhide HB0))).mono ?_; rintro e w1 ⟨rfl, hb1⟩
  have HX1 := hide ((unhide HX0).kept hb1)
  have HR1 := hide ((unhide HR0).kept hb1)
  have HB1 := hide ((unhide HB0).trans (hb1.mono (unhide HB0).size))
  clear hb1 HX0 HR0 HB0 HA0
  obtain ⟨q0, q1, q2⟩ := (unhide HX1).three
  go_wp2_with fail
  refine (unhide HCP _ ((unhide HU).kept (unhide HB1)) (unhide HLN) (unhide HLM)).mono ?_; rintro e w2 ⟨a', b', rfl, hoa, hob, hne, hb2⟩
  have l1 := (unhide HR1).lt
  have HOL := hide ((OwnLk.mk (l := ⟨slot, H, W⟩) hoa hob hne))
  obtain ⟨a2, ca, a3, cb, rfl, rfl⟩ := (unhide HOL).shape
  have bW : Below w2.heap.size w2 (w2.alloc (.cells #[.int .i64 slot, .slice a2 H.length ca, .slice a3 W.length cb] 25)) := (Below.refl _ _).alloc (Nat.le_refl _) _
  have HR2 := hide (((unhide HR1).kept hb2).kept bW)
  have HN2 := hide (Bx.made w2 25 #[.int .i64 slot, .slice a2 H.length ca, .slice a3 W.length cb])
  have b2 := (unhide HB1).trans (hb2.mono (unhide HB1).size)
  have HB2 := hide (b2.trans (bW.mono b2.size))
  have HO2 := hide ((unhide HOL).kept bW)
  have lr2 := ((unhide HR1).kept hb2).lt
  have HGL := hide (fun q hq => ((unhide HOL).held.lt q hq))
  have l1' : w.heap.size + 1 < w1.heap.size := l1
  have hw1 : w.heap.size ≤ w1.heap.size := by omega
  have lN := (unhide HN2).lt
  clear hoa hob hne hb2 bW b2 HX1 HR1 HB1 q0 q1 q2 HOL
  go_wp2_with fail
  obtain ⟨x2, hx2⟩ : ∃ x2, x2 = w2.alloc (.cells #[.int .i64 slot, .slice a2 H.length ca, .slice a3 W.length cb] 25) := ⟨_, rfl⟩
  rw [← hx2] at HR2 HN2 HB2 HO2 lN ⊢
  clear hx2
  go_loopw [20] (fun i wr => ∃ k : Nat, k ≤ H.length ∧ i = .int .i64 k ∧ (∀ j, j < k → (fun h : Hd => h.stamp == s && h.try_ == t) (H.getD j Hd.z) = false) ∧ Below x2.heap.size x2 wr) (fun i _ => H.length - (intOf i).toNat)
  case atStart => exact ⟨0, Nat.zero_le _, rfl, fun j hj => by omega, Below.refl _ _⟩
  case round =>
    obtain ⟨k, hk, rfl, hno, hb⟩ := hrel
    have HNO := hide hno
    have HB := hide ((unhide HB2).trans (hb.mono (unhide HB2).size))
    have HR := hide ((unhide HR2).kept hb)
    have HN := hide ((unhide HN2).kept hb)
    have HO := hide ((unhide HO2).kept hb)
    have HBX := hide hb
    have lz := hb.size
    clear hno hb
    by_cases hlt : k < H.length
    case neg =>
      have HF := hide (unhide HFN (idxL_none (fun j hj => unhide HNO j (by omega))))
      have hnl : ¬ (k : Int) < (H.length : Int) := by omega
      obtain ⟨r0, r1, r2⟩ := (unhide HR).three
      obtain ⟨f0, f1, f2⟩ := (unhide HR).free3
      obtain ⟨n0, n1, n2⟩ := (unhide HN).three
      go_wp2_with fail
      have HRZ := hide ((((unhide HR).setC 0 (.int .i64 slot)).setC 1 (.slice a2 H.length ca)).setC 2 (.slice a3 W.length cb))
      refine bodyPost_ret (results_row_tmp rfl _ _ (w.heap.size + 1) _ _ _ _ rfl (unhide HRZ).row Try.underlying25 rfl (by kernel_rfl)) rfl ?_
      rw [(unhide HF).1, (unhide HF).2]
      exact ⟨_, _, ret_two rfl rfl, ((((unhide HO).set (g := w.heap.size + 1) l1' 0 _).set (g := w.heap.size + 1) l1' 1 _).set (g := w.heap.size + 1) l1' 2 _).low hw1, (((unhide HB).setCell (by simp) _).setCell (by simp) _).setCell (by simp) _⟩
    obtain ⟨ad, ce, hae, hg⟩ := ownsRow_slice (unhide HO2).held
    simp only [Value.slice.injEq] at hae
    obtain ⟨hae1, -, -⟩ := hae
    rw [← hae1] at hg
    clear hae1
    obtain ⟨g, rfl, hg1, hg2⟩ : ∃ g, a2 = some ⟨g, 0, none⟩ ∧ w1.heap.size ≤ g ∧ g < w2.heap.size := by
      rcases hg with h | ⟨g, h, _⟩
      · simp only at h; omega
      · have := unhide HGL g (by rw [h]; rfl)
        exact ⟨g, h, this.1, this.2⟩
    clear hg
    obtain ⟨e0, e1, e2, e3⟩ := hd_cells (unhide HO).at.held (i := k) hlt
    generalize hx : H.getD k Hd.z = x at e0 e1 e2 e3
    have HX := hide hx
    simp only [Nat.zero_add] at e0 e1 e2 e3
    have hk0 : (0 : Int) ≤ (k : Int) := by omega
    have hkn : (k : Int) < (H.length : Int) := by omega
    clear hx
    cases hp : (x.stamp == s && x.try_ == t)
    · have HNO2 : Hid (∀ j, j < k + 1 → (fun h : Hd => h.stamp == s && h.try_ == t) (H.getD j Hd.z) = false) := by
        intro j hj
        by_cases e : j = k
        · subst e; simp only [unhide HX]; exact hp
        · exact unhide HNO j (by omega)
      have bD : Below x2.heap.size x2 (wr.alloc (.cells #[.int .i64 x.stamp, .int .i64 x.try_, .bool x.share, .bool x.firm] 27)) := (unhide HBX).alloc lz _
      cases hp1 : (x.stamp == s)
      · clear hp
        go_wp2_with fail
        go_roundw
        case rel => exact ⟨k + 1, hlt, by go_num, unhide HNO2, bD⟩
        case measure => simp [intOf]; omega
      · rw [hp1] at hp
        have hp2 : (x.try_ == t) = false := by simpa using hp
        clear hp
        go_wp2_with fail
        go_roundw
        case rel => exact ⟨k + 1, hlt, by go_num, unhide HNO2, bD⟩
        case measure => simp [intOf]; omega
    · have HF := hide (unhide HFA k (idxL_found hlt (by simp only [unhide HX]; exact hp) (unhide HNO)))
      have hp1 : (x.stamp == s) = true := by simp only [Bool.and_eq_true] at hp; exact hp.1
      have hp2 : (x.try_ == t) = true := by simp only [Bool.and_eq_true] at hp; exact hp.2
      clear hp
      have bD : Below wr.heap.size wr (wr.alloc (.cells #[.int .i64 x.stamp, .int .i64 x.try_, .bool x.share, .bool x.firm] 27)) := (Below.refl _ _).alloc (Nat.le_refl _) _
      have HOd := hide ((unhide HO).kept bD)
      have HRd := hide ((unhide HR).kept bD)
      have HNd := hide ((unhide HN).kept bD)
      have HBd := hide ((unhide HB).trans (bD.mono (unhide HB).size))
      obtain ⟨n0, n1, n2⟩ := (unhide HN).three
      obtain ⟨m0, m1, m2⟩ := (unhide HNd).three
      have d3 := (unhide HOd).held.frozenAt (k * 4 + 3)
      obtain ⟨t0, t1, t2, t3⟩ := hd_cells (unhide HOd).at.held (i := k) hlt
      rw [unhide HX] at t0 t1 t2 t3
      simp only [Nat.zero_add] at t0 t1 t2 t3
      have HST := hide ((unhide HOd).held.stored (k * 4 + 3) (.bool true))
      have hgr := (unhide HST).2
      have HR3 := hide ((unhide HRd).far hgr (by intro e; simp at e; omega))
      have HN3 := hide ((unhide HNd).far hgr (by intro e; simp at e; omega))
      have HB3 := hide ((unhide HBd).setCell (p := ⟨g, k * 4 + 3, none⟩) (by show w.heap.size ≤ g; omega) (.bool true))
      have HW3 := hide ((unhide HOd).waits.kept hgr ((unhide HOd).ne.elim (fun h => by simp [Value.ownBlock] at h) (fun h => .inr (Ne.symm h))))
      obtain ⟨r0', r1', r2'⟩ := (unhide HR3).three
      obtain ⟨f0', f1', f2'⟩ := (unhide HR3).free3
      obtain ⟨n0', n1', n2'⟩ := (unhide HN3).three
      have HN0 := hide (unhide HOd).ne
      clear hgr bD
      go_wp2_with fail
      have HRZ := hide ((((unhide HR3).setC 0 (.int .i64 slot)).setC 1 (.slice (some ⟨g, 0, none⟩) H.length ca)).setC 2 (.slice a3 W.length cb))
      refine bodyPost_ret (results_row_tmp rfl _ _ (w.heap.size + 1) _ _ _ _ rfl (unhide HRZ).row Try.underlying25 rfl (by kernel_rfl)) rfl ?_
      rw [(unhide HF).1, (unhide HF).2]
      have hO3 : OwnLk ((wr.alloc (.cells #[.int .i64 x.stamp, .int .i64 x.try_, .bool x.share, .bool x.firm] 27)).setCell ⟨g, k * 4 + 3, none⟩ (.bool true)) w1.heap.size ⟨slot, setFirm H k, W⟩ (.slice (some ⟨g, 0, none⟩) H.length ca) (.slice a3 W.length cb) := by
        refine ⟨?_, unhide HW3, unhide HN0⟩
        have h1 := (unhide HST).1
        rw [flat_set_firm H k x (unhide HX) hlt] at h1
        simp only [setFirm, List.length_set, unhide HX]
        exact h1
      refine ⟨_, _, ret_two rfl rfl, (((hO3.set (g := w.heap.size + 1) l1' 0 _).set (g := w.heap.size + 1) l1' 1 _).set (g := w.heap.size + 1) l1' 2 _).low hw1, (((unhide HB3).setCell (by simp) _).setCell (by simp) _).setCell (by simp) _⟩

end Go.Proofs.Ytoojnhodjkpecaa
