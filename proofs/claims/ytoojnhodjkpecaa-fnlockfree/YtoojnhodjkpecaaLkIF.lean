/- The program lets go of a lock. -/
import Derived.Test.YtoojnhodjkpecaaLkIE
namespace Go.Proofs.Ytoojnhodjkpecaa
open Go.RowKit Go.Shelf

theorem ne_alt {u p p' : Option Nat} {H : Nat} (hat : p' = p ∨ ∃ q, p' = some q ∧ H ≤ q) (hne : u = none ∨ u ≠ p) (hu : ∀ q, u = some q → q < H) : u = none ∨ u ≠ p' := by
  rcases hat with rfl | ⟨q, rfl, hq⟩
  · exact hne
  · right; intro e; have := hu q e; omega
theorem ne_altS {p p' : Option Nat} {H g : Nat} (hat : p' = p ∨ ∃ q, p' = some q ∧ H ≤ q) (hne : p ≠ some g) (hg : g < H) : p' ≠ some g := by
  rcases hat with rfl | ⟨q, rfl, hq⟩
  · exact hne
  · intro e; simp at e; omega
theorem not_own {u p : Option Nat} {q : Nat} (hne : u = none ∨ u ≠ p) (hq : u = some q) : ¬ p = some q := fun e => by
  rcases hne with h | h
  · rw [h] at hq; cases hq
  · exact h (hq.trans e.symm)

set_option maxRecDepth 100000 in
set_option maxHeartbeats 4000000 in
theorem implFree_any (l : Lk) (a b : Value) (s t : Int) (w : World) (hv : LkAt w l a b) (hn : l.held.length ≤ 1048576) (hm : l.waits.length ≤ 1048576) :
    Calls Try.prog 24 #[lkV l a b, .int .i64 s, .int .i64 t] w fun e w' => ∃ a' b' r, e = .returned (.tuple #[lkV (freeL l s t) a' b', r]) ∧ OwnLk w' w.heap.size (freeL l s t) a' b' ∧ (OwnR w' w.heap.size (freeG l s t) r ∧ (r.ownBlock = none ∨ r.ownBlock ≠ a'.ownBlock) ∧ (r.ownBlock = none ∨ r.ownBlock ≠ b'.ownBlock)) ∧ Below w.heap.size w w' := by
  have HU := hide hv
  have HOK := hide (fun ww hk => lockOkI_any l a b ww hk hn hm)
  rw [lockOk_eq] at HOK
  have HCP := hide (fun ww hk h1 h2 => withoutI_any l a b s t ww hk h1 h2)
  have hshape : ∃ a0 c0 a1 c1, a = .slice a0 l.held.length c0 ∧ b = .slice a1 l.waits.length c1 := by
    obtain ⟨a0, c0, rfl, -⟩ := hv.held.shape
    obtain ⟨a1, c1, rfl, -⟩ := hv.waits.shape
    exact ⟨a0, c0, a1, c1, rfl, rfl⟩
  obtain ⟨a0, c0, a1, c1, rfl, rfl⟩ := hshape
  clear hv
  obtain ⟨A0, hA0⟩ : ∃ A0, A0 = (w.alloc (.cells #[.int .i64 l.slot, .slice a0 l.held.length c0, .slice a1 l.waits.length c1] 25)).alloc (.cells #[.int .i64 0, .slice none 0 0, .slice none 0 0] 25) := ⟨_, rfl⟩
  have HX0 : Hid (Bx A0 w.heap.size 25 #[.int .i64 l.slot, .slice a0 l.held.length c0, .slice a1 l.waits.length c1]) := by rw [hA0]; exact (Bx.made w _ _).allocK
  have HR0 : Hid (Bx A0 (w.heap.size + 1) 25 #[.int .i64 0, .slice none 0 0, .slice none 0 0]) := by
    have := Bx.made (w.alloc (.cells #[.int .i64 l.slot, .slice a0 l.held.length c0, .slice a1 l.waits.length c1] 25)) 25 #[.int .i64 0, .slice none 0 0, .slice none 0 0]
    rw [hA0]; rwa [show (w.alloc (.cells #[.int .i64 l.slot, .slice a0 l.held.length c0, .slice a1 l.waits.length c1] 25)).heap.size = w.heap.size + 1 by simp] at this
  have HB0 : Hid (Below w.heap.size w A0) := by rw [hA0]; exact ((Below.refl _ _).alloc (Nat.le_refl _) _).alloc (by simp) _
  have HA0 := hide hA0
  clear hA0
  cases hok : lockOkB l
  · have HF : Hid (freeL l s t = ⟨0, [], []⟩ ∧ freeG l s t = []) := by constructor <;> simp [freeL, freeG, hok]
    rw [hok] at HOK
    simp only [lkV] at *
    go_enter Try.func24, Try.ntmps24
    go_wp2_with fail
    rw [← unhide HA0]
    refine (unhide HOK _ ((unhide HU).kept (unhide HB0))).mono ?_; rintro e w1 ⟨rfl, hb1⟩
    have HR1 := hide ((unhide HR0).kept hb1)
    have HB1 := hide ((unhide HB0).trans (hb1.mono (unhide HB0).size))
    clear hb1
    obtain ⟨r0, r1, r2⟩ := (unhide HR1).three
    obtain ⟨f0, f1, f2⟩ := (unhide HR1).free3
    go_wp2_with fail
    refine bodyPost_ret (results_row_tmp rfl _ _ (w.heap.size + 1) _ _ _ _ rfl ((((unhide HR1).setC 0 (.int .i64 0)).setC 1 (.slice none 0 0)).setC 2 (.slice none 0 0)).row Try.underlying25 rfl (by kernel_rfl)) rfl ?_
    rw [(unhide HF).1, (unhide HF).2]
    exact ⟨_, _, _, ret_two rfl rfl, OwnLk.zero _ _, ⟨⟨RowAt.nil _, .inl ⟨rfl, rfl⟩⟩, .inl rfl, .inl rfl⟩, (((unhide HB1).setCell (by simp) _).setCell (by simp) _).setCell (by simp) _⟩
  obtain ⟨-, h16, hho, -, -, -⟩ := lockOk_parts hok
  have hasc := asc_of_holds hho
  have HOK1 := hide hok
  rw [hok] at HOK
  have HASC := hide hasc
  have HLN : Hid (l.held.length ≤ 1000) := by show l.held.length ≤ 1000; omega
  have HLM : Hid (l.waits.length ≤ 1000) := by show l.waits.length ≤ 1000; omega
  have hl16 : l.held.length ≤ 16 := by omega
  clear hok hho hasc h16 hn hm
  have HFL : Hid (freeL l s t = (freeTo l s t (withoutL l.waits s t).length).1 ∧ freeG l s t = (freeTo l s t (withoutL l.waits s t).length).2) := by constructor <;> simp [freeL, freeG, unhide HOK1]
  have HST := hide (fun k h => freeTo_step l s t k h)
  have HLE := hide (fun k h => freeTo_length l s t k h)
  have h16' : l.held.length + l.waits.length ≤ 16 := (lockOk_parts (unhide HOK1)).2.1
  have hwl := without_length l.held s t
  have hwl' := without_length l.waits s t
  have HZ : Hid (freeTo l s t 0 = (⟨l.slot, withoutL l.held s t, []⟩, [])) := by show freeTo l s t 0 = _; simp [freeTo]
  have HWK : Hid (withoutK l s t = ⟨l.slot, withoutL l.held s t, withoutL l.waits s t⟩) := rfl
  rw [unhide HWK] at HCP
  rw [(unhide HFL).1, (unhide HFL).2]
  generalize freeTo l s t = ST at *
  generalize withoutL l.held s t = H' at *
  generalize withoutL l.waits s t = W' at *
  obtain ⟨slot, H, W⟩ := l
  simp only [lkV] at *
  have hM : W'.length ≤ 16 := by omega
  have HLE2 : Hid (∀ k, k ≤ W'.length → (ST k).1.held.length ≤ 1000 ∧ (ST k).1.waits.length ≤ 1000 ∧ (ST k).2.length ≤ 1000) := fun k hk => by have := unhide HLE k hk; omega
  clear HLE h16' hwl hwl' HFL HWK
  go_enter Try.func24, Try.ntmps24
  go_wp2_with fail
  rw [← unhide HA0]
  refine (unhide HOK _ ((unhide HU).kept (unhide HB0))).mono ?_; rintro e w1 ⟨rfl, hb1⟩
  have HX1 := hide ((unhide HX0).kept hb1)
  have HR1 := hide ((unhide HR0).kept hb1)
  have HB1 := hide ((unhide HB0).trans (hb1.mono (unhide HB0).size))
  clear hb1 HX0 HR0 HB0 HA0
  obtain ⟨q0, q1, q2⟩ := (unhide HX1).three
  go_wp2_with fail
  refine (unhide HCP _ ((unhide HU).kept (unhide HB1)) (unhide HLN) (unhide HLM)).mono ?_; rintro e w2 ⟨a', b', rfl, hol, hb2⟩
  have l1 := (unhide HR1).lt
  have HOL := hide hol
  obtain ⟨a2, ca, a3, cb, rfl, rfl⟩ := hol.shape
  have bW : Below w2.heap.size w2 (w2.alloc (.cells #[.int .i64 slot, .slice a2 H'.length ca, .slice none 0 0] 25)) := (Below.refl _ _).alloc (Nat.le_refl _) _
  have HR3 := hide (((unhide HR1).kept hb2).kept bW)
  have HN3 := hide (Bx.made w2 25 #[.int .i64 slot, .slice a2 H'.length ca, .slice none 0 0])
  have b2 := (unhide HB1).trans (hb2.mono (unhide HB1).size)
  have HB3 := hide (b2.trans (bW.mono b2.size))
  have HH3 := hide (hol.kept bW).held
  have HW3 := hide (hol.kept bW).waits
  have HNE := hide hol.ne
  have l1' : w.heap.size + 1 < w1.heap.size := l1
  have hw1 : w.heap.size ≤ w1.heap.size := by omega
  have lN := (unhide HN3).lt
  have hz2 := hb2.size
  have HGA := hide (fun q hq => (hol.held.lt q hq))
  have HGB := hide (fun q hq => (hol.waits.lt q hq))
  clear hol hb2 bW b2 HX1 HR1 HB1 q0 q1 q2 HOL
  go_wp2_with fail
  obtain ⟨x3, hx3⟩ : ∃ x3, x3 = w2.alloc (.cells #[.int .i64 slot, .slice a2 H'.length ca, .slice none 0 0] 25) := ⟨_, rfl⟩
  rw [← hx3] at HR3 HN3 HH3 HW3 HB3 lN ⊢
  have lz : w2.heap.size < x3.heap.size := lN
  clear hx3 lN
  go_loopw [10, 26] (fun r i wr => ∃ k : Nat, k ≤ W'.length ∧ i = .int .i64 k ∧ ∃ a b, Bx wr w2.heap.size 25 #[.int .i64 (ST k).1.slot, a, b] ∧ OwnLk wr w1.heap.size (ST k).1 a b ∧ wr.ownsRow w1.heap.size 27 4 r (ST k).2.length ((ST k).2.flatMap hdE) ∧ wr.ownsRow w1.heap.size 27 4 (.slice a3 W'.length cb) W'.length (W'.flatMap hdE) ∧ (r.ownBlock = none ∨ r.ownBlock ≠ a.ownBlock) ∧ (r.ownBlock = none ∨ r.ownBlock ≠ b.ownBlock) ∧ ((Value.slice a3 W'.length cb).ownBlock = none ∨ (Value.slice a3 W'.length cb).ownBlock ≠ a.ownBlock) ∧ ((Value.slice a3 W'.length cb).ownBlock = none ∨ (Value.slice a3 W'.length cb).ownBlock ≠ b.ownBlock) ∧ ((Value.slice a3 W'.length cb).ownBlock = none ∨ (Value.slice a3 W'.length cb).ownBlock ≠ r.ownBlock) ∧ a.ownBlock ≠ some w2.heap.size ∧ b.ownBlock ≠ some w2.heap.size ∧ r.ownBlock ≠ some w2.heap.size ∧ Bx wr (w.heap.size + 1) 25 #[.int .i64 0, .slice none 0 0, .slice none 0 0] ∧ Below w.heap.size w wr ∧ x3.heap.size ≤ wr.heap.size) (fun _ i _ => W'.length - (intOf i).toNat)
  case atStart =>
    refine ⟨0, Nat.zero_le _, rfl, ?_⟩
    rw [unhide HZ]
    exact ⟨_, _, unhide HN3, ⟨unhide HH3, World.ownsRow_nil _ _ _ _, by cases h : (Value.slice a2 H'.length ca).ownBlock <;> simp [Value.ownBlock]⟩, World.ownsRow_nil _ _ _ _, unhide HW3, .inl rfl, .inl rfl, ne_sym (unhide HNE), by cases h : (Value.slice a3 W'.length cb).ownBlock <;> simp [Value.ownBlock], by cases h : (Value.slice a3 W'.length cb).ownBlock <;> simp [Value.ownBlock], (fun e => by have := (unhide HGA _ e).2; omega), by simp [Value.ownBlock], by simp [Value.ownBlock], unhide HR3, unhide HB3, Nat.le_refl _⟩
  case round =>
    clear HR3 HN3 HH3 HW3 HB3 HNE
    obtain ⟨k, hk, rfl, a, b, hbx, hol, hor, hw, e1, e2, e3, e4, e5, g1, g2, g3, hrx, hb, hsz⟩ := hrel
    obtain ⟨pa, pc, pb, pd, rfl, rfl⟩ := hol.shape
    obtain ⟨ra, rc, rfl, -⟩ := ownsRow_slice hor
    have HOL := hide hol
    have HOR := hide hor
    have HWR := hide hw
    have HBX := hide hbx
    have HRX := hide hrx
    have HB := hide hb
    have E1 := hide e1
    have E2 := hide e2
    have E3 := hide e3
    have E4 := hide e4
    have E5 := hide e5
    have G1 := hide g1
    have G2 := hide g2
    have G3 := hide g3
    clear hol hor hw hbx hrx hb e1 e2 e3 e4 e5 g1 g2 g3
    by_cases hlt : k < W'.length
    case neg =>
      obtain rfl : k = W'.length := by omega
      obtain ⟨r0, r1, r2⟩ := (unhide HRX).three
      obtain ⟨f0, f1, f2⟩ := (unhide HRX).free3
      obtain ⟨n0, n1, n2⟩ := (unhide HBX).three
      have lt' : ¬ (W'.length : Int) < (W'.length : Int) := by omega
      generalize hFS : ST W'.length = FS at *
      have HFSE := hide hFS
      clear hFS
      go_wp2_with fail
      have HRZ := hide ((((unhide HRX).setC 0 (.int .i64 FS.1.slot)).setC 1 (.slice pa FS.1.held.length pc)).setC 2 (.slice pb FS.1.waits.length pd))
      refine bodyPost_ret (results_row_tmp rfl _ _ (w.heap.size + 1) _ _ _ _ rfl (unhide HRZ).row Try.underlying25 rfl (by kernel_rfl)) rfl ?_
      have hO3 := (((unhide HOL).set (g := w.heap.size + 1) l1' 0 (.int .i64 FS.1.slot)).set (g := w.heap.size + 1) l1' 1 (.slice pa FS.1.held.length pc)).set (g := w.heap.size + 1) l1' 2 (.slice pb FS.1.waits.length pd)
      have ng : (Value.slice ra FS.2.length rc).ownBlock ≠ some (w.heap.size + 1) := fun e => by have := ((unhide HOR).lt _ e).1; omega
      have hR3 := ownsRow_setCell_other (j := 2) (u := .slice pb FS.1.waits.length pd) (ownsRow_setCell_other (j := 1) (u := .slice pa FS.1.held.length pc) (ownsRow_setCell_other (j := 0) (u := .int .i64 FS.1.slot) (unhide HOR) ng) ng) ng
      rw [unhide HFSE]
      exact ⟨.slice pa FS.1.held.length pc, .slice pb FS.1.waits.length pd, .slice ra FS.2.length rc, ret_two rfl rfl, hO3.low hw1, ⟨⟨RowAt.of_own hR3, (OwnK.of_own hR3).low hw1⟩, unhide E1, unhide E2⟩, (((unhide HB).setCell (by simp) _).setCell (by simp) _).setCell (by simp) _⟩
    obtain ⟨ll1, ll2, ll3⟩ := unhide HLE2 k (by omega)
    have hstep := unhide HST k hlt
    obtain ⟨bb, off, ha3⟩ := (RowAt.of_own (unhide HWR)).some_of (show 0 < W'.length by omega)
    subst ha3
    obtain ⟨c0, c1, c2, c3⟩ := hd_cells (RowAt.of_own (unhide HWR)) (i := k) hlt
    generalize W'.getD k Hd.z = x at *
    have HLI := hide (fun a b ww h1 h2 h3 h4 h5 => letIn_any w2.heap.size (ST k).1 a b x w1.heap.size ww h1 h2 h3 h4 h5 ll1 ll2)
    have HSS := hide hstep
    have HFS : Hid (freeStepI (ST k) x = (letInL (ST k).1 x, if letInC (ST k).1 x = true then (ST k).2 ++ [x] else (ST k).2)) := rfl
    clear hstep
    generalize letInL (ST k).1 x = LL at *
    generalize letInC (ST k).1 x = LC at *
    generalize ST k = S at *
    obtain ⟨x1, x4, xsh, xf⟩ := x
    unfold hdV at *
    simp only at *
    have zz := (unhide HB).size
    have bA : Below wr.heap.size wr (wr.alloc (.cells #[.int .i64 x1, .int .i64 x4, .bool xsh, .bool xf] 27)) := (Below.refl _ _).alloc (Nat.le_refl _) _
    have HXA := hide (Bx.made wr 27 #[.int .i64 x1, .int .i64 x4, .bool xsh, .bool xf])
    have HOLA := hide ((unhide HOL).kept bA)
    have HORA := hide (ownsRow_below (unhide HOR) bA)
    have HWRA := hide (ownsRow_below (unhide HWR) bA)
    have HBXA := hide ((unhide HBX).kept bA)
    have HRXA := hide ((unhide HRX).kept bA)
    have HBA := hide ((unhide HB).trans (bA.mono zz))
    have HL1 := hide (fun q hq => ((unhide HOL).held.lt q hq).2)
    have HL2 := hide (fun q hq => ((unhide HOL).waits.lt q hq).2)
    have HL3 := hide (fun q hq => ((unhide HOR).lt q hq).2)
    have HL4 := hide (fun q hq => ((unhide HWR).lt q hq).2)
    clear bA HOL HOR HWR HBX HRX HB
    have hkI : (k : Int) < (W'.length : Int) := by omega
    have hk0 : (0 : Int) ≤ (k : Int) := by omega
    go_wp2_with fail
    refine (unhide HLI _ _ _ (unhide HBXA) (unhide HOLA) (unhide G1) (unhide G2) (by simp; omega)).mono ?_
    rintro e w8 ⟨a', b', rfl, hbx8, hol8, hfr, ha8, hb8⟩
    obtain ⟨qa, qc, qb, qd, rfl, rfl⟩ := hol8.shape
    have hz8 := hfr.size
    simp at hz8
    have HXB := hide (hfr.bx (unhide HXA) (by
      rintro (h | h | h)
      · omega
      · have := unhide HL1 _ h; omega
      · have := unhide HL2 _ h; omega))
    have HRX8 := hide (hfr.bx (unhide HRXA) (by
      rintro (h | h | h)
      · omega
      · have := ((unhide HOLA).held.lt _ h).1; omega
      · have := ((unhide HOLA).waits.lt _ h).1; omega))
    have HOR8 := hide (hfr.row (unhide HORA) (fun q hq => by
      rintro (h | h | h)
      · subst h; exact unhide G3 hq
      · exact not_own (unhide E1) hq h
      · exact not_own (unhide E2) hq h))
    have HWR8 := hide (hfr.row (unhide HWRA) (fun q hq => by
      rintro (h | h | h)
      · subst h; have := (unhide HGB _ hq).2; omega
      · exact not_own (unhide E3) hq h
      · exact not_own (unhide E4) hq h))
    have HB8 := hide (hfr.below (unhide HBA) (by simp; omega) (fun q hq => by
      rintro (h | h | h)
      · omega
      · have := ((unhide HOLA).held.lt _ h).1; omega
      · have := ((unhide HOLA).waits.lt _ h).1; omega))
    have hl3 : ∀ q, (Value.slice ra S.2.length rc).ownBlock = some q → q < (wr.alloc (.cells #[.int .i64 x1, .int .i64 x4, .bool xsh, .bool xf] 27)).heap.size := fun q hq => by have := unhide HL3 q hq; simp; omega
    have hl4 : ∀ q, (Value.slice (some ⟨bb, off, none⟩) W'.length cb).ownBlock = some q → q < (wr.alloc (.cells #[.int .i64 x1, .int .i64 x4, .bool xsh, .bool xf] 27)).heap.size := fun q hq => by have := unhide HL4 q hq; simp; omega
    have D1 := hide (ne_alt ha8 (unhide E1) hl3)
    have D2 := hide (ne_alt hb8 (unhide E2) hl3)
    have D3 := hide (ne_alt ha8 (unhide E3) hl4)
    have D4 := hide (ne_alt hb8 (unhide E4) hl4)
    have K1 := hide (ne_altS ha8 (unhide G1) (by simp; omega))
    have K2 := hide (ne_altS hb8 (unhide G2) (by simp; omega))
    have HOL8 := hide hol8
    have HBX8 := hide hbx8
    clear hol8 hbx8 hfr ha8 hb8 hl3 hl4 HOLA HORA HWRA HBXA HRXA HBA HXA c0 c1 c2 c3
    cases LC
    case false =>
      have HN2 : Hid (ST (k + 1) = (LL, S.2)) := by show ST (k + 1) = (LL, S.2); rw [unhide HSS, unhide HFS]; rfl
      go_wp2_with fail
      go_roundw
      case rel =>
        refine ⟨k + 1, hlt, by go_num, ?_⟩
        rw [unhide HN2]
        exact ⟨_, _, unhide HBX8, unhide HOL8, unhide HOR8, unhide HWR8, unhide D1, unhide D2, unhide D3, unhide D4, unhide E5, unhide K1, unhide K2, unhide G3, unhide HRX8, unhide HB8, by omega⟩
      case measure => simp [intOf]; omega
    have HN2 : Hid (ST (k + 1) = (LL, S.2 ++ [⟨x1, x4, xsh, xf⟩])) := by show ST (k + 1) = (LL, S.2 ++ [⟨x1, x4, xsh, xf⟩]); rw [unhide HSS, unhide HFS]; rfl
    obtain ⟨q0, q1, q2, q3⟩ := (unhide HXB).four
    obtain ⟨i0, hi, hz0, hz1, hz2'⟩ := info_parts Try.infoHd
    go_wp2_with (at_builtin; refine wpList_append_at rfl _ _ 23 rfl w1.heap.size 27 i0 (.agg #[.int .i64 0, .int .i64 0, .bool false, .bool false]) 4 24 Try.underlying23 hi hz0 hz1 hz2' rfl (by decide) _ S.2.length _ rfl ((unhide HOR8).alloc _) (some ⟨w8.heap.size, 0, none⟩) 1 1 [.int .i64 x1, .int .i64 x4, .bool xsh, .bool xf] rfl rfl (.inr ⟨by decide, _, rfl, World.news_of_block (heap_alloc_new _ _)⟩) (by simp [Value.oneCell']) (by unfold maxLen; omega) (by omega) (by simp; omega) (w8.heap.size + 1) (by simp) ?_; intro b9 cap9 w9 hown9 hgrow9 hat9; have HO9 := hide hown9; have HG9 := hide hgrow9; have HT9 := hide hat9; clear hown9 hgrow9 hat9)
    have hz9 := (unhide HG9).size
    simp at hz9
    have hat : (Value.slice b9 (S.2.length + 1) cap9).ownBlock = (Value.slice ra S.2.length rc).ownBlock ∨ ∃ q, (Value.slice b9 (S.2.length + 1) cap9).ownBlock = some q ∧ w8.heap.size ≤ q := (unhide HT9).elim .inl (fun e => .inr ⟨_, e, by omega⟩)
    have bC : Below w8.heap.size w8 (w8.alloc (.cells #[.int .i64 x1, .int .i64 x4, .bool xsh, .bool xf] 27)) := (Below.refl _ _).alloc (Nat.le_refl _) _
    go_roundw
    case rel =>
      refine ⟨k + 1, hlt, by go_num, ?_⟩
      rw [unhide HN2]
      have o1 := ((unhide HOL8).kept bC)
      refine ⟨_, _, ((unhide HBX8).kept bC).far (unhide HG9) (fun e => unhide G3 e.symm), ⟨o1.held.kept (unhide HG9) (ne_sym (unhide D1)), o1.waits.kept (unhide HG9) (ne_sym (unhide D2)), o1.ne⟩, ?_, (ownsRow_below (unhide HWR8) bC).kept (unhide HG9) (unhide E5), ne_sym (ne_alt hat (ne_sym (unhide D1)) (fun q hq => ((unhide HOL8).held.lt q hq).2)), ne_sym (ne_alt hat (ne_sym (unhide D2)) (fun q hq => ((unhide HOL8).waits.lt q hq).2)), unhide D3, unhide D4, ne_alt hat (unhide E5) (fun q hq => by have := unhide HL4 q hq; omega), unhide K1, unhide K2, ne_altS hat (unhide G3) (by omega), ((unhide HRX8).kept bC).far (unhide HG9) (fun e => by have := ((unhide HOR8).lt _ e.symm).1; omega), Below.grown ((unhide HB8).alloc (unhide HB8).size _) (unhide HG9) (by simp; have := (unhide HB8).size; omega) (fun q hq => by have := ((unhide HOR8).lt _ hq).1; omega), by omega⟩
      rw [List.flatMap_append, List.length_append]; exact unhide HO9
    case measure => simp [intOf]; omega

end Go.Proofs.Ytoojnhodjkpecaa
